/- Put together of: Iva2. -/
import Derived.Test.YtcemlfokmjjiaaaGreatDoorPf29

namespace Go.Proofs.YtcemlfokmjjiaaaGreatDoor
set_option maxRecDepth 100000
set_option maxHeartbeats 4000000
open Go.RowKit

def NumT (w:World) (o:Tr) (v:Value) (n X:Nat):Prop:=RowT w o v (digs X n)∧X<18446744073709551616^n

theorem NumT.did {w w':World} {o o':Tr} {m:List Ev} {v:Value} {n X:Nat} (h:NumT w o v n X) (d:Did w o m w' o'):NumT w' o' v n X:=⟨h.1.did d,h.2⟩

theorem NumT.grew {w w':World} {o:Tr} {v:Value} {n X:Nat} (h:NumT w o v n X) (k:Kept af w w'):NumT w' o v n X:=⟨h.1.grew k,h.2⟩

theorem bJ {n X:Nat} (h:X<18446744073709551616^n):val (digs X n)=X:=by rw [ak,al h]

theorem NumT.of {w:World} {o:Tr} {v:Value} {xs:List Nat} {n:Nat} (h:RowT w o v xs) (hd:Digs xs) (hl:xs.length=n):NumT w o v n (val xs):=by
 subst hl;refine ⟨?_,aq (by omega) hd⟩;rw [fw hd];exact h

theorem NumT.own {w:World} {o:Tr} {base n:Nat} {v:Value} {X:Nat} (h:OwnN .u64 23 w base v n (digs X n)) (hX:X<18446744073709551616^n) (ht:TrIn w o):NumT w o v n X:=⟨fN h (ag _ _ _) ht,hX⟩

theorem NumT.shape {w:World} {o:Tr} {v:Value} {n X:Nat} (h:NumT w o v n X):∃ ao cap,v=.slice ao n cap:=by
 obtain ⟨ao,L,cap,rfl,hL,_⟩:=h.1.1.open;have:=hL.out;rw [ag] at this;subst this;exact ⟨ao,cap,rfl⟩

def NumN (w:World) (o:Tr) (v:Value) (n X:Nat):Prop:=NumT w o v n X∧U64s w v

theorem NumN.did {w w':World} {o o':Tr} {m:List Ev} {v:Value} {n X:Nat} (h:NumN w o v n X) (d:Did w o m w' o') (ht:TrIn w o):NumN w' o' v n X:=⟨h.1.did d,h.2.did d ht⟩

theorem NumN.own {w:World} {o:Tr} {base n:Nat} {v:Value} {X:Nat} (h:OwnN .u64 23 w base v n (digs X n)) (hX:X<18446744073709551616^n) (ht:TrIn w o):NumN w o v n X:=⟨NumT.own h hX ht,U64s.own h⟩

theorem NumN.put {w w':World} {o:Tr} {v:Value} {n X p:Nat} {cs:Array Value} {t:TypeId} {fr:Nat × Nat} (h:NumN w o v n X) (hp:w.heap[p]? = some (.cells cs t fr)) (ht:t≠23) (k:Kept (fun b=>b=p) w w'):NumN w' o v n X:=by
 have a:∀ b,v.ownBlock=some b→¬ b=p:=fun b hb e=>by
  obtain ⟨c,d,h'⟩:=h.2 b hb;rw [e,hp] at h';cases h'
  exact ht rfl
 exact ⟨⟨⟨h.1.1.1.kept k a,h.1.1.2⟩,h.1.2⟩,h.2.kept k a⟩

structure Wr (w0:World) (o0:Tr) (m:List Ev) (w:World) (o:Tr) (tp:Value) (k:Nat):Prop where
 did:Did w0 o0 m w o
 room:TrRoom w o k
 ptr:aE o=tp

theorem Wr.next {w0 w w':World} {o0 o o':Tr} {m m':List Ev} {tp:Value} {k j:Nat} (s:Wr w0 o0 m w o tp j) (d:Did w o m' w' o') (hj:m'.length+k≤j):Wr w0 o0 (m ++ m') w' o' tp k:=
 ⟨s.did.trans d,d.room (s.room.less hj),d.ptr.trans s.ptr⟩

theorem Wr.grew {w0 w w':World} {o0 o:Tr} {m:List Ev} {tp:Value} {k:Nat} (s:Wr w0 o0 m w o tp k) (h:Kept af w w'):Wr w0 o0 m w' o tp k:=⟨s.did.grew h,s.room.grew h,s.ptr⟩

theorem Wr.less {w0 w:World} {o0 o:Tr} {m:List Ev} {tp:Value} {k j:Nat} (s:Wr w0 o0 m w o tp j) (h:k≤j):Wr w0 o0 m w o tp k:=⟨s.did,s.room.less h,s.ptr⟩

theorem Did.cells {w w':World} {o o':Tr} {m:List Ev} {g:Nat} {cs:Array Value} {t:TypeId} {fr:Nat × Nat} (d:Did w o m w' o') (h:w.heap[g]? = some (.cells cs t fr)) (ht:TrIn w o) (h1:t≠225) (h2:t≠189):w'.heap[g]? = some (.cells cs t fr):=
 (d.kept.block g (lt_of_block h) (ay h ht h1 h2)).trans h

theorem mi {b X Y n:Nat} (hX:X<18446744073709551616^n) (hY:Y<18446744073709551616^n):aP b X Y<18446744073709551616^n:=by unfold aP;split <;> assumption

theorem lY {X Y n:Nat} (hX:X<18446744073709551616^n) (hY:Y<18446744073709551616^n):cS X Y n<18446744073709551616^n:=by
 unfold cS;rw [← B64]
 split <;> omega

theorem pu (b:Nat) (p:Bool):aP b (bi p) 0≤1:=by unfold aP bi;split <;> (try split) <;> omega

theorem nZ (X n:Nat):digs X n=digs (X%18446744073709551616^n) n:=lr (by rw [Nat.mod_mod])

theorem sF {w0:World} {o0:Tr} {m:List Ev} {tp:Value} {k:Nat} (a n X Y:Nat) (u v:Value) {w:World} {o:Tr} (s:Wr w0 o0 m w o tp (k+1)) (hb:a≤1) (hu:NumT w o u n X) (hv:NumT w o v n Y) (hn:n≤1000) :
  Calls Tryz.prog 118 #[tp,.int .u64 (a:Nat),u,v] w fun e w'=>∃ (v':Value) (c:Nat),e=.returned (.tuple #[v',.int .u64 (c:Nat)])∧∃ (Z:Nat) (o':Tr),Hid (Z=aP a (cS X Y n) X∧c=aP a (bi (decide (X<Y))) 0)∧c≤1∧NumN w' o' v' n Z∧Did w o [(1,(n:Int),0)] w' o'∧Wr w0 o0 (m ++ [(1,(n:Int),0)]) w' o' tp k:=by
 have h:=ot o a (by omega) u v _ _ w (s.room.less (by omega)) hu.1 hv.1 (ah (by omega) _ _) (ah (by omega) _ _) (by rw [ag];omega) (by rw [ag];omega);rw [s.ptr,ag,ag,Nat.max_self,bJ hu.2,bJ hv.2] at h;refine h.mono ?_;rintro e w' ⟨v',rfl,ho,o',d⟩;exact ⟨v',_,rfl,_,o',⟨rfl,rfl⟩,pu _ _,NumN.own ho (mi (lY hu.2 hv.2) hu.2) (d.room (k:=0) (s.room.less (by simp))).1,d,s.next d (by simp;omega)⟩

theorem lJ {w0:World} {o0:Tr} {m:List Ev} {tp:Value} {k:Nat} (a n X Y:Nat) (u v:Value) {w:World} {o:Tr} (s:Wr w0 o0 m w o tp (k+1)) (hb:a≤1) (hu:NumT w o u n X) (hv:NumT w o v n Y) (hn:n≤1000) :
  Calls Tryz.prog 248 #[tp,.int .u64 (a:Nat),u,v] w fun e w'=>∃ (v':Value) (c:Nat),e=.returned (.tuple #[v',.int .u64 (c:Nat)])∧∃ (Z:Nat) (o':Tr),Hid (Z=aP a (X+Y) X%18446744073709551616^n∧c=aP a (bi (decide (18446744073709551616^n≤X+Y))) 0)∧c≤1∧NumN w' o' v' n Z∧Did w o [(1,(n:Int),0)] w' o'∧Wr w0 o0 (m ++ [(1,(n:Int),0)]) w' o' tp k:=by
 have h:=uT o a (by omega) u v _ _ w (s.room.less (by omega)) hu.1 hv.1 (ah (by omega) _ _) (ah (by omega) _ _) (by rw [ag];omega) (by rw [ag];omega);rw [s.ptr,ag,ag,Nat.max_self,bJ hu.2,bJ hv.2,← B64,nZ] at h;refine h.mono ?_;rintro e w' ⟨v',rfl,ho,o',d⟩;exact ⟨v',_,rfl,_,o',⟨rfl,rfl⟩,pu _ _,NumN.own ho (Nat.mod_lt _ (Nat.pow_pos (by omega))) (d.room (k:=0) (s.room.less (by simp))).1,d,s.next d (by simp;omega)⟩

theorem Cn {w0:World} {o0:Tr} {m:List Ev} {tp:Value} {k:Nat} (n X Y:Nat) (u v:Value) {w:World} {o:Tr} (s:Wr w0 o0 m w o tp (k+1)) (hu:NumT w o u n X) (hv:NumT w o v n Y) (hn:n≤1000) :
  Calls Tryz.prog 78 #[tp,u,v] w fun e w'=>∃ (v':Value) (c:Nat),e=.returned (.tuple #[v',.int .u64 (c:Nat)])∧∃ (Z:Nat) (o':Tr),Hid (Z=cS X Y n∧c=bi (decide (X<Y)))∧c≤1∧NumN w' o' v' n Z∧Did w o [(1,(n:Int),0)] w' o'∧Wr w0 o0 (m ++ [(1,(n:Int),0)]) w' o' tp k:=by
 have h:=pd o u v _ _ w (s.room.less (by omega)) hu.1 hv.1 (ah (by omega) _ _) (ah (by omega) _ _) (by rw [ag];omega) (by rw [ag];omega);rw [s.ptr,ag,ag,Nat.max_self,bJ hu.2,bJ hv.2] at h;refine h.mono ?_;rintro e w' ⟨v',rfl,ho,o',d⟩;exact ⟨v',_,rfl,_,o',⟨rfl,rfl⟩,oA _,NumN.own ho (lY hu.2 hv.2) (d.room (k:=0) (s.room.less (by simp))).1,d,s.next d (by simp;omega)⟩

theorem Bm {w0:World} {o0:Tr} {m:List Ev} {tp:Value} {k:Nat} (n Y:Nat) (v:Value) {w:World} {o:Tr} (s:Wr w0 o0 m w o tp (k+1)) (hv:NumT w o v n Y) (hn:n≤1000) :
  Calls Tryz.prog 78 #[tp,.slice none 0 0,v] w fun e w'=>∃ (v':Value) (c:Nat),e=.returned (.tuple #[v',.int .u64 (c:Nat)])∧∃ (Z:Nat) (o':Tr),Hid (Z=cS 0 Y n)∧NumN w' o' v' n Z∧Did w o [(1,(n:Int),0)] w' o'∧Wr w0 o0 (m ++ [(1,(n:Int),0)]) w' o' tp k:=by
 have h:=pd o (.slice none 0 0) v [] _ w (s.room.less (by omega)) ⟨Row.nil _ _,fun h=>absurd rfl h⟩ hv.1 (Digs.nil _) (ah (by omega) _ _) (by simp) (by rw [ag];omega);rw [s.ptr,List.length_nil,ag,Nat.zero_max,bJ hv.2,show val []=0 from rfl] at h;refine h.mono ?_;rintro e w' ⟨v',rfl,ho,o',d⟩;exact ⟨v',_,rfl,_,o',rfl,NumN.own ho (lY (Nat.pow_pos (by omega)) hv.2) (d.room (k:=0) (s.room.less (by simp))).1,d,s.next d (by simp;omega)⟩

theorem jA {w0:World} {o0:Tr} {m:List Ev} {tp:Value} {k:Nat} (a n X Y:Nat) (u v:Value) {w:World} {o:Tr} (s:Wr w0 o0 m w o tp (k+1)) (hb:a≤1) (hu:NumT w o u n X) (hv:NumT w o v n Y) (hn:n≤1000) :
  Calls Tryz.prog 187 #[tp,.int .u64 (a:Nat),u,v] w fun e w'=>∃ (v':Value),e=.returned v'∧∃ (Z:Nat) (o':Tr),Hid (Z=aP a X Y)∧NumN w' o' v' n Z∧Did w o [(1,(n:Int),0)] w' o'∧Wr w0 o0 (m ++ [(1,(n:Int),0)]) w' o' tp k:=by
 have h:=qf o a (by omega) u v _ _ w (s.room.less (by omega)) hu.1 hv.1 (ah (by omega) _ _) (ah (by omega) _ _) (by rw [ag];omega) (by rw [ag];omega);rw [s.ptr,ag,ag,Nat.max_self,bJ hu.2,bJ hv.2] at h;refine h.mono ?_;rintro e w' ⟨v',rfl,ho,o',d⟩;exact ⟨v',rfl,_,o',rfl,NumN.own ho (mi hu.2 hv.2) (d.room (k:=0) (s.room.less (by simp))).1,d,s.next d (by simp;omega)⟩

theorem uQ {w0:World} {o0:Tr} {m:List Ev} {tp:Value} {k:Nat} (a n X:Nat) (u:Value) {w:World} {o:Tr} (s:Wr w0 o0 m w o tp (k+1)) (hb:a≤1) (hu:NumT w o u n X) (hn:n≤1000) :
  Calls Tryz.prog 168 #[tp,u,.int .u64 (a:Nat)] w fun e w'=>∃ (v':Value) (c:Nat),e=.returned (.tuple #[v',.int .u64 (c:Nat)])∧∃ (Z:Nat) (o':Tr),Hid (Z=(X+a%2*18446744073709551616^n)/2)∧NumN w' o' v' n Z∧Did w o [(1,(n:Int),0)] w' o'∧Wr w0 o0 (m ++ [(1,(n:Int),0)]) w' o' tp k:=by
 have h:=tI o u _ a (by omega) w (s.room.less (by omega)) hu.1 (ah (by omega) _ _) (by rw [ag];omega);rw [s.ptr,ag,bJ hu.2] at h;refine h.mono ?_;rintro e w' ⟨v',rfl,ho,o',d⟩;have hlt:(X+a%2*18446744073709551616^n)/2<18446744073709551616^n:=by
  have hX:=hu.2;have b:a%2=0∨a%2=1:=by omega
  generalize 18446744073709551616^n=Q at *;rcases b with e | e <;> rw [e] <;> omega
 exact ⟨v',_,rfl,_,o',rfl,NumN.own ho hlt (d.room (k:=0) (s.room.less (by simp))).1,d,s.next d (by simp;omega)⟩

theorem zh (n X c:Nat) (v:Value) (w:World) (o:Tr) (h:NumT w o v (n+1) X) (hn:n≤1000) (hc:c=X/(9223372036854775808*18446744073709551616^n)) :
  Calls Tryz.prog 186 #[v] w fun e w'=>e=.returned (.int .u64 (c:Nat))∧w'=w:=by
 obtain ⟨ao,cap,rfl⟩:=h.shape;obtain ⟨_,_,_,e1,_,_,_,_,a⟩:=h.1.1.open;cases e1
 obtain ⟨b,off,rfl,f⟩:=cK (a n (by omega)) (by omega);have hd:dig X n<18446744073709551616:=Nat.mod_lt _ (by omega);have hq:Hid (dig X n/9223372036854775808=c):=by
  unfold Hid;rw [hc,Nat.mul_comm,← Nat.div_div_eq_div_mul];unfold dig;rw [al];have:=h.2;rw [Nat.pow_succ] at this;exact Nat.div_lt_of_lt_mul this
 clear h a hc;generalize dig X n=x at *;have d:((x:Int)/9223372036854775808)=(c:Int):=by have:=hq.out;omega
 have HQ:=aa d;clear hq d;have g1:((n+1:Nat):Int)-1=(n:Int):=by omega
 have g0:(0:Int)≤(n:Int):=Int.natCast_nonneg _;have g2:(n:Int)<((n+1:Nat):Int):=by omega
 obtain ⟨L,hL⟩:∃ L,L=n+1:=⟨_,rfl⟩
 rw [← hL] at g1 g2 ⊢;have HL:=aa hL;have g:L≤1001:=by omega
 clear hL;go_enter Tryz.func186,Tryz.ntmps186;go_wp2_with fail;go_ret;rw [HQ.out];exact ⟨rfl,rfl⟩

theorem Bo {w0:World} {o0:Tr} {m:List Ev} {tp:Value} {k:Nat} (sw od x n G F:Nat) (g f:Value) {w:World} {o:Tr} (s:Wr w0 o0 m w o tp (k+2)) (a:sw≤1) (hx:x≤1) (b:bits .xor .u64 (od:Int) (sw:Int)=(x:Int)) (hg:NumT w o g n G) (hf:NumT w o f n F) (hn:n≤1000) :
  Calls Tryz.prog 227 #[tp,.int .u64 (sw:Nat),.int .u64 (od:Nat),g,f] w fun e w'=>∃ (v':Value),e=.returned v'∧∃ (Z:Nat) (o':Tr),Hid (Z=aP x (aP sw (cS G F n) G+F) (aP sw (cS G F n) G)%18446744073709551616^n)∧NumN w' o' v' n Z∧Did w o [(1,(n:Int),0),(1,(n:Int),0)] w' o'∧Wr w0 o0 (m ++ [(1,(n:Int),0),(1,(n:Int),0)]) w' o' tp k:=by
 have h1:=sF sw n G F g f s a hg hf hn;have HF:=aa hf;clear hg hf;go_enter Tryz.func227,Tryz.ntmps227;go_wp2_with fail;refine h1.mono ?_;rintro e w1 ⟨v1,c1,rfl,Z1,o1,q1,_,n1,d1,s1⟩;have h2:=lJ x n Z1 F v1 f s1 hx n1.1 (HF.out.did d1) hn;clear h1 n1;go_wp2_with fail;refine h2.mono ?_;rintro e w2 ⟨v2,c2,rfl,Z2,o2,q2,_,n2,d2,s2⟩;clear h2;go_wp2_with fail;go_ret;refine ⟨_,rfl,Z2,o2,?_,n2,d1.trans d2,?_⟩
 ·have:=q2.out.1;rw [q1.out.1] at this;exact this
 ·have:=s2;rw [List.append_assoc] at this;exact this

theorem BM {w0:World} {o0:Tr} {m:List Ev} {tp:Value} {k:Nat} (n X c:Nat) (v:Value) {w:World} {o:Tr} (s:Wr w0 o0 m w o tp (k+1)) (h:NumT w o v (n+1) X) (hn:n≤900) (hc:c=X/(9223372036854775808*18446744073709551616^n)) (a:c≤1) :
  Calls Tryz.prog 226 #[tp,v] w fun e w'=>∃ (v':Value),e=.returned v'∧∃ (Z:Nat) (o':Tr),Hid (Z=(X+c%2*18446744073709551616^(n+1))/2)∧NumN w' o' v' (n+1) Z∧Did w o [(1,((n+1:Nat):Int),0)] w' o'∧Wr w0 o0 (m ++ [(1,((n+1:Nat):Int),0)]) w' o' tp k:=by
 have h1:=zh n X c v w o h (by omega) hc;have h2:=uQ c (n+1) X v s a h (by omega);clear h hc s;generalize n+1=L at *;go_enter Tryz.func226,Tryz.ntmps226;go_wp2_with fail;refine h1.mono ?_;rintro e w1 ⟨rfl,rfl⟩;clear h1;go_wp2_with fail;refine h2.mono ?_;rintro e w2 ⟨v2,c2,rfl,Z2,o2,q2,n2,d2,s2⟩;clear h2;go_wp2_with fail;go_ret;exact ⟨_,rfl,Z2,o2,q2,n2,d2,s2⟩

theorem Al (v:Value) (xs:List Nat) (n:Nat) (w:World) (h:Row .u64 w v xs) (hd:Digs xs) (hn:n≤1000000) :
  Calls Tryz.prog 143 #[v,.int .i64 (n:Nat)] w fun e w'=>e=.returned (.slice (some ⟨w.heap.size,0,none⟩) n n)∧OwnN .u64 23 w' w.heap.size (.slice (some ⟨w.heap.size,0,none⟩) n n) n (digs (val xs) n)∧Kept af w w':=by
 obtain ⟨i0,f,o,g,l⟩:=info_parts Tryz.info23;obtain ⟨ao,q,cap,rfl,hL,_,_,_,_⟩:=h.open;have HD:=aa (mP hd n);have HS:Hid (∀ W,Kept af w W→0<((xs.take n).map fun z:Nat=>Value.int .u64 (z:Int)).length→∃ ad,ao=some ad∧∀ j u,((xs.take n).map fun z:Nat=>Value.int .u64 (z:Int))[j]? = some u→W.cell? (ad.add j)=some u):=fun W hk hp=>by
  obtain ⟨ad,e,hs⟩:=h.source hk (by rw [List.length_map,List.length_take] at hp;rw [List.length_map];omega);refine ⟨ad,e,fun j u hj=>hs j u ?_⟩;rw [List.map_take,List.getElem?_take] at hj
  split at hj
  ·exact hj
  ·cases hj
 have HO:=aa (gQ .u64 (xs.take n));have d:Hid (((xs.take n).map fun z:Nat=>Value.int .u64 (z:Int)).length=Nat.min q n):=by
  unfold Hid;rw [List.length_map,List.length_take,hL.out];exact Nat.min_comm n q
 obtain ⟨CS,c⟩:∃ CS,CS=(xs.take n).map (fun z:Nat=>Value.int .u64 (z:Int)):=⟨_,rfl⟩
 rw [← c] at HS HO d;have p:Hid (CS=(xs.take n).map (fun z:Nat=>Value.int .u64 (z:Int))):=c;have s:Nat.min q n≤n:=Nat.min_le_right _ _;clear c h hd;go_enter Tryz.func143,Tryz.ntmps143
 go_wp2_with (at_make;refine wpList_make_full _ rfl _ _ 32 rfl w.heap.size 23 i0 _ 1 Tryz.underlying32 f o g _ _ _ _ n rfl rfl rfl rfl (by rw [l];omega) (by unfold maxLen;omega) (leR _) ?_;intro w1 b i;rw [aG] at b;have k1:=aD i;obtain ⟨w2,m,k,k2⟩:=df (P:=Tryz.prog) 32 32 3 23 w.heap.size 0 n n (some ⟨w.heap.size,0,none⟩) ao q cap _ 23 CS Tryz.underlying32 (by rw [f];simp [g]) (et b) d.out (fun hp=>⟨rfl,HS.out _ k1 hp⟩) (by have:=d.out;simp;omega) HO.out;have r:Hid _:=k;clear k b i);go_ret;have a:=r.out;rw [p.out,dU] at a;rw [HD.out] at a;have kk:=cP k1 k2 (leR _)
 exact ⟨rfl,cl a (by rw [ag]) (by unfold maxLen;omega) (leR _),kk⟩

theorem oy {W:World} {p:Nat} {a b:Value} {t:TypeId} {fr:Nat × Nat} (h:W.heap[p]? = some (.cells #[a,b] t fr)):W.cell? ⟨p,0,none⟩=some a∧W.cell? ⟨p,1,none⟩=some b:=
 ⟨(cell_of_row W p 0 _ _ _ h).trans rfl,(cell_of_row W p 1 _ _ _ h).trans rfl⟩

theorem zR {W:World} {p:Nat} {a b:Value} {t:TypeId} (h:W.heap[p]? = some (.cells #[a,b] t (0,0))):W.frozen? ⟨p,0,none⟩=false∧W.frozen? ⟨p,1,none⟩=false:=by
 simp [World.frozen?,h]

theorem Co {W:World} {p:Nat} {a b:Value} {t:TypeId} (h:W.heap[p]? = some (.cells #[a,b] t (0,0))) (x y:Value) :
  ((W.setCell ⟨p,0,none⟩ x).setCell ⟨p,1,none⟩ y).heap[p]? = some (.cells #[x,y] t (0,0)):=by
 have h1:=heap_setCell_same W p 0 #[a,b] t x h;have h2:=heap_setCell_same (W.setCell ⟨p,0,none⟩ x) p 1 #[x,b] t y (by simpa using h1);simpa using h2

theorem Bg (W:World) (p:Nat) (x y:Value):Kept (fun b=>b=p) W ((W.setCell ⟨p,0,none⟩ x).setCell ⟨p,1,none⟩ y):=
 ((ai (fun b=>b=p) W).setCell ⟨p,0,none⟩ (fun _=>rfl) x).setCell ⟨p,1,none⟩ (fun _=>rfl) y

def lT (n M U V sw od V':Nat):Prop:=M<18446744073709551616^n→M%2=1→U<M→V<M→V'<M∧(M:Int) ∣ 2*(V':Int)-(V+((od:Int)-2*(sw:Int))*U)

theorem iCo {w0:World} {o0:Tr} {m:List Ev} {po:Option Addr} {k:Nat} (n M U V sw od x:Nat) (uo vo ao bo:Option Addr) (uc vc a l K b:Nat) {w:World} {o:Tr} (s:Wr w0 o0 m w o (.pointer po) (k+8)) (H:(sw=1∧od=1∧x=0)∨(sw=0∧od=1∧x=1)∨(sw=0∧od=0∧x=0)) (ag:bits .xor .u64 (od:Int) (sw:Int)=(x:Int)) (hm:NumT w o (.slice ao n a) n M) (hu:NumT w o (.slice uo n uc) n U) (hv:NumT w o (.slice vo n vc) n V) (t:0<n) (hn:n≤900) :
  Calls Tryz.prog 225 #[.agg #[.slice uo n uc,.slice vo n vc],.pointer po,.agg #[.slice ao n a,.int .u64 (K:Nat),.slice bo l b],.int .u64 (sw:Nat),.int .u64 (od:Nat)] w fun e w'=>∃ (u' v':Value),e=.returned (.agg #[u',v'])∧∃ (U' V':Nat) (o':Tr),Hid (U'=aP sw V U∧lT n M U V sw od V')∧NumN w' o' u' n U'∧NumN w' o' v' n V'∧Did w o (List.replicate 8 (1,(n:Int),0)) w' o'∧Wr w0 o0 (m ++ List.replicate 8 (1,(n:Int),0)) w' o' (.pointer po) k:=by
 have J:sw≤1:=by omega
 have hx:x≤1:=by omega
 obtain ⟨W,hW⟩:∃ W,W=((w.alloc (.cells #[.slice uo n uc,.slice vo n vc] 192)).alloc (.cells #[.slice ao n a,.int .u64 (K:Nat),.slice bo l b] 130)).alloc (.cells #[.slice none 0 0,.slice none 0 0] 192):=⟨_,rfl⟩
 have k0:Kept af w W:=by rw [hW];exact (((ai af w).alloc _).alloc _).alloc _
 have b1:W.heap[w.heap.size]? = some (.cells #[.slice uo n uc,.slice vo n vc] 192 (0,0)):=by rw [hW];exact ap (ap (heap_alloc_new _ _))
 have b2:W.heap[w.heap.size+1]? = some (.cells #[.slice ao n a,.int .u64 (K:Nat),.slice bo l b] 130 (0,0)):=by
  rw [hW];refine ap ?_;have:=heap_alloc_new (w.alloc (.cells #[.slice uo n uc,.slice vo n vc] 192)) (.cells #[.slice ao n a,.int .u64 (K:Nat),.slice bo l b] 130);simpa using this
 have b3:W.heap[w.heap.size+1+1]? = some (.cells #[.slice none 0 0,.slice none 0 0] 192 (0,0)):=by
  rw [hW];have:=heap_alloc_new ((w.alloc (.cells #[.slice uo n uc,.slice vo n vc] 192)).alloc (.cells #[.slice ao n a,.int .u64 (K:Nat),.slice bo l b] 130)) (.cells #[.slice none 0 0,.slice none 0 0] 192);simpa using this
 have JC:Hid (∀ W' m' o',Did W o m' W' o'→(W'.cell? ⟨w.heap.size,0,none⟩=some (.slice uo n uc)∧W'.cell? ⟨w.heap.size,1,none⟩=some (.slice vo n vc))∧W'.cell? ⟨w.heap.size+1,0,none⟩=some (.slice ao n a)∧W'.heap[w.heap.size+1+1]? = some (.cells #[.slice none 0 0,.slice none 0 0] 192 (0,0))):=fun W' m' o' d=>
  have ti:TrIn W o:=s.room.1.grew k0
  ⟨oy (d.cells b1 ti (by decide) (by decide)),(ax (d.cells b2 ti (by decide) (by decide))).1,d.cells b3 ti (by decide) (by decide)⟩
 have dW:Did W o [] W o:=Did.of_kept (ai af W) (s.room.1.grew k0);have sW:Wr W o [] W o (.pointer po) (k+8):=⟨dW,s.room.grew k0,s.ptr⟩
 have HM:=aa (hm.grew k0);have HU:=aa (hu.grew k0);have HV:=aa (hv.grew k0);have HW:=aa hW;have HK:=aa k0;have HS:=aa s;have ad:=aa H;have ah:=aa (s.room.1.grew k0);have h1:=sF sw n V U _ _ (k:=k+7) sW J HV.out HU.out (by omega);obtain ⟨⟨c1,c2⟩,c3,_⟩:=JC.out W [] o dW;clear hm hu hv hW k0 s H b1 b2 b3 dW sW;go_enter Tryz.func225,Tryz.ntmps225;go_wp2_with (rw [← HW.out]);refine h1.mono ?_;rintro e w1 ⟨v1,b1,rfl,L,o1,q1,P,n1,d1,s1⟩;have h2:=lJ b1 n L M v1 _ (k:=k+6) s1 P n1.1 (HM.out.did s1.did) (by omega);obtain ⟨⟨c1,c2⟩,c3,_⟩:=JC.out w1 _ o1 s1.did;clear h1 n1 d1;go_wp2_with fail;refine h2.mono ?_;rintro e w2 ⟨v2,b2,rfl,D,o2,q2,_,n2,d2,s2⟩
 have h3:=lJ x n D U v2 _ (k:=k+5) s2 hx n2.1 (HU.out.did s2.did) (by omega);obtain ⟨⟨c1,c2⟩,c3,_⟩:=JC.out w2 _ o2 s2.did;clear h2 n2 d2 s1;go_wp2_with fail;refine h3.mono ?_;rintro e w3 ⟨v3,ov,rfl,X,o3,q3,N,n3,d3,s3⟩;have h4:=Cn n X M v3 _ (k:=k+4) s3 n3.1 (HM.out.did s3.did) (by omega);obtain ⟨⟨c1,c2⟩,c3,_⟩:=JC.out w3 _ o3 s3.did;have N3:=aa n3;clear h3 n3 d3 s2;go_wp2_with fail;refine h4.mono ?_;rintro e w4 ⟨v4,b4,rfl,Y,o4,q4,_,n4,d4,s4⟩;have f:=nr X M ov N;rw [← q4.out.2] at f;have F:ig X M ov≤1:=by unfold ig;split <;> omega
 obtain ⟨T,hT⟩:∃ T,T=ig X M ov:=⟨_,rfl⟩
 rw [← hT] at f F;have HT:=aa hT;have h5:=jA T n Y X v4 v3 (k:=k+3) s4 F n4.1 (N3.out.1.did d4) (by omega);obtain ⟨⟨c1,c2⟩,c3,_⟩:=JC.out w4 _ o4 s4.did;clear h4 n4 d4 s3 hT;go_wp2_with fail;refine h5.mono ?_;rintro e w5 ⟨v5,rfl,S,o5,q5,n5,d5,s5⟩;obtain ⟨so,sc,rfl⟩:=n5.1.shape;obtain ⟨_,_,_,e1,_,_,_,_,g⟩:=n5.1.1.1.open;cases e1
 obtain ⟨sb,h,rfl,I⟩:=cK (g 0 t) t;have B:dig S 0=S%18446744073709551616:=by unfold dig;rw [Nat.pow_zero,Nat.div_one]
 rw [B,Nat.add_zero] at I;have A:=and_one_u64 ((S%18446744073709551616:Nat):Int) (by omega) (by omega);obtain ⟨p,hp⟩:∃ p,p=S%2:=⟨_,rfl⟩
 rw [show ((S%18446744073709551616:Nat):Int)%2=(p:Int) by omega] at A;have HP:=aa hp;have O:p≤1:=by omega
 have JS:Hid (∀ W' m' o',Did w5 o5 m' W' o'→W'.cell? ⟨sb,h,none⟩=some (.int .u64 ((S%18446744073709551616:Nat):Int))):=fun W' m' o' d=>by
  obtain ⟨_,_,_,e1,_,_,_,_,c⟩:=(n5.1.did d).1.1.open;cases e1
  obtain ⟨_,_,e2,G⟩:=cK (c 0 t) t;cases e2
  rw [B,Nat.add_zero] at G;exact G
 have h6:=fun W' (kk:Kept af w5 W')=>lJ p n S M _ _ (k:=k+2) (s5.grew kk) O (n5.1.grew kk) ((HM.out.did s5.did).grew kk) (by omega)
 obtain ⟨⟨c1,c2⟩,c3,_⟩:=JC.out w5 _ o5 s5.did;clear h5 n5 d5 s4 hp g N3 B;generalize S%18446744073709551616=S0 at *;go_wp2_with fail;go_region_held3 (fun w'=>w'.cell? ⟨w.heap.size+1,0,none⟩=some (.slice ao n a)∧w'.cell? ⟨sb,h,none⟩=some (.int .u64 (S0:Int)))
  (((try dsimp only);(repeat' apply And.intro) <;> first | (go_keep;done) | assumption))
  (first
  | (go_at_call 248;refine (h6 _ ?_).mono ?_;(exact nW (mW _));rintro e w6 ⟨v6,ac,rfl,E,o6,q6,y,n6,d6,s6⟩;obtain ⟨⟨Z,ae⟩,ab,_⟩:=JC.out w6 _ o6 s6.did;have R:=JS.out w6 _ o6 (Did.after (nW (mW _)) d6)))
 all_goals
  have h7:=uQ ac n E v6 (k:=k+1) s6 y n6.1 (by omega);clear h6 d6 n6 s5 c1 c2 c3 I;go_wp2_with fail;refine h7.mono ?_;rintro e w7 ⟨v7,b7,rfl,V',o7,q7,n7,d7,s7⟩;obtain ⟨⟨c1,c2⟩,c3,_⟩:=JC.out w7 _ o7 s7.did;have h8:=jA sw n V U _ _ (k:=k) s7 J (HV.out.did s7.did) (HU.out.did s7.did) (by omega);have N7:=aa n7;have T7:=aa s7.room.1;clear h7 n7 d7 s6 Z ae ab R;go_wp2_with fail;refine h8.mono ?_;rintro e w8 ⟨v8,rfl,U',o8,q8,n8,d8,s8⟩;obtain ⟨_,_,c4⟩:=JC.out w8 _ o8 s8.did;have z:=N7.out.did d8 T7.out;obtain ⟨q,i,rfl⟩:=n8.1.shape;obtain ⟨j,r,rfl⟩:=z.1.shape;obtain ⟨f0,f1⟩:=zR c4;obtain ⟨g0,g1⟩:=oy c4
  have c5:=Co c4 (.slice q n i) (.slice j n r);obtain ⟨t0,t1⟩:=oy c5;have kp:=Bg w8 (w.heap.size+1+1) (.slice q n i) (.slice j n r);have C:=ay c4 s8.room.1 (by decide) (by decide);have N8:=aa (n8.put c4 (by decide) kp);have N7:=aa (z.put c4 (by decide) kp);have D8:Hid (Did w o (List.replicate 8 (1,(n:Int),0)) ((w8.setCell ⟨w.heap.size+1+1,0,none⟩ (.slice q n i)).setCell ⟨w.heap.size+1+1,1,none⟩ (.slice j n r)) o8):=(Did.after HK.out s8.did).wroteNew kp (by omega) C;have HC:Hid (lT n M U V sw od V'):=fun hM h2 hU hV=>by
   have e4:=q4.out;have e5:=q5.out;have e6:=q6.out;have e7:=q7.out;rw [e4.1,HT.out] at e5;rw [HP.out] at e6;exact Ad (n:=n) (Q:=18446744073709551616^n) (B64 n) hM h2 hU hV ad.out q1.out.1 q1.out.2 q2.out.1 q3.out.1 q3.out.2 e5 e6.1 e6.2 e7
  clear h8 n8 z c4 c5 kp C s7 s8 d8 c1 c2 c3;go_wp2_with fail;refine bodyPost_ret (v:=.agg #[.slice q n i,.slice j n r]) (by simp [results,Tryz.results225,go_sem,t0,t1]) rfl ⟨_,_,rfl,U',V',o8,⟨q8.out,HC.out⟩,N8.out,N7.out,D8.out,HS.out.next D8.out (by simp;omega)⟩

theorem uf (D:Nat) (h:D<18446744073709551616):D ^^^ 18446744073709551615=18446744073709551615-D:=by
 have e:(BitVec.ofNat 64 D ^^^ BitVec.allOnes 64).toNat=D ^^^ 18446744073709551615:=by
  rw [BitVec.toNat_xor,BitVec.toNat_ofNat,BitVec.toNat_allOnes,al (by omega)]
 rw [← e,BitVec.xor_allOnes,BitVec.toNat_not,BitVec.toNat_ofNat,al (by omega)]

structure StBits (d g:Int) (D E y od sw mk A C D' x:Nat):Prop where
 lD:D<18446744073709551616
 hE:IntKind.u64.wrap (-(D:Int))=(E:Int)
 hy:(E:Int)/9223372036854775808=(y:Int)
 hod:(od:Int)=g%2
 hsw:bits .and .u64 (od:Int) (y:Int)=(sw:Int)
 esw:sw=swN d g
 hmk:msk (sw:Int)=(mk:Int)
 hA:bits .xor .u64 (D:Int) (mk:Int)=(A:Int)
 h1:bits .and .u64 (mk:Int) 1=(sw:Int)
 hC:IntKind.u64.wrap ((A:Int)+(sw:Int))=(C:Int)
 hD:IntKind.u64.wrap ((C:Int)+1)=(D':Int)
 eD:D'=tcN 18446744073709551616 (if sw=1 then 1-d else 1+d)
 hx:bits .xor .u64 (od:Int) (sw:Int)=(x:Int)
 hso:(sw=1∧od=1∧x=0)∨(sw=0∧od=1∧x=1)∨(sw=0∧od=0∧x=0)

theorem xS (d g:Int) (h0:-1000000≤d) (h1:d≤1000000):∃ E y od sw mk A C D' x:Nat,StBits d g (tcN 18446744073709551616 d) E y od sw mk A C D' x:=by
 obtain ⟨D,hD⟩:∃ D,D=tcN 18446744073709551616 d:=⟨_,rfl⟩
 rw [← hD];have fD:(0≤d→(D:Int)=d)∧(d<0→(D:Int)=18446744073709551616+d):=by
  rw [hD];unfold tcN;constructor
  ·intro h;rw [if_neg (by omega)];omega
  ·intro h;rw [if_pos h];omega
 have lD:D<18446744073709551616:=by omega
 have f:∃ E:Nat,IntKind.u64.wrap (-(D:Int))=(E:Int)∧E<18446744073709551616∧(0<d→9223372036854775808≤E)∧(¬ 0<d→E<9223372036854775808):=by
  refine ⟨(-(D:Int)%18446744073709551616).toNat,?_,?_,?_,?_⟩
  ·rw [IntKind.wrap_u64];omega
  ·omega
  ·intro h;omega
  ·intro h;omega
 obtain ⟨E,hE,lE,e1,e2⟩:=f;obtain ⟨od,j⟩:∃ od:Nat,(od:Int)=g%2:=⟨(g%2).toNat,by omega⟩
 have c:od=0∨od=1:=by omega
 obtain ⟨y,hy⟩:∃ y:Nat,y=E/9223372036854775808:=⟨_,rfl⟩
 have i:(E:Int)/9223372036854775808=(y:Int):=by omega
 have ey:y=if 0<d then 1 else 0:=by
  split
  ·rename_i h;have:=e1 h;omega
  ·rename_i h;have:=e2 h;omega
 by_cases h:0<d∧g%2=1
 ·rw [if_pos h.1] at ey;have k:od=1:=by omega
  have es:swN d g=1:=if_pos h;subst ey;subst k;obtain ⟨D',a⟩:∃ D',D'=tcN 18446744073709551616 (1-d):=⟨_,rfl⟩
  have b:(D':Int)=if d=1 then 0 else 18446744073709551616+(1-d):=by
   rw [a];unfold tcN
   split <;> split <;> omega
  refine ⟨E,1,1,1,18446744073709551615,18446744073709551615-D,18446744073709551616-D,D',0,⟨lD,hE,i,j,by decide,es.symm,by decide,?_,by decide,?_,?_,?_,by decide,.inl ⟨rfl,rfl,rfl⟩⟩⟩
  ·have:=u64_xor_nat D 18446744073709551615 lD (by omega);rw [uf D lD] at this;exact this
  ·rw [IntKind.wrap_u64];omega
  ·rw [IntKind.wrap_u64,b];split <;> omega
  ·rw [if_pos rfl];exact a
 ·have es:swN d g=0:=if_neg h;obtain ⟨D',a⟩:∃ D',D'=tcN 18446744073709551616 (1+d):=⟨_,rfl⟩
  have b:(D':Int)=if d < -1 then 18446744073709551616+(1+d) else 1+d:=by
   rw [a];unfold tcN
   split <;> split <;> omega
  have hz:od=0∨y=0:=by
   rcases c with h0 | h0
   ·exact .inl h0
   ·refine .inr ?_;rw [ey,if_neg (fun hh=>h ⟨hh,by omega⟩)]
  refine ⟨E,y,od,0,0,D,D,D',od,⟨lD,hE,i,j,?_,es.symm,by decide,?_,by decide,?_,?_,?_,?_,?_⟩⟩
  ·have:=u64_and_nat od y (by omega) (by rw [ey];split <;> omega);rw [this];rcases hz with e | e <;> rw [e] <;> simp
  ·have:=u64_xor_nat D 0 lD (by omega);rw [Nat.xor_zero] at this;exact this
  ·rw [IntKind.wrap_u64];omega
  ·rw [IntKind.wrap_u64,b];split <;> omega
  ·rw [if_neg (by decide)];exact a
  ·have:=u64_xor_nat od 0 (by omega) (by omega);rw [Nat.xor_zero] at this;exact this
  ·omega

theorem uu {n sw od x t:Nat} {d f g:Int} (h:StIn (18446744073709551616^n) t (d,f,g)) (e:(od:Int)=g%2) (c:(sw=1∧od=1∧x=0)∨(sw=0∧od=1∧x=1)∨(sw=0∧od=0∧x=0)) (es:sw=swN d g) :
  (aP x (aP sw (cS (tcN (18446744073709551616^(n+1)) g) (tcN (18446744073709551616^(n+1)) f) (n+1)) (tcN (18446744073709551616^(n+1)) g)+tcN (18446744073709551616^(n+1)) f) (aP sw (cS (tcN (18446744073709551616^(n+1)) g) (tcN (18446744073709551616^(n+1)) f) (n+1)) (tcN (18446744073709551616^(n+1)) g))%18446744073709551616^(n+1)=tcN (18446744073709551616^(n+1)) (g+((g%2)-2*(swN d g:Int))*f)) ∧
  aP sw (tcN (18446744073709551616^(n+1)) g) (tcN (18446744073709551616^(n+1)) f)=tcN (18446744073709551616^(n+1)) (dst (d,f,g)).2.1 ∧
  tcN (18446744073709551616^(n+1)) (g+((g%2)-2*(swN d g:Int))*f)/(9223372036854775808*18446744073709551616^n)≤1 ∧
  (tcN (18446744073709551616^(n+1)) (g+((g%2)-2*(swN d g:Int))*f)+tcN (18446744073709551616^(n+1)) (g+((g%2)-2*(swN d g:Int))*f)/(9223372036854775808*18446744073709551616^n)%2*18446744073709551616^(n+1))/2=tcN (18446744073709551616^(n+1)) (dst (d,f,g)).2.2:=by
 obtain ⟨_,hf,hg⟩:=h;dsimp only at hf hg;have hP:0<18446744073709551616^n:=Nat.pow_pos (by omega);rw [pp,← e,← es];have i:sw=0∨sw=1:=by omega
 have eB:(18446744073709551616^(n+1))=2*(9223372036854775808*18446744073709551616^n):=by rw [Nat.pow_succ];omega
 obtain ⟨B,hB⟩:∃ B,B=18446744073709551616^(n+1):=⟨_,rfl⟩
 have j:B=2^(64*(n+1)):=by rw [hB,B64]
 obtain ⟨H,hH⟩:∃ H,H=9223372036854775808*18446744073709551616^n:=⟨_,rfl⟩
 rw [← hB,← hH] at eB;rw [← hB,← hH];generalize 18446744073709551616^n=Q at *;have h4:4*Q≤B:=by omega
 have a:=zq hg hf h4;have b:=AJ hg hf h4;have lg:tcN B g<B:=Be hg.1 hg.2 h4;have ls:tcN B (g-f)<B:=by rw [← a];split <;> omega
 refine ⟨?_,?_,?_,?_⟩
 ·unfold aP cS;rw [← j];rcases c with ⟨rfl,rfl,rfl⟩ | ⟨rfl,rfl,rfl⟩ | ⟨rfl,rfl,rfl⟩
  ·rw [if_neg (by decide),if_pos rfl,a,al ls]
   congr 1
   omega
  ·rw [if_pos rfl,if_neg (by decide),b]
   congr 1
   omega
  ·rw [if_neg (by decide),if_neg (by decide),al lg]
   congr 1
   omega
 ·dsimp only;unfold aP;rcases i with rfl | rfl
  ·rw [if_neg (by decide),if_neg (by decide)]
  ·rw [if_pos rfl,if_pos rfl]
 all_goals
  obtain ⟨X,hX⟩:∃ X,X=g+((od:Int)-2*(sw:Int))*f:=⟨_,rfl⟩
  have lX:-(2*Q:Int)≤X∧X<2*Q:=by
   rw [hX];rcases c with ⟨rfl,rfl,rfl⟩ | ⟨rfl,rfl,rfl⟩ | ⟨rfl,rfl,rfl⟩ <;> omega
  rw [← hX,pT lX eB (by omega) (by omega)]
 ·unfold sgN;split <;> omega
 ·exact yE lX eB (by omega)

theorem dM {W:World} {p:Nat} {a b c d e:Value} {t:TypeId} {fr:Nat × Nat} (h:W.heap[p]? = some (.cells #[a,b,c,d,e] t fr)):W.cell? ⟨p,0,none⟩=some a∧W.cell? ⟨p,1,none⟩=some b∧W.cell? ⟨p,2,none⟩=some c∧W.cell? ⟨p,3,none⟩=some d∧W.cell? ⟨p,4,none⟩=some e:=
 ⟨(cell_of_row W p 0 _ _ _ h).trans rfl,(cell_of_row W p 1 _ _ _ h).trans rfl,(cell_of_row W p 2 _ _ _ h).trans rfl,(cell_of_row W p 3 _ _ _ h).trans rfl,(cell_of_row W p 4 _ _ _ h).trans rfl⟩

theorem mg {W:World} {p:Nat} {a b c d e:Value} {t:TypeId} (h:W.heap[p]? = some (.cells #[a,b,c,d,e] t (0,0))):W.frozen? ⟨p,0,none⟩=false∧W.frozen? ⟨p,1,none⟩=false∧W.frozen? ⟨p,2,none⟩=false∧W.frozen? ⟨p,3,none⟩=false∧W.frozen? ⟨p,4,none⟩=false:=by
 simp [World.frozen?,h]

theorem zE {W:World} {p:Nat} {a b c d e:Value} {t:TypeId} (h:W.heap[p]? = some (.cells #[a,b,c,d,e] t (0,0))) (x y z u v:Value) :
  (((((W.setCell ⟨p,0,none⟩ x).setCell ⟨p,1,none⟩ y).setCell ⟨p,2,none⟩ z).setCell ⟨p,3,none⟩ u).setCell ⟨p,4,none⟩ v).heap[p]? = some (.cells #[x,y,z,u,v] t (0,0)):=by
 have h1:=heap_setCell_same W p 0 #[a,b,c,d,e] t x h;have h2:=heap_setCell_same (W.setCell ⟨p,0,none⟩ x) p 1 #[x,b,c,d,e] t y (by simpa using h1);have h3:=heap_setCell_same ((W.setCell ⟨p,0,none⟩ x).setCell ⟨p,1,none⟩ y) p 2 #[x,y,c,d,e] t z (by simpa using h2);have h4:=heap_setCell_same (((W.setCell ⟨p,0,none⟩ x).setCell ⟨p,1,none⟩ y).setCell ⟨p,2,none⟩ z) p 3 #[x,y,z,d,e] t u (by simpa using h3);have h5:=heap_setCell_same ((((W.setCell ⟨p,0,none⟩ x).setCell ⟨p,1,none⟩ y).setCell ⟨p,2,none⟩ z).setCell ⟨p,3,none⟩ u) p 4 #[x,y,z,u,e] t v (by simpa using h4);simpa using h5

theorem tf (W:World) (p:Nat) (x y z u v:Value):Kept (fun b=>b=p) W (((((W.setCell ⟨p,0,none⟩ x).setCell ⟨p,1,none⟩ y).setCell ⟨p,2,none⟩ z).setCell ⟨p,3,none⟩ u).setCell ⟨p,4,none⟩ v):=
 (((((ai (fun b=>b=p) W).setCell ⟨p,0,none⟩ (fun _=>rfl) x).setCell ⟨p,1,none⟩ (fun _=>rfl) y).setCell ⟨p,2,none⟩ (fun _=>rfl) z).setCell ⟨p,3,none⟩ (fun _=>rfl) u).setCell ⟨p,4,none⟩ (fun _=>rfl) v

end Go.Proofs.YtcemlfokmjjiaaaGreatDoor
