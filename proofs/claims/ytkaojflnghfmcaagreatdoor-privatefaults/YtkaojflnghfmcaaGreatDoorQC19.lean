/- Put together of: Iva2 Ref10A. -/
import Derived.Test.YtkaojflnghfmcaaGreatDoorQC18

namespace Go.Proofs.YtkaojflnghfmcaaGreatDoor
open _root_.Go.Proofs.Tryz
set_option maxRecDepth 100000
set_option maxHeartbeats 4000000
open Go.RowKit

def NumT (w:World) (o:Tr) (v:Value) (n X:Nat):Prop:=RowT w o v (digs X n)/\X<18446744073709551616^n

theorem NumT.did {w w':World} {o o':Tr} {m:List Ev} {v:Value} {n X:Nat} (h:NumT w o v n X) (d:Did w o m w' o'):NumT w' o' v n X:=⟨h.1.did d,h.2⟩

theorem NumT.grew {w w':World} {o:Tr} {v:Value} {n X:Nat} (h:NumT w o v n X) (k:Kept af w w'):NumT w' o v n X:=⟨h.1.grew k,h.2⟩

theorem bG {n X:Nat} (h:X<18446744073709551616^n):val (digs X n)=X:=by rw [aB,ax h]

theorem NumT.of {w:World} {o:Tr} {v:Value} {xs:List Nat} {n:Nat} (h:RowT w o v xs) (hd:Digs xs) (hl:xs.length=n):NumT w o v n (val xs):=by
 subst hl;refine ⟨?_,aE (by omega) hd⟩;rw [jN hd];exact h

theorem NumT.own {w:World} {o:Tr} {base n:Nat} {v:Value} {X:Nat} (h:OwnN .u64 24 w base v n (digs X n)) (hX:X<18446744073709551616^n) (ht:TrIn w o):NumT w o v n X:=⟨fU h (ag _ _ _) ht,hX⟩

theorem NumT.shape {w:World} {o:Tr} {v:Value} {n X:Nat} (h:NumT w o v n X):∃ ao a,v=.slice ao n a:=by
 obtain ⟨ao,L,a,rfl,hL,_⟩:=h.1.1.open;have:=hL.out;rw [ag] at this;subst this;exact ⟨ao,a,rfl⟩

def NumN (w:World) (o:Tr) (v:Value) (n X:Nat):Prop:=NumT w o v n X/\U64s w v

theorem NumN.did {w w':World} {o o':Tr} {m:List Ev} {v:Value} {n X:Nat} (h:NumN w o v n X) (d:Did w o m w' o') (ht:TrIn w o):NumN w' o' v n X:=⟨h.1.did d,h.2.did d ht⟩

theorem NumN.own {w:World} {o:Tr} {base n:Nat} {v:Value} {X:Nat} (h:OwnN .u64 24 w base v n (digs X n)) (hX:X<18446744073709551616^n) (ht:TrIn w o):NumN w o v n X:=⟨NumT.own h hX ht,U64s.own h⟩

theorem NumN.put {w w':World} {o:Tr} {v:Value} {n X p:Nat} {cs:Array Value} {t:TypeId} {fr:Nat × Nat} (h:NumN w o v n X) (hp:w.heap[p]? = some (.cells cs t fr)) (ht:t≠24) (k:Kept (fun b=>b=p) w w'):NumN w' o v n X:=by
 have a:∀ b,v.ownBlock=some b->¬ b=p:=fun b hb e=>by
  obtain ⟨c,d,h'⟩:=h.2 b hb;rw [e,hp] at h';cases h'
  exact ht rfl
 exact ⟨⟨⟨h.1.1.1.kept k a,h.1.1.2⟩,h.1.2⟩,h.2.kept k a⟩

structure Wr (w0:World) (o0:Tr) (m:List Ev) (w:World) (o:Tr) (tp:Value) (k:Nat):Prop where
 did:Did w0 o0 m w o
 room:TrRoom w o k
 ptr:aL o=tp

theorem Wr.next {w0 w w':World} {o0 o o':Tr} {m m':List Ev} {tp:Value} {k j:Nat} (s:Wr w0 o0 m w o tp j) (d:Did w o m' w' o') (hj:m'.length+k<=j):Wr w0 o0 (m ++ m') w' o' tp k:=
 ⟨s.did.trans d,d.room (s.room.less hj),d.ptr.trans s.ptr⟩

theorem Wr.grew {w0 w w':World} {o0 o:Tr} {m:List Ev} {tp:Value} {k:Nat} (s:Wr w0 o0 m w o tp k) (h:Kept af w w'):Wr w0 o0 m w' o tp k:=⟨s.did.grew h,s.room.grew h,s.ptr⟩

theorem Wr.less {w0 w:World} {o0 o:Tr} {m:List Ev} {tp:Value} {k j:Nat} (s:Wr w0 o0 m w o tp j) (h:k<=j):Wr w0 o0 m w o tp k:=⟨s.did,s.room.less h,s.ptr⟩

theorem Did.cells {w w':World} {o o':Tr} {m:List Ev} {g:Nat} {cs:Array Value} {t:TypeId} {fr:Nat × Nat} (d:Did w o m w' o') (h:w.heap[g]? = some (.cells cs t fr)) (ht:TrIn w o) (h1:t≠100) (h2:t≠142):w'.heap[g]? = some (.cells cs t fr):=
 (d.kept.block g (lt_of_block h) (aI h ht h1 h2)).trans h

theorem m5 {b X Y n:Nat} (hX:X<18446744073709551616^n) (hY:Y<18446744073709551616^n):cC b X Y<18446744073709551616^n:=by unfold cC;split <;> assumption

theorem rU {X Y n:Nat} (hX:X<18446744073709551616^n) (hY:Y<18446744073709551616^n):fK X Y n<18446744073709551616^n:=by
 unfold fK;rw [<- B64]
 split <;> omega

theorem xH (b:Nat) (p:Bool):cC b (cY p) 0<=1:=by unfold cC cY;split <;> (try split) <;> omega

theorem mI (X n:Nat):digs X n=digs (X%18446744073709551616^n) n:=qk (by rw [fG])

theorem Ar {w0:World} {o0:Tr} {m:List Ev} {tp:Value} {k:Nat} (bit n X Y:Nat) (u v:Value) {w:World} {o:Tr} (s:Wr w0 o0 m w o tp (k+1)) (hb:bit<=1) (hu:NumT w o u n X) (hv:NumT w o v n Y) (hn:n<=1000) :
  Calls prog 226 #[tp,.int .u64 (bit:Nat),u,v] w fun e w'=>∃ (v':Value) (c:Nat),e=.returned (.tuple #[v',.int .u64 (c:Nat)])/\∃ (Z:Nat) (o':Tr),Hid (Z=cC bit (fK X Y n) X/\c=cC bit (cY (decide (X<Y))) 0)/\c<=1/\NumN w' o' v' n Z/\Did w o [(1,(n:Int),0)] w' o'/\Wr w0 o0 (m ++ [(1,(n:Int),0)]) w' o' tp k:=by
 have h:=uE o bit (by omega) u v _ _ w (s.room.less (by omega)) hu.1 hv.1 (ak (by omega) _ _) (ak (by omega) _ _) (by rw [ag];omega) (by rw [ag];omega);rw [s.ptr,ag,ag,gI,bG hu.2,bG hv.2] at h;refine h.mono ?_;rintro e w' ⟨v',rfl,ho,o',d⟩;exact ⟨v',_,rfl,_,o',⟨rfl,rfl⟩,xH _ _,NumN.own ho (m5 (rU hu.2 hv.2) hu.2) (d.room (k:=0) (s.room.less (by simp))).1,d,s.next d (by simp;omega)⟩

theorem rt {w0:World} {o0:Tr} {m:List Ev} {tp:Value} {k:Nat} (bit n X Y:Nat) (u v:Value) {w:World} {o:Tr} (s:Wr w0 o0 m w o tp (k+1)) (hb:bit<=1) (hu:NumT w o u n X) (hv:NumT w o v n Y) (hn:n<=1000) :
  Calls prog 204 #[tp,.int .u64 (bit:Nat),u,v] w fun e w'=>∃ (v':Value) (c:Nat),e=.returned (.tuple #[v',.int .u64 (c:Nat)])/\∃ (Z:Nat) (o':Tr),Hid (Z=cC bit (X+Y) X%18446744073709551616^n/\c=cC bit (cY (decide (18446744073709551616^n<=X+Y))) 0)/\c<=1/\NumN w' o' v' n Z/\Did w o [(1,(n:Int),0)] w' o'/\Wr w0 o0 (m ++ [(1,(n:Int),0)]) w' o' tp k:=by
 have h:=uD o bit (by omega) u v _ _ w (s.room.less (by omega)) hu.1 hv.1 (ak (by omega) _ _) (ak (by omega) _ _) (by rw [ag];omega) (by rw [ag];omega);rw [s.ptr,ag,ag,gI,bG hu.2,bG hv.2,<- B64,mI] at h;refine h.mono ?_;rintro e w' ⟨v',rfl,ho,o',d⟩;exact ⟨v',_,rfl,_,o',⟨rfl,rfl⟩,xH _ _,NumN.own ho (ay _ (aC (by omega))) (d.room (k:=0) (s.room.less (by simp))).1,d,s.next d (by simp;omega)⟩

theorem Is {w0:World} {o0:Tr} {m:List Ev} {tp:Value} {k:Nat} (n X Y:Nat) (u v:Value) {w:World} {o:Tr} (s:Wr w0 o0 m w o tp (k+1)) (hu:NumT w o u n X) (hv:NumT w o v n Y) (hn:n<=1000) :
  Calls prog 193 #[tp,u,v] w fun e w'=>∃ (v':Value) (c:Nat),e=.returned (.tuple #[v',.int .u64 (c:Nat)])/\∃ (Z:Nat) (o':Tr),Hid (Z=fK X Y n/\c=cY (decide (X<Y)))/\c<=1/\NumN w' o' v' n Z/\Did w o [(1,(n:Int),0)] w' o'/\Wr w0 o0 (m ++ [(1,(n:Int),0)]) w' o' tp k:=by
 have h:=Ay o u v _ _ w (s.room.less (by omega)) hu.1 hv.1 (ak (by omega) _ _) (ak (by omega) _ _) (by rw [ag];omega) (by rw [ag];omega);rw [s.ptr,ag,ag,gI,bG hu.2,bG hv.2] at h;refine h.mono ?_;rintro e w' ⟨v',rfl,ho,o',d⟩;exact ⟨v',_,rfl,_,o',⟨rfl,rfl⟩,pB _,NumN.own ho (rU hu.2 hv.2) (d.room (k:=0) (s.room.less (by simp))).1,d,s.next d (by simp;omega)⟩

theorem GI {w0:World} {o0:Tr} {m:List Ev} {tp:Value} {k:Nat} (n Y:Nat) (v:Value) {w:World} {o:Tr} (s:Wr w0 o0 m w o tp (k+1)) (hv:NumT w o v n Y) (hn:n<=1000) :
  Calls prog 193 #[tp,.slice none 0 0,v] w fun e w'=>∃ (v':Value) (c:Nat),e=.returned (.tuple #[v',.int .u64 (c:Nat)])/\∃ (Z:Nat) (o':Tr),Hid (Z=fK 0 Y n)/\NumN w' o' v' n Z/\Did w o [(1,(n:Int),0)] w' o'/\Wr w0 o0 (m ++ [(1,(n:Int),0)]) w' o' tp k:=by
 have h:=Ay o (.slice none 0 0) v [] _ w (s.room.less (by omega)) ⟨Row.nil _ _,fun h=>absurd rfl h⟩ hv.1 (Digs.nil _) (ak (by omega) _ _) (by simp) (by rw [ag];omega);rw [s.ptr,eS,ag,Nat.zero_max,bG hv.2,show val []=0 from rfl] at h;refine h.mono ?_;rintro e w' ⟨v',rfl,ho,o',d⟩;exact ⟨v',_,rfl,_,o',rfl,NumN.own ho (rU (aC (by omega)) hv.2) (d.room (k:=0) (s.room.less (by simp))).1,d,s.next d (by simp;omega)⟩

theorem oG {w0:World} {o0:Tr} {m:List Ev} {tp:Value} {k:Nat} (bit n X Y:Nat) (u v:Value) {w:World} {o:Tr} (s:Wr w0 o0 m w o tp (k+1)) (hb:bit<=1) (hu:NumT w o u n X) (hv:NumT w o v n Y) (hn:n<=1000) :
  Calls prog 94 #[tp,.int .u64 (bit:Nat),u,v] w fun e w'=>∃ (v':Value),e=.returned v'/\∃ (Z:Nat) (o':Tr),Hid (Z=cC bit X Y)/\NumN w' o' v' n Z/\Did w o [(1,(n:Int),0)] w' o'/\Wr w0 o0 (m ++ [(1,(n:Int),0)]) w' o' tp k:=by
 have h:=mS o bit (by omega) u v _ _ w (s.room.less (by omega)) hu.1 hv.1 (ak (by omega) _ _) (ak (by omega) _ _) (by rw [ag];omega) (by rw [ag];omega);rw [s.ptr,ag,ag,gI,bG hu.2,bG hv.2] at h;refine h.mono ?_;rintro e w' ⟨v',rfl,ho,o',d⟩;exact ⟨v',rfl,_,o',rfl,NumN.own ho (m5 hu.2 hv.2) (d.room (k:=0) (s.room.less (by simp))).1,d,s.next d (by simp;omega)⟩

theorem Aq {w0:World} {o0:Tr} {m:List Ev} {tp:Value} {k:Nat} (bit n X:Nat) (u:Value) {w:World} {o:Tr} (s:Wr w0 o0 m w o tp (k+1)) (hb:bit<=1) (hu:NumT w o u n X) (hn:n<=1000) :
  Calls prog 254 #[tp,u,.int .u64 (bit:Nat)] w fun e w'=>∃ (v':Value) (c:Nat),e=.returned (.tuple #[v',.int .u64 (c:Nat)])/\∃ (Z:Nat) (o':Tr),Hid (Z=(X+bit%2*18446744073709551616^n)/2)/\NumN w' o' v' n Z/\Did w o [(1,(n:Int),0)] w' o'/\Wr w0 o0 (m ++ [(1,(n:Int),0)]) w' o' tp k:=by
 have h:=Fg o u _ bit (by omega) w (s.room.less (by omega)) hu.1 (ak (by omega) _ _) (by rw [ag];omega);rw [s.ptr,ag,bG hu.2] at h;refine h.mono ?_;rintro e w' ⟨v',rfl,ho,o',d⟩;have hlt:(X+bit%2*18446744073709551616^n)/2<18446744073709551616^n:=by
  have hX:=hu.2;have a:bit%2=0\/bit%2=1:=by omega
  generalize 18446744073709551616^n=Q at *;rcases a with e | e <;> rw [e] <;> omega
 exact ⟨v',_,rfl,_,o',rfl,NumN.own ho hlt (d.room (k:=0) (s.room.less (by simp))).1,d,s.next d (by simp;omega)⟩

theorem Ei (n X c:Nat) (v:Value) (w:World) (o:Tr) (h:NumT w o v (n+1) X) (hn:n<=1000) (hc:c=X/(9223372036854775808*18446744073709551616^n)) :
  Calls prog 192 #[v] w fun e w'=>e=.returned (.int .u64 (c:Nat))/\w'=w:=by
 obtain ⟨ao,f,rfl⟩:=h.shape;obtain ⟨_,_,_,e1,_,_,_,_,a⟩:=h.1.1.open;cases e1
 obtain ⟨b,off,rfl,i⟩:=eC (a n (by omega)) (by omega);have hd:dig X n<18446744073709551616:=ay _ (by omega);have hq:Hid (dig X n/9223372036854775808=c):=by
  unfold Hid;rw [hc,aF,<- cK];unfold dig;rw [ax];have:=h.2;rw [aH] at this;exact oA this
 clear h a hc;generalize dig X n=x at *;have d:((x:Int)/9223372036854775808)=(c:Int):=by have:=hq.out;omega
 have HQ:=aa d;clear hq d;have g1:((n+1:Nat):Int)-1=(n:Int):=by omega
 have g0:(0:Int)<=(n:Int):=bY _;have g2:(n:Int)<((n+1:Nat):Int):=by omega
 obtain ⟨L,hL⟩:∃ L,L=n+1:=⟨_,rfl⟩
 rw [<- hL] at g1 g2 ⊢;have HL:=aa hL;have g:L<=1001:=by omega
 clear hL;go_enter func192,ntmps192;go_wp2_with fail;go_ret;rw [HQ.out];exact ⟨rfl,rfl⟩

theorem GE {w0:World} {o0:Tr} {m:List Ev} {tp:Value} {k:Nat} (sw od x n G F:Nat) (g f:Value) {w:World} {o:Tr} (s:Wr w0 o0 m w o tp (k+2)) (a:sw<=1) (hx:x<=1) (b:bits .xor .u64 (od:Int) (sw:Int)=(x:Int)) (hg:NumT w o g n G) (hf:NumT w o f n F) (hn:n<=1000) :
  Calls prog 233 #[tp,.int .u64 (sw:Nat),.int .u64 (od:Nat),g,f] w fun e w'=>∃ (v':Value),e=.returned v'/\∃ (Z:Nat) (o':Tr),Hid (Z=cC x (cC sw (fK G F n) G+F) (cC sw (fK G F n) G)%18446744073709551616^n)/\NumN w' o' v' n Z/\Did w o [(1,(n:Int),0),(1,(n:Int),0)] w' o'/\Wr w0 o0 (m ++ [(1,(n:Int),0),(1,(n:Int),0)]) w' o' tp k:=by
 have h1:=Ar sw n G F g f s a hg hf hn;have HF:=aa hf;clear hg hf;go_enter func233,ntmps233;go_wp2_with fail;refine h1.mono ?_;rintro e w1 ⟨v1,c1,rfl,Z1,o1,q1,_,n1,d1,s1⟩;have h2:=rt x n Z1 F v1 f s1 hx n1.1 (HF.out.did d1) hn;clear h1 n1;go_wp2_with fail;refine h2.mono ?_;rintro e w2 ⟨v2,c2,rfl,Z2,o2,q2,_,n2,d2,s2⟩;clear h2;go_wp2_with fail;go_ret;refine ⟨_,rfl,Z2,o2,?_,n2,d1.trans d2,?_⟩
 ·have:=q2.out.1;rw [q1.out.1] at this;exact this
 ·have:=s2;rw [dr] at this;exact this

theorem GF {w0:World} {o0:Tr} {m:List Ev} {tp:Value} {k:Nat} (n X c:Nat) (v:Value) {w:World} {o:Tr} (s:Wr w0 o0 m w o tp (k+1)) (h:NumT w o v (n+1) X) (hn:n<=900) (hc:c=X/(9223372036854775808*18446744073709551616^n)) (a:c<=1) :
  Calls prog 232 #[tp,v] w fun e w'=>∃ (v':Value),e=.returned v'/\∃ (Z:Nat) (o':Tr),Hid (Z=(X+c%2*18446744073709551616^(n+1))/2)/\NumN w' o' v' (n+1) Z/\Did w o [(1,((n+1:Nat):Int),0)] w' o'/\Wr w0 o0 (m ++ [(1,((n+1:Nat):Int),0)]) w' o' tp k:=by
 have h1:=Ei n X c v w o h (by omega) hc;have h2:=Aq c (n+1) X v s a h (by omega);clear h hc s;generalize n+1=L at *;go_enter func232,ntmps232;go_wp2_with fail;refine h1.mono ?_;rintro e w1 ⟨rfl,rfl⟩;clear h1;go_wp2_with fail;refine h2.mono ?_;rintro e w2 ⟨v2,c2,rfl,Z2,o2,q2,n2,d2,s2⟩;clear h2;go_wp2_with fail;go_ret;exact ⟨_,rfl,Z2,o2,q2,n2,d2,s2⟩

theorem EW (v:Value) (xs:List Nat) (n:Nat) (w:World) (h:Row .u64 w v xs) (hd:Digs xs) (hn:n<=1000000) :
  Calls prog 132 #[v,.int .i64 (n:Nat)] w fun e w'=>e=.returned (.slice (some ⟨w.heap.size,0,none⟩) n n)/\OwnN .u64 24 w' w.heap.size (.slice (some ⟨w.heap.size,0,none⟩) n n) n (digs (val xs) n)/\Kept af w w':=by
 obtain ⟨i0,i,r,k,s⟩:=info_parts Tryz.info24;obtain ⟨ao,q,o,rfl,hL,_,_,_,_⟩:=h.open;have HD:=aa (pf hd n);have HS:Hid (∀ W,Kept af w W->0<((xs.take n).map fun z:Nat=>Value.int .u64 (z:Int)).length->∃ ad,ao=some ad/\∀ j u,((xs.take n).map fun z:Nat=>Value.int .u64 (z:Int))[j]? = some u->W.cell? (ad.add j)=some u):=fun W hk hp=>by
  obtain ⟨ad,e,hs⟩:=h.source hk (by rw [cf,aO] at hp;rw [cf];omega);refine ⟨ad,e,fun j u hj=>hs j u ?_⟩;rw [List.map_take,dV] at hj
  split at hj
  ·exact hj
  ·cases hj
 have HO:=aa (jd .u64 (xs.take n));have b:Hid (((xs.take n).map fun z:Nat=>Value.int .u64 (z:Int)).length=Nat.min q n):=by
  unfold Hid;rw [cf,aO,hL.out];exact Nat.min_comm n q
 obtain ⟨CS,c⟩:∃ CS,CS=(xs.take n).map (fun z:Nat=>Value.int .u64 (z:Int)):=⟨_,rfl⟩
 rw [<- c] at HS HO b;have m:Hid (CS=(xs.take n).map (fun z:Nat=>Value.int .u64 (z:Int))):=c;have t:Nat.min q n<=n:=Nat.min_le_right _ _;clear c h hd;go_enter func132,ntmps132
 go_wp2_with (at_make;refine wpList_make_full _ rfl _ _ 23 rfl w.heap.size 24 i0 _ 1 underlying23 i r k _ _ _ _ n rfl rfl rfl rfl (by rw [s];omega) (by unfold maxLen;omega) (leR _) ?_;intro w1 d g;rw [bg] at d;have k1:=aV g;obtain ⟨w2,p,f,k2⟩:=dS (P:=prog) 23 23 3 24 w.heap.size 0 n n (some ⟨w.heap.size,0,none⟩) ao q o _ 24 CS underlying23 (by rw [i];simp [k]) (gV d) b.out (fun hp=>⟨rfl,HS.out _ k1 hp⟩) (by have:=b.out;simp;omega) HO.out;have l:Hid _:=f;clear f d g);go_ret;have a:=l.out;rw [m.out,fZ] at a;rw [HD.out] at a;have kk:=eZ k1 k2 (leR _)
 exact ⟨rfl,dD a (by rw [ag]) (by unfold maxLen;omega) (leR _),kk⟩

theorem tW {W:World} {p:Nat} {a b:Value} {t:TypeId} {fr:Nat × Nat} (h:W.heap[p]? = some (.cells #[a,b] t fr)):W.cell? ⟨p,0,none⟩=some a/\W.cell? ⟨p,1,none⟩=some b:=
 ⟨(cell_of_row W p 0 _ _ _ h).trans rfl,(cell_of_row W p 1 _ _ _ h).trans rfl⟩

theorem EV {W:World} {p:Nat} {a b:Value} {t:TypeId} (h:W.heap[p]? = some (.cells #[a,b] t (0,0))):W.frozen? ⟨p,0,none⟩=false/\W.frozen? ⟨p,1,none⟩=false:=by
 simp [World.frozen?,h]

theorem IF {W:World} {p:Nat} {a b:Value} {t:TypeId} (h:W.heap[p]? = some (.cells #[a,b] t (0,0))) (x y:Value) :
  ((W.setCell ⟨p,0,none⟩ x).setCell ⟨p,1,none⟩ y).heap[p]? = some (.cells #[x,y] t (0,0)):=by
 have h1:=heap_setCell_same W p 0 #[a,b] t x h;have h2:=heap_setCell_same (W.setCell ⟨p,0,none⟩ x) p 1 #[x,b] t y (by simpa using h1);simpa using h2

theorem GV (W:World) (p:Nat) (x y:Value):Kept (fun b=>b=p) W ((W.setCell ⟨p,0,none⟩ x).setCell ⟨p,1,none⟩ y):=
 ((aj (fun b=>b=p) W).setCell ⟨p,0,none⟩ (fun _=>rfl) x).setCell ⟨p,1,none⟩ (fun _=>rfl) y

def qV (n M U V sw od V':Nat):Prop:=M<18446744073709551616^n->M%2=1->U<M->V<M->V'<M/\(M:Int) ∣ 2*(V':Int)-(V+((od:Int)-2*(sw:Int))*U)

theorem iCo {w0:World} {o0:Tr} {m:List Ev} {po:Option Addr} {k:Nat} (n M U V sw od x:Nat) (uo vo ao bo:Option Addr) (uc vc a l K b:Nat) {w:World} {o:Tr} (s:Wr w0 o0 m w o (.pointer po) (k+8)) (I:(sw=1/\od=1/\x=0)\/(sw=0/\od=1/\x=1)\/(sw=0/\od=0/\x=0)) (ah:bits .xor .u64 (od:Int) (sw:Int)=(x:Int)) (hm:NumT w o (.slice ao n a) n M) (hu:NumT w o (.slice uo n uc) n U) (hv:NumT w o (.slice vo n vc) n V) (i:0<n) (hn:n<=900) :
  Calls prog 231 #[.agg #[.slice uo n uc,.slice vo n vc],.pointer po,.agg #[.slice ao n a,.int .u64 (K:Nat),.slice bo l b],.int .u64 (sw:Nat),.int .u64 (od:Nat)] w fun e w'=>∃ (u' v':Value),e=.returned (.agg #[u',v'])/\∃ (U' V':Nat) (o':Tr),Hid (U'=cC sw V U/\qV n M U V sw od V')/\NumN w' o' u' n U'/\NumN w' o' v' n V'/\Did w o (List.replicate 8 (1,(n:Int),0)) w' o'/\Wr w0 o0 (m ++ List.replicate 8 (1,(n:Int),0)) w' o' (.pointer po) k:=by
 have J:sw<=1:=by omega
 have hx:x<=1:=by omega
 obtain ⟨W,hW⟩:∃ W,W=((w.alloc (.cells #[.slice uo n uc,.slice vo n vc] 215)).alloc (.cells #[.slice ao n a,.int .u64 (K:Nat),.slice bo l b] 70)).alloc (.cells #[.slice none 0 0,.slice none 0 0] 215):=⟨_,rfl⟩
 have k0:Kept af w W:=by rw [hW];exact (((aj af w).alloc _).alloc _).alloc _
 have b1:W.heap[w.heap.size]? = some (.cells #[.slice uo n uc,.slice vo n vc] 215 (0,0)):=by rw [hW];exact au (au (heap_alloc_new _ _))
 have b2:W.heap[w.heap.size+1]? = some (.cells #[.slice ao n a,.int .u64 (K:Nat),.slice bo l b] 70 (0,0)):=by
  rw [hW];refine au ?_;have:=heap_alloc_new (w.alloc (.cells #[.slice uo n uc,.slice vo n vc] 215)) (.cells #[.slice ao n a,.int .u64 (K:Nat),.slice bo l b] 70);simpa using this
 have b3:W.heap[w.heap.size+1+1]? = some (.cells #[.slice none 0 0,.slice none 0 0] 215 (0,0)):=by
  rw [hW];have:=heap_alloc_new ((w.alloc (.cells #[.slice uo n uc,.slice vo n vc] 215)).alloc (.cells #[.slice ao n a,.int .u64 (K:Nat),.slice bo l b] 70)) (.cells #[.slice none 0 0,.slice none 0 0] 215);simpa using this
 have JC:Hid (∀ W' m' o',Did W o m' W' o'->(W'.cell? ⟨w.heap.size,0,none⟩=some (.slice uo n uc)/\W'.cell? ⟨w.heap.size,1,none⟩=some (.slice vo n vc))/\W'.cell? ⟨w.heap.size+1,0,none⟩=some (.slice ao n a)/\W'.heap[w.heap.size+1+1]? = some (.cells #[.slice none 0 0,.slice none 0 0] 215 (0,0))):=fun W' m' o' d=>
  have ti:TrIn W o:=s.room.1.grew k0
  ⟨tW (d.cells b1 ti (by decide) (by decide)),(aw (d.cells b2 ti (by decide) (by decide))).1,d.cells b3 ti (by decide) (by decide)⟩
 have dW:Did W o [] W o:=Did.of_kept (aj af W) (s.room.1.grew k0);have sW:Wr W o [] W o (.pointer po) (k+8):=⟨dW,s.room.grew k0,s.ptr⟩
 have HM:=aa (hm.grew k0);have HU:=aa (hu.grew k0);have HV:=aa (hv.grew k0);have HW:=aa hW;have HK:=aa k0;have HS:=aa s;have N:=aa I;have ag:=aa (s.room.1.grew k0);have h1:=Ar sw n V U _ _ (k:=k+7) sW J HV.out HU.out (by omega);obtain ⟨⟨c1,c2⟩,c3,_⟩:=JC.out W [] o dW;clear hm hu hv hW k0 s I b1 b2 b3 dW sW;go_enter func231,ntmps231;go_wp2_with (rw [<- HW.out]);refine h1.mono ?_;rintro e w1 ⟨v1,b1,rfl,L,o1,q1,Z,n1,d1,s1⟩;have h2:=rt b1 n L M v1 _ (k:=k+6) s1 Z n1.1 (HM.out.did s1.did) (by omega);obtain ⟨⟨c1,c2⟩,c3,_⟩:=JC.out w1 _ o1 s1.did;clear h1 n1 d1;go_wp2_with fail;refine h2.mono ?_;rintro e w2 ⟨v2,b2,rfl,D,o2,q2,_,n2,d2,s2⟩
 have h3:=rt x n D U v2 _ (k:=k+5) s2 hx n2.1 (HU.out.did s2.did) (by omega);obtain ⟨⟨c1,c2⟩,c3,_⟩:=JC.out w2 _ o2 s2.did;clear h2 n2 d2 s1;go_wp2_with fail;refine h3.mono ?_;rintro e w3 ⟨v3,ov,rfl,X,o3,q3,ab,n3,d3,s3⟩;have h4:=Is n X M v3 _ (k:=k+4) s3 n3.1 (HM.out.did s3.did) (by omega);obtain ⟨⟨c1,c2⟩,c3,_⟩:=JC.out w3 _ o3 s3.did;have N3:=aa n3;clear h3 n3 d3 s2;go_wp2_with fail;refine h4.mono ?_;rintro e w4 ⟨v4,b4,rfl,Y,o4,q4,_,n4,d4,s4⟩;have c:=sO X M ov ab;rw [<- q4.out.2] at c;have C:lO X M ov<=1:=by unfold lO;split <;> omega
 obtain ⟨T,hT⟩:∃ T,T=lO X M ov:=⟨_,rfl⟩
 rw [<- hT] at c C;have HT:=aa hT;have h5:=oG T n Y X v4 v3 (k:=k+3) s4 C n4.1 (N3.out.1.did d4) (by omega);obtain ⟨⟨c1,c2⟩,c3,_⟩:=JC.out w4 _ o4 s4.did;clear h4 n4 d4 s3 hT;go_wp2_with fail;refine h5.mono ?_;rintro e w5 ⟨v5,rfl,S,o5,q5,n5,d5,s5⟩;obtain ⟨so,sc,rfl⟩:=n5.1.shape;obtain ⟨_,_,_,e1,_,_,_,_,f⟩:=n5.1.1.1.open;cases e1
 obtain ⟨sb,h,rfl,G⟩:=eC (f 0 i) i;have z:dig S 0=S%18446744073709551616:=by unfold dig;rw [cw,eX]
 rw [z,aU] at G;have y:=and_one_u64 ((S%18446744073709551616:Nat):Int) (by omega) (by omega);obtain ⟨p,hp⟩:∃ p,p=S%2:=⟨_,rfl⟩
 rw [show ((S%18446744073709551616:Nat):Int)%2=(p:Int) by omega] at y;have HP:=aa hp;have ac:p<=1:=by omega
 have JS:Hid (∀ W' m' o',Did w5 o5 m' W' o'->W'.cell? ⟨sb,h,none⟩=some (.int .u64 ((S%18446744073709551616:Nat):Int))):=fun W' m' o' d=>by
  obtain ⟨_,_,_,e1,_,_,_,_,g⟩:=(n5.1.did d).1.1.open;cases e1
  obtain ⟨_,_,e2,H⟩:=eC (g 0 i) i;cases e2
  rw [z,aU] at H;exact H
 have h6:=fun W' (kk:Kept af w5 W')=>rt p n S M _ _ (k:=k+2) (s5.grew kk) ac (n5.1.grew kk) ((HM.out.did s5.did).grew kk) (by omega)
 obtain ⟨⟨c1,c2⟩,c3,_⟩:=JC.out w5 _ o5 s5.did;clear h5 n5 d5 s4 hp f N3 z;generalize S%18446744073709551616=S0 at *;go_wp2_with fail;go_region_held3 (fun w'=>w'.cell? ⟨w.heap.size+1,0,none⟩=some (.slice ao n a)/\w'.cell? ⟨sb,h,none⟩=some (.int .u64 (S0:Int)))
  (((try dsimp only);(repeat' apply And.intro) <;> first | (go_keep;done) | assumption))
  (first
  | (go_at_call 204;refine (h6 _ ?_).mono ?_;(exact sL (sM _));rintro e w6 ⟨v6,ae,rfl,E,o6,q6,A,n6,d6,s6⟩;obtain ⟨⟨O,P⟩,R,_⟩:=JC.out w6 _ o6 s6.did;have ad:=JS.out w6 _ o6 (Did.after (sL (sM _)) d6)))
 all_goals
  have h7:=Aq ae n E v6 (k:=k+1) s6 A n6.1 (by omega);clear h6 d6 n6 s5 c1 c2 c3 G;go_wp2_with fail;refine h7.mono ?_;rintro e w7 ⟨v7,b7,rfl,V',o7,q7,n7,d7,s7⟩;obtain ⟨⟨c1,c2⟩,c3,_⟩:=JC.out w7 _ o7 s7.did;have h8:=oG sw n V U _ _ (k:=k) s7 J (HV.out.did s7.did) (HU.out.did s7.did) (by omega);have N7:=aa n7;have T7:=aa s7.room.1;clear h7 n7 d7 s6 O P R ad;go_wp2_with fail;refine h8.mono ?_;rintro e w8 ⟨v8,rfl,U',o8,q8,n8,d8,s8⟩;obtain ⟨_,_,c4⟩:=JC.out w8 _ o8 s8.did;have B:=N7.out.did d8 T7.out;obtain ⟨q,j,rfl⟩:=n8.1.shape;obtain ⟨t,r,rfl⟩:=B.1.shape;obtain ⟨f0,f1⟩:=EV c4;obtain ⟨g0,g1⟩:=tW c4
  have c5:=IF c4 (.slice q n j) (.slice t n r);obtain ⟨t0,t1⟩:=tW c5;have kp:=GV w8 (w.heap.size+1+1) (.slice q n j) (.slice t n r);have F:=aI c4 s8.room.1 (by decide) (by decide);have N8:=aa (n8.put c4 (by decide) kp);have N7:=aa (B.put c4 (by decide) kp);have D8:Hid (Did w o (List.replicate 8 (1,(n:Int),0)) ((w8.setCell ⟨w.heap.size+1+1,0,none⟩ (.slice q n j)).setCell ⟨w.heap.size+1+1,1,none⟩ (.slice t n r)) o8):=(Did.after HK.out s8.did).wroteNew kp (by omega) F;have HC:Hid (qV n M U V sw od V'):=fun hM h2 hU hV=>by
   have e4:=q4.out;have e5:=q5.out;have e6:=q6.out;have e7:=q7.out;rw [e4.1,HT.out] at e5;rw [HP.out] at e6;exact ES (n:=n) (Q:=18446744073709551616^n) (B64 n) hM h2 hU hV N.out q1.out.1 q1.out.2 q2.out.1 q3.out.1 q3.out.2 e5 e6.1 e6.2 e7
  clear h8 n8 B c4 c5 kp F s7 s8 d8 c1 c2 c3;go_wp2_with fail;refine bodyPost_ret (v:=.agg #[.slice q n j,.slice t n r]) (by simp [results,results231,go_sem,t0,t1]) rfl ⟨_,_,rfl,U',V',o8,⟨q8.out,HC.out⟩,N8.out,N7.out,D8.out,HS.out.next D8.out (by simp;omega)⟩

theorem B9 (D:Nat) (h:D<18446744073709551616):D ^^^ 18446744073709551615=18446744073709551615-D:=by
 have e:(BitVec.ofNat 64 D ^^^ BitVec.allOnes 64).toNat=D ^^^ 18446744073709551615:=by
  rw [BitVec.toNat_xor,BitVec.toNat_ofNat,BitVec.toNat_allOnes,ax (by omega)]
 rw [<- e,BitVec.xor_allOnes,BitVec.toNat_not,BitVec.toNat_ofNat,ax (by omega)]

structure StBits (d g:Int) (D E y od sw mk A C D' x:Nat):Prop where
 lD:D<18446744073709551616
 hE:IntKind.u64.wrap (-(D:Int))=(E:Int)
 hy:(E:Int)/9223372036854775808=(y:Int)
 hod:(od:Int)=g%2
 hsw:bits .and .u64 (od:Int) (y:Int)=(sw:Int)
 esw:sw=swN d g
 hmk:msk (sw:Int)=(mk:Int)
 hA:bits .xor .u64 (D:Int) (mk:Int)=(A:Int)
 h1:bits .and .u64 (mk:Int) 1=(sw:Int)
 hC:IntKind.u64.wrap ((A:Int)+(sw:Int))=(C:Int)
 hD:IntKind.u64.wrap ((C:Int)+1)=(D':Int)
 eD:D'=tcN 18446744073709551616 (if sw=1 then 1-d else 1+d)
 hx:bits .xor .u64 (od:Int) (sw:Int)=(x:Int)
 hso:(sw=1/\od=1/\x=0)\/(sw=0/\od=1/\x=1)\/(sw=0/\od=0/\x=0)

theorem DH (d g:Int) (h0:-1000000<=d) (h1:d<=1000000):∃ E y od sw mk A C D' x:Nat,StBits d g (tcN 18446744073709551616 d) E y od sw mk A C D' x:=by
 obtain ⟨D,hD⟩:∃ D,D=tcN 18446744073709551616 d:=⟨_,rfl⟩
 rw [<- hD];have fD:(0<=d->(D:Int)=d)/\(d<0->(D:Int)=18446744073709551616+d):=by
  rw [hD];unfold tcN;constructor
  ·intro h;rw [ai (by omega)];omega
  ·intro h;rw [ah h];omega
 have lD:D<18446744073709551616:=by omega
 have c:∃ E:Nat,IntKind.u64.wrap (-(D:Int))=(E:Int)/\E<18446744073709551616/\(0<d->9223372036854775808<=E)/\(¬ 0<d->E<9223372036854775808):=by
  refine ⟨(-(D:Int)%18446744073709551616).toNat,?_,?_,?_,?_⟩
  ·rw [IntKind.wrap_u64];omega
  ·omega
  ·intro h;omega
  ·intro h;omega
 obtain ⟨E,hE,lE,e1,e2⟩:=c;obtain ⟨od,i⟩:∃ od:Nat,(od:Int)=g%2:=⟨(g%2).toNat,by omega⟩
 have f:od=0\/od=1:=by omega
 obtain ⟨y,hy⟩:∃ y:Nat,y=E/9223372036854775808:=⟨_,rfl⟩
 have j:(E:Int)/9223372036854775808=(y:Int):=by omega
 have ey:y=if 0<d then 1 else 0:=by
  split
  ·rename_i h;have:=e1 h;omega
  ·rename_i h;have:=e2 h;omega
 by_cases h:0<d/\g%2=1
 ·rw [ah h.1] at ey;have k:od=1:=by omega
  have es:swN d g=1:=ah h;subst ey;subst k;obtain ⟨D',a⟩:∃ D',D'=tcN 18446744073709551616 (1-d):=⟨_,rfl⟩
  have b:(D':Int)=if d=1 then 0 else 18446744073709551616+(1-d):=by
   rw [a];unfold tcN
   split <;> split <;> omega
  refine ⟨E,1,1,1,18446744073709551615,18446744073709551615-D,18446744073709551616-D,D',0,⟨lD,hE,j,i,by decide,es.symm,by decide,?_,by decide,?_,?_,?_,by decide,.inl ⟨rfl,rfl,rfl⟩⟩⟩
  ·have:=u64_xor_nat D 18446744073709551615 lD (by omega);rw [B9 D lD] at this;exact this
  ·rw [IntKind.wrap_u64];omega
  ·rw [IntKind.wrap_u64,b];split <;> omega
  ·rw [ah rfl];exact a
 ·have es:swN d g=0:=ai h;obtain ⟨D',a⟩:∃ D',D'=tcN 18446744073709551616 (1+d):=⟨_,rfl⟩
  have b:(D':Int)=if d < -1 then 18446744073709551616+(1+d) else 1+d:=by
   rw [a];unfold tcN
   split <;> split <;> omega
  have hz:od=0\/y=0:=by
   rcases f with h0 | h0
   ·exact .inl h0
   ·refine .inr ?_;rw [ey,ai (fun hh=>h ⟨hh,by omega⟩)]
  refine ⟨E,y,od,0,0,D,D,D',od,⟨lD,hE,j,i,?_,es.symm,by decide,?_,by decide,?_,?_,?_,?_,?_⟩⟩
  ·have:=u64_and_nat od y (by omega) (by rw [ey];split <;> omega);rw [this];rcases hz with e | e <;> rw [e] <;> simp
  ·have:=u64_xor_nat D 0 lD (by omega);rw [Nat.xor_zero] at this;exact this
  ·rw [IntKind.wrap_u64];omega
  ·rw [IntKind.wrap_u64,b];split <;> omega
  ·rw [ai (by decide)];exact a
  ·have:=u64_xor_nat od 0 (by omega) (by omega);rw [Nat.xor_zero] at this;exact this
  ·omega

theorem BD {n sw od x t:Nat} {d f g:Int} (h:StIn (18446744073709551616^n) t (d,f,g)) (i:(od:Int)=g%2) (c:(sw=1/\od=1/\x=0)\/(sw=0/\od=1/\x=1)\/(sw=0/\od=0/\x=0)) (es:sw=swN d g) :
  (cC x (cC sw (fK (tcN (18446744073709551616^(n+1)) g) (tcN (18446744073709551616^(n+1)) f) (n+1)) (tcN (18446744073709551616^(n+1)) g)+tcN (18446744073709551616^(n+1)) f) (cC sw (fK (tcN (18446744073709551616^(n+1)) g) (tcN (18446744073709551616^(n+1)) f) (n+1)) (tcN (18446744073709551616^(n+1)) g))%18446744073709551616^(n+1)=tcN (18446744073709551616^(n+1)) (g+((g%2)-2*(swN d g:Int))*f)) /\
  cC sw (tcN (18446744073709551616^(n+1)) g) (tcN (18446744073709551616^(n+1)) f)=tcN (18446744073709551616^(n+1)) (dst (d,f,g)).2.1 /\
  tcN (18446744073709551616^(n+1)) (g+((g%2)-2*(swN d g:Int))*f)/(9223372036854775808*18446744073709551616^n)<=1 /\
  (tcN (18446744073709551616^(n+1)) (g+((g%2)-2*(swN d g:Int))*f)+tcN (18446744073709551616^(n+1)) (g+((g%2)-2*(swN d g:Int))*f)/(9223372036854775808*18446744073709551616^n)%2*18446744073709551616^(n+1))/2=tcN (18446744073709551616^(n+1)) (dst (d,f,g)).2.2:=by
 obtain ⟨_,hf,hg⟩:=h;dsimp only at hf hg;have hP:0<18446744073709551616^n:=aC (by omega);rw [ug,<- i,<- es];have j:sw=0\/sw=1:=by omega
 have eB:(18446744073709551616^(n+1))=2*(9223372036854775808*18446744073709551616^n):=by rw [aH];omega
 obtain ⟨B,hB⟩:∃ B,B=18446744073709551616^(n+1):=⟨_,rfl⟩
 have e:B=2^(64*(n+1)):=by rw [hB,B64]
 obtain ⟨H,hH⟩:∃ H,H=9223372036854775808*18446744073709551616^n:=⟨_,rfl⟩
 rw [<- hB,<- hH] at eB;rw [<- hB,<- hH];generalize 18446744073709551616^n=Q at *;have h4:4*Q<=B:=by omega
 have a:=F8 hg hf h4;have b:=FY hg hf h4;have lg:tcN B g<B:=Ib hg.1 hg.2 h4;have ls:tcN B (g-f)<B:=by rw [<- a];split <;> omega
 refine ⟨?_,?_,?_,?_⟩
 ·unfold cC fK;rw [<- e];rcases c with ⟨rfl,rfl,rfl⟩ | ⟨rfl,rfl,rfl⟩ | ⟨rfl,rfl,rfl⟩
  ·rw [ai (by decide),ah rfl,a,ax ls]
   congr 1
   omega
  ·rw [ah rfl,ai (by decide),b]
   congr 1
   omega
  ·rw [ai (by decide),ai (by decide),ax lg]
   congr 1
   omega
 ·dsimp only;unfold cC;rcases j with rfl | rfl
  ·rw [ai (by decide),ai (by decide)]
  ·rw [ah rfl,ah rfl]
 all_goals
  obtain ⟨X,hX⟩:∃ X,X=g+((od:Int)-2*(sw:Int))*f:=⟨_,rfl⟩
  have lX:-(2*Q:Int)<=X/\X<2*Q:=by
   rw [hX];rcases c with ⟨rfl,rfl,rfl⟩ | ⟨rfl,rfl,rfl⟩ | ⟨rfl,rfl,rfl⟩ <;> omega
  rw [<- hX,xL lX eB (by omega) (by omega)]
 ·unfold sgN;split <;> omega
 ·exact DN lX eB (by omega)

theorem il {W:World} {p:Nat} {a b c d e:Value} {t:TypeId} {fr:Nat × Nat} (h:W.heap[p]? = some (.cells #[a,b,c,d,e] t fr)):W.cell? ⟨p,0,none⟩=some a/\W.cell? ⟨p,1,none⟩=some b/\W.cell? ⟨p,2,none⟩=some c/\W.cell? ⟨p,3,none⟩=some d/\W.cell? ⟨p,4,none⟩=some e:=
 ⟨(cell_of_row W p 0 _ _ _ h).trans rfl,(cell_of_row W p 1 _ _ _ h).trans rfl,(cell_of_row W p 2 _ _ _ h).trans rfl,(cell_of_row W p 3 _ _ _ h).trans rfl,(cell_of_row W p 4 _ _ _ h).trans rfl⟩

theorem ri {W:World} {p:Nat} {a b c d e:Value} {t:TypeId} (h:W.heap[p]? = some (.cells #[a,b,c,d,e] t (0,0))):W.frozen? ⟨p,0,none⟩=false/\W.frozen? ⟨p,1,none⟩=false/\W.frozen? ⟨p,2,none⟩=false/\W.frozen? ⟨p,3,none⟩=false/\W.frozen? ⟨p,4,none⟩=false:=by
 simp [World.frozen?,h]

theorem Fz {W:World} {p:Nat} {a b c d e:Value} {t:TypeId} (h:W.heap[p]? = some (.cells #[a,b,c,d,e] t (0,0))) (x y z u v:Value) :
  (((((W.setCell ⟨p,0,none⟩ x).setCell ⟨p,1,none⟩ y).setCell ⟨p,2,none⟩ z).setCell ⟨p,3,none⟩ u).setCell ⟨p,4,none⟩ v).heap[p]? = some (.cells #[x,y,z,u,v] t (0,0)):=by
 have h1:=heap_setCell_same W p 0 #[a,b,c,d,e] t x h;have h2:=heap_setCell_same (W.setCell ⟨p,0,none⟩ x) p 1 #[x,b,c,d,e] t y (by simpa using h1);have h3:=heap_setCell_same ((W.setCell ⟨p,0,none⟩ x).setCell ⟨p,1,none⟩ y) p 2 #[x,y,c,d,e] t z (by simpa using h2);have h4:=heap_setCell_same (((W.setCell ⟨p,0,none⟩ x).setCell ⟨p,1,none⟩ y).setCell ⟨p,2,none⟩ z) p 3 #[x,y,z,d,e] t u (by simpa using h3);have h5:=heap_setCell_same ((((W.setCell ⟨p,0,none⟩ x).setCell ⟨p,1,none⟩ y).setCell ⟨p,2,none⟩ z).setCell ⟨p,3,none⟩ u) p 4 #[x,y,z,u,e] t v (by simpa using h4);simpa using h5

theorem Av (W:World) (p:Nat) (x y z u v:Value):Kept (fun b=>b=p) W (((((W.setCell ⟨p,0,none⟩ x).setCell ⟨p,1,none⟩ y).setCell ⟨p,2,none⟩ z).setCell ⟨p,3,none⟩ u).setCell ⟨p,4,none⟩ v):=
 (((((aj (fun b=>b=p) W).setCell ⟨p,0,none⟩ (fun _=>rfl) x).setCell ⟨p,1,none⟩ (fun _=>rfl) y).setCell ⟨p,2,none⟩ (fun _=>rfl) z).setCell ⟨p,3,none⟩ (fun _=>rfl) u).setCell ⟨p,4,none⟩ (fun _=>rfl) v

def ia (b:Int):Int:=min (max b 1) 8320

def rT (b:Int):Int:=if ia b<46 then (49*ia b+80)/17 else (49*ia b+57)/17

end Go.Proofs.YtkaojflnghfmcaaGreatDoor
