/- Put together of: Lim2 MonB. -/
import Derived.Test.YtcemlfokmjjiaaaGreatDoorPp12

namespace Go.Proofs.YtcemlfokmjjiaaaGreatDoor
set_option maxRecDepth 100000
set_option maxHeartbeats 4000000
open Go.RowKit

theorem qL {n X Y a c:Nat} {os:List Nat} (hl:os.length=n) (hd:Digs os) (hX:X<18446744073709551616^n) (hY:Y<18446744073709551616^n) (h:val os+18446744073709551616^n*c=X%18446744073709551616^n+(Y*(a%2))%18446744073709551616^n) :
  os=ag (aL a (X+Y) X) n∧c=aL a (be (decide (2^(64*n)≤X+Y))) 0:=by
 have hv:=aq (by omega) hd;rw [hl] at hv;rw [← B64];have b:a%2=0∨a%2=1:=by omega
 rw [al hX] at h;rcases b with hb | hb
 ·rw [hb,Nat.mul_zero,Nat.zero_mod,Nat.add_zero] at h;unfold aL;rw [if_neg (by omega),if_neg (by omega)];have hc:c=0:=by
   rcases Nat.eq_zero_or_pos c with h0 | h0
   ·exact h0
   ·have:18446744073709551616^n*1≤18446744073709551616^n*c:=Nat.mul_le_mul_left _ h0;omega
  subst hc;refine ⟨aT (by omega) hd hl ?_,rfl⟩;rw [al hX];omega
 ·rw [hb,Nat.mul_one,al hY] at h;unfold aL be;rw [if_pos hb,if_pos hb];refine ⟨aT (by omega) hd hl ?_,?_⟩
  ·rw [← h,Nat.add_mul_mod_self_left,al hv]
  ·have hc:c=0∨c=1∨2≤c:=by omega
   rcases hc with rfl | rfl | hc
   ·rw [if_neg];simp;omega
   ·rw [if_pos];simp;omega
   ·have:18446744073709551616^n*2≤18446744073709551616^n*c:=Nat.mul_le_mul_left _ hc;omega

theorem bV {xs:List Nat} {n:Nat} (hd:Digs xs) (hl:xs.length≤n):val xs<18446744073709551616^n:=
 Nat.lt_of_lt_of_le (aq (by omega) hd) (Nat.pow_le_pow_right (by omega) hl)

theorem cF {k:IntKind} {w:World} {ao:Option Addr} {X n i:Nat} (h:NumAt k w ao (ag X n) i) (hi:i<n):∃ b off,ao=some ⟨b,off,none⟩∧w.cell? ⟨b,off+i,none⟩=some (.int k (dig X i:Nat)):=by
 obtain ⟨b,off,e,hc⟩:=h;rw [cY _ _ _ _ hi] at hc;exact ⟨b,off,e,hc⟩

theorem sN (o:Tr) (a:Nat) (ar:a<18446744073709551616) (u v:Value) (xs ys:List Nat) (w:World) (ht:TrRoom w o 1) (hu:RowT w o u xs) (hv:RowT w o v ys) (D:Digs xs) (C:Digs ys) (hL:xs.length≤100000000) (hM:ys.length≤100000000) :
  Calls Tryz.prog 248 #[aD o,.int .u64 (a:Nat),u,v] w fun e w'=>∃ v',e=.returned (.tuple #[v',.int .u64 (aL a (be (decide (2^(64*max xs.length ys.length)≤val xs+val ys))) 0:Nat)]) ∧
   OwnN .u64 23 w' w.heap.size v' (max xs.length ys.length) (ag (aL a (val xs+val ys) (val xs)) (max xs.length ys.length))∧∃ o',Did w o [(1,(max xs.length ys.length:Nat),0)] w' o':=by
 obtain ⟨i0,ay,av,aj,ad⟩:=info_parts Tryz.info23;obtain ⟨ao,L,cap,rfl,ac,_,_,_,_⟩:=hu.1.open;obtain ⟨bo,M,F,rfl,J,_,_,_,_⟩:=hv.1.open;have eL:=ac.out;have eM:=J.out;have hX:Hid (val xs<18446744073709551616^max L M):=bV D (by omega);have hY:Hid (val ys<18446744073709551616^max L M):=bV C (by omega);have hC:=iD ao bo L M cap F w;have I:=fun o' W g (t:TrIn W o') (r:RowT W o' (.slice ao L cap) xs) hg=>ke o' _ xs (max L M) g W t r D (by omega) (by omega) hg
 have Q:=fun o' W g (t:TrIn W o') (r:RowT W o' (.slice bo M F) ys) hg=>ke o' _ ys (max L M) g W t r C (by omega) (by omega) hg
 have aG:max L M≤100000000:=by omega
 rw [eL,eM] at *;have V:=fun W=>mQ (a:Int) (by omega) (by omega) W
 have HU:Hid (RowT w o (.slice ao L cap) xs):=hu;have HV:Hid (RowT w o (.slice bo M F) ys):=hv;have HT:Hid (TrRoom w o 1):=ht;obtain ⟨tp,G⟩:∃ tp,tp=aD o:=⟨_,rfl⟩
 rw [← G];have au:Hid (tp=aD o):=G;clear hu hv ht ac J eL eM D C hL hM G;generalize val xs=X at *;generalize val ys=Y at *;generalize max L M=n at *;go_enter Tryz.func248,Tryz.ntmps248;go_wp2_with fail;refine hC.mono ?_;rintro e w1 ⟨g,rfl,B,al,k1⟩;have hS:=dG o n w1 (HT.out.1.grew k1);rw [← au.out] at hS;clear hC;go_wp2_with fail;refine hS.mono ?_;rintro e w2 ⟨rfl,o2,d2⟩;have q:w2.heap[g]? = _:=(d2.kept.block g (lt_of_block B) (fun f=>by have:=HT.out.1.foot g f;omega)).trans B;have j:=Did.after k1 d2;have m:TrIn w2 o2:=(j.room (k:=0) HT.out).1;have Z:=HU.out.did j;have T:=HV.out.did j;clear hS d2 k1 B;go_wp2_with fail
 refine (I o2 w2 g m Z q).mono ?_;rintro e w3 ⟨v1,rfl,P,k3⟩;have ab:=(k3.block g (lt_of_block q) (fun f=>f)).trans q;go_wp2_with fail;refine (Q o2 w3 g (m.grew k3) (T.grew k3) ab).mono ?_;rintro e w4 ⟨v2,rfl,N,k4⟩;have d:=P.1.grew k4;have d4:=aa ((j.grew k3).grew k4);have aA:=aa ((m.grew k3).grew k4);obtain ⟨a1,n1,c1,rfl,U,_,_,_,A⟩:=d.open;obtain ⟨a2,n2,c2,rfl,H,_,_,_,E⟩:=N.1.open;obtain rfl:n1=n:=by rw [← U.out,af]
 obtain rfl:n2=n1:=by rw [← H.out,af]
 have an:Hid (w.heap.size≤w4.heap.size):=d4.out.size;clear I Q m Z T q ab P d N k3 k4 j U H al;go_wp2_with (at_make;refine wpList_make_full _ rfl _ _ 32 rfl w4.heap.size 23 i0 _ 1 Tryz.underlying32 ay av aj _ _ _ _ n2 rfl rfl rfl rfl (by rw [ad];omega) (by unfold maxLen;omega) (leR _) ?_;intro w5 p O);rw [aE] at p;have k5:=aC O;clear O;refine (V _).mono ?_;rintro e w6 ⟨rfl,rfl⟩;clear V;go_wp2_with fail
 go_loopw [14,37] (fun c i wr=>∃ (k c':Nat) (os:List Nat),k≤n2∧c'≤1∧i=.int .i64 (k:Int)∧c=.int .u64 (c':Int)∧Hid (os.length=k)∧Digs os∧OwnN .u64 23 wr w4.heap.size (.slice (some ⟨w4.heap.size,0,none⟩) n2 n2) n2 (os ++ List.replicate (n2-k) 0)∧Kept ae w4 wr ∧
   Hid (val os+18446744073709551616^k*c'=X%18446744073709551616^k+(Y*(a%2))%18446744073709551616^k)) (fun _ i _=>n2-(intOf i).toNat)
 case atStart=>exact ⟨0,0,[],Nat.zero_le _,by omega,rfl,rfl,rfl,Digs.nil _,by rw [List.nil_append,Nat.sub_zero];exact p,k5,by unfold Hid;simp [val,Nat.mod_one]⟩
 case round=>
  obtain ⟨k,c,os,hk,hc,rfl,rfl,HL,S,ho,l,s⟩:=hrel;by_cases hkn:k<n2
  ·have aH:(0:Int)≤(k:Int):=Int.natCast_nonneg _;have am:(k:Int)<(n2:Int):=by omega
   obtain ⟨b1,ap,rfl,aF⟩:=cF ((A k hkn).grew l) hkn;obtain ⟨b2,aq,rfl,aB⟩:=cF ((E k hkn).grew l) hkn;have az:=el ho HL.out hkn;have hf:=World.ownsRow.frozenAt ho k;have R:=fun u=>(World.ownsRow.stored ho k u).1
   have hx:dig X k<18446744073709551616:=Nat.mod_lt _ (by omega);have hy:dig Y k<18446744073709551616:=Nat.mod_lt _ (by omega);have HS:Hid (∀ z c',z+18446744073709551616*c'=dig X k+dig Y k*(a%2)+c→val (os ++ [z])+18446744073709551616^(k+1)*c'=X%18446744073709551616^(k+1)+(Y*(a%2))%18446744073709551616^(k+1)):=fun z c' h=>qu HL.out s.out (by rw [pu];exact h)
   have ah:=pg (dig Y k) a hy;have ak:dig Y k*(a%2)<18446744073709551616:=by
    have:a%2=0∨a%2=1:=by omega
    rcases this with h | h <;> rw [h] <;> omega
   have ai:Hid (∀ u:Nat,OwnN .u64 23 (wr.setCell ⟨w4.heap.size,k,none⟩ (.int .u64 (u:Int))) w4.heap.size (.slice (some ⟨w4.heap.size,0,none⟩) n2 n2) n2 ((os ++ [u]) ++ List.replicate (n2-(k+1)) 0)):=fun u=>by
    have:=R (.int .u64 (u:Int));unfold OwnN;rw [← fy os n2 k u HL.out hkn,List.map_set];exact this
   clear A E s R p k5;generalize dig X k=x at *;generalize dig Y k=y at *;generalize y*(a%2)=y' at *;go_wp2_with fail;go_region_with (go_at_call 251;refine (sI x y' c hx ak hc _).mono ?_;rintro e w7 ⟨z,c',rfl,hz,ax,aw,rfl⟩)
   all_goals
    go_wp2_with fail;go_roundw
    case rel=>exact ⟨k+1,c',os ++ [z],by omega,ax,by go_num,rfl,by unfold Hid;rw [List.length_append,HL.out];rfl,S.append (Digs.one hz),ai.out z,(l.setCell _ (fun h=>by simp at h) _).drew,HS.out z c' aw⟩
    case measure=>simp [intOf];omega
  ·have am:¬ (k:Int)<(n2:Int):=by omega
   have e:k=n2:=by omega
   subst e;rw [Nat.sub_self,List.replicate_zero,List.append_nil] at ho;obtain ⟨e1,e2⟩:=qL HL.out S hX.out hY.out s.out;have E1:=aa e1;have E2:=aa e2;clear e1 e2 A E s p k5;go_wp2_with fail;go_ret2;rw [← E1.out,← E2.out];exact ⟨_,rfl,aU ho (fun b hb=>Nat.le_trans an.out (ho.lt b hb).1),o2,d4.out.grew l⟩

theorem qW {n X Y a c:Nat} {os:List Nat} (hl:os.length=n) (hd:Digs os) (hX:X<18446744073709551616^n) (hY:Y<18446744073709551616^n) (h:val os+(Y*(a%2))%18446744073709551616^n=X%18446744073709551616^n+18446744073709551616^n*c) :
  os=ag (aL a (cJ X Y n) X) n∧c=aL a (be (decide (X<Y))) 0:=by
 have hv:=aq (by omega) hd;rw [hl] at hv;unfold cJ;rw [← B64];have b:a%2=0∨a%2=1:=by omega
 have d:c=0∨c=1∨18446744073709551616^n*2≤18446744073709551616^n*c:=by
  have hc:c=0∨c=1∨2≤c:=by omega
  rcases hc with h | h | h
  ·exact .inl h
  ·exact .inr (.inl h)
  ·exact .inr (.inr (Nat.mul_le_mul_left _ h))
 rw [al hX] at h;rcases b with hb | hb
 ·rw [hb,Nat.mul_zero,Nat.zero_mod,Nat.add_zero] at h;unfold aL;rw [if_neg (by omega),if_neg (by omega)];rcases d with rfl | rfl | hc
  ·refine ⟨aT (by omega) hd hl ?_,rfl⟩;rw [al hX];omega
  ·omega
  ·omega
 ·rw [hb,Nat.mul_one,al hY] at h;unfold aL be;rw [if_pos hb,if_pos hb];rcases d with rfl | rfl | hc
  ·have hn:¬ X<Y:=by omega
   rw [if_neg hn];refine ⟨aT (by omega) hd hl ?_,by rw [if_neg];simpa using hn⟩;rw [al (by omega)];omega
  ·have hn:X<Y:=by omega
   rw [if_pos hn];refine ⟨aT (by omega) hd hl ?_,by rw [if_pos];simpa using hn⟩;rw [al (by omega)];omega
  ·omega

theorem oT (o:Tr) (a:Nat) (ar:a<18446744073709551616) (u v:Value) (xs ys:List Nat) (w:World) (ht:TrRoom w o 1) (hu:RowT w o u xs) (hv:RowT w o v ys) (D:Digs xs) (C:Digs ys) (hL:xs.length≤100000000) (hM:ys.length≤100000000) :
  Calls Tryz.prog 118 #[aD o,.int .u64 (a:Nat),u,v] w fun e w'=>∃ v',e=.returned (.tuple #[v',.int .u64 (aL a (be (decide (val xs<val ys))) 0:Nat)]) ∧
   OwnN .u64 23 w' w.heap.size v' (max xs.length ys.length) (ag (aL a (cJ (val xs) (val ys) (max xs.length ys.length)) (val xs)) (max xs.length ys.length))∧∃ o',Did w o [(1,(max xs.length ys.length:Nat),0)] w' o':=by
 obtain ⟨i0,ay,av,aj,ad⟩:=info_parts Tryz.info23;obtain ⟨ao,L,cap,rfl,ac,_,_,_,_⟩:=hu.1.open;obtain ⟨bo,M,F,rfl,J,_,_,_,_⟩:=hv.1.open;have eL:=ac.out;have eM:=J.out;have hX:Hid (val xs<18446744073709551616^max L M):=bV D (by omega);have hY:Hid (val ys<18446744073709551616^max L M):=bV C (by omega);have hC:=iD ao bo L M cap F w;have I:=fun o' W g (t:TrIn W o') (r:RowT W o' (.slice ao L cap) xs) hg=>ke o' _ xs (max L M) g W t r D (by omega) (by omega) hg
 have Q:=fun o' W g (t:TrIn W o') (r:RowT W o' (.slice bo M F) ys) hg=>ke o' _ ys (max L M) g W t r C (by omega) (by omega) hg
 have aG:max L M≤100000000:=by omega
 rw [eL,eM] at *;have V:=fun W=>mQ (a:Int) (by omega) (by omega) W
 have HU:Hid (RowT w o (.slice ao L cap) xs):=hu;have HV:Hid (RowT w o (.slice bo M F) ys):=hv;have HT:Hid (TrRoom w o 1):=ht;obtain ⟨tp,G⟩:∃ tp,tp=aD o:=⟨_,rfl⟩
 rw [← G];have au:Hid (tp=aD o):=G;clear hu hv ht ac J eL eM D C hL hM G;generalize val xs=X at *;generalize val ys=Y at *;generalize max L M=n at *;go_enter Tryz.func118,Tryz.ntmps118;go_wp2_with fail;refine hC.mono ?_;rintro e w1 ⟨g,rfl,B,al,k1⟩;have hS:=dG o n w1 (HT.out.1.grew k1);rw [← au.out] at hS;clear hC;go_wp2_with fail;refine hS.mono ?_;rintro e w2 ⟨rfl,o2,d2⟩;have q:w2.heap[g]? = _:=(d2.kept.block g (lt_of_block B) (fun f=>by have:=HT.out.1.foot g f;omega)).trans B;have j:=Did.after k1 d2;have m:TrIn w2 o2:=(j.room (k:=0) HT.out).1;have Z:=HU.out.did j;have T:=HV.out.did j;clear hS d2 k1 B;go_wp2_with fail
 refine (I o2 w2 g m Z q).mono ?_;rintro e w3 ⟨v1,rfl,P,k3⟩;have ab:=(k3.block g (lt_of_block q) (fun f=>f)).trans q;go_wp2_with fail;refine (Q o2 w3 g (m.grew k3) (T.grew k3) ab).mono ?_;rintro e w4 ⟨v2,rfl,N,k4⟩;have d:=P.1.grew k4;have d4:=aa ((j.grew k3).grew k4);have aA:=aa ((m.grew k3).grew k4);obtain ⟨a1,n1,c1,rfl,U,_,_,_,A⟩:=d.open;obtain ⟨a2,n2,c2,rfl,H,_,_,_,E⟩:=N.1.open;obtain rfl:n1=n:=by rw [← U.out,af]
 obtain rfl:n2=n1:=by rw [← H.out,af]
 have an:Hid (w.heap.size≤w4.heap.size):=d4.out.size;clear I Q m Z T q ab P d N k3 k4 j U H al;go_wp2_with (at_make;refine wpList_make_full _ rfl _ _ 32 rfl w4.heap.size 23 i0 _ 1 Tryz.underlying32 ay av aj _ _ _ _ n2 rfl rfl rfl rfl (by rw [ad];omega) (by unfold maxLen;omega) (leR _) ?_;intro w5 p O);rw [aE] at p;have k5:=aC O;clear O;refine (V _).mono ?_;rintro e w6 ⟨rfl,rfl⟩;clear V;go_wp2_with fail
 go_loopw [14,37] (fun c i wr=>∃ (k c':Nat) (os:List Nat),k≤n2∧c'≤1∧i=.int .i64 (k:Int)∧c=.int .u64 (c':Int)∧Hid (os.length=k)∧Digs os∧OwnN .u64 23 wr w4.heap.size (.slice (some ⟨w4.heap.size,0,none⟩) n2 n2) n2 (os ++ List.replicate (n2-k) 0)∧Kept ae w4 wr ∧
   Hid (val os+(Y*(a%2))%18446744073709551616^k=X%18446744073709551616^k+18446744073709551616^k*c')) (fun _ i _=>n2-(intOf i).toNat)
 case atStart=>exact ⟨0,0,[],Nat.zero_le _,by omega,rfl,rfl,rfl,Digs.nil _,by rw [List.nil_append,Nat.sub_zero];exact p,k5,by unfold Hid;simp [val,Nat.mod_one]⟩
 case round=>
  obtain ⟨k,c,os,hk,hc,rfl,rfl,HL,S,ho,l,s⟩:=hrel;by_cases hkn:k<n2
  ·have aH:(0:Int)≤(k:Int):=Int.natCast_nonneg _;have am:(k:Int)<(n2:Int):=by omega
   obtain ⟨b1,ap,rfl,aF⟩:=cF ((A k hkn).grew l) hkn;obtain ⟨b2,aq,rfl,aB⟩:=cF ((E k hkn).grew l) hkn;have az:=el ho HL.out hkn;have hf:=World.ownsRow.frozenAt ho k;have R:=fun u=>(World.ownsRow.stored ho k u).1
   have hx:dig X k<18446744073709551616:=Nat.mod_lt _ (by omega);have hy:dig Y k<18446744073709551616:=Nat.mod_lt _ (by omega);have HS:Hid (∀ z c',z+dig Y k*(a%2)+c=dig X k+18446744073709551616*c'→val (os ++ [z])+(Y*(a%2))%18446744073709551616^(k+1)=X%18446744073709551616^(k+1)+18446744073709551616^(k+1)*c'):=fun z c' h=>qM HL.out s.out (by rw [pu];exact h)
   have ah:=pg (dig Y k) a hy;have ak:dig Y k*(a%2)<18446744073709551616:=by
    have:a%2=0∨a%2=1:=by omega
    rcases this with h | h <;> rw [h] <;> omega
   have ai:Hid (∀ u:Nat,OwnN .u64 23 (wr.setCell ⟨w4.heap.size,k,none⟩ (.int .u64 (u:Int))) w4.heap.size (.slice (some ⟨w4.heap.size,0,none⟩) n2 n2) n2 ((os ++ [u]) ++ List.replicate (n2-(k+1)) 0)):=fun u=>by
    have:=R (.int .u64 (u:Int));unfold OwnN;rw [← fy os n2 k u HL.out hkn,List.map_set];exact this
   clear A E s R p k5;generalize dig X k=x at *;generalize dig Y k=y at *;generalize y*(a%2)=y' at *;go_wp2_with fail;go_region_with (go_at_call 165;refine (pf x y' c hx ak hc _).mono ?_;rintro e w7 ⟨z,c',rfl,hz,ax,aw,rfl⟩)
   all_goals
    go_wp2_with fail;go_roundw
    case rel=>exact ⟨k+1,c',os ++ [z],by omega,ax,by go_num,rfl,by unfold Hid;rw [List.length_append,HL.out];rfl,S.append (Digs.one hz),ai.out z,(l.setCell _ (fun h=>by simp at h) _).drew,HS.out z c' aw⟩
    case measure=>simp [intOf];omega
  ·have am:¬ (k:Int)<(n2:Int):=by omega
   have e:k=n2:=by omega
   subst e;rw [Nat.sub_self,List.replicate_zero,List.append_nil] at ho;obtain ⟨e1,e2⟩:=qW HL.out S hX.out hY.out s.out;have E1:=aa e1;have E2:=aa e2;clear e1 e2 A E s p k5;go_wp2_with fail;go_ret2;rw [← E1.out,← E2.out];exact ⟨_,rfl,aU ho (fun b hb=>Nat.le_trans an.out (ho.lt b hb).1),o2,d4.out.grew l⟩

theorem Ci (A B:Nat):aL 1 A B=A:=by unfold aL;rw [if_pos (by omega)]

theorem oA (o:Tr) (u v:Value) (xs ys:List Nat) (w:World) (ht:TrRoom w o 1) (hu:RowT w o u xs) (hv:RowT w o v ys) (b:Digs xs) (a:Digs ys) (hL:xs.length≤100000000) (hM:ys.length≤100000000) :
  Calls Tryz.prog 78 #[aD o,u,v] w fun e w'=>∃ v',e=.returned (.tuple #[v',.int .u64 (be (decide (val xs<val ys)):Nat)]) ∧
   OwnN .u64 23 w' w.heap.size v' (max xs.length ys.length) (ag (cJ (val xs) (val ys) (max xs.length ys.length)) (max xs.length ys.length))∧∃ o',Did w o [(1,(max xs.length ys.length:Nat),0)] w' o':=by
 have h:=oT o 1 (by omega) u v xs ys w ht hu hv b a hL hM;simp only [Ci] at h;clear ht hu hv;generalize aD o=tp at *;generalize be (decide (val xs<val ys))=c at *;go_enter Tryz.func78,Tryz.ntmps78;go_wp2_with fail;refine h.mono ?_;rintro e w' ⟨v',rfl,ho,o',hd⟩;go_wp2;go_ret2;exact ⟨_,rfl,ho,o',hd⟩

theorem qp {B X Y k c z c' D:Nat} (hD:D<B^k) (h:D+Y%B^k=X%B^k+B^k*c) (a:z<B) (hz:z+dig Y k B+c=dig X k B+B*c') :
  D+B^k*z<B^(k+1)∧D+B^k*z+Y%B^(k+1)=X%B^(k+1)+B^(k+1)*c':=by
 rw [cj,cj,Nat.pow_succ,Nat.mul_assoc];have e:B^k*(z+dig Y k B+c)=B^k*(dig X k B+B*c'):=by rw [hz]
 rw [Nat.mul_add,Nat.mul_add,Nat.mul_add] at e;have h1:B^k*(z+1)≤B^k*B:=Nat.mul_le_mul_left _ a;rw [Nat.mul_add,Nat.mul_one] at h1;constructor <;> omega

theorem rN {n X Y c D:Nat} (hX:X<18446744073709551616^n) (hY:Y<18446744073709551616^n) (hD:D<18446744073709551616^n) (h:D+Y%18446744073709551616^n=X%18446744073709551616^n+18446744073709551616^n*c):c=be (decide (X<Y)):=by
 rw [al hX,al hY] at h;have hc:c=0∨c=1∨2≤c:=by omega
 unfold be;rcases hc with rfl | rfl | hc
 ·rw [if_neg];simp;omega
 ·rw [if_pos];simp;omega
 ·have:18446744073709551616^n*2≤18446744073709551616^n*c:=Nat.mul_le_mul_left _ hc;omega

theorem nN (a b:Nat):a ||| b=0↔a=0∧b=0:=by
 constructor
 ·intro h;have h1:a≤a ||| b:=Nat.left_le_or;have h2:b≤a ||| b:=Nat.right_le_or;omega
 ·rintro ⟨rfl,rfl⟩;rfl

theorem lj (a b:Nat):a ^^^ b=0↔a=b:=by
 constructor
 ·intro e;have e2:a ^^^ (a ^^^ b)=a ^^^ 0:=by rw [e]
  rw [← Nat.xor_assoc,Nat.xor_self,Nat.zero_xor,Nat.xor_zero] at e2;exact e2.symm
 ·rintro rfl;exact Nat.xor_self _

theorem oG {t X Y k:Nat} (h:t=0↔X%18446744073709551616^k=Y%18446744073709551616^k):(t ||| (dig X k ^^^ dig Y k))=0↔X%18446744073709551616^(k+1)=Y%18446744073709551616^(k+1):=by
 have hp:0<18446744073709551616^k:=Nat.pow_pos (by omega);have hX:X%18446744073709551616^k<18446744073709551616^k:=Nat.mod_lt _ hp;have hY:Y%18446744073709551616^k<18446744073709551616^k:=Nat.mod_lt _ hp;rw [nN,lj,h,cj,cj];generalize 18446744073709551616^k=p at *;generalize dig X k=x at *;generalize dig Y k=y at *;constructor
 ·rintro ⟨h1,rfl⟩;rw [h1]
 ·intro e;have e1:(X%p+p*x)%p=(Y%p+p*y)%p:=by rw [e]
  rw [Nat.add_mul_mod_self_left,Nat.add_mul_mod_self_left,Nat.mod_mod,Nat.mod_mod] at e1;refine ⟨e1,?_⟩;rw [e1] at e;exact Nat.eq_of_mul_eq_mul_left hp (by omega)

theorem nV (o:Tr) (u v:Value) (xs ys:List Nat) (w:World) (ht:TrRoom w o 1) (hu:RowT w o u xs) (hv:RowT w o v ys) (s:Digs xs) (q:Digs ys) (hL:xs.length≤100000000) (hM:ys.length≤100000000) :
  Calls Tryz.prog 144 #[aD o,u,v] w fun e w'=>e=.returned (.int .u64 (be (decide (val xs<val ys)):Nat))∧∃ o',Did w o [(1,(max xs.length ys.length:Nat),0)] w' o':=by
 obtain ⟨ao,L,cap,rfl,S,_,_,_,_⟩:=hu.1.open;obtain ⟨bo,M,B,rfl,H,_,_,_,_⟩:=hv.1.open;have eL:=S.out;have eM:=H.out;have hX:Hid (val xs<18446744073709551616^max L M):=bV s (by omega);have hY:Hid (val ys<18446744073709551616^max L M):=bV q (by omega);have hC:=iD ao bo L M cap B w;have G:=fun o' W g (t:TrIn W o') (r:RowT W o' (.slice ao L cap) xs) hg=>ke o' _ xs (max L M) g W t r s (by omega) (by omega) hg
 have N:=fun o' W g (t:TrIn W o') (r:RowT W o' (.slice bo M B) ys) hg=>ke o' _ ys (max L M) g W t r q (by omega) (by omega) hg
 have ak:max L M≤100000000:=by omega
 rw [eL,eM] at *;have HU:Hid (RowT w o (.slice ao L cap) xs):=hu;have HV:Hid (RowT w o (.slice bo M B) ys):=hv;have HT:Hid (TrRoom w o 1):=ht;obtain ⟨tp,C⟩:∃ tp,tp=aD o:=⟨_,rfl⟩
 rw [← C];have ab:Hid (tp=aD o):=C;clear hu hv ht S H eL eM s q hL hM C;generalize val xs=X at *;generalize val ys=Y at *;generalize max L M=n at *;go_enter Tryz.func144,Tryz.ntmps144;go_wp2_with fail;refine hC.mono ?_;rintro e w1 ⟨g,rfl,p,T,k1⟩;have hS:=dG o n w1 (HT.out.1.grew k1);rw [← ab.out] at hS;clear hC;go_wp2_with fail;refine hS.mono ?_;rintro e w2 ⟨rfl,o2,d2⟩;have l:w2.heap[g]? = _:=(d2.kept.block g (lt_of_block p) (fun f=>by have:=HT.out.1.foot g f;omega)).trans p;have b:=Did.after k1 d2;have j:TrIn w2 o2:=(b.room (k:=0) HT.out).1;have Q:=HU.out.did b;have O:=HV.out.did b;clear hS d2 k1 p;go_wp2_with fail
 refine (G o2 w2 g j Q l).mono ?_;rintro e w3 ⟨v1,rfl,J,k3⟩;have R:=(k3.block g (lt_of_block l) (fun f=>f)).trans l;go_wp2_with fail;refine (N o2 w3 g (j.grew k3) (O.grew k3) R).mono ?_;rintro e w4 ⟨v2,rfl,I,k4⟩;have a:=J.1.grew k4;have d4:=aa ((b.grew k3).grew k4);have ag:=aa ((j.grew k3).grew k4);obtain ⟨a1,n1,c1,rfl,P,_,_,_,m⟩:=a.open;obtain ⟨a2,n2,c2,rfl,F,_,_,_,A⟩:=I.1.open;obtain rfl:n1=n:=by rw [← P.out,af]
 obtain rfl:n2=n1:=by rw [← F.out,af]
 clear G N j Q O l R J a I k3 k4 b P F T;go_wp2_with fail;go_loopw [9,28] (fun c i wr=>∃ (k c' D:Nat),k≤n2∧c'≤1∧i=.int .i64 (k:Int)∧c=.int .u64 (c':Int)∧Kept ae w4 wr ∧
   Hid (D<18446744073709551616^k∧D+Y%18446744073709551616^k=X%18446744073709551616^k+18446744073709551616^k*c')) (fun _ i _=>n2-(intOf i).toNat)
 case atStart=>exact ⟨0,0,0,Nat.zero_le _,by omega,rfl,rfl,ah _ _,by unfold Hid;simp [Nat.mod_one]⟩
 case round=>
  obtain ⟨k,c,D,hk,hc,rfl,rfl,d,HD⟩:=hrel;by_cases hkn:k<n2
  ·have al:(0:Int)≤(k:Int):=Int.natCast_nonneg _;have U:(k:Int)<(n2:Int):=by omega
   obtain ⟨b1,V,rfl,aj⟩:=cF ((m k hkn).grew d) hkn;obtain ⟨b2,Z,rfl,ai⟩:=cF ((A k hkn).grew d) hkn;have hx:dig X k<18446744073709551616:=Nat.mod_lt _ (by omega);have hy:dig Y k<18446744073709551616:=Nat.mod_lt _ (by omega);have HS:Hid (∀ z c',z<18446744073709551616→z+dig Y k+c=dig X k+18446744073709551616*c'→D+18446744073709551616^k*z<18446744073709551616^(k+1)∧D+18446744073709551616^k*z+Y%18446744073709551616^(k+1)=X%18446744073709551616^(k+1)+18446744073709551616^(k+1)*c'):=fun z c' hz h=>qp HD.out.1 HD.out.2 hz h
   clear m A HD;generalize dig X k=x at *;generalize dig Y k=y at *;go_wp2_with fail;go_region_with (go_at_call 165;refine (pf x y c hx hy hc _).mono ?_;rintro e w7 ⟨z,c',rfl,hz,ad,ac,rfl⟩)
   all_goals
    go_wp2_with fail;go_roundw
    case rel=>exact ⟨k+1,c',_,by omega,ad,by go_num,rfl,d.drew,HS.out z c' hz ac⟩
    case measure=>simp [intOf];omega
  ·have U:¬ (k:Int)<(n2:Int):=by omega
   have e:k=n2:=by omega
   subst e;have E:=aa (rN hX.out hY.out HD.out.1 HD.out.2);clear m A HD;go_wp2_with fail;go_ret;rw [← E.out];exact ⟨rfl,o2,d4.out.grew d⟩

theorem lZ (o:Tr) (u v:Value) (xs ys:List Nat) (w:World) (ht:TrRoom w o 1) (hu:RowT w o u xs) (hv:RowT w o v ys) (A:Digs xs) (z:Digs ys) (hL:xs.length≤100000000) (hM:ys.length≤100000000) :
  Calls Tryz.prog 188 #[aD o,u,v] w fun e w'=>e=.returned (.int .u64 (be (decide (val xs=val ys)):Nat))∧∃ o',Did w o [(1,(max xs.length ys.length:Nat),0)] w' o':=by
 obtain ⟨ao,L,cap,rfl,U,_,_,_,_⟩:=hu.1.open;obtain ⟨bo,M,C,rfl,H,_,_,_,_⟩:=hv.1.open;have eL:=U.out;have eM:=H.out;have hX:Hid (val xs<18446744073709551616^max L M):=bV A (by omega);have hY:Hid (val ys<18446744073709551616^max L M):=bV z (by omega);have hC:=iD ao bo L M cap C w;have G:=fun o' W g (t:TrIn W o') (r:RowT W o' (.slice ao L cap) xs) hg=>ke o' _ xs (max L M) g W t r A (by omega) (by omega) hg
 have N:=fun o' W g (t:TrIn W o') (r:RowT W o' (.slice bo M C) ys) hg=>ke o' _ ys (max L M) g W t r z (by omega) (by omega) hg
 have ap:max L M≤100000000:=by omega
 rw [eL,eM] at *;have HU:Hid (RowT w o (.slice ao L cap) xs):=hu;have HV:Hid (RowT w o (.slice bo M C) ys):=hv;have HT:Hid (TrRoom w o 1):=ht;obtain ⟨tp,D⟩:∃ tp,tp=aD o:=⟨_,rfl⟩
 rw [← D];have ag:Hid (tp=aD o):=D;clear hu hv ht U H eL eM A z hL hM D;generalize val xs=X at *;generalize val ys=Y at *;generalize max L M=n at *;go_enter Tryz.func188,Tryz.ntmps188;go_wp2_with fail;refine hC.mono ?_;rintro e w1 ⟨g,rfl,p,Z,k1⟩;have hS:=dG o n w1 (HT.out.1.grew k1);rw [← ag.out] at hS;clear hC;go_wp2_with fail;refine hS.mono ?_;rintro e w2 ⟨rfl,o2,d2⟩;have l:w2.heap[g]? = _:=(d2.kept.block g (lt_of_block p) (fun f=>by have:=HT.out.1.foot g f;omega)).trans p;have b:=Did.after k1 d2;have j:TrIn w2 o2:=(b.room (k:=0) HT.out).1;have R:=HU.out.did b;have P:=HV.out.did b;clear hS d2 k1 p;go_wp2_with fail
 refine (G o2 w2 g j R l).mono ?_;rintro e w3 ⟨v1,rfl,J,k3⟩;have S:=(k3.block g (lt_of_block l) (fun f=>f)).trans l;go_wp2_with fail;refine (N o2 w3 g (j.grew k3) (P.grew k3) S).mono ?_;rintro e w4 ⟨v2,rfl,I,k4⟩;have a:=J.1.grew k4;have d4:=aa ((b.grew k3).grew k4);have aj:=aa ((j.grew k3).grew k4);obtain ⟨a1,n1,c1,rfl,Q,_,_,_,m⟩:=a.open;obtain ⟨a2,n2,c2,rfl,F,_,_,_,B⟩:=I.1.open;obtain rfl:n1=n:=by rw [← Q.out,af]
 obtain rfl:n2=n1:=by rw [← F.out,af]
 clear G N j R P l S J a I k3 k4 b Q F Z;go_wp2_with fail;go_loopw [9,28] (fun c i wr=>∃ (k t:Nat),k≤n2∧t<18446744073709551616∧i=.int .i64 (k:Int)∧c=.int .u64 (t:Int)∧Kept ae w4 wr ∧
   Hid (t=0↔X%18446744073709551616^k=Y%18446744073709551616^k)) (fun _ i _=>n2-(intOf i).toNat)
 case atStart=>exact ⟨0,0,Nat.zero_le _,by omega,rfl,rfl,ah _ _,by unfold Hid;simp [Nat.mod_one]⟩
 case round=>
  obtain ⟨k,t,hk,O,rfl,rfl,d,HE⟩:=hrel;by_cases hkn:k<n2
  ·have aq:(0:Int)≤(k:Int):=Int.natCast_nonneg _;have ab:(k:Int)<(n2:Int):=by omega
   obtain ⟨b1,ac,rfl,an⟩:=cF ((m k hkn).grew d) hkn;obtain ⟨b2,ad,rfl,am⟩:=cF ((B k hkn).grew d) hkn;have hx:dig X k<18446744073709551616:=Nat.mod_lt _ (by omega);have hy:dig Y k<18446744073709551616:=Nat.mod_lt _ (by omega);have HS:=aa (oG (t:=t) (X:=X) (Y:=Y) (k:=k) HE.out);clear m B HE;generalize dig X k=x at *;generalize dig Y k=y at *;have ai:=u64_xor_nat x y hx hy;have T:x ^^^ y<18446744073709551616:=Nat.xor_lt_two_pow (n:=64) hx hy;generalize x ^^^ y=s at *;have ak:=u64_or_nat t s O T;have V:t ||| s<18446744073709551616:=Nat.or_lt_two_pow (n:=64) O T;generalize t ||| s=r at *;go_wp2_with fail;go_region
   all_goals
    go_wp2_with fail;go_roundw
    case rel=>exact ⟨k+1,r,by omega,V,by go_num,rfl,d.drew,HS.out⟩
    case measure=>simp [intOf];omega
  ·have ab:¬ (k:Int)<(n2:Int):=by omega
   have e:k=n2:=by omega
   subst e;have E:Hid (((t:Int)=0)↔X=Y):=by
    have:=HE.out;rw [al hX.out,al hY.out] at this;unfold Hid;rw [← this];omega
   have hZ:=fun W=>yE (t:Int) (by omega) (by omega) W
   have E2:Hid (zer (t:Int)=(be (decide (X=Y)):Nat)):=by
    unfold Hid zer be;by_cases h:X=Y
    ·rw [if_pos (E.out.2 h),if_pos (by simpa using h)];rfl
    ·rw [if_neg (fun q=>h (E.out.1 q)),if_neg (by simpa using h)];rfl
   clear m B HE;go_wp2_with fail;refine (hZ _).mono ?_;rintro e w7 ⟨rfl,rfl⟩;go_wp2_with fail;go_ret;rw [← E2.out];exact ⟨rfl,o2,d4.out.grew d⟩

theorem A6 (o:Tr) (u:Value) (xs:List Nat) (w:World) (ht:TrRoom w o 1) (hu:RowT w o u xs) (a:Digs xs) (hL:xs.length≤100000000) :
  Calls Tryz.prog 152 #[aD o,u] w fun e w'=>e=.returned (.int .u64 (be (decide (val xs=0)):Nat))∧∃ o',Did w o [(1,(xs.length:Nat),0)] w' o':=by
 have h:=lZ o u (.slice none 0 0) xs [] w ht hu ⟨Row.nil _ _,fun h=>absurd rfl h⟩ a (Digs.nil _) hL (by simp);rw [show val []=0 from rfl,List.length_nil,Nat.max_zero] at h;clear ht hu;generalize aD o=tp at *;generalize be (decide (val xs=0))=c at *;go_enter Tryz.func152,Tryz.ntmps152;go_wp2_with fail;refine h.mono ?_;rintro e w' ⟨rfl,o',hd⟩;go_wp2;go_ret;exact ⟨rfl,o',hd⟩

def BD (a:World) (o0:Tr) (m0:List Ev) (g base N cap n many K X V c:Nat) (w':World):Prop:=
 c≤1∧∃ (zs':List Nat) (Q:Nat) (o':Tr),OwnN .u64 23 w' base (.slice (some ⟨g,0,none⟩) N cap) N zs'∧zs'.length=N∧Digs zs' ∧
  val zs'+18446744073709551616^N*c=X+V*Q∧Q<18446744073709551616^many∧((V*K+1)%18446744073709551616=0→0<n→val zs'%18446744073709551616^many=0)∧Did a o0 (m0 ++ List.replicate many (1,(n:Int),0)) w' o'

theorem nE (a:World) (o0 o:Tr) (m0:List Ev) (g base N cap n d K m rl p:Nat) (ao bo:Option Addr) (zs ms:List Nat) (w:World) (hD:Did a o0 m0 w o) (ht:TrRoom a o0 (m0.length+d)) (hg:a.heap.size≤g)
  (ho:OwnN .u64 23 w base (.slice (some ⟨g,0,none⟩) N cap) N zs) (M:zs.length=N) (ak:Digs zs) (hN:N=n+d) (aV:N≤100000) (hm:RowT a o0 (.slice ao n m) ms) (au:Digs ms) (b0:Nat) (ob:Array Value) (tb:TypeId) (ap:w.heap[b0]? = some (.cells ob tb (0,0))) (aP:tb≠225) (aA:tb≠189) (aH:b0≠g) :
  Calls Tryz.prog 233 #[aD o,.agg #[.slice ao n m,.int .u64 (K:Nat),.slice bo rl p],.slice (some ⟨g,0,none⟩) N cap,.int .i64 (d:Nat)] w fun e w'=>
   ∃ c:Nat,e=.returned (.int .u64 (c:Nat))∧BD a o0 m0 g base N cap n d K (val zs) (val ms) c w'∧w'.heap[b0]? = some (.cells ob tb (0,0)):=by
 have hX:=aa (rfl:val zs=val zs);obtain ⟨_,_,_,e1,Z,_,_,_,_⟩:=hm.1.open;cases e1
 have HL:=aa Z.out;have HM:=aa hm;have av:=aa au;have HT:=aa ht;have HD:=aa hD;have HN:=aa hN;have HG:=aa hg;have HV:Hid (∀ V,V=val ms→val zs+18446744073709551616^(0+n)*0=val zs+V*0):=fun V _=>by simp
 have aZ:g<w.heap.size:=cL ho;obtain ⟨_,_,_,e1,_,a2,_,_,_⟩:=(Row.of_own (base:=base) (e:=23) (by rw [M];exact ho):Row .u64 w (.slice (some ⟨g,0,none⟩) N cap) zs).open;cases e1
 obtain ⟨tp,U⟩:∃ tp,tp=aD o:=⟨_,rfl⟩
 rw [← U];have aM:=aa (U.trans hD.ptr);obtain ⟨X,L⟩:∃ X,X=val zs:=⟨_,rfl⟩
 obtain ⟨V,O⟩:∃ V,V=val ms:=⟨_,rfl⟩
 rw [← L,← O];have an:=aa O;have k0:Kept ae w (w.alloc (.cells #[.slice ao n m,.int .u64 (K:Nat),.slice bo rl p] 130)):=(ah ae w).alloc _;have az:(w.alloc (.cells #[.slice ao n m,.int .u64 (K:Nat),.slice bo rl p] 130)).heap[w.heap.size]? = some (.cells #[.slice ao n m,.int .u64 (K:Nat),.slice bo rl p] 130 (0,0)):=heap_alloc_new _ _;have Y:=aa (hD.grew k0);have HO:=aa (k0.own ho (fun _ _ f=>f));have H:=aa az;have aw:=aa (am ap:(w.alloc (.cells #[.slice ao n m,.int .u64 (K:Nat),.slice bo rl p] 130)).heap[b0]? = some (.cells ob tb (0,0)));have HZ:=aa (show zs.length=N∧Digs zs∧X=val zs from ⟨M,ak,L⟩)
 clear hm au ht hD hN Z U O L az ho M ak hX HV hg k0 ap;go_enter Tryz.func233,Tryz.ntmps233;obtain ⟨p0,p1,p2⟩:=ay H.out;go_wp2_with fail;go_loopw [10,17] (fun ov i wr=>∃ (k c Q:Nat) (os:List Nat) (o1:Tr),k≤d∧c≤1∧i=.int .i64 (k:Int)∧ov=.int .u64 (c:Int)∧Hid (os.length=N)∧Hid (Digs os)∧OwnN .u64 23 wr base (.slice (some ⟨g,0,none⟩) N cap) N os∧Hid (val os+18446744073709551616^(k+n)*c=X+V*Q)∧Hid (Q<18446744073709551616^k)∧Hid ((V*K+1)%18446744073709551616=0→0<n→val os%18446744073709551616^k=0) ∧
   wr.heap[w.heap.size]? = some (.cells #[.slice ao n m,.int .u64 (K:Nat),.slice bo rl p] 130 (0,0))∧Hid (wr.heap[b0]? = some (.cells ob tb (0,0)))∧Hid (Did a o0 (m0 ++ List.replicate k (1,(n:Int),0)) wr o1)) (fun _ i _=>d-(intOf i).toNat)
 case atStart=>
  obtain ⟨z1,z2,z3⟩:=HZ.out;exact ⟨0,0,0,zs,o,Nat.zero_le _,by omega,rfl,rfl,z1,z2,HO.out,by unfold Hid;rw [← z3];simp,by unfold Hid;simp,fun _ _=>by simp [Nat.mod_one],H.out,aw.out,by unfold Hid;rw [List.replicate_zero,List.append_nil];exact Y.out⟩
 case round=>
  obtain ⟨k,c,Q,os,o1,hk,hc,rfl,rfl,A,v,ho,E,HQ,s,hx,D,C⟩:=hrel;clear p0 p1 p2 H HO Y HZ aw;by_cases hkn:k<d
  ·have a6:(0:Int)≤(k:Int):=Int.natCast_nonneg _;have aL:(k:Int)<(d:Int):=by omega
   have l:TrRoom wr o1 (d-k):=C.out.room (by rw [List.length_append,List.length_replicate,show m0.length+k+(d-k)=m0.length+d by omega];exact HT.out);have hS:=dG o1 (n:Int) wr l.1;rw [C.out.ptr,← aM.out] at hS;go_wp2_with fail;refine hS.mono ?_;rintro e w2 ⟨rfl,o2,d2⟩;have G:=d2.kept.own ho (eO ho l.1);have J:=(d2.kept.block _ (lt_of_block hx) (ax hx l.1 (by decide) (by decide))).trans hx;have al:=aa ((d2.kept.block _ (lt_of_block D.out) (ax D.out l.1 aP aA)).trans D.out);have t:=aa (C.out.trans d2);have ab:=HM.out.did t.out;have B:=d2.room (k:=0) (l.less (by simp;omega))
   have aB:¬ dx o2 g:=eO G B.1 _ rfl;clear hS ho d2 l C hx D;obtain ⟨p0,p1,p2⟩:=ay J;obtain ⟨q,hq⟩:∃ q,q=os.getD k 0*K%18446744073709551616:=⟨_,rfl⟩
   obtain ⟨S,hS⟩:∃ S,S=val ((os.drop k).take n)+V*q:=⟨_,rfl⟩
   obtain ⟨R,hR⟩:∃ R,R=S/18446744073709551616^n:=⟨_,rfl⟩
   have ar:q<18446744073709551616:=by rw [hq];exact Nat.mod_lt _ (by omega)
   have ac:k+n<N:=by have:=HN.out;omega
   have aY:k<cap:=by omega
   have aU:¬ cap=k:=by omega
   have aT:os.getD k 0<18446744073709551616:=v.out.getD (by omega) _;have aE:os.getD (k+n) 0<18446744073709551616:=v.out.getD (by omega) _;have aF:R<18446744073709551616:=by
    rw [hR,Nat.div_lt_iff_lt_mul (Nat.pow_pos (by omega)),hS];have h1:=jp (j:=k) (n:=n) v.out;have h2:V<18446744073709551616^n:=by rw [an.out,← HL.out];exact aq (by omega) av.out
    have h3:V*q≤18446744073709551616^n*q:=Nat.mul_le_mul_right _ (Nat.le_of_lt h2);have h4:18446744073709551616^n*(q+1)≤18446744073709551616^n*18446744073709551616:=Nat.mul_le_mul_left _ ar;rw [Nat.mul_add,Nat.mul_one] at h4;rw [Nat.mul_comm 18446744073709551616];omega
   have a3:w2.cell? ⟨g,k,none⟩=some (.int .u64 (os.getD k 0:Nat)):=by
    have aK:k<os.length:=by rw [A.out];omega
    rw [World.ownsRow.cellAt G k (by omega),List.getElem?_map,List.getD_eq_getElem?_getD,List.getElem?_eq_getElem aK];rfl
   have aC:((os.getD k 0:Nat):Int)*(K:Int)%18446744073709551616=(q:Int):=by rw [hq];omega
   have W:=gZ (w':=w2) (g:=g) HM.out.1 HG.out t.out.size;have HA:=fun W' (kk:Kept ae w2 W')=>yr g base N cap k n (cap-k) q os ms (.slice ao n m) W' (kk.own G (fun _ _ f=>f)) A.out v.out (by omega) (ab.1.grew kk) HL.out av.out W ar R S (by rw [← an.out];exact hS) hR
   have aG:Hid (∀ z c2,z+18446744073709551616*c2=os.getD (k+n) 0+R+c→z<18446744073709551616→val (os.take k ++ ((ag S n ++ [z]) ++ os.drop (k+(n+1))))+18446744073709551616^(k+1+n)*c2=X+V*(Q+18446744073709551616^k*q)∧Q+18446744073709551616^k*q<18446744073709551616^(k+1)∧((V*K+1)%18446744073709551616=0→0<n→val (os.take k ++ ((ag S n ++ [z]) ++ os.drop (k+(n+1))))%18446744073709551616^(k+1)=0)∧Digs (os.take k ++ ((ag S n ++ [z]) ++ os.drop (k+(n+1))))∧(os.take k ++ ((ag S n ++ [z]) ++ os.drop (k+(n+1)))).length=N):=fun z c2 hz T=>rG v.out A.out ac E.out HQ.out hq hS hR hz T s.out
   have P:Hid (∀ W' z,OwnN .u64 23 W' base (.slice (some ⟨g,0,none⟩) N cap) N (os.take k ++ (ag S n ++ os.drop (k+n)))→OwnN .u64 23 (W'.setCell ⟨g,k+n,none⟩ (.int .u64 ((z:Nat):Int))) base (.slice (some ⟨g,0,none⟩) N cap) N (os.take k ++ ((ag S n ++ [z]) ++ os.drop (k+(n+1))))):=fun W' z h=>by
    have:=(World.ownsRow.stored h (k+n) (.int .u64 (z:Int))).1;unfold OwnN;rw [← fz os _ k n z (af _ _ _) (by have:=A.out;omega),List.map_set];exact this
   have r:∀ W',OwnN .u64 23 W' base (.slice (some ⟨g,0,none⟩) N cap) N (os.take k ++ (ag S n ++ os.drop (k+n)))→W'.cell? ⟨g,k+n,none⟩=some (.int .u64 (os.getD (k+n) 0:Nat)):=fun W' h=>eP h A.out (af _ _ _) ac
   have ai:∀ W',OwnN .u64 23 W' base (.slice (some ⟨g,0,none⟩) N cap) N (os.take k ++ (ag S n ++ os.drop (k+n)))→W'.frozen? ⟨g,k+n,none⟩=false:=fun W' h=>World.ownsRow.frozenAt h (k+n)
   have ad:w.heap.size≠g:=by omega
   have F:=aa J;have aj:∀ W',Kept (fun b=>b=g) w2.drew W'→W'.cell? ⟨w.heap.size,0,none⟩=some (.slice ao n m)∧W'.cell? ⟨w.heap.size,1,none⟩=some (.int .u64 (K:Int)):=fun W' k=>by
    obtain ⟨a0,a1,_⟩:=ay ((k.block _ (lt_of_block F.out) ad).trans F.out);exact ⟨a0,a1⟩
   clear hq hS hR E HQ s ab G W J B;generalize os.getD k 0=x at *;generalize os.getD (k+n) 0=y at *;generalize os.take k ++ (ag S n ++ os.drop (k+n))=os' at *;have a4:(k:Int)+(n:Int)<(N:Int):=by omega
   have aQ:(k:Int)<(N:Int):=by omega
   have a5:(k:Int)+(n:Int)≤(cap:Int):=by omega
   have a7:(k:Int)≤(k:Int)+(n:Int):=by omega
   have aN:(0:Int)≤(k:Int)+(n:Int):=by omega
   have aI:((k:Int)+(n:Int)).toNat=k+n:=by omega
   have aW:IntKind.i64.wrap ((k:Int)+(n:Int))=(k:Int)+(n:Int):=by rw [IntKind.wrap_i64];omega
   have aX:IntKind.u64.wrap ((x:Int)*(K:Int))=(q:Int):=by rw [IntKind.wrap_u64];exact aC
   go_wp2_with fail;have JA:=aa HA;have JC:=aa r;have JF:=aa ai;have JK:=aa aj;clear HA r ai aj;go_region_with (go_at_call 250;refine (JA.out _ ((ah _ _).drew)).mono ?_;rintro e w3 ⟨rfl,I,k3⟩;have aS:=JC.out _ I;have aR:=JF.out _ I)
   all_goals
    go_wp2_with fail;refine (sI y R c aE aF hc _).mono ?_;rintro e w7 ⟨z,c2,rfl,T,aJ,aO,rfl⟩;obtain ⟨s1,s2,s3,s4,s5⟩:=aG.out z c2 aO T;go_wp2_with fail;go_roundw
    case rel=>
     have k4:Kept (fun b=>b=g) w2 (w7.setCell ⟨g,k+n,none⟩ (.int .u64 (z:Int))):=(((ah _ _).drew).trans k3).setCell _ (fun _=>rfl) _;exact ⟨k+1,c2,_,_,o2,by omega,aJ,by go_num,rfl,s5,s4,P.out _ z I,s1,s2,s3,(k4.block _ (lt_of_block F.out) ad).trans F.out,(k4.block _ (lt_of_block al.out) aH).trans al.out,by unfold Hid;rw [List.replicate_succ',← List.append_assoc];exact t.out.wroteNew k4 HG.out aB⟩
    case measure=>simp [intOf];omega
  ·have aL:¬ (k:Int)<(d:Int):=by omega
   obtain rfl:k=d:=by omega
   have e:=E.out;rw [show k+n=N by rw [HN.out,Nat.add_comm]] at e;have HE:=aa e;clear e E;go_wp2_with fail;go_ret;exact ⟨c,rfl,⟨hc,os,Q,o1,ho,A.out,v.out,HE.out,HQ.out,s.out,C.out⟩,D.out⟩

end Go.Proofs.YtcemlfokmjjiaaaGreatDoor
