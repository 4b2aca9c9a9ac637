/- Put together of: Lim2 MonB. -/
import Derived.Test.YtcemlfokmjjiaaaGreatDoorPm16

namespace Go.Proofs.YtcemlfokmjjiaaaGreatDoor
set_option maxRecDepth 100000
set_option maxHeartbeats 4000000
open Go.RowKit

theorem si {n X Y a c:Nat} {os:List Nat} (hl:os.length=n) (hd:Digs os) (hX:X<18446744073709551616^n) (hY:Y<18446744073709551616^n) (h:val os+18446744073709551616^n*c=X%18446744073709551616^n+(Y*(a%2))%18446744073709551616^n) :
  os=ai (aO a (X+Y) X) n∧c=aO a (bC (decide (2^(64*n)≤X+Y))) 0:=by
 have hv:=ar (by omega) hd;rw [hl] at hv;rw [← B64];have b:a%2=0∨a%2=1:=by omega
 rw [am hX] at h;rcases b with hb | hb
 ·rw [hb,Nat.mul_zero,Nat.zero_mod,Nat.add_zero] at h;unfold aO;rw [if_neg (by omega),if_neg (by omega)];have hc:c=0:=by
   rcases Nat.eq_zero_or_pos c with h0 | h0
   ·exact h0
   ·have:18446744073709551616^n*1≤18446744073709551616^n*c:=Nat.mul_le_mul_left _ h0;omega
  subst hc;refine ⟨bd (by omega) hd hl ?_,rfl⟩;rw [am hX];omega
 ·rw [hb,Nat.mul_one,am hY] at h;unfold aO bC;rw [if_pos hb,if_pos hb];refine ⟨bd (by omega) hd hl ?_,?_⟩
  ·rw [← h,Nat.add_mul_mod_self_left,am hv]
  ·have hc:c=0∨c=1∨2≤c:=by omega
   rcases hc with rfl | rfl | hc
   ·rw [if_neg];simp;omega
   ·rw [if_pos];simp;omega
   ·have:18446744073709551616^n*2≤18446744073709551616^n*c:=Nat.mul_le_mul_left _ hc;omega

theorem cF {xs:List Nat} {n:Nat} (hd:Digs xs) (hl:xs.length≤n):val xs<18446744073709551616^n:=
 Nat.lt_of_lt_of_le (ar (by omega) hd) (Nat.pow_le_pow_right (by omega) hl)

theorem cX {k:IntKind} {w:World} {ao:Option Addr} {X n i:Nat} (h:NumAt k w ao (ai X n) i) (hi:i<n):∃ b off,ao=some ⟨b,off,none⟩∧w.cell? ⟨b,off+i,none⟩=some (.int k (dig X i:Nat)):=by
 obtain ⟨b,off,e,hc⟩:=h;rw [dn _ _ _ _ hi] at hc;exact ⟨b,off,e,hc⟩

theorem sI (o:Tr) (a:Nat) (av:a<18446744073709551616) (u v:Value) (xs ys:List Nat) (w:World) (ht:TrRoom w o 1) (hu:RowT w o u xs) (hv:RowT w o v ys) (B:Digs xs) (F:Digs ys) (hL:xs.length≤100000000) (hM:ys.length≤100000000) :
  Calls Tryz.prog 248 #[aG o,.int .u64 (a:Nat),u,v] w fun e w'=>∃ v',e=.returned (.tuple #[v',.int .u64 (aO a (bC (decide (2^(64*max xs.length ys.length)≤val xs+val ys))) 0:Nat)]) ∧
   OwnN .u64 23 w' w.heap.size v' (max xs.length ys.length) (ai (aO a (val xs+val ys) (val xs)) (max xs.length ys.length))∧∃ o',Did w o [(1,(max xs.length ys.length:Nat),0)] w' o':=by
 obtain ⟨i0,ak,aj,ad,ap⟩:=info_parts Tryz.info23;obtain ⟨ao,L,cap,rfl,O,_,_,_,_⟩:=hu.1.open;obtain ⟨bo,M,D,rfl,R,_,_,_,_⟩:=hv.1.open;have eL:=O.out;have eM:=R.out;have hX:Hid (val xs<18446744073709551616^max L M):=cF B (by omega);have hY:Hid (val ys<18446744073709551616^max L M):=cF F (by omega);have hC:=iQ ao bo L M cap D w;have V:=fun o' W g (t:TrIn W o') (r:RowT W o' (.slice ao L cap) xs) hg=>kD o' _ xs (max L M) g W t r B (by omega) (by omega) hg
 have Q:=fun o' W g (t:TrIn W o') (r:RowT W o' (.slice bo M D) ys) hg=>kD o' _ ys (max L M) g W t r F (by omega) (by omega) hg
 have aC:max L M≤100000000:=by omega
 rw [eL,eM] at *;have U:=fun W=>nW (a:Int) (by omega) (by omega) W
 have HU:Hid (RowT w o (.slice ao L cap) xs):=hu;have HV:Hid (RowT w o (.slice bo M D) ys):=hv;have HT:Hid (TrRoom w o 1):=ht;obtain ⟨tp,A⟩:∃ tp,tp=aG o:=⟨_,rfl⟩
 rw [← A];have ae:Hid (tp=aG o):=A;clear hu hv ht O R eL eM B F hL hM A;generalize val xs=X at *;generalize val ys=Y at *;generalize max L M=n at *;go_enter Tryz.func248,Tryz.ntmps248;go_wp2_with fail;refine hC.mono ?_;rintro e w1 ⟨g,rfl,E,al,k1⟩;have hS:=dX o n w1 (HT.out.1.grew k1);rw [← ae.out] at hS;clear hC;go_wp2_with fail;refine hS.mono ?_;rintro e w2 ⟨rfl,o2,d2⟩;have q:w2.heap[g]? = _:=(d2.kept.block g (lt_of_block E) (fun f=>by have:=HT.out.1.foot g f;omega)).trans E;have j:=Did.after k1 d2;have p:TrIn w2 o2:=(j.room (k:=0) HT.out).1;have ab:=HU.out.did j;have J:=HV.out.did j;clear hS d2 k1 E;go_wp2_with fail
 refine (V o2 w2 g p ab q).mono ?_;rintro e w3 ⟨v1,rfl,T,k3⟩;have ac:=(k3.block g (lt_of_block q) (fun f=>f)).trans q;go_wp2_with fail;refine (Q o2 w3 g (p.grew k3) (J.grew k3) ac).mono ?_;rintro e w4 ⟨v2,rfl,N,k4⟩;have d:=T.1.grew k4;have d4:=aa ((j.grew k3).grew k4);have aD:=aa ((p.grew k3).grew k4);obtain ⟨a1,n1,c1,rfl,Z,_,_,_,C⟩:=d.open;obtain ⟨a2,n2,c2,rfl,H,_,_,_,G⟩:=N.1.open;obtain rfl:n1=n:=by rw [← Z.out,ag]
 obtain rfl:n2=n1:=by rw [← H.out,ag]
 have an:Hid (w.heap.size≤w4.heap.size):=d4.out.size;clear V Q p ab J q ac T d N k3 k4 j Z H al;go_wp2_with (at_make;refine wpList_make_full _ rfl _ _ 32 rfl w4.heap.size 23 i0 _ 1 Tryz.underlying32 ak aj ad _ _ _ _ n2 rfl rfl rfl rfl (by rw [ap];omega) (by unfold maxLen;omega) (leR _) ?_;intro w5 l S);rw [aJ] at l;have k5:=aE S;clear S;refine (U _).mono ?_;rintro e w6 ⟨rfl,rfl⟩;clear U;go_wp2_with fail
 go_loopw [14,37] (fun c i wr=>∃ (k c':Nat) (os:List Nat),k≤n2∧c'≤1∧i=.int .i64 (k:Int)∧c=.int .u64 (c':Int)∧Hid (os.length=k)∧Digs os∧OwnN .u64 23 wr w4.heap.size (.slice (some ⟨w4.heap.size,0,none⟩) n2 n2) n2 (os ++ List.replicate (n2-k) 0)∧Kept af w4 wr ∧
   Hid (val os+18446744073709551616^k*c'=X%18446744073709551616^k+(Y*(a%2))%18446744073709551616^k)) (fun _ i _=>n2-(intOf i).toNat)
 case atStart=>exact ⟨0,0,[],Nat.zero_le _,by omega,rfl,rfl,rfl,Digs.nil _,by rw [List.nil_append,Nat.sub_zero];exact l,k5,by unfold Hid;simp [val,Nat.mod_one]⟩
 case round=>
  obtain ⟨k,c,os,hk,hc,rfl,rfl,HL,I,ho,m,s⟩:=hrel;by_cases hkn:k<n2
  ·have aF:(0:Int)≤(k:Int):=Int.natCast_nonneg _;have ay:(k:Int)<(n2:Int):=by omega
   obtain ⟨b1,aw,rfl,aB⟩:=cX ((C k hkn).grew m) hkn;obtain ⟨b2,ar,rfl,aA⟩:=cX ((G k hkn).grew m) hkn;have az:=eG ho HL.out hkn;have hf:=World.ownsRow.frozenAt ho k;have P:=fun u=>(World.ownsRow.stored ho k u).1
   have hx:dig X k<18446744073709551616:=Nat.mod_lt _ (by omega);have hy:dig Y k<18446744073709551616:=Nat.mod_lt _ (by omega);have HS:Hid (∀ z c',z+18446744073709551616*c'=dig X k+dig Y k*(a%2)+c→val (os ++ [z])+18446744073709551616^(k+1)*c'=X%18446744073709551616^(k+1)+(Y*(a%2))%18446744073709551616^(k+1)):=fun z c' h=>qX HL.out s.out (by rw [pM];exact h)
   have aq:=qu (dig Y k) a hy;have ax:dig Y k*(a%2)<18446744073709551616:=by
    have:a%2=0∨a%2=1:=by omega
    rcases this with h | h <;> rw [h] <;> omega
   have am:Hid (∀ u:Nat,OwnN .u64 23 (wr.setCell ⟨w4.heap.size,k,none⟩ (.int .u64 (u:Int))) w4.heap.size (.slice (some ⟨w4.heap.size,0,none⟩) n2 n2) n2 ((os ++ [u]) ++ List.replicate (n2-(k+1)) 0)):=fun u=>by
    have:=P (.int .u64 (u:Int));unfold OwnN;rw [← fT os n2 k u HL.out hkn,List.map_set];exact this
   clear C G s P l k5;generalize dig X k=x at *;generalize dig Y k=y at *;generalize y*(a%2)=y' at *;go_wp2_with fail;go_region_with (go_at_call 251;refine (ve x y' c hx ax hc _).mono ?_;rintro e w7 ⟨z,c',rfl,hz,ah,au,rfl⟩)
   all_goals
    go_wp2_with fail;go_roundw
    case rel=>exact ⟨k+1,c',os ++ [z],by omega,ah,by go_num,rfl,by unfold Hid;rw [List.length_append,HL.out];rfl,I.append (Digs.one hz),am.out z,(m.setCell _ (fun h=>by simp at h) _).drew,HS.out z c' au⟩
    case measure=>simp [intOf];omega
  ·have ay:¬ (k:Int)<(n2:Int):=by omega
   have e:k=n2:=by omega
   subst e;rw [Nat.sub_self,List.replicate_zero,List.append_nil] at ho;obtain ⟨e1,e2⟩:=si HL.out I hX.out hY.out s.out;have E1:=aa e1;have E2:=aa e2;clear e1 e2 C G s l k5;go_wp2_with fail;go_ret2;rw [← E1.out,← E2.out];exact ⟨_,rfl,bg ho (fun b hb=>Nat.le_trans an.out (ho.lt b hb).1),o2,d4.out.grew m⟩

theorem qW {n X Y a c:Nat} {os:List Nat} (hl:os.length=n) (hd:Digs os) (hX:X<18446744073709551616^n) (hY:Y<18446744073709551616^n) (h:val os+(Y*(a%2))%18446744073709551616^n=X%18446744073709551616^n+18446744073709551616^n*c) :
  os=ai (aO a (dg X Y n) X) n∧c=aO a (bC (decide (X<Y))) 0:=by
 have hv:=ar (by omega) hd;rw [hl] at hv;unfold dg;rw [← B64];have b:a%2=0∨a%2=1:=by omega
 have d:c=0∨c=1∨18446744073709551616^n*2≤18446744073709551616^n*c:=by
  have hc:c=0∨c=1∨2≤c:=by omega
  rcases hc with h | h | h
  ·exact .inl h
  ·exact .inr (.inl h)
  ·exact .inr (.inr (Nat.mul_le_mul_left _ h))
 rw [am hX] at h;rcases b with hb | hb
 ·rw [hb,Nat.mul_zero,Nat.zero_mod,Nat.add_zero] at h;unfold aO;rw [if_neg (by omega),if_neg (by omega)];rcases d with rfl | rfl | hc
  ·refine ⟨bd (by omega) hd hl ?_,rfl⟩;rw [am hX];omega
  ·omega
  ·omega
 ·rw [hb,Nat.mul_one,am hY] at h;unfold aO bC;rw [if_pos hb,if_pos hb];rcases d with rfl | rfl | hc
  ·have hn:¬ X<Y:=by omega
   rw [if_neg hn];refine ⟨bd (by omega) hd hl ?_,by rw [if_neg];simpa using hn⟩;rw [am (by omega)];omega
  ·have hn:X<Y:=by omega
   rw [if_pos hn];refine ⟨bd (by omega) hd hl ?_,by rw [if_pos];simpa using hn⟩;rw [am (by omega)];omega
  ·omega

theorem pa (o:Tr) (a:Nat) (av:a<18446744073709551616) (u v:Value) (xs ys:List Nat) (w:World) (ht:TrRoom w o 1) (hu:RowT w o u xs) (hv:RowT w o v ys) (B:Digs xs) (F:Digs ys) (hL:xs.length≤100000000) (hM:ys.length≤100000000) :
  Calls Tryz.prog 118 #[aG o,.int .u64 (a:Nat),u,v] w fun e w'=>∃ v',e=.returned (.tuple #[v',.int .u64 (aO a (bC (decide (val xs<val ys))) 0:Nat)]) ∧
   OwnN .u64 23 w' w.heap.size v' (max xs.length ys.length) (ai (aO a (dg (val xs) (val ys) (max xs.length ys.length)) (val xs)) (max xs.length ys.length))∧∃ o',Did w o [(1,(max xs.length ys.length:Nat),0)] w' o':=by
 obtain ⟨i0,ak,aj,ad,ap⟩:=info_parts Tryz.info23;obtain ⟨ao,L,cap,rfl,O,_,_,_,_⟩:=hu.1.open;obtain ⟨bo,M,D,rfl,R,_,_,_,_⟩:=hv.1.open;have eL:=O.out;have eM:=R.out;have hX:Hid (val xs<18446744073709551616^max L M):=cF B (by omega);have hY:Hid (val ys<18446744073709551616^max L M):=cF F (by omega);have hC:=iQ ao bo L M cap D w;have V:=fun o' W g (t:TrIn W o') (r:RowT W o' (.slice ao L cap) xs) hg=>kD o' _ xs (max L M) g W t r B (by omega) (by omega) hg
 have Q:=fun o' W g (t:TrIn W o') (r:RowT W o' (.slice bo M D) ys) hg=>kD o' _ ys (max L M) g W t r F (by omega) (by omega) hg
 have aC:max L M≤100000000:=by omega
 rw [eL,eM] at *;have U:=fun W=>nW (a:Int) (by omega) (by omega) W
 have HU:Hid (RowT w o (.slice ao L cap) xs):=hu;have HV:Hid (RowT w o (.slice bo M D) ys):=hv;have HT:Hid (TrRoom w o 1):=ht;obtain ⟨tp,A⟩:∃ tp,tp=aG o:=⟨_,rfl⟩
 rw [← A];have ae:Hid (tp=aG o):=A;clear hu hv ht O R eL eM B F hL hM A;generalize val xs=X at *;generalize val ys=Y at *;generalize max L M=n at *;go_enter Tryz.func118,Tryz.ntmps118;go_wp2_with fail;refine hC.mono ?_;rintro e w1 ⟨g,rfl,E,al,k1⟩;have hS:=dX o n w1 (HT.out.1.grew k1);rw [← ae.out] at hS;clear hC;go_wp2_with fail;refine hS.mono ?_;rintro e w2 ⟨rfl,o2,d2⟩;have q:w2.heap[g]? = _:=(d2.kept.block g (lt_of_block E) (fun f=>by have:=HT.out.1.foot g f;omega)).trans E;have j:=Did.after k1 d2;have p:TrIn w2 o2:=(j.room (k:=0) HT.out).1;have ab:=HU.out.did j;have J:=HV.out.did j;clear hS d2 k1 E;go_wp2_with fail
 refine (V o2 w2 g p ab q).mono ?_;rintro e w3 ⟨v1,rfl,T,k3⟩;have ac:=(k3.block g (lt_of_block q) (fun f=>f)).trans q;go_wp2_with fail;refine (Q o2 w3 g (p.grew k3) (J.grew k3) ac).mono ?_;rintro e w4 ⟨v2,rfl,N,k4⟩;have d:=T.1.grew k4;have d4:=aa ((j.grew k3).grew k4);have aD:=aa ((p.grew k3).grew k4);obtain ⟨a1,n1,c1,rfl,Z,_,_,_,C⟩:=d.open;obtain ⟨a2,n2,c2,rfl,H,_,_,_,G⟩:=N.1.open;obtain rfl:n1=n:=by rw [← Z.out,ag]
 obtain rfl:n2=n1:=by rw [← H.out,ag]
 have an:Hid (w.heap.size≤w4.heap.size):=d4.out.size;clear V Q p ab J q ac T d N k3 k4 j Z H al;go_wp2_with (at_make;refine wpList_make_full _ rfl _ _ 32 rfl w4.heap.size 23 i0 _ 1 Tryz.underlying32 ak aj ad _ _ _ _ n2 rfl rfl rfl rfl (by rw [ap];omega) (by unfold maxLen;omega) (leR _) ?_;intro w5 l S);rw [aJ] at l;have k5:=aE S;clear S;refine (U _).mono ?_;rintro e w6 ⟨rfl,rfl⟩;clear U;go_wp2_with fail
 go_loopw [14,37] (fun c i wr=>∃ (k c':Nat) (os:List Nat),k≤n2∧c'≤1∧i=.int .i64 (k:Int)∧c=.int .u64 (c':Int)∧Hid (os.length=k)∧Digs os∧OwnN .u64 23 wr w4.heap.size (.slice (some ⟨w4.heap.size,0,none⟩) n2 n2) n2 (os ++ List.replicate (n2-k) 0)∧Kept af w4 wr ∧
   Hid (val os+(Y*(a%2))%18446744073709551616^k=X%18446744073709551616^k+18446744073709551616^k*c')) (fun _ i _=>n2-(intOf i).toNat)
 case atStart=>exact ⟨0,0,[],Nat.zero_le _,by omega,rfl,rfl,rfl,Digs.nil _,by rw [List.nil_append,Nat.sub_zero];exact l,k5,by unfold Hid;simp [val,Nat.mod_one]⟩
 case round=>
  obtain ⟨k,c,os,hk,hc,rfl,rfl,HL,I,ho,m,s⟩:=hrel;by_cases hkn:k<n2
  ·have aF:(0:Int)≤(k:Int):=Int.natCast_nonneg _;have ay:(k:Int)<(n2:Int):=by omega
   obtain ⟨b1,aw,rfl,aB⟩:=cX ((C k hkn).grew m) hkn;obtain ⟨b2,ar,rfl,aA⟩:=cX ((G k hkn).grew m) hkn;have az:=eG ho HL.out hkn;have hf:=World.ownsRow.frozenAt ho k;have P:=fun u=>(World.ownsRow.stored ho k u).1
   have hx:dig X k<18446744073709551616:=Nat.mod_lt _ (by omega);have hy:dig Y k<18446744073709551616:=Nat.mod_lt _ (by omega);have HS:Hid (∀ z c',z+dig Y k*(a%2)+c=dig X k+18446744073709551616*c'→val (os ++ [z])+(Y*(a%2))%18446744073709551616^(k+1)=X%18446744073709551616^(k+1)+18446744073709551616^(k+1)*c'):=fun z c' h=>rM HL.out s.out (by rw [pM];exact h)
   have aq:=qu (dig Y k) a hy;have ax:dig Y k*(a%2)<18446744073709551616:=by
    have:a%2=0∨a%2=1:=by omega
    rcases this with h | h <;> rw [h] <;> omega
   have am:Hid (∀ u:Nat,OwnN .u64 23 (wr.setCell ⟨w4.heap.size,k,none⟩ (.int .u64 (u:Int))) w4.heap.size (.slice (some ⟨w4.heap.size,0,none⟩) n2 n2) n2 ((os ++ [u]) ++ List.replicate (n2-(k+1)) 0)):=fun u=>by
    have:=P (.int .u64 (u:Int));unfold OwnN;rw [← fT os n2 k u HL.out hkn,List.map_set];exact this
   clear C G s P l k5;generalize dig X k=x at *;generalize dig Y k=y at *;generalize y*(a%2)=y' at *;go_wp2_with fail;go_region_with (go_at_call 165;refine (pY x y' c hx ax hc _).mono ?_;rintro e w7 ⟨z,c',rfl,hz,ah,au,rfl⟩)
   all_goals
    go_wp2_with fail;go_roundw
    case rel=>exact ⟨k+1,c',os ++ [z],by omega,ah,by go_num,rfl,by unfold Hid;rw [List.length_append,HL.out];rfl,I.append (Digs.one hz),am.out z,(m.setCell _ (fun h=>by simp at h) _).drew,HS.out z c' au⟩
    case measure=>simp [intOf];omega
  ·have ay:¬ (k:Int)<(n2:Int):=by omega
   have e:k=n2:=by omega
   subst e;rw [Nat.sub_self,List.replicate_zero,List.append_nil] at ho;obtain ⟨e1,e2⟩:=qW HL.out I hX.out hY.out s.out;have E1:=aa e1;have E2:=aa e2;clear e1 e2 C G s l k5;go_wp2_with fail;go_ret2;rw [← E1.out,← E2.out];exact ⟨_,rfl,bg ho (fun b hb=>Nat.le_trans an.out (ho.lt b hb).1),o2,d4.out.grew m⟩

theorem CW (A B:Nat):aO 1 A B=A:=by unfold aO;rw [if_pos (by omega)]

theorem pq (o:Tr) (u v:Value) (xs ys:List Nat) (w:World) (ht:TrRoom w o 1) (hu:RowT w o u xs) (hv:RowT w o v ys) (a:Digs xs) (b:Digs ys) (hL:xs.length≤100000000) (hM:ys.length≤100000000) :
  Calls Tryz.prog 78 #[aG o,u,v] w fun e w'=>∃ v',e=.returned (.tuple #[v',.int .u64 (bC (decide (val xs<val ys)):Nat)]) ∧
   OwnN .u64 23 w' w.heap.size v' (max xs.length ys.length) (ai (dg (val xs) (val ys) (max xs.length ys.length)) (max xs.length ys.length))∧∃ o',Did w o [(1,(max xs.length ys.length:Nat),0)] w' o':=by
 have h:=pa o 1 (by omega) u v xs ys w ht hu hv a b hL hM;simp only [CW] at h;clear ht hu hv;generalize aG o=tp at *;generalize bC (decide (val xs<val ys))=c at *;go_enter Tryz.func78,Tryz.ntmps78;go_wp2_with fail;refine h.mono ?_;rintro e w' ⟨v',rfl,ho,o',hd⟩;go_wp2;go_ret2;exact ⟨_,rfl,ho,o',hd⟩

theorem qI {B X Y k c z c' D:Nat} (hD:D<B^k) (h:D+Y%B^k=X%B^k+B^k*c) (a:z<B) (hz:z+dig Y k B+c=dig X k B+B*c') :
  D+B^k*z<B^(k+1)∧D+B^k*z+Y%B^(k+1)=X%B^(k+1)+B^(k+1)*c':=by
 rw [cJ,cJ,Nat.pow_succ,Nat.mul_assoc];have e:B^k*(z+dig Y k B+c)=B^k*(dig X k B+B*c'):=by rw [hz]
 rw [Nat.mul_add,Nat.mul_add,Nat.mul_add] at e;have h1:B^k*(z+1)≤B^k*B:=Nat.mul_le_mul_left _ a;rw [Nat.mul_add,Nat.mul_one] at h1;constructor <;> omega

theorem tG {n X Y c D:Nat} (hX:X<18446744073709551616^n) (hY:Y<18446744073709551616^n) (hD:D<18446744073709551616^n) (h:D+Y%18446744073709551616^n=X%18446744073709551616^n+18446744073709551616^n*c):c=bC (decide (X<Y)):=by
 rw [am hX,am hY] at h;have hc:c=0∨c=1∨2≤c:=by omega
 unfold bC;rcases hc with rfl | rfl | hc
 ·rw [if_neg];simp;omega
 ·rw [if_pos];simp;omega
 ·have:18446744073709551616^n*2≤18446744073709551616^n*c:=Nat.mul_le_mul_left _ hc;omega

theorem ol (a b:Nat):a ||| b=0↔a=0∧b=0:=by
 constructor
 ·intro h;have h1:a≤a ||| b:=Nat.left_le_or;have h2:b≤a ||| b:=Nat.right_le_or;omega
 ·rintro ⟨rfl,rfl⟩;rfl

theorem me (a b:Nat):a ^^^ b=0↔a=b:=by
 constructor
 ·intro e;have e2:a ^^^ (a ^^^ b)=a ^^^ 0:=by rw [e]
  rw [← Nat.xor_assoc,Nat.xor_self,Nat.zero_xor,Nat.xor_zero] at e2;exact e2.symm
 ·rintro rfl;exact Nat.xor_self _

theorem pd {t X Y k:Nat} (h:t=0↔X%18446744073709551616^k=Y%18446744073709551616^k):(t ||| (dig X k ^^^ dig Y k))=0↔X%18446744073709551616^(k+1)=Y%18446744073709551616^(k+1):=by
 have hp:0<18446744073709551616^k:=Nat.pow_pos (by omega);have hX:X%18446744073709551616^k<18446744073709551616^k:=Nat.mod_lt _ hp;have hY:Y%18446744073709551616^k<18446744073709551616^k:=Nat.mod_lt _ hp;rw [ol,me,h,cJ,cJ];generalize 18446744073709551616^k=p at *;generalize dig X k=x at *;generalize dig Y k=y at *;constructor
 ·rintro ⟨h1,rfl⟩;rw [h1]
 ·intro e;have e1:(X%p+p*x)%p=(Y%p+p*y)%p:=by rw [e]
  rw [Nat.add_mul_mod_self_left,Nat.add_mul_mod_self_left,Nat.mod_mod,Nat.mod_mod] at e1;refine ⟨e1,?_⟩;rw [e1] at e;exact Nat.eq_of_mul_eq_mul_left hp (by omega)

theorem oJ (o:Tr) (u v:Value) (xs ys:List Nat) (w:World) (ht:TrRoom w o 1) (hu:RowT w o u xs) (hv:RowT w o v ys) (p:Digs xs) (B:Digs ys) (hL:xs.length≤100000000) (hM:ys.length≤100000000) :
  Calls Tryz.prog 144 #[aG o,u,v] w fun e w'=>e=.returned (.int .u64 (bC (decide (val xs<val ys)):Nat))∧∃ o',Did w o [(1,(max xs.length ys.length:Nat),0)] w' o':=by
 obtain ⟨ao,L,cap,rfl,I,_,_,_,_⟩:=hu.1.open;obtain ⟨bo,M,s,rfl,N,_,_,_,_⟩:=hv.1.open;have eL:=I.out;have eM:=N.out;have hX:Hid (val xs<18446744073709551616^max L M):=cF p (by omega);have hY:Hid (val ys<18446744073709551616^max L M):=cF B (by omega);have hC:=iQ ao bo L M cap s w;have P:=fun o' W g (t:TrIn W o') (r:RowT W o' (.slice ao L cap) xs) hg=>kD o' _ xs (max L M) g W t r p (by omega) (by omega) hg
 have J:=fun o' W g (t:TrIn W o') (r:RowT W o' (.slice bo M s) ys) hg=>kD o' _ ys (max L M) g W t r B (by omega) (by omega) hg
 have aj:max L M≤100000000:=by omega
 rw [eL,eM] at *;have HU:Hid (RowT w o (.slice ao L cap) xs):=hu;have HV:Hid (RowT w o (.slice bo M s) ys):=hv;have HT:Hid (TrRoom w o 1):=ht;obtain ⟨tp,m⟩:∃ tp,tp=aG o:=⟨_,rfl⟩
 rw [← m];have T:Hid (tp=aG o):=m;clear hu hv ht I N eL eM p B hL hM m;generalize val xs=X at *;generalize val ys=Y at *;generalize max L M=n at *;go_enter Tryz.func144,Tryz.ntmps144;go_wp2_with fail;refine hC.mono ?_;rintro e w1 ⟨g,rfl,A,V,k1⟩;have hS:=dX o n w1 (HT.out.1.grew k1);rw [← T.out] at hS;clear hC;go_wp2_with fail;refine hS.mono ?_;rintro e w2 ⟨rfl,o2,d2⟩;have l:w2.heap[g]? = _:=(d2.kept.block g (lt_of_block A) (fun f=>by have:=HT.out.1.foot g f;omega)).trans A;have b:=Did.after k1 d2;have j:TrIn w2 o2:=(b.room (k:=0) HT.out).1;have R:=HU.out.did b;have G:=HV.out.did b;clear hS d2 k1 A;go_wp2_with fail
 refine (P o2 w2 g j R l).mono ?_;rintro e w3 ⟨v1,rfl,O,k3⟩;have S:=(k3.block g (lt_of_block l) (fun f=>f)).trans l;go_wp2_with fail;refine (J o2 w3 g (j.grew k3) (G.grew k3) S).mono ?_;rintro e w4 ⟨v2,rfl,H,k4⟩;have a:=O.1.grew k4;have d4:=aa ((b.grew k3).grew k4);have ak:=aa ((j.grew k3).grew k4);obtain ⟨a1,n1,c1,rfl,Q,_,_,_,q⟩:=a.open;obtain ⟨a2,n2,c2,rfl,F,_,_,_,C⟩:=H.1.open;obtain rfl:n1=n:=by rw [← Q.out,ag]
 obtain rfl:n2=n1:=by rw [← F.out,ag]
 clear P J j R G l S O a H k3 k4 b Q F V;go_wp2_with fail;go_loopw [9,28] (fun c i wr=>∃ (k c' D:Nat),k≤n2∧c'≤1∧i=.int .i64 (k:Int)∧c=.int .u64 (c':Int)∧Kept af w4 wr ∧
   Hid (D<18446744073709551616^k∧D+Y%18446744073709551616^k=X%18446744073709551616^k+18446744073709551616^k*c')) (fun _ i _=>n2-(intOf i).toNat)
 case atStart=>exact ⟨0,0,0,Nat.zero_le _,by omega,rfl,rfl,ah _ _,by unfold Hid;simp [Nat.mod_one]⟩
 case round=>
  obtain ⟨k,c,D,hk,hc,rfl,rfl,d,HD⟩:=hrel;by_cases hkn:k<n2
  ·have al:(0:Int)≤(k:Int):=Int.natCast_nonneg _;have ad:(k:Int)<(n2:Int):=by omega
   obtain ⟨b1,ac,rfl,ai⟩:=cX ((q k hkn).grew d) hkn;obtain ⟨b2,Z,rfl,ae⟩:=cX ((C k hkn).grew d) hkn;have hx:dig X k<18446744073709551616:=Nat.mod_lt _ (by omega);have hy:dig Y k<18446744073709551616:=Nat.mod_lt _ (by omega);have HS:Hid (∀ z c',z<18446744073709551616→z+dig Y k+c=dig X k+18446744073709551616*c'→D+18446744073709551616^k*z<18446744073709551616^(k+1)∧D+18446744073709551616^k*z+Y%18446744073709551616^(k+1)=X%18446744073709551616^(k+1)+18446744073709551616^(k+1)*c'):=fun z c' hz h=>qI HD.out.1 HD.out.2 hz h
   clear q C HD;generalize dig X k=x at *;generalize dig Y k=y at *;go_wp2_with fail;go_region_with (go_at_call 165;refine (pY x y c hx hy hc _).mono ?_;rintro e w7 ⟨z,c',rfl,hz,U,ab,rfl⟩)
   all_goals
    go_wp2_with fail;go_roundw
    case rel=>exact ⟨k+1,c',_,by omega,U,by go_num,rfl,d.drew,HS.out z c' hz ab⟩
    case measure=>simp [intOf];omega
  ·have ad:¬ (k:Int)<(n2:Int):=by omega
   have e:k=n2:=by omega
   subst e;have E:=aa (tG hX.out hY.out HD.out.1 HD.out.2);clear q C HD;go_wp2_with fail;go_ret;rw [← E.out];exact ⟨rfl,o2,d4.out.grew d⟩

theorem mH (o:Tr) (u v:Value) (xs ys:List Nat) (w:World) (ht:TrRoom w o 1) (hu:RowT w o u xs) (hv:RowT w o v ys) (p:Digs xs) (C:Digs ys) (hL:xs.length≤100000000) (hM:ys.length≤100000000) :
  Calls Tryz.prog 188 #[aG o,u,v] w fun e w'=>e=.returned (.int .u64 (bC (decide (val xs=val ys)):Nat))∧∃ o',Did w o [(1,(max xs.length ys.length:Nat),0)] w' o':=by
 obtain ⟨ao,L,cap,rfl,I,_,_,_,_⟩:=hu.1.open;obtain ⟨bo,M,A,rfl,N,_,_,_,_⟩:=hv.1.open;have eL:=I.out;have eM:=N.out;have hX:Hid (val xs<18446744073709551616^max L M):=cF p (by omega);have hY:Hid (val ys<18446744073709551616^max L M):=cF C (by omega);have hC:=iQ ao bo L M cap A w;have Q:=fun o' W g (t:TrIn W o') (r:RowT W o' (.slice ao L cap) xs) hg=>kD o' _ xs (max L M) g W t r p (by omega) (by omega) hg
 have J:=fun o' W g (t:TrIn W o') (r:RowT W o' (.slice bo M A) ys) hg=>kD o' _ ys (max L M) g W t r C (by omega) (by omega) hg
 have al:max L M≤100000000:=by omega
 rw [eL,eM] at *;have HU:Hid (RowT w o (.slice ao L cap) xs):=hu;have HV:Hid (RowT w o (.slice bo M A) ys):=hv;have HT:Hid (TrRoom w o 1):=ht;obtain ⟨tp,m⟩:∃ tp,tp=aG o:=⟨_,rfl⟩
 rw [← m];have V:Hid (tp=aG o):=m;clear hu hv ht I N eL eM p C hL hM m;generalize val xs=X at *;generalize val ys=Y at *;generalize max L M=n at *;go_enter Tryz.func188,Tryz.ntmps188;go_wp2_with fail;refine hC.mono ?_;rintro e w1 ⟨g,rfl,B,ab,k1⟩;have hS:=dX o n w1 (HT.out.1.grew k1);rw [← V.out] at hS;clear hC;go_wp2_with fail;refine hS.mono ?_;rintro e w2 ⟨rfl,o2,d2⟩;have l:w2.heap[g]? = _:=(d2.kept.block g (lt_of_block B) (fun f=>by have:=HT.out.1.foot g f;omega)).trans B;have b:=Did.after k1 d2;have j:TrIn w2 o2:=(b.room (k:=0) HT.out).1;have T:=HU.out.did b;have G:=HV.out.did b;clear hS d2 k1 B;go_wp2_with fail
 refine (Q o2 w2 g j T l).mono ?_;rintro e w3 ⟨v1,rfl,P,k3⟩;have U:=(k3.block g (lt_of_block l) (fun f=>f)).trans l;go_wp2_with fail;refine (J o2 w3 g (j.grew k3) (G.grew k3) U).mono ?_;rintro e w4 ⟨v2,rfl,H,k4⟩;have a:=P.1.grew k4;have d4:=aa ((b.grew k3).grew k4);have an:=aa ((j.grew k3).grew k4);obtain ⟨a1,n1,c1,rfl,R,_,_,_,z⟩:=a.open;obtain ⟨a2,n2,c2,rfl,F,_,_,_,D⟩:=H.1.open;obtain rfl:n1=n:=by rw [← R.out,ag]
 obtain rfl:n2=n1:=by rw [← F.out,ag]
 clear Q J j T G l U P a H k3 k4 b R F ab;go_wp2_with fail;go_loopw [9,28] (fun c i wr=>∃ (k t:Nat),k≤n2∧t<18446744073709551616∧i=.int .i64 (k:Int)∧c=.int .u64 (t:Int)∧Kept af w4 wr ∧
   Hid (t=0↔X%18446744073709551616^k=Y%18446744073709551616^k)) (fun _ i _=>n2-(intOf i).toNat)
 case atStart=>exact ⟨0,0,Nat.zero_le _,by omega,rfl,rfl,ah _ _,by unfold Hid;simp [Nat.mod_one]⟩
 case round=>
  obtain ⟨k,t,hk,O,rfl,rfl,d,HE⟩:=hrel;by_cases hkn:k<n2
  ·have ap:(0:Int)≤(k:Int):=Int.natCast_nonneg _;have ae:(k:Int)<(n2:Int):=by omega
   obtain ⟨b1,ad,rfl,aj⟩:=cX ((z k hkn).grew d) hkn;obtain ⟨b2,ac,rfl,ai⟩:=cX ((D k hkn).grew d) hkn;have hx:dig X k<18446744073709551616:=Nat.mod_lt _ (by omega);have hy:dig Y k<18446744073709551616:=Nat.mod_lt _ (by omega);have HS:=aa (pd (t:=t) (X:=X) (Y:=Y) (k:=k) HE.out);clear z D HE;generalize dig X k=x at *;generalize dig Y k=y at *;have aq:=u64_xor_nat x y hx hy;have S:x ^^^ y<18446744073709551616:=Nat.xor_lt_two_pow (n:=64) hx hy;generalize x ^^^ y=s at *;have ak:=u64_or_nat t s O S;have Z:t ||| s<18446744073709551616:=Nat.or_lt_two_pow (n:=64) O S;generalize t ||| s=r at *;go_wp2_with fail;go_region
   all_goals
    go_wp2_with fail;go_roundw
    case rel=>exact ⟨k+1,r,by omega,Z,by go_num,rfl,d.drew,HS.out⟩
    case measure=>simp [intOf];omega
  ·have ae:¬ (k:Int)<(n2:Int):=by omega
   have e:k=n2:=by omega
   subst e;have E:Hid (((t:Int)=0)↔X=Y):=by
    have:=HE.out;rw [am hX.out,am hY.out] at this;unfold Hid;rw [← this];omega
   have hZ:=fun W=>zi (t:Int) (by omega) (by omega) W
   have E2:Hid (zer (t:Int)=(bC (decide (X=Y)):Nat)):=by
    unfold Hid zer bC;by_cases h:X=Y
    ·rw [if_pos (E.out.2 h),if_pos (by simpa using h)];rfl
    ·rw [if_neg (fun q=>h (E.out.1 q)),if_neg (by simpa using h)];rfl
   clear z D HE;go_wp2_with fail;refine (hZ _).mono ?_;rintro e w7 ⟨rfl,rfl⟩;go_wp2_with fail;go_ret;rw [← E2.out];exact ⟨rfl,o2,d4.out.grew d⟩

theorem BK (o:Tr) (u:Value) (xs:List Nat) (w:World) (ht:TrRoom w o 1) (hu:RowT w o u xs) (a:Digs xs) (hL:xs.length≤100000000) :
  Calls Tryz.prog 152 #[aG o,u] w fun e w'=>e=.returned (.int .u64 (bC (decide (val xs=0)):Nat))∧∃ o',Did w o [(1,(xs.length:Nat),0)] w' o':=by
 have h:=mH o u (.slice none 0 0) xs [] w ht hu ⟨Row.nil _ _,fun h=>absurd rfl h⟩ a (Digs.nil _) hL (by simp);rw [show val []=0 from rfl,List.length_nil,Nat.max_zero] at h;clear ht hu;generalize aG o=tp at *;generalize bC (decide (val xs=0))=c at *;go_enter Tryz.func152,Tryz.ntmps152;go_wp2_with fail;refine h.mono ?_;rintro e w' ⟨rfl,o',hd⟩;go_wp2;go_ret;exact ⟨rfl,o',hd⟩

def Cw (a:World) (o0:Tr) (m0:List Ev) (g base N cap n many K X V c:Nat) (w':World):Prop:=
 c≤1∧∃ (zs':List Nat) (Q:Nat) (o':Tr),OwnN .u64 23 w' base (.slice (some ⟨g,0,none⟩) N cap) N zs'∧zs'.length=N∧Digs zs' ∧
  val zs'+18446744073709551616^N*c=X+V*Q∧Q<18446744073709551616^many∧((V*K+1)%18446744073709551616=0→0<n→val zs'%18446744073709551616^many=0)∧Did a o0 (m0 ++ List.replicate many (1,(n:Int),0)) w' o'

theorem nM (a:World) (o0 o:Tr) (m0:List Ev) (g base N cap n d K m rl p:Nat) (ao bo:Option Addr) (zs ms:List Nat) (w:World) (hD:Did a o0 m0 w o) (ht:TrRoom a o0 (m0.length+d)) (hg:a.heap.size≤g)
  (ho:OwnN .u64 23 w base (.slice (some ⟨g,0,none⟩) N cap) N zs) (L:zs.length=N) (al:Digs zs) (hN:N=n+d) (a2:N≤100000) (hm:RowT a o0 (.slice ao n m) ms) (ae:Digs ms) (b0:Nat) (ob:Array Value) (tb:TypeId) (Y:w.heap[b0]? = some (.cells ob tb (0,0))) (aK:tb≠225) (aN:tb≠189) (aE:b0≠g) :
  Calls Tryz.prog 233 #[aG o,.agg #[.slice ao n m,.int .u64 (K:Nat),.slice bo rl p],.slice (some ⟨g,0,none⟩) N cap,.int .i64 (d:Nat)] w fun e w'=>
   ∃ c:Nat,e=.returned (.int .u64 (c:Nat))∧Cw a o0 m0 g base N cap n d K (val zs) (val ms) c w'∧w'.heap[b0]? = some (.cells ob tb (0,0)):=by
 have hX:=aa (rfl:val zs=val zs);obtain ⟨_,_,_,e1,ap,_,_,_,_⟩:=hm.1.open;cases e1
 have HL:=aa ap.out;have HM:=aa hm;have W:=aa ae;have HT:=aa ht;have HD:=aa hD;have HN:=aa hN;have HG:=aa hg;have HV:Hid (∀ V,V=val ms→val zs+18446744073709551616^(0+n)*0=val zs+V*0):=fun V _=>by simp
 have a4:g<w.heap.size:=de ho;obtain ⟨_,_,_,e1,_,a3,_,_,_⟩:=(Row.of_own (base:=base) (e:=23) (by rw [L];exact ho):Row .u64 w (.slice (some ⟨g,0,none⟩) N cap) zs).open;cases e1
 obtain ⟨tp,P⟩:∃ tp,tp=aG o:=⟨_,rfl⟩
 rw [← P];have aB:=aa (P.trans hD.ptr);obtain ⟨X,T⟩:∃ X,X=val zs:=⟨_,rfl⟩
 obtain ⟨V,H⟩:∃ V,V=val ms:=⟨_,rfl⟩
 rw [← T,← H];have an:=aa H;have k0:Kept af w (w.alloc (.cells #[.slice ao n m,.int .u64 (K:Nat),.slice bo rl p] 130)):=(ah af w).alloc _;have Z:(w.alloc (.cells #[.slice ao n m,.int .u64 (K:Nat),.slice bo rl p] 130)).heap[w.heap.size]? = some (.cells #[.slice ao n m,.int .u64 (K:Nat),.slice bo rl p] 130 (0,0)):=heap_alloc_new _ _;have aj:=aa (hD.grew k0);have HO:=aa (k0.own ho (fun _ _ f=>f));have O:=aa Z;have ad:=aa (aq Y:(w.alloc (.cells #[.slice ao n m,.int .u64 (K:Nat),.slice bo rl p] 130)).heap[b0]? = some (.cells ob tb (0,0)));have HZ:=aa (show zs.length=N∧Digs zs∧X=val zs from ⟨L,al,T⟩)
 clear hm ae ht hD hN ap P H T Z ho L al hX HV hg k0 Y;go_enter Tryz.func233,Tryz.ntmps233;obtain ⟨p0,p1,p2⟩:=ay O.out;go_wp2_with fail;go_loopw [10,17] (fun ov i wr=>∃ (k c Q:Nat) (os:List Nat) (o1:Tr),k≤d∧c≤1∧i=.int .i64 (k:Int)∧ov=.int .u64 (c:Int)∧Hid (os.length=N)∧Hid (Digs os)∧OwnN .u64 23 wr base (.slice (some ⟨g,0,none⟩) N cap) N os∧Hid (val os+18446744073709551616^(k+n)*c=X+V*Q)∧Hid (Q<18446744073709551616^k)∧Hid ((V*K+1)%18446744073709551616=0→0<n→val os%18446744073709551616^k=0) ∧
   wr.heap[w.heap.size]? = some (.cells #[.slice ao n m,.int .u64 (K:Nat),.slice bo rl p] 130 (0,0))∧Hid (wr.heap[b0]? = some (.cells ob tb (0,0)))∧Hid (Did a o0 (m0 ++ List.replicate k (1,(n:Int),0)) wr o1)) (fun _ i _=>d-(intOf i).toNat)
 case atStart=>
  obtain ⟨z1,z2,z3⟩:=HZ.out;exact ⟨0,0,0,zs,o,Nat.zero_le _,by omega,rfl,rfl,z1,z2,HO.out,by unfold Hid;rw [← z3];simp,by unfold Hid;simp,fun _ _=>by simp [Nat.mod_one],O.out,ad.out,by unfold Hid;rw [List.replicate_zero,List.append_nil];exact aj.out⟩
 case round=>
  obtain ⟨k,c,Q,os,o1,hk,hc,rfl,rfl,A,v,ho,G,HQ,t,hx,C,D⟩:=hrel;clear p0 p1 p2 O HO aj HZ ad;by_cases hkn:k<d
  ·have aY:(0:Int)≤(k:Int):=Int.natCast_nonneg _;have aP:(k:Int)<(d:Int):=by omega
   have l:TrRoom wr o1 (d-k):=D.out.room (by rw [List.length_append,List.length_replicate,show m0.length+k+(d-k)=m0.length+d by omega];exact HT.out);have hS:=dX o1 (n:Int) wr l.1;rw [D.out.ptr,← aB.out] at hS;go_wp2_with fail;refine hS.mono ?_;rintro e w2 ⟨rfl,o2,d2⟩;have E:=d2.kept.own ho (fh ho l.1);have U:=(d2.kept.block _ (lt_of_block hx) (aA hx l.1 (by decide) (by decide))).trans hx;have av:=aa ((d2.kept.block _ (lt_of_block C.out) (aA C.out l.1 aK aN)).trans C.out);have s:=aa (D.out.trans d2);have am:=HM.out.did s.out;have B:=d2.room (k:=0) (l.less (by simp;omega))
   have aF:¬ dM o2 g:=fh E B.1 _ rfl;clear hS ho d2 l D hx C;obtain ⟨p0,p1,p2⟩:=ay U;obtain ⟨q,hq⟩:∃ q,q=os.getD k 0*K%18446744073709551616:=⟨_,rfl⟩
   obtain ⟨S,hS⟩:∃ S,S=val ((os.drop k).take n)+V*q:=⟨_,rfl⟩
   obtain ⟨R,hR⟩:∃ R,R=S/18446744073709551616^n:=⟨_,rfl⟩
   have au:q<18446744073709551616:=by rw [hq];exact Nat.mod_lt _ (by omega)
   have ab:k+n<N:=by have:=HN.out;omega
   have a7:k<cap:=by omega
   have aV:¬ cap=k:=by omega
   have aU:os.getD k 0<18446744073709551616:=v.out.getD (by omega) _;have aL:os.getD (k+n) 0<18446744073709551616:=v.out.getD (by omega) _;have aO:R<18446744073709551616:=by
    rw [hR,Nat.div_lt_iff_lt_mul (Nat.pow_pos (by omega)),hS];have h1:=jM (j:=k) (n:=n) v.out;have h2:V<18446744073709551616^n:=by rw [an.out,← HL.out];exact ar (by omega) W.out
    have h3:V*q≤18446744073709551616^n*q:=Nat.mul_le_mul_right _ (Nat.le_of_lt h2);have h4:18446744073709551616^n*(q+1)≤18446744073709551616^n*18446744073709551616:=Nat.mul_le_mul_left _ au;rw [Nat.mul_add,Nat.mul_one] at h4;rw [Nat.mul_comm 18446744073709551616];omega
   have aZ:w2.cell? ⟨g,k,none⟩=some (.int .u64 (os.getD k 0:Nat)):=by
    have aI:k<os.length:=by rw [A.out];omega
    rw [World.ownsRow.cellAt E k (by omega),List.getElem?_map,List.getD_eq_getElem?_getD,List.getElem?_eq_getElem aI];rfl
   have aC:((os.getD k 0:Nat):Int)*(K:Int)%18446744073709551616=(q:Int):=by rw [hq];omega
   have ax:=iB (w':=w2) (g:=g) HM.out.1 HG.out s.out.size;have HA:=fun W' (kk:Kept af w2 W')=>ya g base N cap k n (cap-k) q os ms (.slice ao n m) W' (kk.own E (fun _ _ f=>f)) A.out v.out (by omega) (am.1.grew kk) HL.out W.out ax au R S (by rw [← an.out];exact hS) hR
   have aD:Hid (∀ z c2,z+18446744073709551616*c2=os.getD (k+n) 0+R+c→z<18446744073709551616→val (os.take k ++ ((ai S n ++ [z]) ++ os.drop (k+(n+1))))+18446744073709551616^(k+1+n)*c2=X+V*(Q+18446744073709551616^k*q)∧Q+18446744073709551616^k*q<18446744073709551616^(k+1)∧((V*K+1)%18446744073709551616=0→0<n→val (os.take k ++ ((ai S n ++ [z]) ++ os.drop (k+(n+1))))%18446744073709551616^(k+1)=0)∧Digs (os.take k ++ ((ai S n ++ [z]) ++ os.drop (k+(n+1))))∧(os.take k ++ ((ai S n ++ [z]) ++ os.drop (k+(n+1)))).length=N):=fun z c2 hz J=>tm v.out A.out ab G.out HQ.out hq hS hR hz J t.out
   have M:Hid (∀ W' z,OwnN .u64 23 W' base (.slice (some ⟨g,0,none⟩) N cap) N (os.take k ++ (ai S n ++ os.drop (k+n)))→OwnN .u64 23 (W'.setCell ⟨g,k+n,none⟩ (.int .u64 ((z:Nat):Int))) base (.slice (some ⟨g,0,none⟩) N cap) N (os.take k ++ ((ai S n ++ [z]) ++ os.drop (k+(n+1))))):=fun W' z h=>by
    have:=(World.ownsRow.stored h (k+n) (.int .u64 (z:Int))).1;unfold OwnN;rw [← fN os _ k n z (ag _ _ _) (by have:=A.out;omega),List.map_set];exact this
   have r:∀ W',OwnN .u64 23 W' base (.slice (some ⟨g,0,none⟩) N cap) N (os.take k ++ (ai S n ++ os.drop (k+n)))→W'.cell? ⟨g,k+n,none⟩=some (.int .u64 (os.getD (k+n) 0:Nat)):=fun W' h=>ff h A.out (ag _ _ _) ab
   have ak:∀ W',OwnN .u64 23 W' base (.slice (some ⟨g,0,none⟩) N cap) N (os.take k ++ (ai S n ++ os.drop (k+n)))→W'.frozen? ⟨g,k+n,none⟩=false:=fun W' h=>World.ownsRow.frozenAt h (k+n)
   have ac:w.heap.size≠g:=by omega
   have F:=aa U;have aw:∀ W',Kept (fun b=>b=g) w2.drew W'→W'.cell? ⟨w.heap.size,0,none⟩=some (.slice ao n m)∧W'.cell? ⟨w.heap.size,1,none⟩=some (.int .u64 (K:Int)):=fun W' k=>by
    obtain ⟨a0,a1,_⟩:=ay ((k.block _ (lt_of_block F.out) ac).trans F.out);exact ⟨a0,a1⟩
   clear hq hS hR G HQ t am E ax U B;generalize os.getD k 0=x at *;generalize os.getD (k+n) 0=y at *;generalize os.take k ++ (ai S n ++ os.drop (k+n))=os' at *;have aS:(k:Int)+(n:Int)<(N:Int):=by omega
   have aW:(k:Int)<(N:Int):=by omega
   have aQ:(k:Int)+(n:Int)≤(cap:Int):=by omega
   have a5:(k:Int)≤(k:Int)+(n:Int):=by omega
   have aM:(0:Int)≤(k:Int)+(n:Int):=by omega
   have aH:((k:Int)+(n:Int)).toNat=k+n:=by omega
   have aR:IntKind.i64.wrap ((k:Int)+(n:Int))=(k:Int)+(n:Int):=by rw [IntKind.wrap_i64];omega
   have a6:IntKind.u64.wrap ((x:Int)*(K:Int))=(q:Int):=by rw [IntKind.wrap_u64];exact aC
   go_wp2_with fail;have JA:=aa HA;have JC:=aa r;have JF:=aa ak;have JK:=aa aw;clear HA r ak aw;go_region_with (go_at_call 250;refine (JA.out _ ((ah _ _).drew)).mono ?_;rintro e w3 ⟨rfl,I,k3⟩;have aT:=JC.out _ I;have aX:=JF.out _ I)
   all_goals
    go_wp2_with fail;refine (ve y R c aL aO hc _).mono ?_;rintro e w7 ⟨z,c2,rfl,J,az,aJ,rfl⟩;obtain ⟨s1,s2,s3,s4,s5⟩:=aD.out z c2 aJ J;go_wp2_with fail;go_roundw
    case rel=>
     have k4:Kept (fun b=>b=g) w2 (w7.setCell ⟨g,k+n,none⟩ (.int .u64 (z:Int))):=(((ah _ _).drew).trans k3).setCell _ (fun _=>rfl) _;exact ⟨k+1,c2,_,_,o2,by omega,az,by go_num,rfl,s5,s4,M.out _ z I,s1,s2,s3,(k4.block _ (lt_of_block F.out) ac).trans F.out,(k4.block _ (lt_of_block av.out) aE).trans av.out,by unfold Hid;rw [List.replicate_succ',← List.append_assoc];exact s.out.wroteNew k4 HG.out aF⟩
    case measure=>simp [intOf];omega
  ·have aP:¬ (k:Int)<(d:Int):=by omega
   obtain rfl:k=d:=by omega
   have e:=G.out;rw [show k+n=N by rw [HN.out,Nat.add_comm]] at e;have HE:=aa e;clear e G;go_wp2_with fail;go_ret;exact ⟨c,rfl,⟨hc,os,Q,o1,ho,A.out,v.out,HE.out,HQ.out,t.out,D.out⟩,C.out⟩

end Go.Proofs.YtcemlfokmjjiaaaGreatDoor
