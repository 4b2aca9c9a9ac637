/- Put together of: Lim2 MonB. -/
import Derived.Test.YtcemlfokmjjiaaaGreatDoorPf13

namespace Go.Proofs.YtcemlfokmjjiaaaGreatDoor
set_option maxRecDepth 100000
set_option maxHeartbeats 4000000
open Go.RowKit

theorem rk {n X Y a c:Nat} {os:List Nat} (hl:os.length=n) (hd:Digs os) (hX:X<18446744073709551616^n) (hY:Y<18446744073709551616^n) (h:val os+18446744073709551616^n*c=X%18446744073709551616^n+(Y*(a%2))%18446744073709551616^n) :
  os=digs (aP a (X+Y) X) n∧c=aP a (bi (decide (2^(64*n)≤X+Y))) 0:=by
 have hv:=aq (by omega) hd;rw [hl] at hv;rw [← B64];have b:a%2=0∨a%2=1:=by omega
 rw [al hX] at h;rcases b with hb | hb
 ·rw [hb,Nat.mul_zero,Nat.zero_mod,Nat.add_zero] at h;unfold aP;rw [if_neg (by omega),if_neg (by omega)];have hc:c=0:=by
   rcases Nat.eq_zero_or_pos c with h0 | h0
   ·exact h0
   ·have:18446744073709551616^n*1≤18446744073709551616^n*c:=Nat.mul_le_mul_left _ h0;omega
  subst hc;refine ⟨aW (by omega) hd hl ?_,rfl⟩;rw [al hX];omega
 ·rw [hb,Nat.mul_one,al hY] at h;unfold aP bi;rw [if_pos hb,if_pos hb];refine ⟨aW (by omega) hd hl ?_,?_⟩
  ·rw [← h,Nat.add_mul_mod_self_left,al hv]
  ·have hc:c=0∨c=1∨2≤c:=by omega
   rcases hc with rfl | rfl | hc
   ·rw [if_neg];simp;omega
   ·rw [if_pos];simp;omega
   ·have:18446744073709551616^n*2≤18446744073709551616^n*c:=Nat.mul_le_mul_left _ hc;omega

theorem bV {xs:List Nat} {n:Nat} (hd:Digs xs) (hl:xs.length≤n):val xs<18446744073709551616^n:=
 Nat.lt_of_lt_of_le (aq (by omega) hd) (Nat.pow_le_pow_right (by omega) hl)

theorem cK {k:IntKind} {w:World} {ao:Option Addr} {X n i:Nat} (h:NumAt k w ao (digs X n) i) (hi:i<n):∃ b off,ao=some ⟨b,off,none⟩∧w.cell? ⟨b,off+i,none⟩=some (.int k (dig X i:Nat)):=by
 obtain ⟨b,off,e,hc⟩:=h;rw [de _ _ _ _ hi] at hc;exact ⟨b,off,e,hc⟩

theorem uT (o:Tr) (a:Nat) (av:a<18446744073709551616) (u v:Value) (xs ys:List Nat) (w:World) (ht:TrRoom w o 1) (hu:RowT w o u xs) (hv:RowT w o v ys) (F:Digs xs) (A:Digs ys) (hL:xs.length≤100000000) (hM:ys.length≤100000000) :
  Calls Tryz.prog 248 #[aE o,.int .u64 (a:Nat),u,v] w fun e w'=>∃ v',e=.returned (.tuple #[v',.int .u64 (aP a (bi (decide (2^(64*max xs.length ys.length)≤val xs+val ys))) 0:Nat)]) ∧
   OwnN .u64 23 w' w.heap.size v' (max xs.length ys.length) (digs (aP a (val xs+val ys) (val xs)) (max xs.length ys.length))∧∃ o',Did w o [(1,(max xs.length ys.length:Nat),0)] w' o':=by
 obtain ⟨i0,aj,ae,ar,ap⟩:=info_parts Tryz.info23;obtain ⟨ao,L,cap,rfl,U,_,_,_,_⟩:=hu.1.open;obtain ⟨bo,M,G,rfl,N,_,_,_,_⟩:=hv.1.open;have eL:=U.out;have eM:=N.out;have hX:Hid (val xs<18446744073709551616^max L M):=bV F (by omega);have hY:Hid (val ys<18446744073709551616^max L M):=bV A (by omega);have hC:=iE ao bo L M cap G w;have O:=fun o' W g (t:TrIn W o') (r:RowT W o' (.slice ao L cap) xs) hg=>ku o' _ xs (max L M) g W t r F (by omega) (by omega) hg
 have J:=fun o' W g (t:TrIn W o') (r:RowT W o' (.slice bo M G) ys) hg=>ku o' _ ys (max L M) g W t r A (by omega) (by omega) hg
 have aA:max L M≤100000000:=by omega
 rw [eL,eM] at *;have Z:=fun W=>mF (a:Int) (by omega) (by omega) W
 have HU:Hid (RowT w o (.slice ao L cap) xs):=hu;have HV:Hid (RowT w o (.slice bo M G) ys):=hv;have HT:Hid (TrRoom w o 1):=ht;obtain ⟨tp,B⟩:∃ tp,tp=aE o:=⟨_,rfl⟩
 rw [← B];have am:Hid (tp=aE o):=B;clear hu hv ht U N eL eM F A hL hM B;generalize val xs=X at *;generalize val ys=Y at *;generalize max L M=n at *;go_enter Tryz.func248,Tryz.ntmps248;go_wp2_with fail;refine hC.mono ?_;rintro e w1 ⟨g,rfl,C,ah,k1⟩;have hS:=dC o n w1 (HT.out.1.grew k1);rw [← am.out] at hS;clear hC;go_wp2_with fail;refine hS.mono ?_;rintro e w2 ⟨rfl,o2,d2⟩;have l:w2.heap[g]? = _:=(d2.kept.block g (lt_of_block C) (fun f=>by have:=HT.out.1.foot g f;omega)).trans C;have j:=Did.after k1 d2;have p:TrIn w2 o2:=(j.room (k:=0) HT.out).1;have ac:=HU.out.did j;have H:=HV.out.did j;clear hS d2 k1 C;go_wp2_with fail
 refine (O o2 w2 g p ac l).mono ?_;rintro e w3 ⟨v1,rfl,R,k3⟩;have T:=(k3.block g (lt_of_block l) (fun f=>f)).trans l;go_wp2_with fail;refine (J o2 w3 g (p.grew k3) (H.grew k3) T).mono ?_;rintro e w4 ⟨v2,rfl,V,k4⟩;have d:=R.1.grew k4;have d4:=aa ((j.grew k3).grew k4);have ay:=aa ((p.grew k3).grew k4);obtain ⟨a1,n1,c1,rfl,Q,_,_,_,D⟩:=d.open;obtain ⟨a2,n2,c2,rfl,S,_,_,_,E⟩:=V.1.open;obtain rfl:n1=n:=by rw [← Q.out,ag]
 obtain rfl:n2=n1:=by rw [← S.out,ag]
 have au:Hid (w.heap.size≤w4.heap.size):=d4.out.size;clear O J p ac H l T R d V k3 k4 j Q S ah;go_wp2_with (at_make;refine wpList_make_full _ rfl _ _ 32 rfl w4.heap.size 23 i0 _ 1 Tryz.underlying32 aj ae ar _ _ _ _ n2 rfl rfl rfl rfl (by rw [ap];omega) (by unfold maxLen;omega) (leR _) ?_;intro w5 m P);rw [aG] at m;have k5:=aD P;clear P;refine (Z _).mono ?_;rintro e w6 ⟨rfl,rfl⟩;clear Z;go_wp2_with fail
 go_loopw [14,37] (fun c i wr=>∃ (k c':Nat) (os:List Nat),k≤n2∧c'≤1∧i=.int .i64 (k:Int)∧c=.int .u64 (c':Int)∧Hid (os.length=k)∧Digs os∧OwnN .u64 23 wr w4.heap.size (.slice (some ⟨w4.heap.size,0,none⟩) n2 n2) n2 (os ++ List.replicate (n2-k) 0)∧Kept af w4 wr ∧
   Hid (val os+18446744073709551616^k*c'=X%18446744073709551616^k+(Y*(a%2))%18446744073709551616^k)) (fun _ i _=>n2-(intOf i).toNat)
 case atStart=>exact ⟨0,0,[],Nat.zero_le _,by omega,rfl,rfl,rfl,Digs.nil _,by rw [List.nil_append,Nat.sub_zero];exact m,k5,by unfold Hid;simp [val,Nat.mod_one]⟩
 case round=>
  obtain ⟨k,c,os,hk,hc,rfl,rfl,HL,I,ho,s,q⟩:=hrel;by_cases hkn:k<n2
  ·have aC:(0:Int)≤(k:Int):=Int.natCast_nonneg _;have ak:(k:Int)<(n2:Int):=by omega
   obtain ⟨b1,ai,rfl,az⟩:=cK ((D k hkn).grew s) hkn;obtain ⟨b2,ad,rfl,aF⟩:=cK ((E k hkn).grew s) hkn;have aB:=ep ho HL.out hkn;have hf:=World.ownsRow.frozenAt ho k;have ab:=fun u=>(World.ownsRow.stored ho k u).1
   have hx:dig X k<18446744073709551616:=Nat.mod_lt _ (by omega);have hy:dig Y k<18446744073709551616:=Nat.mod_lt _ (by omega);have HS:Hid (∀ z c',z+18446744073709551616*c'=dig X k+dig Y k*(a%2)+c→val (os ++ [z])+18446744073709551616^(k+1)*c'=X%18446744073709551616^(k+1)+(Y*(a%2))%18446744073709551616^(k+1)):=fun z c' h=>rD HL.out q.out (by rw [pU];exact h)
   have aw:=p8 (dig Y k) a hy;have aq:dig Y k*(a%2)<18446744073709551616:=by
    have:a%2=0∨a%2=1:=by omega
    rcases this with h | h <;> rw [h] <;> omega
   have al:Hid (∀ u:Nat,OwnN .u64 23 (wr.setCell ⟨w4.heap.size,k,none⟩ (.int .u64 (u:Int))) w4.heap.size (.slice (some ⟨w4.heap.size,0,none⟩) n2 n2) n2 ((os ++ [u]) ++ List.replicate (n2-(k+1)) 0)):=fun u=>by
    have:=ab (.int .u64 (u:Int));unfold OwnN;rw [← fK os n2 k u HL.out hkn,List.map_set];exact this
   clear D E q ab m k5;generalize dig X k=x at *;generalize dig Y k=y at *;generalize y*(a%2)=y' at *;go_wp2_with fail;go_region_with (go_at_call 251;refine (uO x y' c hx aq hc _).mono ?_;rintro e w7 ⟨z,c',rfl,hz,an,ax,rfl⟩)
   all_goals
    go_wp2_with fail;go_roundw
    case rel=>exact ⟨k+1,c',os ++ [z],by omega,an,by go_num,rfl,by unfold Hid;rw [List.length_append,HL.out];rfl,I.append (Digs.one hz),al.out z,(s.setCell _ (fun h=>by simp at h) _).drew,HS.out z c' ax⟩
    case measure=>simp [intOf];omega
  ·have ak:¬ (k:Int)<(n2:Int):=by omega
   have e:k=n2:=by omega
   subst e;rw [Nat.sub_self,List.replicate_zero,List.append_nil] at ho;obtain ⟨e1,e2⟩:=rk HL.out I hX.out hY.out q.out;have E1:=aa e1;have E2:=aa e2;clear e1 e2 D E q m k5;go_wp2_with fail;go_ret2;rw [← E1.out,← E2.out];exact ⟨_,rfl,aZ ho (fun b hb=>Nat.le_trans au.out (ho.lt b hb).1),o2,d4.out.grew s⟩

theorem rW {n X Y a c:Nat} {os:List Nat} (hl:os.length=n) (hd:Digs os) (hX:X<18446744073709551616^n) (hY:Y<18446744073709551616^n) (h:val os+(Y*(a%2))%18446744073709551616^n=X%18446744073709551616^n+18446744073709551616^n*c) :
  os=digs (aP a (cS X Y n) X) n∧c=aP a (bi (decide (X<Y))) 0:=by
 have hv:=aq (by omega) hd;rw [hl] at hv;unfold cS;rw [← B64];have b:a%2=0∨a%2=1:=by omega
 have d:c=0∨c=1∨18446744073709551616^n*2≤18446744073709551616^n*c:=by
  have hc:c=0∨c=1∨2≤c:=by omega
  rcases hc with h | h | h
  ·exact .inl h
  ·exact .inr (.inl h)
  ·exact .inr (.inr (Nat.mul_le_mul_left _ h))
 rw [al hX] at h;rcases b with hb | hb
 ·rw [hb,Nat.mul_zero,Nat.zero_mod,Nat.add_zero] at h;unfold aP;rw [if_neg (by omega),if_neg (by omega)];rcases d with rfl | rfl | hc
  ·refine ⟨aW (by omega) hd hl ?_,rfl⟩;rw [al hX];omega
  ·omega
  ·omega
 ·rw [hb,Nat.mul_one,al hY] at h;unfold aP bi;rw [if_pos hb,if_pos hb];rcases d with rfl | rfl | hc
  ·have hn:¬ X<Y:=by omega
   rw [if_neg hn];refine ⟨aW (by omega) hd hl ?_,by rw [if_neg];simpa using hn⟩;rw [al (by omega)];omega
  ·have hn:X<Y:=by omega
   rw [if_pos hn];refine ⟨aW (by omega) hd hl ?_,by rw [if_pos];simpa using hn⟩;rw [al (by omega)];omega
  ·omega

theorem ot (o:Tr) (a:Nat) (av:a<18446744073709551616) (u v:Value) (xs ys:List Nat) (w:World) (ht:TrRoom w o 1) (hu:RowT w o u xs) (hv:RowT w o v ys) (F:Digs xs) (A:Digs ys) (hL:xs.length≤100000000) (hM:ys.length≤100000000) :
  Calls Tryz.prog 118 #[aE o,.int .u64 (a:Nat),u,v] w fun e w'=>∃ v',e=.returned (.tuple #[v',.int .u64 (aP a (bi (decide (val xs<val ys))) 0:Nat)]) ∧
   OwnN .u64 23 w' w.heap.size v' (max xs.length ys.length) (digs (aP a (cS (val xs) (val ys) (max xs.length ys.length)) (val xs)) (max xs.length ys.length))∧∃ o',Did w o [(1,(max xs.length ys.length:Nat),0)] w' o':=by
 obtain ⟨i0,aj,ae,ar,ap⟩:=info_parts Tryz.info23;obtain ⟨ao,L,cap,rfl,U,_,_,_,_⟩:=hu.1.open;obtain ⟨bo,M,G,rfl,N,_,_,_,_⟩:=hv.1.open;have eL:=U.out;have eM:=N.out;have hX:Hid (val xs<18446744073709551616^max L M):=bV F (by omega);have hY:Hid (val ys<18446744073709551616^max L M):=bV A (by omega);have hC:=iE ao bo L M cap G w;have O:=fun o' W g (t:TrIn W o') (r:RowT W o' (.slice ao L cap) xs) hg=>ku o' _ xs (max L M) g W t r F (by omega) (by omega) hg
 have J:=fun o' W g (t:TrIn W o') (r:RowT W o' (.slice bo M G) ys) hg=>ku o' _ ys (max L M) g W t r A (by omega) (by omega) hg
 have aA:max L M≤100000000:=by omega
 rw [eL,eM] at *;have Z:=fun W=>mF (a:Int) (by omega) (by omega) W
 have HU:Hid (RowT w o (.slice ao L cap) xs):=hu;have HV:Hid (RowT w o (.slice bo M G) ys):=hv;have HT:Hid (TrRoom w o 1):=ht;obtain ⟨tp,B⟩:∃ tp,tp=aE o:=⟨_,rfl⟩
 rw [← B];have am:Hid (tp=aE o):=B;clear hu hv ht U N eL eM F A hL hM B;generalize val xs=X at *;generalize val ys=Y at *;generalize max L M=n at *;go_enter Tryz.func118,Tryz.ntmps118;go_wp2_with fail;refine hC.mono ?_;rintro e w1 ⟨g,rfl,C,ah,k1⟩;have hS:=dC o n w1 (HT.out.1.grew k1);rw [← am.out] at hS;clear hC;go_wp2_with fail;refine hS.mono ?_;rintro e w2 ⟨rfl,o2,d2⟩;have l:w2.heap[g]? = _:=(d2.kept.block g (lt_of_block C) (fun f=>by have:=HT.out.1.foot g f;omega)).trans C;have j:=Did.after k1 d2;have p:TrIn w2 o2:=(j.room (k:=0) HT.out).1;have ac:=HU.out.did j;have H:=HV.out.did j;clear hS d2 k1 C;go_wp2_with fail
 refine (O o2 w2 g p ac l).mono ?_;rintro e w3 ⟨v1,rfl,R,k3⟩;have T:=(k3.block g (lt_of_block l) (fun f=>f)).trans l;go_wp2_with fail;refine (J o2 w3 g (p.grew k3) (H.grew k3) T).mono ?_;rintro e w4 ⟨v2,rfl,V,k4⟩;have d:=R.1.grew k4;have d4:=aa ((j.grew k3).grew k4);have ay:=aa ((p.grew k3).grew k4);obtain ⟨a1,n1,c1,rfl,Q,_,_,_,D⟩:=d.open;obtain ⟨a2,n2,c2,rfl,S,_,_,_,E⟩:=V.1.open;obtain rfl:n1=n:=by rw [← Q.out,ag]
 obtain rfl:n2=n1:=by rw [← S.out,ag]
 have au:Hid (w.heap.size≤w4.heap.size):=d4.out.size;clear O J p ac H l T R d V k3 k4 j Q S ah;go_wp2_with (at_make;refine wpList_make_full _ rfl _ _ 32 rfl w4.heap.size 23 i0 _ 1 Tryz.underlying32 aj ae ar _ _ _ _ n2 rfl rfl rfl rfl (by rw [ap];omega) (by unfold maxLen;omega) (leR _) ?_;intro w5 m P);rw [aG] at m;have k5:=aD P;clear P;refine (Z _).mono ?_;rintro e w6 ⟨rfl,rfl⟩;clear Z;go_wp2_with fail
 go_loopw [14,37] (fun c i wr=>∃ (k c':Nat) (os:List Nat),k≤n2∧c'≤1∧i=.int .i64 (k:Int)∧c=.int .u64 (c':Int)∧Hid (os.length=k)∧Digs os∧OwnN .u64 23 wr w4.heap.size (.slice (some ⟨w4.heap.size,0,none⟩) n2 n2) n2 (os ++ List.replicate (n2-k) 0)∧Kept af w4 wr ∧
   Hid (val os+(Y*(a%2))%18446744073709551616^k=X%18446744073709551616^k+18446744073709551616^k*c')) (fun _ i _=>n2-(intOf i).toNat)
 case atStart=>exact ⟨0,0,[],Nat.zero_le _,by omega,rfl,rfl,rfl,Digs.nil _,by rw [List.nil_append,Nat.sub_zero];exact m,k5,by unfold Hid;simp [val,Nat.mod_one]⟩
 case round=>
  obtain ⟨k,c,os,hk,hc,rfl,rfl,HL,I,ho,s,q⟩:=hrel;by_cases hkn:k<n2
  ·have aC:(0:Int)≤(k:Int):=Int.natCast_nonneg _;have ak:(k:Int)<(n2:Int):=by omega
   obtain ⟨b1,ai,rfl,az⟩:=cK ((D k hkn).grew s) hkn;obtain ⟨b2,ad,rfl,aF⟩:=cK ((E k hkn).grew s) hkn;have aB:=ep ho HL.out hkn;have hf:=World.ownsRow.frozenAt ho k;have ab:=fun u=>(World.ownsRow.stored ho k u).1
   have hx:dig X k<18446744073709551616:=Nat.mod_lt _ (by omega);have hy:dig Y k<18446744073709551616:=Nat.mod_lt _ (by omega);have HS:Hid (∀ z c',z+dig Y k*(a%2)+c=dig X k+18446744073709551616*c'→val (os ++ [z])+(Y*(a%2))%18446744073709551616^(k+1)=X%18446744073709551616^(k+1)+18446744073709551616^(k+1)*c'):=fun z c' h=>rz HL.out q.out (by rw [pU];exact h)
   have aw:=p8 (dig Y k) a hy;have aq:dig Y k*(a%2)<18446744073709551616:=by
    have:a%2=0∨a%2=1:=by omega
    rcases this with h | h <;> rw [h] <;> omega
   have al:Hid (∀ u:Nat,OwnN .u64 23 (wr.setCell ⟨w4.heap.size,k,none⟩ (.int .u64 (u:Int))) w4.heap.size (.slice (some ⟨w4.heap.size,0,none⟩) n2 n2) n2 ((os ++ [u]) ++ List.replicate (n2-(k+1)) 0)):=fun u=>by
    have:=ab (.int .u64 (u:Int));unfold OwnN;rw [← fK os n2 k u HL.out hkn,List.map_set];exact this
   clear D E q ab m k5;generalize dig X k=x at *;generalize dig Y k=y at *;generalize y*(a%2)=y' at *;go_wp2_with fail;go_region_with (go_at_call 165;refine (pK x y' c hx aq hc _).mono ?_;rintro e w7 ⟨z,c',rfl,hz,an,ax,rfl⟩)
   all_goals
    go_wp2_with fail;go_roundw
    case rel=>exact ⟨k+1,c',os ++ [z],by omega,an,by go_num,rfl,by unfold Hid;rw [List.length_append,HL.out];rfl,I.append (Digs.one hz),al.out z,(s.setCell _ (fun h=>by simp at h) _).drew,HS.out z c' ax⟩
    case measure=>simp [intOf];omega
  ·have ak:¬ (k:Int)<(n2:Int):=by omega
   have e:k=n2:=by omega
   subst e;rw [Nat.sub_self,List.replicate_zero,List.append_nil] at ho;obtain ⟨e1,e2⟩:=rW HL.out I hX.out hY.out q.out;have E1:=aa e1;have E2:=aa e2;clear e1 e2 D E q m k5;go_wp2_with fail;go_ret2;rw [← E1.out,← E2.out];exact ⟨_,rfl,aZ ho (fun b hb=>Nat.le_trans au.out (ho.lt b hb).1),o2,d4.out.grew s⟩

theorem CF (A B:Nat):aP 1 A B=A:=by unfold aP;rw [if_pos (by omega)]

theorem pd (o:Tr) (u v:Value) (xs ys:List Nat) (w:World) (ht:TrRoom w o 1) (hu:RowT w o u xs) (hv:RowT w o v ys) (a:Digs xs) (b:Digs ys) (hL:xs.length≤100000000) (hM:ys.length≤100000000) :
  Calls Tryz.prog 78 #[aE o,u,v] w fun e w'=>∃ v',e=.returned (.tuple #[v',.int .u64 (bi (decide (val xs<val ys)):Nat)]) ∧
   OwnN .u64 23 w' w.heap.size v' (max xs.length ys.length) (digs (cS (val xs) (val ys) (max xs.length ys.length)) (max xs.length ys.length))∧∃ o',Did w o [(1,(max xs.length ys.length:Nat),0)] w' o':=by
 have h:=ot o 1 (by omega) u v xs ys w ht hu hv a b hL hM;simp only [CF] at h;clear ht hu hv;generalize aE o=tp at *;generalize bi (decide (val xs<val ys))=c at *;go_enter Tryz.func78,Tryz.ntmps78;go_wp2_with fail;refine h.mono ?_;rintro e w' ⟨v',rfl,ho,o',hd⟩;go_wp2;go_ret2;exact ⟨_,rfl,ho,o',hd⟩

theorem rU {B X Y k c z c' D:Nat} (hD:D<B^k) (h:D+Y%B^k=X%B^k+B^k*c) (a:z<B) (hz:z+dig Y k B+c=dig X k B+B*c') :
  D+B^k*z<B^(k+1)∧D+B^k*z+Y%B^(k+1)=X%B^(k+1)+B^(k+1)*c':=by
 rw [cF,cF,Nat.pow_succ,Nat.mul_assoc];have e:B^k*(z+dig Y k B+c)=B^k*(dig X k B+B*c'):=by rw [hz]
 rw [Nat.mul_add,Nat.mul_add,Nat.mul_add] at e;have h1:B^k*(z+1)≤B^k*B:=Nat.mul_le_mul_left _ a;rw [Nat.mul_add,Nat.mul_one] at h1;constructor <;> omega

theorem sk {n X Y c D:Nat} (hX:X<18446744073709551616^n) (hY:Y<18446744073709551616^n) (hD:D<18446744073709551616^n) (h:D+Y%18446744073709551616^n=X%18446744073709551616^n+18446744073709551616^n*c):c=bi (decide (X<Y)):=by
 rw [al hX,al hY] at h;have hc:c=0∨c=1∨2≤c:=by omega
 unfold bi;rcases hc with rfl | rfl | hc
 ·rw [if_neg];simp;omega
 ·rw [if_pos];simp;omega
 ·have:18446744073709551616^n*2≤18446744073709551616^n*c:=Nat.mul_le_mul_left _ hc;omega

theorem nn (a b:Nat):a ||| b=0↔a=0∧b=0:=by
 constructor
 ·intro h;have h1:a≤a ||| b:=Nat.left_le_or;have h2:b≤a ||| b:=Nat.right_le_or;omega
 ·rintro ⟨rfl,rfl⟩;rfl

theorem l7 (a b:Nat):a ^^^ b=0↔a=b:=by
 constructor
 ·intro e;have e2:a ^^^ (a ^^^ b)=a ^^^ 0:=by rw [e]
  rw [← Nat.xor_assoc,Nat.xor_self,Nat.zero_xor,Nat.xor_zero] at e2;exact e2.symm
 ·rintro rfl;exact Nat.xor_self _

theorem oL {t X Y k:Nat} (h:t=0↔X%18446744073709551616^k=Y%18446744073709551616^k):(t ||| (dig X k ^^^ dig Y k))=0↔X%18446744073709551616^(k+1)=Y%18446744073709551616^(k+1):=by
 have hp:0<18446744073709551616^k:=Nat.pow_pos (by omega);have hX:X%18446744073709551616^k<18446744073709551616^k:=Nat.mod_lt _ hp;have hY:Y%18446744073709551616^k<18446744073709551616^k:=Nat.mod_lt _ hp;rw [nn,l7,h,cF,cF];generalize 18446744073709551616^k=p at *;generalize dig X k=x at *;generalize dig Y k=y at *;constructor
 ·rintro ⟨h1,rfl⟩;rw [h1]
 ·intro e;have e1:(X%p+p*x)%p=(Y%p+p*y)%p:=by rw [e]
  rw [Nat.add_mul_mod_self_left,Nat.add_mul_mod_self_left,Nat.mod_mod,Nat.mod_mod] at e1;refine ⟨e1,?_⟩;rw [e1] at e;exact Nat.eq_of_mul_eq_mul_left hp (by omega)

theorem mL (o:Tr) (u v:Value) (xs ys:List Nat) (w:World) (ht:TrRoom w o 1) (hu:RowT w o u xs) (hv:RowT w o v ys) (B:Digs xs) (m:Digs ys) (hL:xs.length≤100000000) (hM:ys.length≤100000000) :
  Calls Tryz.prog 144 #[aE o,u,v] w fun e w'=>e=.returned (.int .u64 (bi (decide (val xs<val ys)):Nat))∧∃ o',Did w o [(1,(max xs.length ys.length:Nat),0)] w' o':=by
 obtain ⟨ao,L,cap,rfl,Q,_,_,_,_⟩:=hu.1.open;obtain ⟨bo,M,C,rfl,H,_,_,_,_⟩:=hv.1.open;have eL:=Q.out;have eM:=H.out;have hX:Hid (val xs<18446744073709551616^max L M):=bV B (by omega);have hY:Hid (val ys<18446744073709551616^max L M):=bV m (by omega);have hC:=iE ao bo L M cap C w;have I:=fun o' W g (t:TrIn W o') (r:RowT W o' (.slice ao L cap) xs) hg=>ku o' _ xs (max L M) g W t r B (by omega) (by omega) hg
 have G:=fun o' W g (t:TrIn W o') (r:RowT W o' (.slice bo M C) ys) hg=>ku o' _ ys (max L M) g W t r m (by omega) (by omega) hg
 have aj:max L M≤100000000:=by omega
 rw [eL,eM] at *;have HU:Hid (RowT w o (.slice ao L cap) xs):=hu;have HV:Hid (RowT w o (.slice bo M C) ys):=hv;have HT:Hid (TrRoom w o 1):=ht;obtain ⟨tp,p⟩:∃ tp,tp=aE o:=⟨_,rfl⟩
 rw [← p];have ab:Hid (tp=aE o):=p;clear hu hv ht Q H eL eM B m hL hM p;generalize val xs=X at *;generalize val ys=Y at *;generalize max L M=n at *;go_enter Tryz.func144,Tryz.ntmps144;go_wp2_with fail;refine hC.mono ?_;rintro e w1 ⟨g,rfl,q,U,k1⟩;have hS:=dC o n w1 (HT.out.1.grew k1);rw [← ab.out] at hS;clear hC;go_wp2_with fail;refine hS.mono ?_;rintro e w2 ⟨rfl,o2,d2⟩;have d:w2.heap[g]? = _:=(d2.kept.block g (lt_of_block q) (fun f=>by have:=HT.out.1.foot g f;omega)).trans q;have b:=Did.after k1 d2;have j:TrIn w2 o2:=(b.room (k:=0) HT.out).1;have S:=HU.out.did b;have F:=HV.out.did b;clear hS d2 k1 q;go_wp2_with fail
 refine (I o2 w2 g j S d).mono ?_;rintro e w3 ⟨v1,rfl,N,k3⟩;have P:=(k3.block g (lt_of_block d) (fun f=>f)).trans d;go_wp2_with fail;refine (G o2 w3 g (j.grew k3) (F.grew k3) P).mono ?_;rintro e w4 ⟨v2,rfl,R,k4⟩;have a:=N.1.grew k4;have d4:=aa ((b.grew k3).grew k4);have ae:=aa ((j.grew k3).grew k4);obtain ⟨a1,n1,c1,rfl,J,_,_,_,s⟩:=a.open;obtain ⟨a2,n2,c2,rfl,O,_,_,_,A⟩:=R.1.open;obtain rfl:n1=n:=by rw [← J.out,ag]
 obtain rfl:n2=n1:=by rw [← O.out,ag]
 clear I G j S F d P N a R k3 k4 b J O U;go_wp2_with fail;go_loopw [9,28] (fun c i wr=>∃ (k c' D:Nat),k≤n2∧c'≤1∧i=.int .i64 (k:Int)∧c=.int .u64 (c':Int)∧Kept af w4 wr ∧
   Hid (D<18446744073709551616^k∧D+Y%18446744073709551616^k=X%18446744073709551616^k+18446744073709551616^k*c')) (fun _ i _=>n2-(intOf i).toNat)
 case atStart=>exact ⟨0,0,0,Nat.zero_le _,by omega,rfl,rfl,ai _ _,by unfold Hid;simp [Nat.mod_one]⟩
 case round=>
  obtain ⟨k,c,D,hk,hc,rfl,rfl,l,HD⟩:=hrel;by_cases hkn:k<n2
  ·have ak:(0:Int)≤(k:Int):=Int.natCast_nonneg _;have Z:(k:Int)<(n2:Int):=by omega
   obtain ⟨b1,V,rfl,ah⟩:=cK ((s k hkn).grew l) hkn;obtain ⟨b2,T,rfl,al⟩:=cK ((A k hkn).grew l) hkn;have hx:dig X k<18446744073709551616:=Nat.mod_lt _ (by omega);have hy:dig Y k<18446744073709551616:=Nat.mod_lt _ (by omega);have HS:Hid (∀ z c',z<18446744073709551616→z+dig Y k+c=dig X k+18446744073709551616*c'→D+18446744073709551616^k*z<18446744073709551616^(k+1)∧D+18446744073709551616^k*z+Y%18446744073709551616^(k+1)=X%18446744073709551616^(k+1)+18446744073709551616^(k+1)*c'):=fun z c' hz h=>rU HD.out.1 HD.out.2 hz h
   clear s A HD;generalize dig X k=x at *;generalize dig Y k=y at *;go_wp2_with fail;go_region_with (go_at_call 165;refine (pK x y c hx hy hc _).mono ?_;rintro e w7 ⟨z,c',rfl,hz,ac,ad,rfl⟩)
   all_goals
    go_wp2_with fail;go_roundw
    case rel=>exact ⟨k+1,c',_,by omega,ac,by go_num,rfl,l.drew,HS.out z c' hz ad⟩
    case measure=>simp [intOf];omega
  ·have Z:¬ (k:Int)<(n2:Int):=by omega
   have e:k=n2:=by omega
   subst e;have E:=aa (sk hX.out hY.out HD.out.1 HD.out.2);clear s A HD;go_wp2_with fail;go_ret;rw [← E.out];exact ⟨rfl,o2,d4.out.grew l⟩

theorem my (o:Tr) (u v:Value) (xs ys:List Nat) (w:World) (ht:TrRoom w o 1) (hu:RowT w o u xs) (hv:RowT w o v ys) (C:Digs xs) (m:Digs ys) (hL:xs.length≤100000000) (hM:ys.length≤100000000) :
  Calls Tryz.prog 188 #[aE o,u,v] w fun e w'=>e=.returned (.int .u64 (bi (decide (val xs=val ys)):Nat))∧∃ o',Did w o [(1,(max xs.length ys.length:Nat),0)] w' o':=by
 obtain ⟨ao,L,cap,rfl,R,_,_,_,_⟩:=hu.1.open;obtain ⟨bo,M,D,rfl,H,_,_,_,_⟩:=hv.1.open;have eL:=R.out;have eM:=H.out;have hX:Hid (val xs<18446744073709551616^max L M):=bV C (by omega);have hY:Hid (val ys<18446744073709551616^max L M):=bV m (by omega);have hC:=iE ao bo L M cap D w;have I:=fun o' W g (t:TrIn W o') (r:RowT W o' (.slice ao L cap) xs) hg=>ku o' _ xs (max L M) g W t r C (by omega) (by omega) hg
 have G:=fun o' W g (t:TrIn W o') (r:RowT W o' (.slice bo M D) ys) hg=>ku o' _ ys (max L M) g W t r m (by omega) (by omega) hg
 have an:max L M≤100000000:=by omega
 rw [eL,eM] at *;have HU:Hid (RowT w o (.slice ao L cap) xs):=hu;have HV:Hid (RowT w o (.slice bo M D) ys):=hv;have HT:Hid (TrRoom w o 1):=ht;obtain ⟨tp,p⟩:∃ tp,tp=aE o:=⟨_,rfl⟩
 rw [← p];have ad:Hid (tp=aE o):=p;clear hu hv ht R H eL eM C m hL hM p;generalize val xs=X at *;generalize val ys=Y at *;generalize max L M=n at *;go_enter Tryz.func188,Tryz.ntmps188;go_wp2_with fail;refine hC.mono ?_;rintro e w1 ⟨g,rfl,z,Z,k1⟩;have hS:=dC o n w1 (HT.out.1.grew k1);rw [← ad.out] at hS;clear hC;go_wp2_with fail;refine hS.mono ?_;rintro e w2 ⟨rfl,o2,d2⟩;have d:w2.heap[g]? = _:=(d2.kept.block g (lt_of_block z) (fun f=>by have:=HT.out.1.foot g f;omega)).trans z;have b:=Did.after k1 d2;have j:TrIn w2 o2:=(b.room (k:=0) HT.out).1;have T:=HU.out.did b;have F:=HV.out.did b;clear hS d2 k1 z;go_wp2_with fail
 refine (I o2 w2 g j T d).mono ?_;rintro e w3 ⟨v1,rfl,O,k3⟩;have Q:=(k3.block g (lt_of_block d) (fun f=>f)).trans d;go_wp2_with fail;refine (G o2 w3 g (j.grew k3) (F.grew k3) Q).mono ?_;rintro e w4 ⟨v2,rfl,S,k4⟩;have a:=O.1.grew k4;have d4:=aa ((b.grew k3).grew k4);have ah:=aa ((j.grew k3).grew k4);obtain ⟨a1,n1,c1,rfl,N,_,_,_,A⟩:=a.open;obtain ⟨a2,n2,c2,rfl,P,_,_,_,B⟩:=S.1.open;obtain rfl:n1=n:=by rw [← N.out,ag]
 obtain rfl:n2=n1:=by rw [← P.out,ag]
 clear I G j T F d Q O a S k3 k4 b N P Z;go_wp2_with fail;go_loopw [9,28] (fun c i wr=>∃ (k t:Nat),k≤n2∧t<18446744073709551616∧i=.int .i64 (k:Int)∧c=.int .u64 (t:Int)∧Kept af w4 wr ∧
   Hid (t=0↔X%18446744073709551616^k=Y%18446744073709551616^k)) (fun _ i _=>n2-(intOf i).toNat)
 case atStart=>exact ⟨0,0,Nat.zero_le _,by omega,rfl,rfl,ai _ _,by unfold Hid;simp [Nat.mod_one]⟩
 case round=>
  obtain ⟨k,t,hk,U,rfl,rfl,l,HE⟩:=hrel;by_cases hkn:k<n2
  ·have ap:(0:Int)≤(k:Int):=Int.natCast_nonneg _;have ac:(k:Int)<(n2:Int):=by omega
   obtain ⟨b1,ab,rfl,ak⟩:=cK ((A k hkn).grew l) hkn;obtain ⟨b2,V,rfl,aq⟩:=cK ((B k hkn).grew l) hkn;have hx:dig X k<18446744073709551616:=Nat.mod_lt _ (by omega);have hy:dig Y k<18446744073709551616:=Nat.mod_lt _ (by omega);have HS:=aa (oL (t:=t) (X:=X) (Y:=Y) (k:=k) HE.out);clear A B HE;generalize dig X k=x at *;generalize dig Y k=y at *;have am:=u64_xor_nat x y hx hy;have J:x ^^^ y<18446744073709551616:=Nat.xor_lt_two_pow (n:=64) hx hy;generalize x ^^^ y=s at *;have aj:=u64_or_nat t s U J;have ae:t ||| s<18446744073709551616:=Nat.or_lt_two_pow (n:=64) U J;generalize t ||| s=r at *;go_wp2_with fail;go_region
   all_goals
    go_wp2_with fail;go_roundw
    case rel=>exact ⟨k+1,r,by omega,ae,by go_num,rfl,l.drew,HS.out⟩
    case measure=>simp [intOf];omega
  ·have ac:¬ (k:Int)<(n2:Int):=by omega
   have e:k=n2:=by omega
   subst e;have E:Hid (((t:Int)=0)↔X=Y):=by
    have:=HE.out;rw [al hX.out,al hY.out] at this;unfold Hid;rw [← this];omega
   have hZ:=fun W=>ze (t:Int) (by omega) (by omega) W
   have E2:Hid (zer (t:Int)=(bi (decide (X=Y)):Nat)):=by
    unfold Hid zer bi;by_cases h:X=Y
    ·rw [if_pos (E.out.2 h),if_pos (by simpa using h)];rfl
    ·rw [if_neg (fun q=>h (E.out.1 q)),if_neg (by simpa using h)];rfl
   clear A B HE;go_wp2_with fail;refine (hZ _).mono ?_;rintro e w7 ⟨rfl,rfl⟩;go_wp2_with fail;go_ret;rw [← E2.out];exact ⟨rfl,o2,d4.out.grew l⟩

theorem Bl (o:Tr) (u:Value) (xs:List Nat) (w:World) (ht:TrRoom w o 1) (hu:RowT w o u xs) (a:Digs xs) (hL:xs.length≤100000000) :
  Calls Tryz.prog 152 #[aE o,u] w fun e w'=>e=.returned (.int .u64 (bi (decide (val xs=0)):Nat))∧∃ o',Did w o [(1,(xs.length:Nat),0)] w' o':=by
 have h:=my o u (.slice none 0 0) xs [] w ht hu ⟨Row.nil _ _,fun h=>absurd rfl h⟩ a (Digs.nil _) hL (by simp);rw [show val []=0 from rfl,List.length_nil,Nat.max_zero] at h;clear ht hu;generalize aE o=tp at *;generalize bi (decide (val xs=0))=c at *;go_enter Tryz.func152,Tryz.ntmps152;go_wp2_with fail;refine h.mono ?_;rintro e w' ⟨rfl,o',hd⟩;go_wp2;go_ret;exact ⟨rfl,o',hd⟩

def BV (a:World) (o0:Tr) (m0:List Ev) (g base N cap n many K X V c:Nat) (w':World):Prop:=
 c≤1∧∃ (zs':List Nat) (Q:Nat) (o':Tr),OwnN .u64 23 w' base (.slice (some ⟨g,0,none⟩) N cap) N zs'∧zs'.length=N∧Digs zs' ∧
  val zs'+18446744073709551616^N*c=X+V*Q∧Q<18446744073709551616^many∧((V*K+1)%18446744073709551616=0→0<n→val zs'%18446744073709551616^many=0)∧Did a o0 (m0 ++ List.replicate many (1,(n:Int),0)) w' o'

theorem mH (a:World) (o0 o:Tr) (m0:List Ev) (g base N cap n d K m rl p:Nat) (ao bo:Option Addr) (zs ms:List Nat) (w:World) (hD:Did a o0 m0 w o) (ht:TrRoom a o0 (m0.length+d)) (hg:a.heap.size≤g)
  (ho:OwnN .u64 23 w base (.slice (some ⟨g,0,none⟩) N cap) N zs) (P:zs.length=N) (ar:Digs zs) (hN:N=n+d) (aU:N≤100000) (hm:RowT a o0 (.slice ao n m) ms) (am:Digs ms) (b0:Nat) (ob:Array Value) (tb:TypeId) (au:w.heap[b0]? = some (.cells ob tb (0,0))) (aI:tb≠225) (aB:tb≠189) (aG:b0≠g) :
  Calls Tryz.prog 233 #[aE o,.agg #[.slice ao n m,.int .u64 (K:Nat),.slice bo rl p],.slice (some ⟨g,0,none⟩) N cap,.int .i64 (d:Nat)] w fun e w'=>
   ∃ c:Nat,e=.returned (.int .u64 (c:Nat))∧BV a o0 m0 g base N cap n d K (val zs) (val ms) c w'∧w'.heap[b0]? = some (.cells ob tb (0,0)):=by
 have hX:=aa (rfl:val zs=val zs);obtain ⟨_,_,_,e1,ac,_,_,_,_⟩:=hm.1.open;cases e1
 have HL:=aa ac.out;have HM:=aa hm;have aj:=aa am;have HT:=aa ht;have HD:=aa hD;have HN:=aa hN;have HG:=aa hg;have HV:Hid (∀ V,V=val ms→val zs+18446744073709551616^(0+n)*0=val zs+V*0):=fun V _=>by simp
 have a3:g<w.heap.size:=cW ho;obtain ⟨_,_,_,e1,_,aQ,_,_,_⟩:=(Row.of_own (base:=base) (e:=23) (by rw [P];exact ho):Row .u64 w (.slice (some ⟨g,0,none⟩) N cap) zs).open;cases e1
 obtain ⟨tp,O⟩:∃ tp,tp=aE o:=⟨_,rfl⟩
 rw [← O];have aM:=aa (O.trans hD.ptr);obtain ⟨X,H⟩:∃ X,X=val zs:=⟨_,rfl⟩
 obtain ⟨V,L⟩:∃ V,V=val ms:=⟨_,rfl⟩
 rw [← H,← L];have al:=aa L;have k0:Kept af w (w.alloc (.cells #[.slice ao n m,.int .u64 (K:Nat),.slice bo rl p] 130)):=(ai af w).alloc _;have aw:(w.alloc (.cells #[.slice ao n m,.int .u64 (K:Nat),.slice bo rl p] 130)).heap[w.heap.size]? = some (.cells #[.slice ao n m,.int .u64 (K:Nat),.slice bo rl p] 130 (0,0)):=heap_alloc_new _ _;have Z:=aa (hD.grew k0);have HO:=aa (k0.own ho (fun _ _ f=>f));have T:=aa aw;have ak:=aa (ap au:(w.alloc (.cells #[.slice ao n m,.int .u64 (K:Nat),.slice bo rl p] 130)).heap[b0]? = some (.cells ob tb (0,0)));have HZ:=aa (show zs.length=N∧Digs zs∧X=val zs from ⟨P,ar,H⟩)
 clear hm am ht hD hN ac O L H aw ho P ar hX HV hg k0 au;go_enter Tryz.func233,Tryz.ntmps233;obtain ⟨p0,p1,p2⟩:=ax T.out;go_wp2_with fail;go_loopw [10,17] (fun ov i wr=>∃ (k c Q:Nat) (os:List Nat) (o1:Tr),k≤d∧c≤1∧i=.int .i64 (k:Int)∧ov=.int .u64 (c:Int)∧Hid (os.length=N)∧Hid (Digs os)∧OwnN .u64 23 wr base (.slice (some ⟨g,0,none⟩) N cap) N os∧Hid (val os+18446744073709551616^(k+n)*c=X+V*Q)∧Hid (Q<18446744073709551616^k)∧Hid ((V*K+1)%18446744073709551616=0→0<n→val os%18446744073709551616^k=0) ∧
   wr.heap[w.heap.size]? = some (.cells #[.slice ao n m,.int .u64 (K:Nat),.slice bo rl p] 130 (0,0))∧Hid (wr.heap[b0]? = some (.cells ob tb (0,0)))∧Hid (Did a o0 (m0 ++ List.replicate k (1,(n:Int),0)) wr o1)) (fun _ i _=>d-(intOf i).toNat)
 case atStart=>
  obtain ⟨z1,z2,z3⟩:=HZ.out;exact ⟨0,0,0,zs,o,Nat.zero_le _,by omega,rfl,rfl,z1,z2,HO.out,by unfold Hid;rw [← z3];simp,by unfold Hid;simp,fun _ _=>by simp [Nat.mod_one],T.out,ak.out,by unfold Hid;rw [List.replicate_zero,List.append_nil];exact Z.out⟩
 case round=>
  obtain ⟨k,c,Q,os,o1,hk,hc,rfl,rfl,v,A,ho,F,HQ,s,hx,C,B⟩:=hrel;clear p0 p1 p2 T HO Z HZ ak;by_cases hkn:k<d
  ·have aX:(0:Int)≤(k:Int):=Int.natCast_nonneg _;have aJ:(k:Int)<(d:Int):=by omega
   have l:TrRoom wr o1 (d-k):=B.out.room (by rw [List.length_append,List.length_replicate,show m0.length+k+(d-k)=m0.length+d by omega];exact HT.out);have hS:=dC o1 (n:Int) wr l.1;rw [B.out.ptr,← aM.out] at hS;go_wp2_with fail;refine hS.mono ?_;rintro e w2 ⟨rfl,o2,d2⟩;have E:=d2.kept.own ho (eS ho l.1);have M:=(d2.kept.block _ (lt_of_block hx) (ay hx l.1 (by decide) (by decide))).trans hx;have av:=aa ((d2.kept.block _ (lt_of_block C.out) (ay C.out l.1 aI aB)).trans C.out);have t:=aa (B.out.trans d2);have an:=HM.out.did t.out;have D:=d2.room (k:=0) (l.less (by simp;omega))
   have az:¬ dx o2 g:=eS E D.1 _ rfl;clear hS ho d2 l B hx C;obtain ⟨p0,p1,p2⟩:=ax M;obtain ⟨q,hq⟩:∃ q,q=os.getD k 0*K%18446744073709551616:=⟨_,rfl⟩
   obtain ⟨S,hS⟩:∃ S,S=val ((os.drop k).take n)+V*q:=⟨_,rfl⟩
   obtain ⟨R,hR⟩:∃ R,R=S/18446744073709551616^n:=⟨_,rfl⟩
   have ae:q<18446744073709551616:=by rw [hq];exact Nat.mod_lt _ (by omega)
   have ah:k+n<N:=by have:=HN.out;omega
   have a6:k<cap:=by omega
   have aV:¬ cap=k:=by omega
   have aY:os.getD k 0<18446744073709551616:=A.out.getD (by omega) _;have aC:os.getD (k+n) 0<18446744073709551616:=A.out.getD (by omega) _;have aA:R<18446744073709551616:=by
    rw [hR,Nat.div_lt_iff_lt_mul (Nat.pow_pos (by omega)),hS];have h1:=jE (j:=k) (n:=n) A.out;have h2:V<18446744073709551616^n:=by rw [al.out,← HL.out];exact aq (by omega) aj.out
    have h3:V*q≤18446744073709551616^n*q:=Nat.mul_le_mul_right _ (Nat.le_of_lt h2);have h4:18446744073709551616^n*(q+1)≤18446744073709551616^n*18446744073709551616:=Nat.mul_le_mul_left _ ae;rw [Nat.mul_add,Nat.mul_one] at h4;rw [Nat.mul_comm 18446744073709551616];omega
   have aR:w2.cell? ⟨g,k,none⟩=some (.int .u64 (os.getD k 0:Nat)):=by
    have aF:k<os.length:=by rw [v.out];omega
    rw [World.ownsRow.cellAt E k (by omega),List.getElem?_map,List.getD_eq_getElem?_getD,List.getElem?_eq_getElem aF];rfl
   have aK:((os.getD k 0:Nat):Int)*(K:Int)%18446744073709551616=(q:Int):=by rw [hq];omega
   have W:=im (w':=w2) (g:=g) HM.out.1 HG.out t.out.size;have HA:=fun W' (kk:Kept af w2 W')=>vO g base N cap k n (cap-k) q os ms (.slice ao n m) W' (kk.own E (fun _ _ f=>f)) v.out A.out (by omega) (an.1.grew kk) HL.out aj.out W ae R S (by rw [← al.out];exact hS) hR
   have aL:Hid (∀ z c2,z+18446744073709551616*c2=os.getD (k+n) 0+R+c→z<18446744073709551616→val (os.take k ++ ((digs S n ++ [z]) ++ os.drop (k+(n+1))))+18446744073709551616^(k+1+n)*c2=X+V*(Q+18446744073709551616^k*q)∧Q+18446744073709551616^k*q<18446744073709551616^(k+1)∧((V*K+1)%18446744073709551616=0→0<n→val (os.take k ++ ((digs S n ++ [z]) ++ os.drop (k+(n+1))))%18446744073709551616^(k+1)=0)∧Digs (os.take k ++ ((digs S n ++ [z]) ++ os.drop (k+(n+1))))∧(os.take k ++ ((digs S n ++ [z]) ++ os.drop (k+(n+1)))).length=N):=fun z c2 hz U=>sd A.out v.out ah F.out HQ.out hq hS hR hz U s.out
   have I:Hid (∀ W' z,OwnN .u64 23 W' base (.slice (some ⟨g,0,none⟩) N cap) N (os.take k ++ (digs S n ++ os.drop (k+n)))→OwnN .u64 23 (W'.setCell ⟨g,k+n,none⟩ (.int .u64 ((z:Nat):Int))) base (.slice (some ⟨g,0,none⟩) N cap) N (os.take k ++ ((digs S n ++ [z]) ++ os.drop (k+(n+1))))):=fun W' z h=>by
    have:=(World.ownsRow.stored h (k+n) (.int .u64 (z:Int))).1;unfold OwnN;rw [← fM os _ k n z (ag _ _ _) (by have:=v.out;omega),List.map_set];exact this
   have r:∀ W',OwnN .u64 23 W' base (.slice (some ⟨g,0,none⟩) N cap) N (os.take k ++ (digs S n ++ os.drop (k+n)))→W'.cell? ⟨g,k+n,none⟩=some (.int .u64 (os.getD (k+n) 0:Nat)):=fun W' h=>eY h v.out (ag _ _ _) ah
   have ad:∀ W',OwnN .u64 23 W' base (.slice (some ⟨g,0,none⟩) N cap) N (os.take k ++ (digs S n ++ os.drop (k+n)))→W'.frozen? ⟨g,k+n,none⟩=false:=fun W' h=>World.ownsRow.frozenAt h (k+n)
   have ab:w.heap.size≠g:=by omega
   have G:=aa M;have Y:∀ W',Kept (fun b=>b=g) w2.drew W'→W'.cell? ⟨w.heap.size,0,none⟩=some (.slice ao n m)∧W'.cell? ⟨w.heap.size,1,none⟩=some (.int .u64 (K:Int)):=fun W' k=>by
    obtain ⟨a0,a1,_⟩:=ax ((k.block _ (lt_of_block G.out) ab).trans G.out);exact ⟨a0,a1⟩
   clear hq hS hR F HQ s an E W M D;generalize os.getD k 0=x at *;generalize os.getD (k+n) 0=y at *;generalize os.take k ++ (digs S n ++ os.drop (k+n))=os' at *;have a4:(k:Int)+(n:Int)<(N:Int):=by omega
   have a5:(k:Int)<(N:Int):=by omega
   have aP:(k:Int)+(n:Int)≤(cap:Int):=by omega
   have a2:(k:Int)≤(k:Int)+(n:Int):=by omega
   have aN:(0:Int)≤(k:Int)+(n:Int):=by omega
   have aH:((k:Int)+(n:Int)).toNat=k+n:=by omega
   have aS:IntKind.i64.wrap ((k:Int)+(n:Int))=(k:Int)+(n:Int):=by rw [IntKind.wrap_i64];omega
   have aW:IntKind.u64.wrap ((x:Int)*(K:Int))=(q:Int):=by rw [IntKind.wrap_u64];exact aK
   go_wp2_with fail;have JA:=aa HA;have JC:=aa r;have JF:=aa ad;have JK:=aa Y;clear HA r ad Y;go_region_with (go_at_call 250;refine (JA.out _ ((ai _ _).drew)).mono ?_;rintro e w3 ⟨rfl,J,k3⟩;have aZ:=JC.out _ J;have aT:=JF.out _ J)
   all_goals
    go_wp2_with fail;refine (uO y R c aC aA hc _).mono ?_;rintro e w7 ⟨z,c2,rfl,U,aD,aO,rfl⟩;obtain ⟨s1,s2,s3,s4,s5⟩:=aL.out z c2 aO U;go_wp2_with fail;go_roundw
    case rel=>
     have k4:Kept (fun b=>b=g) w2 (w7.setCell ⟨g,k+n,none⟩ (.int .u64 (z:Int))):=(((ai _ _).drew).trans k3).setCell _ (fun _=>rfl) _;exact ⟨k+1,c2,_,_,o2,by omega,aD,by go_num,rfl,s5,s4,I.out _ z J,s1,s2,s3,(k4.block _ (lt_of_block G.out) ab).trans G.out,(k4.block _ (lt_of_block av.out) aG).trans av.out,by unfold Hid;rw [List.replicate_succ',← List.append_assoc];exact t.out.wroteNew k4 HG.out az⟩
    case measure=>simp [intOf];omega
  ·have aJ:¬ (k:Int)<(d:Int):=by omega
   obtain rfl:k=d:=by omega
   have e:=F.out;rw [show k+n=N by rw [HN.out,Nat.add_comm]] at e;have HE:=aa e;clear e F;go_wp2_with fail;go_ret;exact ⟨c,rfl,⟨hc,os,Q,o1,ho,v.out,A.out,HE.out,HQ.out,s.out,B.out⟩,C.out⟩

end Go.Proofs.YtcemlfokmjjiaaaGreatDoor
