/- Put together of: Lim2 MonB. -/
import Derived.Test.YtkaojflnghfmcaaGreatDoorQC7

namespace Go.Proofs.YtkaojflnghfmcaaGreatDoor
open _root_.Go.Proofs.Tryz
set_option maxRecDepth 100000
set_option maxHeartbeats 4000000
open Go.RowKit

theorem xZ {n X Y bit c:Nat} {os:List Nat} (hl:os.length=n) (hd:Digs os) (hX:X<18446744073709551616^n) (hY:Y<18446744073709551616^n) (h:val os+18446744073709551616^n*c=X%18446744073709551616^n+(Y*(bit%2))%18446744073709551616^n) :
  os=digs (cC bit (X+Y) X) n/\c=cC bit (cY (decide (2^(64*n)<=X+Y))) 0:=by
 have hv:=aE (by omega) hd;rw [hl] at hv;rw [<- B64];have a:bit%2=0\/bit%2=1:=by omega
 rw [ax hX] at h;rcases a with hb | hb
 ·rw [hb,cG,iI,aU] at h;unfold cC;rw [ai (by omega),ai (by omega)];have hc:c=0:=by
   rcases cF c with h0 | h0
   ·exact h0
   ·have:18446744073709551616^n*1<=18446744073709551616^n*c:=bi _ h0;omega
  subst hc;refine ⟨b8 (by omega) hd hl ?_,rfl⟩;rw [ax hX];omega
 ·rw [hb,bD,ax hY] at h;unfold cC cY;rw [ah hb,ah hb];refine ⟨b8 (by omega) hd hl ?_,?_⟩
  ·rw [<- h,eW,ax hv]
  ·have hc:c=0\/c=1\/2<=c:=by omega
   rcases hc with rfl | rfl | hc
   ·rw [ai];simp;omega
   ·rw [ah];simp;omega
   ·have:18446744073709551616^n*2<=18446744073709551616^n*c:=bi _ hc;omega

theorem em {xs:List Nat} {n:Nat} (hd:Digs xs) (hl:xs.length<=n):val xs<18446744073709551616^n:=
 bd (aE (by omega) hd) (aY (by omega) hl)

theorem eC {k:IntKind} {w:World} {ao:Option Addr} {X n i:Nat} (h:NumAt k w ao (digs X n) i) (hi:i<n):∃ b off,ao=some ⟨b,off,none⟩/\w.cell? ⟨b,off+i,none⟩=some (.int k (dig X i:Nat)):=by
 obtain ⟨b,off,e,hc⟩:=h;rw [iQ _ _ _ _ hi] at hc;exact ⟨b,off,e,hc⟩

theorem uD (o:Tr) (bit:Nat) (ai:bit<18446744073709551616) (u v:Value) (xs ys:List Nat) (w:World) (ht:TrRoom w o 1) (hu:RowT w o u xs) (hv:RowT w o v ys) (B:Digs xs) (C:Digs ys) (hL:xs.length<=100000000) (hM:ys.length<=100000000) :
  Calls prog 204 #[aL o,.int .u64 (bit:Nat),u,v] w fun e w'=>∃ v',e=.returned (.tuple #[v',.int .u64 (cC bit (cY (decide (2^(64*max xs.length ys.length)<=val xs+val ys))) 0:Nat)]) /\
   OwnN .u64 24 w' w.heap.size v' (max xs.length ys.length) (digs (cC bit (val xs+val ys) (val xs)) (max xs.length ys.length))/\∃ o',Did w o [(1,(max xs.length ys.length:Nat),0)] w' o':=by
 obtain ⟨i0,al,aq,ar,au⟩:=info_parts Tryz.info24;obtain ⟨ao,L,s,rfl,J,_,_,_,_⟩:=hu.1.open;obtain ⟨bo,M,A,rfl,N,_,_,_,_⟩:=hv.1.open;have eL:=J.out;have eM:=N.out;have hX:Hid (val xs<18446744073709551616^max L M):=em B (by omega);have hY:Hid (val ys<18446744073709551616^max L M):=em C (by omega);have hC:=mH ao bo L M s A w;have H:=fun o' W g (t:TrIn W o') (r:RowT W o' (.slice ao L s) xs) hg=>pW o' _ xs (max L M) g W t r B (by omega) (by omega) hg
 have I:=fun o' W g (t:TrIn W o') (r:RowT W o' (.slice bo M A) ys) hg=>pW o' _ ys (max L M) g W t r C (by omega) (by omega) hg
 have aD:max L M<=100000000:=by omega
 rw [eL,eM] at *;have S:=fun W=>qQ (bit:Int) (by omega) (by omega) W
 have HU:Hid (RowT w o (.slice ao L s) xs):=hu;have HV:Hid (RowT w o (.slice bo M A) ys):=hv;have HT:Hid (TrRoom w o 1):=ht;obtain ⟨tp,G⟩:∃ tp,tp=aL o:=⟨_,rfl⟩
 rw [<- G];have ae:Hid (tp=aL o):=G;clear hu hv ht J N eL eM B C hL hM G;generalize val xs=X at *;generalize val ys=Y at *;generalize max L M=n at *;go_enter func204,ntmps204;go_wp2_with fail;refine hC.mono ?_;rintro e w1 ⟨g,rfl,D,ak,k1⟩;have hS:=fz o n w1 (HT.out.1.grew k1);rw [<- ae.out] at hS;clear hC;go_wp2_with fail;refine hS.mono ?_;rintro e w2 ⟨rfl,o2,d2⟩;have l:w2.heap[g]? = _:=(d2.kept.block g (lt_of_block D) (fun f=>by have:=HT.out.1.foot g f;omega)).trans D;have a:=Did.after k1 d2;have q:TrIn w2 o2:=(a.room (k:=0) HT.out).1;have ab:=HU.out.did a;have ac:=HV.out.did a;clear hS d2 k1 D;go_wp2_with fail
 refine (H o2 w2 g q ab l).mono ?_;rintro e w3 ⟨v1,rfl,U,k3⟩;have Q:=(k3.block g (lt_of_block l) (fun f=>f)).trans l;go_wp2_with fail;refine (I o2 w3 g (q.grew k3) (ac.grew k3) Q).mono ?_;rintro e w4 ⟨v2,rfl,V,k4⟩;have d:=U.1.grew k4;have d4:=aa ((a.grew k3).grew k4);have aE:=aa ((q.grew k3).grew k4);obtain ⟨a1,n1,c1,rfl,O,_,_,_,E⟩:=d.open;obtain ⟨a2,n2,c2,rfl,P,_,_,_,F⟩:=V.1.open;obtain rfl:n1=n:=by rw [<- O.out,ag]
 obtain rfl:n2=n1:=by rw [<- P.out,ag]
 have an:Hid (w.heap.size<=w4.heap.size):=d4.out.size;clear H I q ab ac l Q U d V k3 k4 a O P ak;go_wp2_with (at_make;refine wpList_make_full _ rfl _ _ 23 rfl w4.heap.size 24 i0 _ 1 underlying23 al aq ar _ _ _ _ n2 rfl rfl rfl rfl (by rw [au];omega) (by unfold maxLen;omega) (leR _) ?_;intro w5 p R);rw [bg] at p;have k5:=aV R;clear R;refine (S _).mono ?_;rintro e w6 ⟨rfl,rfl⟩;clear S;go_wp2_with fail
 go_loopw [14,37] (fun c i wr=>∃ (k c':Nat) (os:List Nat),k<=n2/\c'<=1/\i=.int .i64 (k:Int)/\c=.int .u64 (c':Int)/\Hid (os.length=k)/\Digs os/\OwnN .u64 24 wr w4.heap.size (.slice (some ⟨w4.heap.size,0,none⟩) n2 n2) n2 (os ++ List.replicate (n2-k) 0)/\Kept af w4 wr /\
   Hid (val os+18446744073709551616^k*c'=X%18446744073709551616^k+(Y*(bit%2))%18446744073709551616^k)) (fun _ i _=>n2-(intOf i).toNat)
 case atStart=>exact ⟨0,0,[],aP _,by omega,rfl,rfl,rfl,Digs.nil _,by rw [bw,dK];exact p,k5,by unfold Hid;simp [val,gM]⟩
 case round=>
  obtain ⟨k,c,os,hk,hc,rfl,rfl,HL,T,ho,m,j⟩:=hrel;by_cases hkn:k<n2
  ·have aC:(0:Int)<=(k:Int):=bY _;have am:(k:Int)<(n2:Int):=by omega
   obtain ⟨b1,aw,rfl,aA⟩:=eC ((E k hkn).grew m) hkn;obtain ⟨b2,ax,rfl,aB⟩:=eC ((F k hkn).grew m) hkn;have az:=iR ho HL.out hkn;have hf:=World.ownsRow.frozenAt ho k;have Z:=fun u=>(World.ownsRow.stored ho k u).1
   have hx:dig X k<18446744073709551616:=ay _ (by omega);have hy:dig Y k<18446744073709551616:=ay _ (by omega);have HS:Hid (∀ z c',z+18446744073709551616*c'=dig X k+dig Y k*(bit%2)+c->val (os ++ [z])+18446744073709551616^(k+1)*c'=X%18446744073709551616^(k+1)+(Y*(bit%2))%18446744073709551616^(k+1)):=fun z c' h=>x8 HL.out j.out (by rw [vI];exact h)
   have ah:=oD (dig Y k) bit hy;have ap:dig Y k*(bit%2)<18446744073709551616:=by
    have:bit%2=0\/bit%2=1:=by omega
    rcases this with h | h <;> rw [h] <;> omega
   have ad:Hid (∀ u:Nat,OwnN .u64 24 (wr.setCell ⟨w4.heap.size,k,none⟩ (.int .u64 (u:Int))) w4.heap.size (.slice (some ⟨w4.heap.size,0,none⟩) n2 n2) n2 ((os ++ [u]) ++ List.replicate (n2-(k+1)) 0)):=fun u=>by
    have:=Z (.int .u64 (u:Int));unfold OwnN;rw [<- jV os n2 k u HL.out hkn,bZ];exact this
   clear E F j Z p k5;generalize dig X k=x at *;generalize dig Y k=y at *;generalize y*(bit%2)=y' at *;go_wp2_with fail;go_region_with (go_at_call 225;refine (BQ x y' c hx ap hc _).mono ?_;rintro e w7 ⟨z,c',rfl,hz,aj,av,rfl⟩)
   all_goals
    go_wp2_with fail;go_roundw
    case rel=>exact ⟨k+1,c',os ++ [z],by omega,aj,by go_num,rfl,by unfold Hid;rw [aZ,HL.out];rfl,T.append (Digs.one hz),ad.out z,(m.setCell _ (fun h=>by simp at h) _).drew,HS.out z c' av⟩
    case measure=>simp [intOf];omega
  ·have am:¬ (k:Int)<(n2:Int):=by omega
   have e:k=n2:=by omega
   subst e;rw [bJ,eH,dI] at ho;obtain ⟨e1,e2⟩:=xZ HL.out T hX.out hY.out j.out;have E1:=aa e1;have E2:=aa e2;clear e1 e2 E F j p k5;go_wp2_with fail;go_ret2;rw [<- E1.out,<- E2.out];exact ⟨_,rfl,cE ho (fun b hb=>aR an.out (ho.lt b hb).1),o2,d4.out.grew m⟩

theorem zp {n X Y bit c:Nat} {os:List Nat} (hl:os.length=n) (hd:Digs os) (hX:X<18446744073709551616^n) (hY:Y<18446744073709551616^n) (h:val os+(Y*(bit%2))%18446744073709551616^n=X%18446744073709551616^n+18446744073709551616^n*c) :
  os=digs (cC bit (fK X Y n) X) n/\c=cC bit (cY (decide (X<Y))) 0:=by
 have hv:=aE (by omega) hd;rw [hl] at hv;unfold fK;rw [<- B64];have a:bit%2=0\/bit%2=1:=by omega
 have b:c=0\/c=1\/18446744073709551616^n*2<=18446744073709551616^n*c:=by
  have hc:c=0\/c=1\/2<=c:=by omega
  rcases hc with h | h | h
  ·exact .inl h
  ·exact .inr (.inl h)
  ·exact .inr (.inr (bi _ h))
 rw [ax hX] at h;rcases a with hb | hb
 ·rw [hb,cG,iI,aU] at h;unfold cC;rw [ai (by omega),ai (by omega)];rcases b with rfl | rfl | hc
  ·refine ⟨b8 (by omega) hd hl ?_,rfl⟩;rw [ax hX];omega
  ·omega
  ·omega
 ·rw [hb,bD,ax hY] at h;unfold cC cY;rw [ah hb,ah hb];rcases b with rfl | rfl | hc
  ·have hn:¬ X<Y:=by omega
   rw [ai hn];refine ⟨b8 (by omega) hd hl ?_,by rw [ai];simpa using hn⟩;rw [ax (by omega)];omega
  ·have hn:X<Y:=by omega
   rw [ah hn];refine ⟨b8 (by omega) hd hl ?_,by rw [ah];simpa using hn⟩;rw [ax (by omega)];omega
  ·omega

theorem uE (o:Tr) (bit:Nat) (ai:bit<18446744073709551616) (u v:Value) (xs ys:List Nat) (w:World) (ht:TrRoom w o 1) (hu:RowT w o u xs) (hv:RowT w o v ys) (B:Digs xs) (C:Digs ys) (hL:xs.length<=100000000) (hM:ys.length<=100000000) :
  Calls prog 226 #[aL o,.int .u64 (bit:Nat),u,v] w fun e w'=>∃ v',e=.returned (.tuple #[v',.int .u64 (cC bit (cY (decide (val xs<val ys))) 0:Nat)]) /\
   OwnN .u64 24 w' w.heap.size v' (max xs.length ys.length) (digs (cC bit (fK (val xs) (val ys) (max xs.length ys.length)) (val xs)) (max xs.length ys.length))/\∃ o',Did w o [(1,(max xs.length ys.length:Nat),0)] w' o':=by
 obtain ⟨i0,al,aq,ar,au⟩:=info_parts Tryz.info24;obtain ⟨ao,L,s,rfl,J,_,_,_,_⟩:=hu.1.open;obtain ⟨bo,M,A,rfl,N,_,_,_,_⟩:=hv.1.open;have eL:=J.out;have eM:=N.out;have hX:Hid (val xs<18446744073709551616^max L M):=em B (by omega);have hY:Hid (val ys<18446744073709551616^max L M):=em C (by omega);have hC:=mH ao bo L M s A w;have H:=fun o' W g (t:TrIn W o') (r:RowT W o' (.slice ao L s) xs) hg=>pW o' _ xs (max L M) g W t r B (by omega) (by omega) hg
 have I:=fun o' W g (t:TrIn W o') (r:RowT W o' (.slice bo M A) ys) hg=>pW o' _ ys (max L M) g W t r C (by omega) (by omega) hg
 have aD:max L M<=100000000:=by omega
 rw [eL,eM] at *;have S:=fun W=>qQ (bit:Int) (by omega) (by omega) W
 have HU:Hid (RowT w o (.slice ao L s) xs):=hu;have HV:Hid (RowT w o (.slice bo M A) ys):=hv;have HT:Hid (TrRoom w o 1):=ht;obtain ⟨tp,G⟩:∃ tp,tp=aL o:=⟨_,rfl⟩
 rw [<- G];have ae:Hid (tp=aL o):=G;clear hu hv ht J N eL eM B C hL hM G;generalize val xs=X at *;generalize val ys=Y at *;generalize max L M=n at *;go_enter func226,ntmps226;go_wp2_with fail;refine hC.mono ?_;rintro e w1 ⟨g,rfl,D,ak,k1⟩;have hS:=fz o n w1 (HT.out.1.grew k1);rw [<- ae.out] at hS;clear hC;go_wp2_with fail;refine hS.mono ?_;rintro e w2 ⟨rfl,o2,d2⟩;have l:w2.heap[g]? = _:=(d2.kept.block g (lt_of_block D) (fun f=>by have:=HT.out.1.foot g f;omega)).trans D;have a:=Did.after k1 d2;have q:TrIn w2 o2:=(a.room (k:=0) HT.out).1;have ab:=HU.out.did a;have ac:=HV.out.did a;clear hS d2 k1 D;go_wp2_with fail
 refine (H o2 w2 g q ab l).mono ?_;rintro e w3 ⟨v1,rfl,U,k3⟩;have Q:=(k3.block g (lt_of_block l) (fun f=>f)).trans l;go_wp2_with fail;refine (I o2 w3 g (q.grew k3) (ac.grew k3) Q).mono ?_;rintro e w4 ⟨v2,rfl,V,k4⟩;have d:=U.1.grew k4;have d4:=aa ((a.grew k3).grew k4);have aE:=aa ((q.grew k3).grew k4);obtain ⟨a1,n1,c1,rfl,O,_,_,_,E⟩:=d.open;obtain ⟨a2,n2,c2,rfl,P,_,_,_,F⟩:=V.1.open;obtain rfl:n1=n:=by rw [<- O.out,ag]
 obtain rfl:n2=n1:=by rw [<- P.out,ag]
 have an:Hid (w.heap.size<=w4.heap.size):=d4.out.size;clear H I q ab ac l Q U d V k3 k4 a O P ak;go_wp2_with (at_make;refine wpList_make_full _ rfl _ _ 23 rfl w4.heap.size 24 i0 _ 1 underlying23 al aq ar _ _ _ _ n2 rfl rfl rfl rfl (by rw [au];omega) (by unfold maxLen;omega) (leR _) ?_;intro w5 p R);rw [bg] at p;have k5:=aV R;clear R;refine (S _).mono ?_;rintro e w6 ⟨rfl,rfl⟩;clear S;go_wp2_with fail
 go_loopw [14,37] (fun c i wr=>∃ (k c':Nat) (os:List Nat),k<=n2/\c'<=1/\i=.int .i64 (k:Int)/\c=.int .u64 (c':Int)/\Hid (os.length=k)/\Digs os/\OwnN .u64 24 wr w4.heap.size (.slice (some ⟨w4.heap.size,0,none⟩) n2 n2) n2 (os ++ List.replicate (n2-k) 0)/\Kept af w4 wr /\
   Hid (val os+(Y*(bit%2))%18446744073709551616^k=X%18446744073709551616^k+18446744073709551616^k*c')) (fun _ i _=>n2-(intOf i).toNat)
 case atStart=>exact ⟨0,0,[],aP _,by omega,rfl,rfl,rfl,Digs.nil _,by rw [bw,dK];exact p,k5,by unfold Hid;simp [val,gM]⟩
 case round=>
  obtain ⟨k,c,os,hk,hc,rfl,rfl,HL,T,ho,m,j⟩:=hrel;by_cases hkn:k<n2
  ·have aC:(0:Int)<=(k:Int):=bY _;have am:(k:Int)<(n2:Int):=by omega
   obtain ⟨b1,aw,rfl,aA⟩:=eC ((E k hkn).grew m) hkn;obtain ⟨b2,ax,rfl,aB⟩:=eC ((F k hkn).grew m) hkn;have az:=iR ho HL.out hkn;have hf:=World.ownsRow.frozenAt ho k;have Z:=fun u=>(World.ownsRow.stored ho k u).1
   have hx:dig X k<18446744073709551616:=ay _ (by omega);have hy:dig Y k<18446744073709551616:=ay _ (by omega);have HS:Hid (∀ z c',z+dig Y k*(bit%2)+c=dig X k+18446744073709551616*c'->val (os ++ [z])+(Y*(bit%2))%18446744073709551616^(k+1)=X%18446744073709551616^(k+1)+18446744073709551616^(k+1)*c'):=fun z c' h=>zr HL.out j.out (by rw [vI];exact h)
   have ah:=oD (dig Y k) bit hy;have ap:dig Y k*(bit%2)<18446744073709551616:=by
    have:bit%2=0\/bit%2=1:=by omega
    rcases this with h | h <;> rw [h] <;> omega
   have ad:Hid (∀ u:Nat,OwnN .u64 24 (wr.setCell ⟨w4.heap.size,k,none⟩ (.int .u64 (u:Int))) w4.heap.size (.slice (some ⟨w4.heap.size,0,none⟩) n2 n2) n2 ((os ++ [u]) ++ List.replicate (n2-(k+1)) 0)):=fun u=>by
    have:=Z (.int .u64 (u:Int));unfold OwnN;rw [<- jV os n2 k u HL.out hkn,bZ];exact this
   clear E F j Z p k5;generalize dig X k=x at *;generalize dig Y k=y at *;generalize y*(bit%2)=y' at *;go_wp2_with fail;go_region_with (go_at_call 188;refine (xW x y' c hx ap hc _).mono ?_;rintro e w7 ⟨z,c',rfl,hz,aj,av,rfl⟩)
   all_goals
    go_wp2_with fail;go_roundw
    case rel=>exact ⟨k+1,c',os ++ [z],by omega,aj,by go_num,rfl,by unfold Hid;rw [aZ,HL.out];rfl,T.append (Digs.one hz),ad.out z,(m.setCell _ (fun h=>by simp at h) _).drew,HS.out z c' av⟩
    case measure=>simp [intOf];omega
  ·have am:¬ (k:Int)<(n2:Int):=by omega
   have e:k=n2:=by omega
   subst e;rw [bJ,eH,dI] at ho;obtain ⟨e1,e2⟩:=zp HL.out T hX.out hY.out j.out;have E1:=aa e1;have E2:=aa e2;clear e1 e2 E F j p k5;go_wp2_with fail;go_ret2;rw [<- E1.out,<- E2.out];exact ⟨_,rfl,cE ho (fun b hb=>aR an.out (ho.lt b hb).1),o2,d4.out.grew m⟩

theorem H6 (A B:Nat):cC 1 A B=A:=by unfold cC;rw [ah (by omega)]

theorem GW (o:Tr) (u v:Value) (xs ys:List Nat) (w:World) (ht:TrRoom w o 1) (hu:RowT w o u xs) (hv:RowT w o v ys) (a:Digs xs) (b:Digs ys) (hL:xs.length<=100000000) (hM:ys.length<=100000000) :
  Calls prog 147 #[aL o,u,v] w fun e w'=>∃ v',e=.returned (.tuple #[v',.int .u64 (cY (decide (2^(64*max xs.length ys.length)<=val xs+val ys)):Nat)]) /\
   OwnN .u64 24 w' w.heap.size v' (max xs.length ys.length) (digs (val xs+val ys) (max xs.length ys.length))/\∃ o',Did w o [(1,(max xs.length ys.length:Nat),0)] w' o':=by
 have h:=uD o 1 (by omega) u v xs ys w ht hu hv a b hL hM;simp only [H6] at h;clear ht hu hv;generalize aL o=tp at *;generalize cY (decide (2^(64*max xs.length ys.length)<=val xs+val ys))=c at *;go_enter func147,ntmps147;go_wp2_with fail;refine h.mono ?_;rintro e w' ⟨v',rfl,ho,o',hd⟩;go_wp2;go_ret2;exact ⟨_,rfl,ho,o',hd⟩

theorem Ay (o:Tr) (u v:Value) (xs ys:List Nat) (w:World) (ht:TrRoom w o 1) (hu:RowT w o u xs) (hv:RowT w o v ys) (a:Digs xs) (b:Digs ys) (hL:xs.length<=100000000) (hM:ys.length<=100000000) :
  Calls prog 193 #[aL o,u,v] w fun e w'=>∃ v',e=.returned (.tuple #[v',.int .u64 (cY (decide (val xs<val ys)):Nat)]) /\
   OwnN .u64 24 w' w.heap.size v' (max xs.length ys.length) (digs (fK (val xs) (val ys) (max xs.length ys.length)) (max xs.length ys.length))/\∃ o',Did w o [(1,(max xs.length ys.length:Nat),0)] w' o':=by
 have h:=uE o 1 (by omega) u v xs ys w ht hu hv a b hL hM;simp only [H6] at h;clear ht hu hv;generalize aL o=tp at *;generalize cY (decide (val xs<val ys))=c at *;go_enter func193,ntmps193;go_wp2_with fail;refine h.mono ?_;rintro e w' ⟨v',rfl,ho,o',hd⟩;go_wp2;go_ret2;exact ⟨_,rfl,ho,o',hd⟩

theorem yE {B X Y k c z c' D:Nat} (hD:D<B^k) (h:D+Y%B^k=X%B^k+B^k*c) (a:z<B) (hz:z+dig Y k B+c=dig X k B+B*c') :
  D+B^k*z<B^(k+1)/\D+B^k*z+Y%B^(k+1)=X%B^(k+1)+B^(k+1)*c':=by
 rw [eK,eK,aH,bf];have e:B^k*(z+dig Y k B+c)=B^k*(dig X k B+B*c'):=by rw [hz]
 rw [aJ,aJ,aJ] at e;have h1:B^k*(z+1)<=B^k*B:=bi _ a;rw [aJ,bD] at h1;constructor <;> omega

theorem AB {n X Y c D:Nat} (hX:X<18446744073709551616^n) (hY:Y<18446744073709551616^n) (hD:D<18446744073709551616^n) (h:D+Y%18446744073709551616^n=X%18446744073709551616^n+18446744073709551616^n*c):c=cY (decide (X<Y)):=by
 rw [ax hX,ax hY] at h;have hc:c=0\/c=1\/2<=c:=by omega
 unfold cY;rcases hc with rfl | rfl | hc
 ·rw [ai];simp;omega
 ·rw [ah];simp;omega
 ·have:18446744073709551616^n*2<=18446744073709551616^n*c:=bi _ hc;omega

theorem tm (a b:Nat):a ||| b=0↔a=0/\b=0:=by
 constructor
 ·intro h;have h1:a<=a ||| b:=Nat.left_le_or;have h2:b<=a ||| b:=Nat.right_le_or;omega
 ·rintro ⟨rfl,rfl⟩;rfl

theorem rY (a b:Nat):a ^^^ b=0↔a=b:=by
 constructor
 ·intro e;have e2:a ^^^ (a ^^^ b)=a ^^^ 0:=by rw [e]
  rw [<- Nat.xor_assoc,Nat.xor_self,Nat.zero_xor,Nat.xor_zero] at e2;exact e2.symm
 ·rintro rfl;exact Nat.xor_self _

theorem uj {t X Y k:Nat} (h:t=0↔X%18446744073709551616^k=Y%18446744073709551616^k):(t ||| (dig X k ^^^ dig Y k))=0↔X%18446744073709551616^(k+1)=Y%18446744073709551616^(k+1):=by
 have hp:0<18446744073709551616^k:=aC (by omega);have hX:X%18446744073709551616^k<18446744073709551616^k:=ay _ hp;have hY:Y%18446744073709551616^k<18446744073709551616^k:=ay _ hp;rw [tm,rY,h,eK,eK];generalize 18446744073709551616^k=p at *;generalize dig X k=x at *;generalize dig Y k=y at *;constructor
 ·rintro ⟨h1,rfl⟩;rw [h1]
 ·intro e;have e1:(X%p+p*x)%p=(Y%p+p*y)%p:=by rw [e]
  rw [eW,eW,fG,fG] at e1;refine ⟨e1,?_⟩;rw [e1] at e;exact Nat.eq_of_mul_eq_mul_left hp (by omega)

theorem qC (o:Tr) (u v:Value) (xs ys:List Nat) (w:World) (ht:TrRoom w o 1) (hu:RowT w o u xs) (hv:RowT w o v ys) (q:Digs xs) (s:Digs ys) (hL:xs.length<=100000000) (hM:ys.length<=100000000) :
  Calls prog 133 #[aL o,u,v] w fun e w'=>e=.returned (.int .u64 (cY (decide (val xs<val ys)):Nat))/\∃ o',Did w o [(1,(max xs.length ys.length:Nat),0)] w' o':=by
 obtain ⟨ao,L,m,rfl,I,_,_,_,_⟩:=hu.1.open;obtain ⟨bo,M,p,rfl,J,_,_,_,_⟩:=hv.1.open;have eL:=I.out;have eM:=J.out;have hX:Hid (val xs<18446744073709551616^max L M):=em q (by omega);have hY:Hid (val ys<18446744073709551616^max L M):=em s (by omega);have hC:=mH ao bo L M m p w;have G:=fun o' W g (t:TrIn W o') (r:RowT W o' (.slice ao L m) xs) hg=>pW o' _ xs (max L M) g W t r q (by omega) (by omega) hg
 have H:=fun o' W g (t:TrIn W o') (r:RowT W o' (.slice bo M p) ys) hg=>pW o' _ ys (max L M) g W t r s (by omega) (by omega) hg
 have al:max L M<=100000000:=by omega
 rw [eL,eM] at *;have HU:Hid (RowT w o (.slice ao L m) xs):=hu;have HV:Hid (RowT w o (.slice bo M p) ys):=hv;have HT:Hid (TrRoom w o 1):=ht;obtain ⟨tp,F⟩:∃ tp,tp=aL o:=⟨_,rfl⟩
 rw [<- F];have U:Hid (tp=aL o):=F;clear hu hv ht I J eL eM q s hL hM F;generalize val xs=X at *;generalize val ys=Y at *;generalize max L M=n at *;go_enter func133,ntmps133;go_wp2_with fail;refine hC.mono ?_;rintro e w1 ⟨g,rfl,A,Z,k1⟩;have hS:=fz o n w1 (HT.out.1.grew k1);rw [<- U.out] at hS;clear hC;go_wp2_with fail;refine hS.mono ?_;rintro e w2 ⟨rfl,o2,d2⟩;have d:w2.heap[g]? = _:=(d2.kept.block g (lt_of_block A) (fun f=>by have:=HT.out.1.foot g f;omega)).trans A;have a:=Did.after k1 d2;have l:TrIn w2 o2:=(a.room (k:=0) HT.out).1;have S:=HU.out.did a;have T:=HV.out.did a;clear hS d2 k1 A;go_wp2_with fail
 refine (G o2 w2 g l S d).mono ?_;rintro e w3 ⟨v1,rfl,Q,k3⟩;have P:=(k3.block g (lt_of_block d) (fun f=>f)).trans d;go_wp2_with fail;refine (H o2 w3 g (l.grew k3) (T.grew k3) P).mono ?_;rintro e w4 ⟨v2,rfl,R,k4⟩;have b:=Q.1.grew k4;have d4:=aa ((a.grew k3).grew k4);have am:=aa ((l.grew k3).grew k4);obtain ⟨a1,n1,c1,rfl,N,_,_,_,B⟩:=b.open;obtain ⟨a2,n2,c2,rfl,O,_,_,_,C⟩:=R.1.open;obtain rfl:n1=n:=by rw [<- N.out,ag]
 obtain rfl:n2=n1:=by rw [<- O.out,ag]
 clear G H l S T d P Q b R k3 k4 a N O Z;go_wp2_with fail;go_loopw [9,28] (fun c i wr=>∃ (k c' D:Nat),k<=n2/\c'<=1/\i=.int .i64 (k:Int)/\c=.int .u64 (c':Int)/\Kept af w4 wr /\
   Hid (D<18446744073709551616^k/\D+Y%18446744073709551616^k=X%18446744073709551616^k+18446744073709551616^k*c')) (fun _ i _=>n2-(intOf i).toNat)
 case atStart=>exact ⟨0,0,0,aP _,by omega,rfl,rfl,aj _ _,by unfold Hid;simp [gM]⟩
 case round=>
  obtain ⟨k,c,D,hk,hc,rfl,rfl,j,HD⟩:=hrel;by_cases hkn:k<n2
  ·have ak:(0:Int)<=(k:Int):=bY _;have ab:(k:Int)<(n2:Int):=by omega
   obtain ⟨b1,ad,rfl,ah⟩:=eC ((B k hkn).grew j) hkn;obtain ⟨b2,ae,rfl,ai⟩:=eC ((C k hkn).grew j) hkn;have hx:dig X k<18446744073709551616:=ay _ (by omega);have hy:dig Y k<18446744073709551616:=ay _ (by omega);have HS:Hid (∀ z c',z<18446744073709551616->z+dig Y k+c=dig X k+18446744073709551616*c'->D+18446744073709551616^k*z<18446744073709551616^(k+1)/\D+18446744073709551616^k*z+Y%18446744073709551616^(k+1)=X%18446744073709551616^(k+1)+18446744073709551616^(k+1)*c'):=fun z c' hz h=>yE HD.out.1 HD.out.2 hz h
   clear B C HD;generalize dig X k=x at *;generalize dig Y k=y at *;go_wp2_with fail;go_region_with (go_at_call 188;refine (xW x y c hx hy hc _).mono ?_;rintro e w7 ⟨z,c',rfl,hz,V,ac,rfl⟩)
   all_goals
    go_wp2_with fail;go_roundw
    case rel=>exact ⟨k+1,c',_,by omega,V,by go_num,rfl,j.drew,HS.out z c' hz ac⟩
    case measure=>simp [intOf];omega
  ·have ab:¬ (k:Int)<(n2:Int):=by omega
   have e:k=n2:=by omega
   subst e;have E:=aa (AB hX.out hY.out HD.out.1 HD.out.2);clear B C HD;go_wp2_with fail;go_ret;rw [<- E.out];exact ⟨rfl,o2,d4.out.grew j⟩

theorem pn (o:Tr) (u v:Value) (xs ys:List Nat) (w:World) (ht:TrRoom w o 1) (hu:RowT w o u xs) (hv:RowT w o v ys) (z:Digs xs) (A:Digs ys) (hL:xs.length<=100000000) (hM:ys.length<=100000000) :
  Calls prog 93 #[aL o,u,v] w fun e w'=>e=.returned (.int .u64 (cY (decide (val xs=val ys)):Nat))/\∃ o',Did w o [(1,(max xs.length ys.length:Nat),0)] w' o':=by
 obtain ⟨ao,L,m,rfl,I,_,_,_,_⟩:=hu.1.open;obtain ⟨bo,M,p,rfl,J,_,_,_,_⟩:=hv.1.open;have eL:=I.out;have eM:=J.out;have hX:Hid (val xs<18446744073709551616^max L M):=em z (by omega);have hY:Hid (val ys<18446744073709551616^max L M):=em A (by omega);have hC:=mH ao bo L M m p w;have G:=fun o' W g (t:TrIn W o') (r:RowT W o' (.slice ao L m) xs) hg=>pW o' _ xs (max L M) g W t r z (by omega) (by omega) hg
 have H:=fun o' W g (t:TrIn W o') (r:RowT W o' (.slice bo M p) ys) hg=>pW o' _ ys (max L M) g W t r A (by omega) (by omega) hg
 have ap:max L M<=100000000:=by omega
 rw [eL,eM] at *;have HU:Hid (RowT w o (.slice ao L m) xs):=hu;have HV:Hid (RowT w o (.slice bo M p) ys):=hv;have HT:Hid (TrRoom w o 1):=ht;obtain ⟨tp,F⟩:∃ tp,tp=aL o:=⟨_,rfl⟩
 rw [<- F];have Z:Hid (tp=aL o):=F;clear hu hv ht I J eL eM z A hL hM F;generalize val xs=X at *;generalize val ys=Y at *;generalize max L M=n at *;go_enter func93,ntmps93;go_wp2_with fail;refine hC.mono ?_;rintro e w1 ⟨g,rfl,B,ab,k1⟩;have hS:=fz o n w1 (HT.out.1.grew k1);rw [<- Z.out] at hS;clear hC;go_wp2_with fail;refine hS.mono ?_;rintro e w2 ⟨rfl,o2,d2⟩;have d:w2.heap[g]? = _:=(d2.kept.block g (lt_of_block B) (fun f=>by have:=HT.out.1.foot g f;omega)).trans B;have a:=Did.after k1 d2;have l:TrIn w2 o2:=(a.room (k:=0) HT.out).1;have T:=HU.out.did a;have U:=HV.out.did a;clear hS d2 k1 B;go_wp2_with fail
 refine (G o2 w2 g l T d).mono ?_;rintro e w3 ⟨v1,rfl,Q,k3⟩;have P:=(k3.block g (lt_of_block d) (fun f=>f)).trans d;go_wp2_with fail;refine (H o2 w3 g (l.grew k3) (U.grew k3) P).mono ?_;rintro e w4 ⟨v2,rfl,R,k4⟩;have b:=Q.1.grew k4;have d4:=aa ((a.grew k3).grew k4);have ar:=aa ((l.grew k3).grew k4);obtain ⟨a1,n1,c1,rfl,N,_,_,_,C⟩:=b.open;obtain ⟨a2,n2,c2,rfl,O,_,_,_,D⟩:=R.1.open;obtain rfl:n1=n:=by rw [<- N.out,ag]
 obtain rfl:n2=n1:=by rw [<- O.out,ag]
 clear G H l T U d P Q b R k3 k4 a N O ab;go_wp2_with fail;go_loopw [9,28] (fun c i wr=>∃ (k t:Nat),k<=n2/\t<18446744073709551616/\i=.int .i64 (k:Int)/\c=.int .u64 (t:Int)/\Kept af w4 wr /\
   Hid (t=0↔X%18446744073709551616^k=Y%18446744073709551616^k)) (fun _ i _=>n2-(intOf i).toNat)
 case atStart=>exact ⟨0,0,aP _,by omega,rfl,rfl,aj _ _,by unfold Hid;simp [gM]⟩
 case round=>
  obtain ⟨k,t,hk,S,rfl,rfl,j,HE⟩:=hrel;by_cases hkn:k<n2
  ·have an:(0:Int)<=(k:Int):=bY _;have ac:(k:Int)<(n2:Int):=by omega
   obtain ⟨b1,ae,rfl,al⟩:=eC ((C k hkn).grew j) hkn;obtain ⟨b2,ak,rfl,am⟩:=eC ((D k hkn).grew j) hkn;have hx:dig X k<18446744073709551616:=ay _ (by omega);have hy:dig Y k<18446744073709551616:=ay _ (by omega);have HS:=aa (uj (t:=t) (X:=X) (Y:=Y) (k:=k) HE.out);clear C D HE;generalize dig X k=x at *;generalize dig Y k=y at *;have au:=u64_xor_nat x y hx hy;have V:x ^^^ y<18446744073709551616:=Nat.xor_lt_two_pow (n:=64) hx hy;generalize x ^^^ y=s at *;have aq:=u64_or_nat t s S V;have ad:t ||| s<18446744073709551616:=Nat.or_lt_two_pow (n:=64) S V;generalize t ||| s=r at *;go_wp2_with fail;go_region
   all_goals
    go_wp2_with fail;go_roundw
    case rel=>exact ⟨k+1,r,by omega,ad,by go_num,rfl,j.drew,HS.out⟩
    case measure=>simp [intOf];omega
  ·have ac:¬ (k:Int)<(n2:Int):=by omega
   have e:k=n2:=by omega
   subst e;have E:Hid (((t:Int)=0)↔X=Y):=by
    have:=HE.out;rw [ax hX.out,ax hY.out] at this;unfold Hid;rw [<- this];omega
   have hZ:=fun W=>BV (t:Int) (by omega) (by omega) W
   have E2:Hid (zer (t:Int)=(cY (decide (X=Y)):Nat)):=by
    unfold Hid zer cY;by_cases h:X=Y
    ·rw [ah (E.out.2 h),ah (by simpa using h)];rfl
    ·rw [ai (fun q=>h (E.out.1 q)),ai (by simpa using h)];rfl
   clear C D HE;go_wp2_with fail;refine (hZ _).mono ?_;rintro e w7 ⟨rfl,rfl⟩;go_wp2_with fail;go_ret;rw [<- E2.out];exact ⟨rfl,o2,d4.out.grew j⟩

theorem En (o:Tr) (u:Value) (xs:List Nat) (w:World) (ht:TrRoom w o 1) (hu:RowT w o u xs) (a:Digs xs) (hL:xs.length<=100000000) :
  Calls prog 236 #[aL o,u] w fun e w'=>e=.returned (.int .u64 (cY (decide (val xs=0)):Nat))/\∃ o',Did w o [(1,(xs.length:Nat),0)] w' o':=by
 have h:=pn o u (.slice none 0 0) xs [] w ht hu ⟨Row.nil _ _,fun h=>absurd rfl h⟩ a (Digs.nil _) hL (by simp);rw [show val []=0 from rfl,eS,Nat.max_zero] at h;clear ht hu;generalize aL o=tp at *;generalize cY (decide (val xs=0))=c at *;go_enter func236,ntmps236;go_wp2_with fail;refine h.mono ?_;rintro e w' ⟨rfl,o',hd⟩;go_wp2;go_ret;exact ⟨rfl,o',hd⟩

def Gm (a:World) (o0:Tr) (m0:List Ev) (g base N cap n many K X V c:Nat) (w':World):Prop:=
 c<=1/\∃ (zs':List Nat) (Q:Nat) (o':Tr),OwnN .u64 24 w' base (.slice (some ⟨g,0,none⟩) N cap) N zs'/\zs'.length=N/\Digs zs' /\
  val zs'+18446744073709551616^N*c=X+V*Q/\Q<18446744073709551616^many/\((V*K+1)%18446744073709551616=0->0<n->val zs'%18446744073709551616^many=0)/\Did a o0 (m0 ++ List.replicate many (1,(n:Int),0)) w' o'

theorem sQ (a:World) (o0 o:Tr) (m0:List Ev) (g base N p n d K m rl r:Nat) (ao bo:Option Addr) (zs ms:List Nat) (w:World) (hD:Did a o0 m0 w o) (ht:TrRoom a o0 (m0.length+d)) (hg:a.heap.size<=g)
  (ho:OwnN .u64 24 w base (.slice (some ⟨g,0,none⟩) N p) N zs) (W:zs.length=N) (ax:Digs zs) (hN:N=n+d) (a6:N<=100000) (hm:RowT a o0 (.slice ao n m) ms) (aq:Digs ms) (b0:Nat) (ob:Array Value) (tb:TypeId) (al:w.heap[b0]? = some (.cells ob tb (0,0))) (aT:tb≠100) (aU:tb≠142) (aM:b0≠g) :
  Calls prog 177 #[aL o,.agg #[.slice ao n m,.int .u64 (K:Nat),.slice bo rl r],.slice (some ⟨g,0,none⟩) N p,.int .i64 (d:Nat)] w fun e w'=>
   ∃ c:Nat,e=.returned (.int .u64 (c:Nat))/\Gm a o0 m0 g base N p n d K (val zs) (val ms) c w'/\w'.heap[b0]? = some (.cells ob tb (0,0)):=by
 have hX:=aa (rfl:val zs=val zs);obtain ⟨_,_,_,e1,ai,_,_,_,_⟩:=hm.1.open;cases e1
 have HL:=aa ai.out;have HM:=aa hm;have ac:=aa aq;have HT:=aa ht;have HD:=aa hD;have HN:=aa hN;have HG:=aa hg;have HV:Hid (∀ V,V=val ms->val zs+18446744073709551616^(0+n)*0=val zs+V*0):=fun V _=>by simp
 have bb:g<w.heap.size:=eN ho;obtain ⟨_,_,_,e1,_,a7,_,_,_⟩:=(Row.of_own (base:=base) (e:=24) (by rw [W];exact ho):Row .u64 w (.slice (some ⟨g,0,none⟩) N p) zs).open;cases e1
 obtain ⟨tp,P⟩:∃ tp,tp=aL o:=⟨_,rfl⟩
 rw [<- P];have aB:=aa (P.trans hD.ptr);obtain ⟨X,M⟩:∃ X,X=val zs:=⟨_,rfl⟩
 obtain ⟨V,L⟩:∃ V,V=val ms:=⟨_,rfl⟩
 rw [<- M,<- L];have ad:=aa L;have k0:Kept af w (w.alloc (.cells #[.slice ao n m,.int .u64 (K:Nat),.slice bo rl r] 70)):=(aj af w).alloc _;have av:(w.alloc (.cells #[.slice ao n m,.int .u64 (K:Nat),.slice bo rl r] 70)).heap[w.heap.size]? = some (.cells #[.slice ao n m,.int .u64 (K:Nat),.slice bo rl r] 70 (0,0)):=heap_alloc_new _ _;have ab:=aa (hD.grew k0);have HO:=aa (k0.own ho (fun _ _ f=>f));have I:=aa av;have Y:=aa (au al:(w.alloc (.cells #[.slice ao n m,.int .u64 (K:Nat),.slice bo rl r] 70)).heap[b0]? = some (.cells ob tb (0,0)));have HZ:=aa (show zs.length=N/\Digs zs/\X=val zs from ⟨W,ax,M⟩)
 clear hm aq ht hD hN ai P L M av ho W ax hX HV hg k0 al;go_enter func177,ntmps177;obtain ⟨p0,p1,p2⟩:=aw I.out;go_wp2_with fail;go_loopw [10,17] (fun ov i wr=>∃ (k c Q:Nat) (os:List Nat) (o1:Tr),k<=d/\c<=1/\i=.int .i64 (k:Int)/\ov=.int .u64 (c:Int)/\Hid (os.length=N)/\Hid (Digs os)/\OwnN .u64 24 wr base (.slice (some ⟨g,0,none⟩) N p) N os/\Hid (val os+18446744073709551616^(k+n)*c=X+V*Q)/\Hid (Q<18446744073709551616^k)/\Hid ((V*K+1)%18446744073709551616=0->0<n->val os%18446744073709551616^k=0) /\
   wr.heap[w.heap.size]? = some (.cells #[.slice ao n m,.int .u64 (K:Nat),.slice bo rl r] 70 (0,0))/\Hid (wr.heap[b0]? = some (.cells ob tb (0,0)))/\Hid (Did a o0 (m0 ++ List.replicate k (1,(n:Int),0)) wr o1)) (fun _ i _=>d-(intOf i).toNat)
 case atStart=>
  obtain ⟨z1,z2,z3⟩:=HZ.out;exact ⟨0,0,0,zs,o,aP _,by omega,rfl,rfl,z1,z2,HO.out,by unfold Hid;rw [<- z3];simp,by unfold Hid;simp,fun _ _=>by simp [gM],I.out,Y.out,by unfold Hid;rw [eH,dI];exact ab.out⟩
 case round=>
  obtain ⟨k,c,Q,os,o1,hk,hc,rfl,rfl,B,A,ho,F,HQ,v,hx,C,D⟩:=hrel;clear p0 p1 p2 I HO ab HZ Y;by_cases hkn:k<d
  ·have bc:(0:Int)<=(k:Int):=bY _;have aO:(k:Int)<(d:Int):=by omega
   have l:TrRoom wr o1 (d-k):=D.out.room (by rw [aZ,be,show m0.length+k+(d-k)=m0.length+d by omega];exact HT.out);have hS:=fz o1 (n:Int) wr l.1;rw [D.out.ptr,<- aB.out] at hS;go_wp2_with fail;refine hS.mono ?_;rintro e w2 ⟨rfl,o2,d2⟩;have H:=d2.kept.own ho (eG ho l.1);have T:=(d2.kept.block _ (lt_of_block hx) (aI hx l.1 (by decide) (by decide))).trans hx;have Z:=aa ((d2.kept.block _ (lt_of_block C.out) (aI C.out l.1 aT aU)).trans C.out);have t:=aa (D.out.trans d2);have ap:=HM.out.did t.out;have E:=d2.room (k:=0) (l.less (by simp;omega))
   have aH:¬ cN o2 g:=eG H E.1 _ rfl;clear hS ho d2 l D hx C;obtain ⟨p0,p1,p2⟩:=aw T;obtain ⟨q,hq⟩:∃ q,q=os.getD k 0*K%18446744073709551616:=⟨_,rfl⟩
   obtain ⟨S,hS⟩:∃ S,S=val ((os.drop k).take n)+V*q:=⟨_,rfl⟩
   obtain ⟨R,hR⟩:∃ R,R=S/18446744073709551616^n:=⟨_,rfl⟩
   have ar:q<18446744073709551616:=by rw [hq];exact ay _ (by omega)
   have an:k+n<N:=by have:=HN.out;omega
   have bd:k<p:=by omega
   have bf:¬ p=k:=by omega
   have bg:os.getD k 0<18446744073709551616:=A.out.getD (by omega) _;have aV:os.getD (k+n) 0<18446744073709551616:=A.out.getD (by omega) _;have aK:R<18446744073709551616:=by
    rw [hR,cj (aC (by omega)),hS];have h1:=oK (j:=k) (n:=n) A.out;have h2:V<18446744073709551616^n:=by rw [ad.out,<- HL.out];exact aE (by omega) ac.out
    have h3:V*q<=18446744073709551616^n*q:=bI _ (fE h2);have h4:18446744073709551616^n*(q+1)<=18446744073709551616^n*18446744073709551616:=bi _ ar;rw [aJ,bD] at h4;rw [aF 18446744073709551616];omega
   have a9:w2.cell? ⟨g,k,none⟩=some (.int .u64 (os.getD k 0:Nat)):=by
    have aR:k<os.length:=by rw [B.out];omega
    rw [World.ownsRow.cellAt H k (by omega),bu,aA,aQ aR];rfl
   have aS:((os.getD k 0:Nat):Int)*(K:Int)%18446744073709551616=(q:Int):=by rw [hq];omega
   have ak:=lU (w':=w2) (g:=g) HM.out.1 HG.out t.out.size;have HA:=fun W' (kk:Kept af w2 W')=>CU g base N p k n (p-k) q os ms (.slice ao n m) W' (kk.own H (fun _ _ f=>f)) B.out A.out (by omega) (ap.1.grew kk) HL.out ac.out ak ar R S (by rw [<- ad.out];exact hS) hR
   have az:Hid (∀ z c2,z+18446744073709551616*c2=os.getD (k+n) 0+R+c->z<18446744073709551616->val (os.take k ++ ((digs S n ++ [z]) ++ os.drop (k+(n+1))))+18446744073709551616^(k+1+n)*c2=X+V*(Q+18446744073709551616^k*q)/\Q+18446744073709551616^k*q<18446744073709551616^(k+1)/\((V*K+1)%18446744073709551616=0->0<n->val (os.take k ++ ((digs S n ++ [z]) ++ os.drop (k+(n+1))))%18446744073709551616^(k+1)=0)/\Digs (os.take k ++ ((digs S n ++ [z]) ++ os.drop (k+(n+1))))/\(os.take k ++ ((digs S n ++ [z]) ++ os.drop (k+(n+1)))).length=N):=fun z c2 hz U=>Bn A.out B.out an F.out HQ.out hq hS hR hz U v.out
   have J:Hid (∀ W' z,OwnN .u64 24 W' base (.slice (some ⟨g,0,none⟩) N p) N (os.take k ++ (digs S n ++ os.drop (k+n)))->OwnN .u64 24 (W'.setCell ⟨g,k+n,none⟩ (.int .u64 ((z:Nat):Int))) base (.slice (some ⟨g,0,none⟩) N p) N (os.take k ++ ((digs S n ++ [z]) ++ os.drop (k+(n+1))))):=fun W' z h=>by
    have:=(World.ownsRow.stored h (k+n) (.int .u64 (z:Int))).1;unfold OwnN;rw [<- jU os _ k n z (ag _ _ _) (by have:=B.out;omega),bZ];exact this
   have s:∀ W',OwnN .u64 24 W' base (.slice (some ⟨g,0,none⟩) N p) N (os.take k ++ (digs S n ++ os.drop (k+n)))->W'.cell? ⟨g,k+n,none⟩=some (.int .u64 (os.getD (k+n) 0:Nat)):=fun W' h=>jt h B.out (ag _ _ _) an
   have ae:∀ W',OwnN .u64 24 W' base (.slice (some ⟨g,0,none⟩) N p) N (os.take k ++ (digs S n ++ os.drop (k+n)))->W'.frozen? ⟨g,k+n,none⟩=false:=fun W' h=>World.ownsRow.frozenAt h (k+n)
   have am:w.heap.size≠g:=by omega
   have G:=aa T;have ah:∀ W',Kept (fun b=>b=g) w2.drew W'->W'.cell? ⟨w.heap.size,0,none⟩=some (.slice ao n m)/\W'.cell? ⟨w.heap.size,1,none⟩=some (.int .u64 (K:Int)):=fun W' k=>by
    obtain ⟨a0,a1,_⟩:=aw ((k.block _ (lt_of_block G.out) am).trans G.out);exact ⟨a0,a1⟩
   clear hq hS hR F HQ v ap H ak T E;generalize os.getD k 0=x at *;generalize os.getD (k+n) 0=y at *;generalize os.take k ++ (digs S n ++ os.drop (k+n))=os' at *;have a2:(k:Int)+(n:Int)<(N:Int):=by omega
   have a3:(k:Int)<(N:Int):=by omega
   have aX:(k:Int)+(n:Int)<=(p:Int):=by omega
   have aY:(k:Int)<=(k:Int)+(n:Int):=by omega
   have aD:(0:Int)<=(k:Int)+(n:Int):=by omega
   have aG:((k:Int)+(n:Int)).toNat=k+n:=by omega
   have a4:IntKind.i64.wrap ((k:Int)+(n:Int))=(k:Int)+(n:Int):=by rw [IntKind.wrap_i64];omega
   have a5:IntKind.u64.wrap ((x:Int)*(K:Int))=(q:Int):=by rw [IntKind.wrap_u64];exact aS
   go_wp2_with fail;have JA:=aa HA;have JC:=aa s;have JF:=aa ae;have JK:=aa ah;clear HA s ae ah;go_region_with (go_at_call 224;refine (JA.out _ ((aj _ _).drew)).mono ?_;rintro e w3 ⟨rfl,O,k3⟩;have a8:=JC.out _ O;have ba:=JF.out _ O)
   all_goals
    go_wp2_with fail;refine (BQ y R c aV aK hc _).mono ?_;rintro e w7 ⟨z,c2,rfl,U,aN,aW,rfl⟩;obtain ⟨s1,s2,s3,s4,s5⟩:=az.out z c2 aW U;go_wp2_with fail;go_roundw
    case rel=>
     have k4:Kept (fun b=>b=g) w2 (w7.setCell ⟨g,k+n,none⟩ (.int .u64 (z:Int))):=(((aj _ _).drew).trans k3).setCell _ (fun _=>rfl) _;exact ⟨k+1,c2,_,_,o2,by omega,aN,by go_num,rfl,s5,s4,J.out _ z O,s1,s2,s3,(k4.block _ (lt_of_block G.out) am).trans G.out,(k4.block _ (lt_of_block Z.out) aM).trans Z.out,by unfold Hid;rw [gG,<- dr];exact t.out.wroteNew k4 HG.out aH⟩
    case measure=>simp [intOf];omega
  ·have aO:¬ (k:Int)<(d:Int):=by omega
   obtain rfl:k=d:=by omega
   have e:=F.out;rw [show k+n=N by rw [HN.out,j6]] at e;have HE:=aa e;clear e F;go_wp2_with fail;go_ret;exact ⟨c,rfl,⟨hc,os,Q,o1,ho,B.out,A.out,HE.out,HQ.out,v.out,D.out⟩,C.out⟩

end Go.Proofs.YtkaojflnghfmcaaGreatDoor
