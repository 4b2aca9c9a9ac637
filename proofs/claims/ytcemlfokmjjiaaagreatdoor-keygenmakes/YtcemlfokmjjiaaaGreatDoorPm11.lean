/- Put together of: Base4 Lays NatB Seq0 NatC NatD NatE. -/
import Derived.Test.YtcemlfokmjjiaaaGreatDoorPm10
import Derived.Shelf.Strconv.Itoa0
import Derived.Lib.ItoaNum
import Derived.Shelf.Strings.BuilderK
import Derived.Shelf.Strings.Repeat
import Derived.Shelf.Small.Wraps

namespace Go.Proofs.YtcemlfokmjjiaaaGreatDoor
set_option maxRecDepth 100000
set_option maxHeartbeats 4000000
open Go.Shelf

def uL:Go.Shelf.Ren:=⟨fun | 129=>132 | n=>n,fun | 53=>23 | 3=>3 | 4=>4 | 46=>68 | 5=>5 | 9=>9 | n=>n,fun n=>n⟩

theorem A0:Lays.n129 Tryz.prog uL:={
 mixed:=by kernel_rfl,
 f129:=Tryz.func132.trans (congrArg some (by kernel_rfl)),
 t3:=Tryz.underlying3,
 a3:=Tryz.isAgg3,
 z3:=Tryz.sizeOf3,
 v3:=Tryz.zeroValue3,
 t4:=Tryz.underlying4,
 a4:=Tryz.isAgg4,
 z4:=Tryz.sizeOf4,
 v4:=Tryz.zeroValue4,
 t5:=Tryz.underlying5,
 a5:=Tryz.isAgg5,
 z5:=Tryz.sizeOf5,
 v5:=Tryz.zeroValue5,
 t9:=Tryz.underlying9,
 a9:=Tryz.isAgg9,
 z9:=Tryz.sizeOf9,
 v9:=Tryz.zeroValue9,
 t46:=Tryz.underlying68,
 a46:=Tryz.isAgg68,
 z46:=Tryz.sizeOf68,
 v46:=Tryz.zeroValue68,
 t53:=Tryz.underlying23,
 a53:=Tryz.isAgg23,
 z53:=Tryz.sizeOf23,
 v53:=Tryz.zeroValue23 }

open Go.RowKit

theorem qA (v:Value) (zs:List Nat) (w:World) (h:Row .u64 w v zs) :
  Calls Tryz.prog 131 #[v] w fun r w'=>∃ m v',r=.returned v'∧m≤zs.length∧Row .u64 w v' (zs.take m)∧(∀ i,m≤i→zs.getD i 0=0)∧(m=0∨zs.getD (m-1) 0≠0)∧v'.ownBlock=v.ownBlock∧(∃ ao n cap,v=.slice ao n cap∧v'=.slice ao m cap)∧w'=w:=by
 have hcut:=fun ao n cap (e:v=.slice ao n cap) m (hm:m≤zs.length)=>(show Row .u64 w (.slice ao n cap) zs from e ▸ h).cut hm
 obtain ⟨ao,n,cap,rfl,hN,h1,h2,h3,h4⟩:=h.open;have HC:Hid (∀ m,m≤n→Row .u64 w (.slice ao m cap) (zs.take m)):=fun m hm=>hcut ao n cap rfl m (by have:=hN.out;omega)
 have HL:Hid (∀ i,n≤i→zs.getD i 0=0):=fun i hi=>by have:=hN.out;rw [List.getD_eq_getElem?_getD,List.getElem?_eq_none (by omega)];rfl
 clear hcut h h3;go_enter Tryz.func131,Tryz.ntmps131;go_wp2_with fail;go_loop [0] (fun a=>∃ m:Nat,m≤n∧a=.slice ao m cap∧Hid (∀ i,m≤i→zs.getD i 0=0)) (fun a=>pg a)
 case atStart=>exact ⟨n,leR _,rfl,HL⟩
 case round=>
  obtain ⟨m,hm,rfl,hz⟩:=hrel;cases m with
  | zero=>
   clear h4;go_wp2;go_ret;exact ⟨0,_,rfl,Nat.zero_le _,HC.out 0 (Nat.zero_le _),hz.out,.inl rfl,jJ ao 0 n cap,⟨ao,n,cap,⟨rfl,rfl,rfl⟩,rfl⟩,rfl⟩
  | succ j=>
   obtain ⟨b,off,rfl,hc⟩:=h4 j (by omega);obtain ⟨z,c⟩:∃ z,z=zs.getD j 0:=⟨_,rfl⟩
   rw [← c] at hc;have HZ:Hid (z=zs.getD j 0):=c;clear c h4;by_cases h0:z=0
   ·have d:((z:Int) == 0)=true:=by simp [h0]
    subst h0;go_wp2;go_round
    case rel=>exact ⟨j,by omega,rfl,fun i hi=>by
     by_cases e:i=j
     ·subst e;exact HZ.out.symm
     ·exact hz.out i (by omega)⟩
    case measure=>simp [pg]
   ·have f:Hid (zs.getD (j+1-1) 0≠0):=by
     unfold Hid;rw [Nat.add_sub_cancel,← HZ.out];exact h0
    have d:((z:Int) == 0)=false:=by simp;omega
    have g:¬ ((z:Int)=0):=by omega
    go_wp2;go_ret;exact ⟨j+1,_,rfl,by have:=hN.out;omega,HC.out _ hm,hz.out,.inr f.out,jJ _ _ _ _,⟨_,_,_,⟨rfl,rfl,rfl⟩,rfl⟩,rfl⟩

theorem jw {ds:List Nat} (hd:Digs ds) (ht:ef ds):ds.length=ak (val ds):=by
 have h1:=(el (by omega) hd ht (ak (val ds))).2 ((ap _ _).1 (leR _));have h2:=(ap (val ds) ds.length).2 ((el (by omega) hd ht _).1 (leR _));omega

theorem zj (v:Value) (xs:List Nat) (w:World) (h:Row .u64 w v xs) (hd:Digs xs) :
  Calls Tryz.prog 131 #[v] w fun r w'=>∃ v' ys,r=.returned v'∧Row .u64 w v' ys∧Digs ys∧ef ys∧val ys=val xs∧Hid (ys.length=ak (val xs))∧ys.length≤xs.length∧v'.ownBlock=v.ownBlock∧w'=w:=by
 refine (qA v xs w h).mono ?_;rintro e w' ⟨m,v',rfl,hm,hr,hz,ht,ho,_,rfl⟩;have e1:=dH (B:=18446744073709551616) hm hz;have t1:=dK hm ht;refine ⟨v',xs.take m,rfl,hr,hd.take m,t1,e1,?_,by rw [List.length_take];omega,ho,rfl⟩;have:=jw (hd.take m) t1;rw [e1] at this;exact this

theorem qr (n:Int) (w:World):Calls Tryz.prog 150 #[.int .i64 n] w fun r w'=>r=.returned (.int .i64 (if 300<n then 2 else if n<0 then 1 else 0))∧w'=w:=by
 by_cases h1:300<n
 ·rw [if_pos h1];go_enter Tryz.func150,Tryz.ntmps150;go_wp2;go_ret;exact ⟨rfl,rfl⟩
 ·rw [if_neg h1];by_cases h2:n<0
  ·rw [if_pos h2];go_enter Tryz.func150,Tryz.ntmps150;go_wp2;go_ret;exact ⟨rfl,rfl⟩
  ·rw [if_neg h2];go_enter Tryz.func150,Tryz.ntmps150;go_wp2;go_ret;exact ⟨rfl,rfl⟩

theorem gW (x:Nat) (h:x<18446744073709551616):Lib.bitLen x=aw x:=by
 by_cases h0:x=0
 ·subst h0;rfl
 ·obtain ⟨a,b,c⟩:=Lib.bitLenAux_bounds 64 x h h0;unfold Lib.bitLen;have h1:=(aB x _).2 c;have h2:¬ aw x≤Lib.bitLenAux 64 x-1:=fun k=>by have:=(aB x _).1 k;omega
  omega

theorem uK {ys:List Nat} (hd:Digs ys) (ht:ef ys) (hn:0<ys.length):aw (val ys)=64*(ys.length-1)+aw (ys.getD (ys.length-1) 0):=by
 have e:=ax 18446744073709551616 ys (ys.length-1) (by omega);have a:ys.drop (ys.length-1)=[ys.getD (ys.length-1) 0]:=by
  rw [List.drop_eq_getElem_cons (by omega),List.drop_eq_nil_of_le (by omega),List.getD_eq_getElem?_getD,List.getElem?_eq_getElem (by omega)];rfl
 rw [a] at e;have b:val (ys.take (ys.length-1))<18446744073709551616^(ys.length-1):=by
  have:=ar (by omega) (hd.take (ys.length-1))
  rwa [List.length_take,Nat.min_eq_left (by omega)] at this
 have d:ys.getD (ys.length-1) 0≠0:=by
  rcases ht with h | h
  ·omega
  ·exact h
 simp only [val,Nat.mul_zero,Nat.add_zero] at e;generalize ys.getD (ys.length-1) 0=y at *;generalize ys.length-1=k at *;generalize val (ys.take k)=L at *;generalize val ys=V at *;have hB:(18446744073709551616:Nat)^k=2^(64*k):=by rw [Nat.pow_mul]
 rw [hB] at e b;generalize hM:aw y=M;have h1:y<2^M:=(aB _ _).1 (by omega);have h2:2^(M-1)≤y:=by
  have:¬ aw y≤M-1:=by
   have:0<aw y:=by
    rcases Nat.eq_zero_or_pos (aw y) with z | z
    ·have:=(aB y 0).1 (by omega);omega
    ·exact z
   omega
  have:=mt (aB y (M-1)).2 this;omega
 have f:1≤M:=by
  rcases Nat.eq_zero_or_pos M with z | z
  ·rw [z] at h1;omega
  ·exact z
 have u1:V<2^(64*k+M):=by
  rw [Nat.pow_add];have:2^(64*k)*(y+1)≤2^(64*k)*2^M:=Nat.mul_le_mul_left _ h1;rw [Nat.mul_add,Nat.mul_one] at this;omega
 have u2:2^(64*k+(M-1))≤V:=by
  rw [Nat.pow_add];have:2^(64*k)*2^(M-1)≤2^(64*k)*y:=Nat.mul_le_mul_left _ h2;omega
 have h3:=(aB V _).2 u1;have h4:¬ aw V≤64*k+(M-1):=fun c=>by have:=(aB V _).1 c;omega
 omega

theorem dY (v:Value) (xs:List Nat) (w:World) (h:Row .u64 w v xs) (hd:Digs xs) (hl:xs.length≤100000000) :
  Calls Tryz.prog 91 #[v] w fun r w'=>r=.returned (.int .i64 (aw (val xs):Nat))∧w'=w:=by
 have hN:=zj v xs w h hd;obtain ⟨R,hR⟩:∃ R,R=aw (val xs):=⟨_,rfl⟩
 rw [← hR];have HR:Hid (R=aw (val xs)):=hR;clear hR;go_enter Tryz.func91,Tryz.ntmps91;go_wp2_with fail;refine hN.mono ?_;rintro e w' ⟨v',ys,rfl,hr,c,d,hv,_,g,_,rfl⟩;rw [← hv] at HR;obtain ⟨ao,n,cap,rfl,hL,h1,h2,h3,h4⟩:=hr.open;cases n with
 | zero=>
  obtain rfl:ys=[]:=List.eq_nil_of_length_eq_zero hL.out;clear h4 hL;go_wp2;go_ret;exact ⟨by rw [HR.out];rfl,rfl⟩
 | succ j=>
  have hb:=uK c d (by have:=hL.out;omega);have hj:ys.length-1=j:=by have:=hL.out;omega
  rw [hj] at hb;have m:j<100000000:=by have:=hL.out;omega
  obtain ⟨b,off,rfl,hc⟩:=h4 j (by omega);have hy:ys.getD j 0<18446744073709551616:=c.getD (by omega) j;rw [hb] at HR;generalize ys.getD j 0=y at *;have f:aw y≤64:=(aB y 64).2 hy;have a:=Any.bits_Len64 A0 (y:Int) w' (by omega) (by omega);rw [show ((y:Int).toNat)=y from rfl,gW y hy] at a;clear h4 hb hv hr c d hN h hd;have k:wrap64 ((j:Int)+1-1)=j:=by simp [wrap64];omega
  have l:wrap64 (64*(j:Int))=64*j:=by simp [wrap64];omega
  have i:wrap64 (64*(j:Int)+(aw y:Nat))=64*j+(aw y:Nat):=by simp [wrap64];omega
  generalize aw y=M at *;go_wp2_with fail;refine a.mono ?_;rintro e w' ⟨rfl,rfl⟩;go_wp2;go_ret;exact ⟨by rw [HR.out];simp,rfl⟩

theorem fU (x m:Nat) (hx:x<18446744073709551616):ai x (m+1)=x :: List.replicate m 0:=by
 refine (bd (by omega) (B:=18446744073709551616) (l:=x :: List.replicate m 0) (V:=x) (n:=m+1) ?_ (by simp) ?_).symm
 ·intro d hd;rcases List.mem_cons.1 hd with rfl | hd
  ·exact hx
  ·rw [List.mem_replicate] at hd;omega
 ·have hz:val (List.replicate m 0)=0:=cY _ (fun d hd=>(List.mem_replicate.1 hd).2);rw [am (Nat.lt_of_lt_of_le hx (by rw [Nat.pow_succ];exact Nat.le_mul_of_pos_left _ (Nat.pow_pos (by omega))))];simp only [val,hz];omega

def tn:Go.Shelf.Ren:=⟨fun | 122=>158 | 215=>203 | n=>n,fun | 3=>3 | 4=>4 | n=>n,fun n=>n⟩

theorem C4:Lays.n122 Tryz.prog tn:={
 mixed:=by kernel_rfl,
 f122:=Tryz.func158.trans (congrArg some (by kernel_rfl)),
 f215:=Tryz.func203.trans (congrArg some (by kernel_rfl)),
 t3:=Tryz.underlying3,
 a3:=Tryz.isAgg3,
 z3:=Tryz.sizeOf3,
 v3:=Tryz.zeroValue3,
 t4:=Tryz.underlying4,
 a4:=Tryz.isAgg4,
 z4:=Tryz.sizeOf4,
 v4:=Tryz.zeroValue4 }

theorem lJ (x:Nat) (hx:x<18446744073709551616) (n:Int) (w:World) :
  Calls Tryz.prog 79 #[.int .u64 x,.int .i64 n] w fun r w'=>∃ v',r=.returned v'∧Row .u64 w' v' (ai x (dt n))∧Kept af w w':=by
 obtain ⟨i0,f,b,d,g⟩:=info_parts Tryz.info23;obtain ⟨m,hm⟩:∃ m,dt n=m+1:=⟨dt n-1,by unfold dt;omega⟩
 have hb:m+1≤300:=by rw [← hm];unfold dt;omega
 have hc:min (max n 1) 300=((m+1:Nat):Int):=by rw [← hm];unfold dt;omega
 rw [hm,fU x m hx];clear hm;go_enter Tryz.func79,Tryz.ntmps79;go_wp2_with (at_make;refine wpList_make_full _ rfl _ _ 32 rfl w.heap.size 23 i0 _ 1 Tryz.underlying32 f b d _ _ _ _ (m+1) rfl rfl (by first | exact hc | rfl) (by first | exact hc | rfl) (by rw [g];omega) (by unfold maxLen;omega) (leR _) ?_;intro w1 a i;rw [aJ] at a;have k1:=aE i;have j:w1.cell? ⟨w.heap.size,0,none⟩=some (.int .u64 0):=(by rw [World.ownsRow.cellAt a 0 (by omega)];rfl);have hf:=World.ownsRow.frozenAt a 0;have c:=(World.ownsRow.stored a 0 (.int .u64 (x:Nat))).1);go_ret;refine ⟨_,rfl,Row.of_own (base:=w.heap.size) (e:=23) ?_,k1.setCell _ (fun h=>by simp at h) _⟩
 simpa [List.replicate_succ] using c

theorem Av (v:Value) (xs:List Nat) (i:Int) (w:World) (h:Row .u64 w v xs) (hd:Digs xs) (hi:i≤9223372036854775807) :
  Calls Tryz.prog 133 #[v,.int .i64 i] w fun r w'=>r=.returned (.int .u64 (kN (val xs) i:Nat))∧w'=w:=by
 obtain ⟨ao,n,cap,rfl,hL,h1,h2,h3,h4⟩:=h.open;by_cases hi0:i<0
 ·rw [show kN (val xs) i=0 from if_pos hi0];clear h4 h hd;go_enter Tryz.func133,Tryz.ntmps133;go_wp2;go_ret;exact ⟨rfl,rfl⟩
 ·obtain ⟨j,rfl⟩:=Int.eq_ofNat_of_zero_le (show 0≤i by omega);rw [eP,← lC,aR (by omega) hd];by_cases hlt:j/64<n
  ·obtain ⟨b,off,rfl,hc⟩:=h4 (j/64) hlt;have hx:xs.getD (j/64) 0<18446744073709551616:=hd.getD (by omega) _;clear h4 h hd;generalize xs.getD (j/64) 0=x at *;have g1:(j:Int)/64<(n:Int):=by omega
   have g2:(0:Int)≤(j:Int)/64:=by omega
   have g3:((j:Int)/64).toNat=j/64:=by omega
   have hy:=Nat.div_le_self x (2^(j%64));have a:Hid (bits .and .u64 ((x:Int)/2^(j%64)) 1=((x/2^(j%64)%2:Nat):Int)):=by
    unfold Hid;have e:(x:Int)/2^(j%64)=((x/2^(j%64):Nat):Int):=by simp
    rw [e];generalize x/2^(j%64)=Y at *;rw [and_one_u64 (Y:Int) (by omega) (by omega)];omega
   clear hy;generalize x/2^(j%64)%2=R at *;go_enter Tryz.func133,Tryz.ntmps133;go_wp2;go_ret;refine ⟨?_,rfl⟩;show Ending.returned (Value.int .u64 (bits .and .u64 ((x:Int)/2^(j%64)) 1))=_
   rw [a.out]
  ·have hz:xs.getD (j/64) 0=0:=by have:=hL.out;rw [List.getD_eq_getElem?_getD,List.getElem?_eq_none (by omega)];rfl
   rw [hz,Nat.zero_div];have g1:¬ (j:Int)/64<(n:Int):=by omega
   clear h4 h hd;go_enter Tryz.func133,Tryz.ntmps133;go_wp2;go_ret;exact ⟨rfl,rfl⟩

theorem mL (v:Value) (xs:List Nat) (n:Int) (w:World) (h:Row .u64 w v xs) (hd:Digs xs) :
  Calls Tryz.prog 107 #[v,.int .i64 n] w fun r w'=>∃ v',r=.returned (.tuple #[v',.int .i64 (aV (val xs) n)])∧Row .u64 w' v' (bH (val xs) n)∧(∀ b,v'.ownBlock=some b→w.heap.size≤b)∧Kept af w w':=by
 obtain ⟨i0,t,B,o,D⟩:=info_parts Tryz.info23;have hE:=qr n w;have hN:=zj v xs w h hd;by_cases h1:300<n
 ·obtain ⟨e1,e2⟩:=oI (V:=val xs) h1;rw [e1,e2];rw [if_pos h1] at hE;go_enter Tryz.func107,Tryz.ntmps107;go_wp2_with fail;refine hE.mono ?_;rintro e w' ⟨rfl,rfl⟩;go_wp2;go_ret2;exact ⟨_,rfl,Row.nil _ _,(fun b hb=>by cases hb),ah _ _⟩
 ·rw [if_neg h1] at hE;by_cases h2:n<0
  ·obtain ⟨e1,e2⟩:=il (V:=val xs) h1 (.inl h2);rw [e1,e2];rw [if_pos h2] at hE;go_enter Tryz.func107,Tryz.ntmps107;go_wp2_with fail;refine hE.mono ?_;rintro e w' ⟨rfl,rfl⟩;go_wp2;go_ret2;exact ⟨_,rfl,Row.nil _ _,(fun b hb=>by cases hb),ah _ _⟩
  ·rw [if_neg h2] at hE;obtain ⟨m,rfl⟩:=Int.eq_ofNat_of_zero_le (show 0≤n by omega);obtain ⟨RC,l⟩:∃ RC,RC=aV (val xs) (m:Int):=⟨_,rfl⟩
   obtain ⟨RL,k⟩:∃ RL,RL=bH (val xs) (m:Int):=⟨_,rfl⟩
   rw [← l,← k];have HC:Hid (RC=aV (val xs) (m:Int)):=l;have HL:Hid (RL=bH (val xs) (m:Int)):=k;clear l k;go_enter Tryz.func107,Tryz.ntmps107;go_wp2_with fail;refine hE.mono ?_;rintro e w' ⟨rfl,rfl⟩;go_wp2_with fail;refine hN.mono ?_;rintro e w' ⟨v',ys,rfl,hr,H,I,hv,i,_,_,rfl⟩;obtain ⟨ao,q,cap,rfl,hL,g1,g2,g3,g4⟩:=hr.open;have hq:q=ak (val xs):=by rw [← hL.out];exact i.out
   by_cases h3:q≤m
   ·obtain ⟨e1,e2⟩:=jr (V:=val xs) (n:=m) (by omega) (by omega);have F:¬ (q:Int) > (m:Int):=by omega
    rw [e1] at HC;rw [e2,eI H hv (by rw [hL.out];exact h3)] at HL;obtain ⟨CS,d⟩:∃ CS,CS=ys.map (fun z:Nat=>Value.int .u64 (z:Int)):=⟨_,rfl⟩
    have p:CS.length=q:=by rw [d,List.length_map];exact hL.out
    have E:Hid (CS=ys.map (fun z:Nat=>Value.int .u64 (z:Int))):=d;have f:∀ u ∈ CS,u.oneCell'=true:=by
     intro u hu;rw [d] at hu;obtain ⟨z,_,rfl⟩:=List.mem_map.1 hu;rfl
    have c:∀ W,Kept af w' W→0<CS.length→∃ ad,ao=some ad∧∀ j u,CS[j]? = some u→W.cell? (ad.add j)=some u:=by
     intro W hk hp;obtain ⟨b,off,rfl,_⟩:=g4 0 (by omega);refine ⟨_,rfl,fun j u hu=>?_⟩;have hj:j<q:=by
      have:=(List.getElem?_eq_some_iff.1 hu).1;omega
     obtain ⟨b',C,e,hc⟩:=(g4 j hj).grew hk;simp only [Option.some.injEq,Addr.mk.injEq] at e;obtain ⟨rfl,rfl,_⟩:=e;rw [d,List.getElem?_map,List.getElem?_eq_getElem (by rw [hL.out];exact hj)] at hu;rw [show (⟨b,off,none⟩:Addr).add j=⟨b,off+j,none⟩ by simp [Addr.add],hc,← hu,List.getD_eq_getElem?_getD,List.getElem?_eq_getElem (by rw [hL.out];exact hj)];rfl
    have HP:Hid (∀ W,Kept af w' W→0<CS.length→∃ ad,ao=some ad∧∀ j u,CS[j]? = some u→W.cell? (ad.add j)=some u):=c;have HO:Hid (∀ u ∈ CS,u.oneCell'=true):=f;have x:Hid (CS.length=q):=p;clear d g4 hr hN h hE c f p hq hv e1 e2
    go_wp2_with (at_make;refine wpList_make_full _ rfl _ _ 32 rfl w'.heap.size 23 i0 _ 1 Tryz.underlying32 t B o _ _ _ _ m rfl rfl rfl rfl (by rw [D];omega) (by unfold maxLen;omega) (leR _) ?_;intro w1 g y;rw [aJ] at g;have k1:=aE y;obtain ⟨w2,A,s,k2⟩:=dr (P:=Tryz.prog) 32 32 3 23 w'.heap.size 0 m m (some ⟨w'.heap.size,0,none⟩) ao q cap _ 23 CS Tryz.underlying32 (by rw [t];simp [o]) (eF g) (by rw [x.out];exact (Nat.min_eq_left h3).symm) (fun hp=>⟨rfl,HP.out _ k1 hp⟩) (by have:=x.out;simp;omega) HO.out;have G:Hid _:=s;clear s g y);go_ret2;have a:=G.out;rw [E.out,er] at a;rw [HC.out,HL.out]
    exact ⟨_,rfl,Row.of_block a (by simp [hL.out];omega) (by unfold maxLen;omega),(fun b hb=>by simp [Value.ownBlock] at hb;omega),cZ k1 k2 (leR _)⟩
   ·obtain ⟨e1,e2⟩:=il (V:=val xs) (n:=(m:Int)) (by omega) (.inr (by simp;omega));have F:(q:Int) > (m:Int):=by omega
    rw [e1] at HC;rw [e2] at HL;clear g4 hr hN h hE hq hv;go_wp2;go_ret2;rw [HC.out,HL.out];exact ⟨_,rfl,Row.nil _ _,(fun b hb=>by cases hb),ah _ _⟩

theorem qd (v:Value) (xs:List Nat) (n:Int) (w:World) (h:Row .u64 w v xs) (hd:Digs xs) :
  Calls Tryz.prog 107 #[v,.int .i64 n] w fun r w'=>∃ v',r=.returned (.tuple #[v',.int .i64 (aV (val xs) n)])∧Row .u64 w' v' (bH (val xs) n)∧Kept af w w':=
 (mL v xs n w h hd).mono fun _ _ ⟨v',e,hr,_,k⟩=>⟨v',e,hr,k⟩

open Go.RowKit Go.Shelf

def KeepB (S:Nat→Prop) (W W':World):Prop:=∀ k,S k→W'.heap[k]? = W.heap[k]?

theorem KeepB.refl (S:Nat→Prop) (W:World):KeepB S W W:=fun _ _=>rfl

theorem KeepB.trans {S:Nat→Prop} {A B C:World} (h:KeepB S A B) (k:KeepB S B C):KeepB S A C:=fun i hi=>(k i hi).trans (h i hi)

theorem KeepB.put {S:Nat→Prop} {w:World} (hS:∀ k,S k→k<w.heap.size) (W:World) (l:Nat) (o o':Obj) (hl:w.heap.size≤l) (_:W.heap[l]? = some o) (_:o.isCells=false) (_:o.isWalk=false):KeepB S W (W.putObj l o'):=fun k hk=>
 World.putObj_heap_other (fun e=>by have:=hS k hk;omega)

theorem KeepB.cell {S:Nat→Prop} {W W':World} (h:KeepB S W W') {p:Addr} (hp:S p.block):W'.cell? p=W.cell? p:=World.cell?_of_block (h p.block hp)

theorem KeepB.row {S:Nat→Prop} {k:IntKind} {W W':World} {v:Value} {zs:List Nat} (h:KeepB S W W') (hs:∀ b,v.ownBlock=some b→0<zs.length→S b) (hr:Row k W v zs):Row k W' v zs:=by
 obtain ⟨ao,cap,rfl,h1,h2,h3,h4⟩:=hr;refine ⟨ao,cap,rfl,h1,h2,h3,fun i hi=>?_⟩;obtain ⟨b,off,rfl,hc⟩:=h4 i hi;exact ⟨b,off,rfl,(h.cell (p:=⟨b,off+i,none⟩) (hs b rfl (by omega))).trans hc⟩

theorem zH {W:World} {a:Addr} {v:Value} (o:Obj) (h:W.cell? a=some v):(W.alloc o).cell? a=some v:=cell_kept h (World.grownBy_alloc W o none) (fun r e=>by cases e)

theorem xB {W:World} {a:Addr} {v:Value} (o:Obj) (h:W.cell? a=some v) (hf:W.frozen? a=false):(W.alloc o).frozen? a=false:=(frozen_kept h (World.grownBy_alloc W o none) (fun r e=>by cases e)).trans hf

def Turn (B:Nat) (W W':World):Prop:=∃ row,W.grownBy W' row∧∀ r,row=some r→B≤r∧∃ o:Obj,W.heap[r]? = some o∧o.isCells=false

theorem nT {W W':World} {b:Option Nat} {base a n:Nat} {e:TypeId} {v:Value} {xs:List Value} (h:W.ownsRow base e a v n xs) (hg:W.grownBy W' b) (hr:∀ r,b=some r→∃ o:Obj,W.heap[r]? = some o∧o.isCells=false):W'.ownsRow base e a v n xs:=by
 refine ⟨h.1,?_⟩;rcases h.2 with h1 | ⟨g,cap,cur,e1,hb,hblk,h4⟩
 ·exact .inl h1
 ·refine .inr ⟨g,cap,cur,e1,hb,?_,h4⟩;rw [hg.block g (Array.getElem?_eq_some_iff.1 hblk).1 ?_]
  ·exact hblk
  ·intro e;obtain ⟨o,ho,hc⟩:=hr g e.symm;rw [hblk] at ho;cases ho
   cases hc

theorem px {W W':World} {a:Option Nat} {B:Nat} {t:TypeId} {v:Value} (h:Boxed W B t v) (hg:W.grownBy W' a) (hr:∀ r,a=some r→∃ o:Obj,W.heap[r]? = some o∧o.isCells=false):Boxed W' B t v:=h.kept hg (fun e=>by
 obtain ⟨o,ho,hc⟩:=hr B e.symm;have hb:W.heap[B]? = some _:=h;rw [hb] at ho;cases ho
 cases hc)

theorem Turn.cells {B:Nat} {W W':World} (t:Turn B W W') {b:Nat} {c:Array Value} {ty:TypeId} {f:Nat × Nat} (h:W.heap[b]? = some (.cells c ty f)):W'.heap[b]? = some (.cells c ty f):=by
 obtain ⟨a,hg,hr⟩:=t;rw [hg.block b (Array.getElem?_eq_some_iff.1 h).1 ?_]
 ·exact h
 ·intro e;obtain ⟨_,o,ho,hc⟩:=hr b e.symm;rw [h] at ho;cases ho
  cases hc

theorem Turn.kept {B:Nat} {S:Nat→Prop} {w W W':World} (t:Turn B W W') (k:Kept S w W) (hB:w.heap.size≤B):Kept S w W':=by
 obtain ⟨a,hg,hr⟩:=t;exact k.grown hg (fun b e hb=>by have:=(hr b e).1;omega)

theorem Turn.cell {B:Nat} {W W':World} (t:Turn B W W') {a:Addr} {v:Value} (h:W.cell? a=some v):W'.cell? a=some v:=by
 obtain ⟨b,hg,hr⟩:=t;exact cell_kept h hg (fun r e=>(hr r e).2)

theorem Turn.row {B:Nat} {W W':World} (t:Turn B W W') {k:IntKind} {v:Value} {zs:List Nat} (h:Row k W v zs):Row k W' v zs:=by
 obtain ⟨ao,cap,rfl,h1,h2,h3,h4⟩:=h;refine ⟨ao,cap,rfl,h1,h2,h3,fun i hi=>?_⟩;obtain ⟨b,off,rfl,hc⟩:=h4 i hi;exact ⟨b,off,rfl,t.cell hc⟩

theorem tO {B D:Nat} {W:World} {o:Obj} (hD:B≤D) (hK:W.heap[D]? = some o) (ho:o.isCells=false) (o':Obj):Turn B W (W.putObj D o'):=
 ⟨some D,grownBy_putObj' W D o',fun r e=>by cases e;exact ⟨hD,o,hK,ho⟩⟩

theorem lV {β:Type} {B:Nat} {I:β→World→Prop} (h:∀ s W W',I s W→Turn B W W'→I s W'):OwnFrom B I:=fun s W W' a hs hg hr=>h s W W' hs ⟨a,hg,hr⟩

theorem j8 {B:Nat} {S:Nat→Prop} {W W':World} (k:Kept S W W') (hS:∀ b,S b→B≤b→∃ c ty f,W.heap[b]? = some (.cells c ty f)):KeepsFrom B W W':=
 ⟨k.size,fun b o hb hk ho=>by
  rw [← hk];refine k.block b (Array.getElem?_eq_some_iff.1 hk).1 (fun hs=>?_);obtain ⟨c,ty,f,h⟩:=hS b hs hb;rw [h] at hk;cases hk
  cases ho⟩

attribute [local go_sem] Oper.semAt_some

def cK (L:Nat) (r:Nat):List Nat:=(List.range (L-r)).map fun j=>L-1-j

theorem nQ (L:Nat):cK L L=[]:=by simp [cK]

theorem gH {L j:Nat} (h:j<L):cK L j=cK L (j+1) ++ [j]:=by
 unfold cK;rw [show L-j=(L-(j+1))+1 by omega,List.range_succ,List.map_append,List.map_singleton,show L-1-(L-(j+1))=j by omega]

theorem ki (L r:Nat):(cK L r).length=L-r:=by simp [cK]

theorem BO (F:Fence) (n:Nat) (hf:F.fn 204) (s:F.round=none) (hn:1≤n) (l Bs L:Nat) (g:Nat→Nat) (v:Value) (zs:List Nat) (hL:Hid (zs.length=L)) (hg:Hid (∀ j,zs.getD j 0=g j)) (S:Nat→Prop) (hS:S Bs) (t:∀ b,v.ownBlock=some b→0<L→S b)
  (J Jx:List (Fin L)→World→Prop)
  (hY:∀ a (x:Fin L) W,J a W→a.length<L→YieldAt F (n-1) Tryz.prog l #[.int .i64 (x.val:Nat),.int .u64 (g x.val:Nat)] W fun e W'=>
   (e=.returned (.bool true)∧J (a ++ [x]) W'∧KeepB S W W')∨(e=.returned (.bool false)∧Jx (a ++ [x]) W'))
  (W:World) (A:W.cell? ⟨Bs,0,none⟩=some v) (hr:Row .u64 W v zs) (h0:J [] W) :
  CallsIn F n Tryz.prog 204 #[.func (.yield l) #[] #[],.pointer (some ⟨Bs,0,none⟩)] W fun e W'=>(∃ v,e=.returned v) ∧
   ((∃ ys,ys.map Fin.val=cK L 0∧J ys W')∨(∃ a,(∃ r,r<L∧a.map Fin.val=cK L r)∧Jx a W')):=by
 obtain ⟨ao,m,cap,rfl,hN,c1,c2,c3,f⟩:=hr.open;obtain rfl:m=L:=by rw [← hN.out];exact hL.out
 have d:Hid (∀ i,i<m→NumAt .u64 W ao zs i):=f;clear f hr;refine callsIn_of_wp Tryz.func204 rfl hf ?_ s;simp only [Tryz.ntmps204,List.size_toArray,List.length_cons,List.length_nil,Nat.reduceAdd,Nat.reduceSub,Array.replicate_succ,Array.replicate_zero,List.push_toArray,List.append_toArray,List.nil_append,List.cons_append]
 gi_wp2
 gi_loopw [3] (fun i wr=>∃ r:Nat,r≤m∧i=.int .i64 ((r:Int)-1)∧(∃ a:List (Fin m),Hid (a.map Fin.val=cK m r)∧J a wr)∧KeepB S W wr)
  (fun i _=>(intOf i+1).toNat)
 case atStart=>exact ⟨m,leR _,by simp,⟨[],by simp [Hid,nQ],h0⟩,KeepB.refl _ _⟩
 case round=>
  obtain ⟨r,hr,rfl,⟨a,c,q⟩,o⟩:=hrel;cases r with
  | zero=>
   gi_wp2
   go_end0
   exact ⟨⟨_,rfl⟩,.inl ⟨a,c.out,q⟩⟩
  | succ j=>
   rw [show (((j+1:Nat):Int)-1)=(j:Int) by omega];obtain ⟨b,off,rfl,hc⟩:=d.out j (by omega);have B:wr.cell? ⟨b,off+j,none⟩=some (.int .u64 (g j:Nat)):=by
    rw [o.cell (p:=⟨b,off+j,none⟩) (t b rfl (by omega)),hc,hg.out]
   have y:=(o.cell (p:=⟨Bs,0,none⟩) hS).trans A;have h:a.length<m:=by
    have:=congrArg List.length c.out;rw [List.length_map,ki] at this;omega
   obtain ⟨fn,tmps,assign,body,hy,hR⟩:=hY a ⟨j,by omega⟩ wr q h;dsimp only at hy;clear hc d
   gi_wp2
   refine hR.mono ?_;rintro e W3 (⟨rfl,w,z⟩ | ⟨rfl,k⟩)
   ·gi_wp2
    go_roundw
    case rel=>exact ⟨j,by omega,by simp,⟨a ++ [⟨j,by omega⟩],by unfold Hid;rw [List.map_append,c.out,gH (show j<m by omega)];rfl,w⟩,o.trans z⟩
    case measure=>simp [intOf]
   ·gi_wp2
    refine bodyPost_ret (results_none rfl _ _ _) rfl ?_;exact ⟨⟨_,rfl⟩,.inr ⟨_,⟨j,by omega,by rw [List.map_append,c.out,gH (show j<m by omega)];rfl⟩,k⟩⟩

theorem yM (F:Fence) (n:Nat) (h5:F.fn 159) (b:F.round=none) (ao:Option Addr) (a cap:Nat) (w:World) :
  CallsIn F n Tryz.prog 159 #[.slice ao a cap] w fun e w'=>e=.returned (.func (.func 204) #[] #[.pointer (some ⟨w.heap.size,0,none⟩)])∧w'=w.alloc (.cells #[.slice ao a cap] 32):=by
 refine callsIn_of_wp Tryz.func159 rfl h5 ?_ b;simp only [Tryz.ntmps159,List.size_toArray,List.length_cons,List.length_nil,Nat.reduceAdd,Nat.reduceSub,Array.replicate_succ,Array.replicate_zero,List.push_toArray,List.append_toArray,List.nil_append,List.cons_append]
 gi_wp2
 go_ret;exact ⟨rfl,rfl⟩

theorem qH (F:Fence) (n:Nat) (hf:F.fn 204) (c:F.round=none) (hn:1≤n) (Bs L:Nat) (g:Nat→Nat) (v:Value) (zs:List Nat) (hL:zs.length=L) (hg:∀ j,zs.getD j 0=g j) (S:Nat→Prop) (hS:S Bs) (a:∀ b,v.ownBlock=some b→0<L→S b)
  (w:World) (d:∀ k,S k→k<w.heap.size) (f:w.cell? ⟨Bs,0,none⟩=some v) (hr:Row .u64 w v zs) :
  SeqStopsK F n Tryz.prog 204 #[.pointer (some ⟨Bs,0,none⟩)] (fun x:Fin L=>#[Value.int .i64 (x.val:Nat),Value.int .u64 (g x.val:Nat)]) (KeepB S) (fun ys=>ys.map Fin.val=cK L 0) (fun e=>∃ r,r<L∧e.map Fin.val=cK L r) L w:=fun l J Jx W hW _ _ hY h0=>by
 have hk:KeepB S w W:=fun k hk=>hW.block k (d k hk)
 exact BO F n hf c hn l Bs L g v zs hL hg S hS a J Jx hY W ((hk.cell (p:=⟨Bs,0,none⟩) hS).trans f) (hk.row (fun b hb hp=>a b hb (by omega)) hr) h0

attribute [local go_sem] Oper.semAt_some

theorem vu (ao:Option Addr) (n cap:Nat) (xs:List Nat) (w:World) (h:Row .u64 w (.slice ao n cap) xs) (hd:Digs xs) :
  Calls Tryz.prog 131 #[.slice ao n cap] w fun r w'=>r=.returned (.slice ao (ak (val xs)) cap)∧w'=w:=by
 refine (qA _ xs w h).mono ?_;rintro e w' ⟨m,v',rfl,hm,hr,hz,ht,ho,⟨b,n',a,e1,rfl⟩,rfl⟩;have e2:=jw (hd.take m) (dK hm ht);rw [dH (B:=18446744073709551616) hm hz,List.length_take,Nat.min_eq_left hm] at e2;cases e1
 rw [e2];exact ⟨rfl,rfl⟩

theorem fX {xs:List Nat} (hd:Digs xs):ak (val xs)≤xs.length:=(ap _ _).2 (ar (by omega) hd)

theorem lj {xs:List Nat} (hd:Digs xs):∃ ys,ys=xs.take (ak (val xs))∧ys.length=ak (val xs)∧Digs ys∧val ys=val xs∧(∀ j,j<ak (val xs)→ys.getD j 0=xs.getD j 0):=by
 have hl:=fX hd;refine ⟨_,rfl,by rw [List.length_take];omega,hd.take _,?_,fun j hj=>?_⟩
 ·refine dH hl (fun i hi=>?_);rw [← aR (by omega) hd i];unfold dig;rw [Nat.div_eq_of_lt,Nat.zero_mod];exact (ap _ _).1 hi
 ·rw [List.getD_eq_getElem?_getD,List.getD_eq_getElem?_getD,List.getElem?_take,if_pos hj]

theorem Ba (x y:Nat) (w:World):Calls Tryz.prog 160 #[.int .u64 x,.int .u64 y] w fun r w'=>r=.returned (.int .i64 (aH x y))∧w'=w:=by
 rcases Nat.lt_trichotomy x y with h | h | h
 ·rw [bu h];have h':(x:Int)<(y:Int):=by omega
  go_enter Tryz.func160,Tryz.ntmps160;go_wp2;go_ret;exact ⟨rfl,rfl⟩
 ·rw [dy h];subst h;go_enter Tryz.func160,Tryz.ntmps160;go_wp2;go_ret;exact ⟨rfl,rfl⟩
 ·rw [dx h];have h':¬ (x:Int)<(y:Int):=by omega
  have a:(x:Int) > (y:Int):=by omega
  go_enter Tryz.func160,Tryz.ntmps160;go_wp2;go_ret;exact ⟨rfl,rfl⟩

theorem A3 (x y:Nat):Lib.compareInt (x:Int) (y:Int)=aH x y:=by
 unfold Lib.compareInt aH;by_cases h:x<y
 ·rw [if_pos h,if_pos (by omega)]
 ·rw [if_neg h,if_neg (by omega)];by_cases h2:x=y
  ·rw [if_pos h2,if_neg (by omega)]
  ·rw [if_neg h2,if_pos (by omega)]

theorem rV {A B:Nat} (h:ak A≠ak B):aH (ak A) (ak B)=aH A B:=by
 rcases Nat.lt_or_gt_of_ne h with k | k
 ·rw [bu k,bu];have h1:=(ap A _).1 (leR _);have h2:¬ ak B≤ak A:=by omega
  have h3:=mt (ap B (ak A)).2 h2;omega
 ·rw [dx k,dx];have h1:=(ap B _).1 (leR _);have h2:¬ ak A≤ak B:=by omega
  have h3:=mt (ap A (ak B)).2 h2;omega

theorem AC {a b:List Nat} {k:Nat} (ha:Digs a) (hb:Digs b) (hl:a.length=b.length) (hk:k<a.length) (he:∀ j,k<j→j<a.length→a.getD j 0=b.getD j 0) :
  a.getD k 0≠b.getD k 0→aH (a.getD k 0) (b.getD k 0)=aH (val a) (val b):=by
 intro d;have ea:=ax 18446744073709551616 a (k+1) (by omega);have eb:=ax 18446744073709551616 b (k+1) (by omega);have c:a.drop (k+1)=b.drop (k+1):=by
  apply List.ext_getElem?;intro i;rw [List.getElem?_drop,List.getElem?_drop];by_cases hi:k+1+i<a.length
  ·have:=he (k+1+i) (by omega) hi;rw [List.getD_eq_getElem?_getD,List.getD_eq_getElem?_getD,List.getElem?_eq_getElem hi,List.getElem?_eq_getElem (show k+1+i<b.length by omega)] at this;rw [List.getElem?_eq_getElem hi,List.getElem?_eq_getElem (show k+1+i<b.length by omega)];exact congrArg some this
  ·rw [List.getElem?_eq_none (by omega),List.getElem?_eq_none (by omega)]
 have ta:a.take (k+1)=a.take k ++ [a.getD k 0]:=by rw [List.take_add_one,List.getD_eq_getElem?_getD,List.getElem?_eq_getElem hk];rfl
 have tb:b.take (k+1)=b.take k ++ [b.getD k 0]:=by rw [List.take_add_one,List.getD_eq_getElem?_getD,List.getElem?_eq_getElem (show k<b.length by omega)];rfl
 rw [ta,aS,List.length_take,Nat.min_eq_left (by omega)] at ea;rw [tb,aS,List.length_take,Nat.min_eq_left (by omega),← c] at eb;have la:val (a.take k)<18446744073709551616^k:=by
  have:=ar (by omega) (ha.take k)
  rwa [List.length_take,Nat.min_eq_left (by omega)] at this
 have lb:val (b.take k)<18446744073709551616^k:=by
  have:=ar (by omega) (hb.take k)
  rwa [List.length_take,Nat.min_eq_left (by omega)] at this
 generalize a.getD k 0=x at *;generalize b.getD k 0=y at *;generalize 18446744073709551616^(k+1)*val (a.drop (k+1))=H at *;generalize val (a.take k)=p at *;generalize val (b.take k)=q at *;generalize 18446744073709551616^k=M at *;rcases Nat.lt_or_gt_of_ne d with h | h
 ·have:M*(x+1)≤M*y:=Nat.mul_le_mul_left _ h;rw [Nat.mul_add,Nat.mul_one] at this;rw [bu h,bu (by omega)]
 ·have:M*(y+1)≤M*x:=Nat.mul_le_mul_left _ h;rw [Nat.mul_add,Nat.mul_one] at this;rw [dx h,dx (by omega)]

theorem iN {x y:Nat}:aH x y=0↔x=y:=by
 unfold aH;by_cases h:x<y
 ·rw [if_pos h];constructor <;> intro h2 <;> omega
 ·rw [if_neg h];by_cases h2:x=y
  ·simp [h2]
  ·rw [if_neg h2];constructor <;> intro h3 <;> omega

attribute [local go_sem] Oper.semAt_some

theorem nh {L r j:Nat}:j ∈ cK L r↔r≤j∧j<L:=by
 unfold cK;simp only [List.mem_map,List.mem_range];constructor
 ·rintro ⟨i,hi,rfl⟩;omega
 ·rintro ⟨h1,h2⟩;exact ⟨L-1-j,by omega,by omega⟩

theorem oe {L r:Nat} {a:List (Fin L)} (h:a.map Fin.val=cK L r) {j:Nat} (h1:r≤j) (h2:j<L):∃ x ∈ a,x.val=j:=by
 have:j ∈ a.map Fin.val:=by rw [h];exact nh.2 ⟨h1,h2⟩
 simpa using this

theorem rP {L r:Nat} {a:List (Fin L)} {x:Fin L} (hr:r<L) (h:(a ++ [x]).map Fin.val=cK L r):x.val=r∧a.map Fin.val=cK L (r+1):=by
 rw [gH hr,List.map_append] at h;obtain ⟨h1,h2⟩:=List.append_inj' h (by simp);exact ⟨by simpa using h2,h1⟩

theorem gY (u v:Value) (xs ys:List Nat) (w:World) (hu:Row .u64 w u xs) (hv:Row .u64 w v ys) (L:Digs xs) (T:Digs ys) :
  Calls Tryz.prog 116 #[u,v] w fun r w'=>r=.returned (.int .i64 (aH (val xs) (val ys)))∧Kept af w w':=by
 obtain ⟨R,hR⟩:∃ R,R=aH (val xs) (val ys):=⟨_,rfl⟩
 rw [← hR];have HR:Hid (R=aH (val xs) (val ys)):=hR;clear hR;have V:=fun ao n cap (e:u=.slice ao n cap) W (hk:Kept af w W)=>vu ao n cap xs W (e ▸ hu.grew hk) L
 have Y:=fun ao n cap (e:v=.slice ao n cap) W (hk:Kept af w W)=>vu ao n cap ys W (e ▸ hv.grew hk) T
 obtain ⟨ao,n,cap,rfl,am,c1,c2,c3,ay⟩:=hu.open;obtain ⟨bo,m,a,rfl,an,d1,d2,d3,aE⟩:=hv.open;have V:=V ao n cap rfl;have Y:=Y bo m a rfl;obtain ⟨A,hA,lA,dA,vA,gA⟩:=lj L;obtain ⟨B,hB,lB,dB,vB,gB⟩:=lj T;have rA:Row .u64 w (.slice ao (ak (val xs)) cap) A:=hA ▸ hu.cut (fX L);have rB:Row .u64 w (.slice bo (ak (val ys)) a) B:=hB ▸ hv.cut (fX T);have HW:Hid (aH (ak (val xs)) (ak (val ys))=0∨aH (ak (val xs)) (ak (val ys))=R):=by
  unfold Hid;rw [HR.out];by_cases e:ak (val xs)=ak (val ys)
  ·exact .inl (iN.2 e)
  ·exact .inr (rV e)
 rw [← vA,← vB] at HR;clear hA hB gA gB vA vB hu hv ay aE;have w1:ak (val xs)≤n:=by have:=fX L;have:=am.out;omega
 have w2:ak (val ys)≤m:=by have:=fX T;have:=an.out;omega
 clear L T am an;generalize ak (val xs)=p at *;generalize ak (val ys)=q at *;refine (callsIn_wide (n:=9)).1 ?_;refine callsIn_of_wp_marks Tryz.func116 rfl trivial ?_ rfl;simp only [Tryz.ntmps116,List.size_toArray,List.length_cons,List.length_nil,Nat.reduceAdd,Nat.reduceSub,Array.replicate_succ,Array.replicate_zero,List.push_toArray,List.append_toArray,List.nil_append,List.cons_append];refine wpIn_wide.2 ?_;go_wp2_with fail;have G:Kept af w ((w.alloc (.cells #[.slice bo m a] 32)).alloc (.cells #[.int .i64 0] 3)):=((ah af w).alloc _).alloc _
 have aj:((w.alloc (.cells #[.slice bo m a] 32)).alloc (.cells #[.int .i64 0] 3)).cell? ⟨w.heap.size,0,none⟩=some (.slice bo m a):=((Boxed.new w 32 (.slice bo m a)).alloc _).cell;have az:((w.alloc (.cells #[.slice bo m a] 32)).alloc (.cells #[.int .i64 0] 3)).frozen? ⟨w.heap.size,0,none⟩=false:=((Boxed.new w 32 (.slice bo m a)).alloc _).frozen;have ai:((w.alloc (.cells #[.slice bo m a] 32)).alloc (.cells #[.int .i64 0] 3)).cell? ⟨w.heap.size+1,0,none⟩=some (.int .i64 0):=by have:=(Boxed.new (w.alloc (.cells #[.slice bo m a] 32)) 3 (.int .i64 0)).cell;rwa [World.size_alloc] at this
 have aq:((w.alloc (.cells #[.slice bo m a] 32)).alloc (.cells #[.int .i64 0] 3)).frozen? ⟨w.heap.size+1,0,none⟩=false:=by have:=(Boxed.new (w.alloc (.cells #[.slice bo m a] 32)) 3 (.int .i64 0)).frozen;rwa [World.size_alloc] at this
 have al:((w.alloc (.cells #[.slice bo m a] 32)).alloc (.cells #[.int .i64 0] 3)).heap.size=w.heap.size+2:=by simp
 generalize hw1:(w.alloc (.cells #[.slice bo m a] 32)).alloc (.cells #[.int .i64 0] 3)=W1 at *;clear hw1
 refine Code.wp_mono (Q:=Exit.then (fun a' w'=>a'={ tmps:=#[.slice ao p cap,.slice bo m a,undef,.pointer (some ⟨w.heap.size,0,none⟩),.pointer (some ⟨w.heap.size+1,0,none⟩),undef,undef,undef,undef,.slice ao n cap,.slice ao p cap,.slice bo m a,.slice bo q a,undef,undef,undef,undef,undef,undef,undef,undef,undef,undef,undef,undef,undef,undef,undef,undef,undef,undef,undef,undef,undef],defers:=[] }∧w'.cell? ⟨w.heap.size,0,none⟩=some (.slice bo q a)∧w'.cell? ⟨w.heap.size+1,0,none⟩=some (.int .i64 0)∧w'.frozen? ⟨w.heap.size+1,0,none⟩=false∧w'.heap.size=w.heap.size+2∧Kept af w w') (fun _ _ _=>False)) ?_ ?_
 ·rintro e a' w' h;cases e with
  | normal=>
   obtain ⟨rfl,au,ad,aA,J,ab⟩:=h;have hC:=Any.cmp_Compare_int C4 (p:Int) (q:Int) w';rw [A3] at hC;clear V Y G aj az ai aq al;by_cases hpq:p=q
   ·subst hpq;rw [dy rfl] at hC;clear HW;have hD:=callsIn_wide.1 (yM Fence.wide 0 trivial rfl ao p cap w');go_wp2_with fail;refine hC.mono ?_;rintro e w3 ⟨rfl,rfl⟩;go_wp2_with fail;refine hD.mono ?_;rintro e w4 ⟨rfl,rfl⟩;clear hC hD;have bN:=Boxed.new w3 32 (.slice ao p cap);rw [J] at bN;have t:∀ b,(Value.slice ao p cap).ownBlock=some b→0<p→b<w.heap.size:=by
     intro b hb hp;obtain ⟨aG,n',ax,e1,ar,_,_,_,h4⟩:=rA.open;cases e1
     obtain ⟨b',off,rfl,hc⟩:=h4 0 hp;cases hb
     exact World.block_lt_of_cell? w _ hc
    have aB:Below w.heap.size w (w3.alloc (.cells #[.slice ao p cap] 32)):=(ab.alloc _).below (leR _) (fun _ f=>f.elim);have X:=rA.grew (ab.alloc (.cells #[.slice ao p cap] 32));have Z:Hid (∀ W,Below w.heap.size w W→Row .u64 W (.slice bo p a) B):=fun W hb=>rB.kept (S:=af) ⟨hb.os,hb.tape,hb.output,hb.size,fun k hk _=>hb.block k hk⟩ (fun _ _ f=>f)
    go_wp2_with fail;obtain ⟨g,hg⟩:∃ g:Nat→Nat,∀ j,A.getD j 0=g j:=⟨_,fun _=>rfl⟩
    refine (wpIn_wide (n:=9)).1 ?_;refine wpIn_rangeFunc_ownG (F:=Fence.wide) (n:=9) rfl (by omega) (gf:=204) (lb:=#[.pointer (some ⟨w.heap.size+2,0,none⟩)]) rfl trivial (enters_of Tryz.func204 (by kernel_rfl) rfl)
     (qH Fence.wide 8 trivial rfl (by omega) (w.heap.size+2) p g (.slice ao p cap) A lA hg (fun k=>k=w.heap.size+2∨((Value.slice ao p cap).ownBlock=some k∧0<p)) (.inl rfl) (fun b hb hp=>.inr ⟨hb,hp⟩) _ ?hsw bN.cell X) KeepB.trans (KeepB.put ?hsw2) (Below.refl _ _) (fun _=>rfl)
     (fun H W=>((∀ x ∈ H,g x.val=B.getD x.val 0)∧W.cell? ⟨w.heap.size,0,none⟩=some (.slice bo p a)∧W.cell? ⟨w.heap.size+1,0,none⟩=some (.int .i64 0)∧W.frozen? ⟨w.heap.size+1,0,none⟩=false)∧Below w.heap.size w W)
     (fun c H W=>(c=.ret∧∃ P d,H=P ++ [d]∧(∀ x ∈ P,g x.val=B.getD x.val 0)∧g d.val≠B.getD d.val 0∧W.cell? ⟨w.heap.size+1,0,none⟩=some (.int .i64 (aH (g d.val) (B.getD d.val 0))))∧Below w.heap.size w W)
     (OwnFrom.and (Own.from (fun s A B aw hs hg hr=>⟨hs.1,cell_kept hs.2.1 hg hr,cell_kept hs.2.2.1 hg hr,(frozen_kept hs.2.2.1 hg hr).trans hs.2.2.2⟩) _) (ownFrom_below (leR _) (by simp;omega)))
     (fun c=>OwnFrom.and (Own.from (fun s A B aw hs hg hr=>by obtain ⟨hc,P,d,e1,e2,e3,e4⟩:=hs;exact ⟨hc,P,d,e1,e2,e3,cell_kept e4 hg hr⟩) _) (ownFrom_below (leR _) (by simp;omega)))
     ⟨⟨by simp,zH _ au,zH _ ad,xB _ ad aA⟩,aB⟩
     ?act ?assign ?body ?done ?stop
    case hsw=>
     rintro k (rfl | ⟨hk,hp⟩)
     ·simp [J]
     ·have:=t k hk hp;simp [J];omega
    case hsw2=>
     rintro k (rfl | ⟨hk,hp⟩)
     ·simp [J]
     ·have:=t k hk hp;simp [J];omega
    case assign=>
     intro l x W K hK
     gi_wp2
     exact hK
    case body=>
     rintro l H x W ⟨⟨hp,ae,E,ap⟩,hB⟩ _;obtain ⟨aJ,q',av,e1,ar,_,_,_,h4⟩:=(Z.out W hB).open;cases e1
     have hx:=x.isLt;obtain ⟨b,off,rfl,hc⟩:=h4 x.val hx;have hN:=Ba (g x.val) (B.getD x.val 0) W;have HP:Hid (∀ x ∈ H,g x.val=B.getD x.val 0):=hp;have HX:Hid (∃ y,y=x):=⟨_,rfl⟩
     obtain ⟨yb,I⟩:∃ yb,yb=B.getD x.val 0:=⟨_,rfl⟩
     rw [← I] at hN;rw [← I] at hc;clear h4 hp rA rB Z X;by_cases he:g x.val=yb
     ·rw [dy he] at hN;have HE:Hid (g x.val=B.getD x.val 0):=by rw [← I];exact he
      clear I he hg
      gi_wp2_with (refine ⟨trivial,?_⟩;gi_at_call 160;refine (CallsIn.inRound l (callsIn_wide.2 hN)).mono ?_;rintro e w' ⟨rfl,rfl⟩)
      refine ⟨KeepsFrom.refl _ _,KeepB.refl _ _,⟨fun y hy=>?_,ae,E,ap⟩,hB⟩;rcases List.mem_append.1 hy with h | h
      ·exact HP.out y h
      ·rw [List.mem_singleton.1 h];exact HE.out
     ·have h0:aH (g x.val) yb≠0:=fun h=>he (iN.1 h)
      have HC:Hid (aH (g x.val) yb=aH (g x.val) (B.getD x.val 0)):=by rw [I];rfl
      have HE:Hid (g x.val≠B.getD x.val 0):=by rw [← I];exact he
      generalize aH (g x.val) yb=C at *;clear I he hg
      gi_wp2_with (refine ⟨trivial,?_⟩;gi_at_call 160;refine (CallsIn.inRound l (callsIn_wide.2 hN)).mono ?_;rintro e w' ⟨rfl,rfl⟩)
      exact ⟨(KeepsOthers.setCell _ _ _).from _,⟨rfl,H,x,rfl,HP.out,HE.out,by rw [← HC.out];exact World.cell?_setCell_same _ _ _ E⟩,hB.setCell (p:=⟨w.heap.size+1,0,none⟩) (by simp) _⟩
    case done=>
     rintro D ys W hD ag ⟨⟨M,ae,E,ap⟩,hB⟩ hK;have aD:A=B:=by
      apply List.ext_getElem
      ·rw [lA,lB]
      ·intro i h1 h2;obtain ⟨x,hx,aC⟩:=oe ag (Nat.zero_le i) (show i<p by omega);have:=M x hx;rw [aC,← hg,List.getD_eq_getElem?_getD,List.getD_eq_getElem?_getD,List.getElem?_eq_getElem h1,List.getElem?_eq_getElem h2] at this;simpa using this
     rw [aD,dy rfl] at HR;clear M ag rA rB Z X t hg;go_wp2;have aa:=(KeepsOthers.setCell W ⟨w.heap.size+1,0,none⟩ (.int .i64 0)).same D _ hK rfl;refine ⟨by simp,.inl ⟨_,_,rfl,run_takeDeferred aa,?_⟩⟩;have O:=cell_kept (World.cell?_setCell_same W ⟨w.heap.size+1,0,none⟩ (.int .i64 0) E) (grownBy_putObj' _ D (.deferred none)) (fun r e=>by cases e;exact ⟨_,aa,rfl⟩);have o:=(hB.setCell (p:=⟨w.heap.size+1,0,none⟩) (by simp) (.int .i64 0)).trans (belowK_b (w:=w) (leR _) _ D _ (.deferred none) (by simp [J] at hD;omega) aa rfl rfl);refine ⟨.int .i64 0,?_,by rw [HR.out],⟨o.os,o.tape,o.output,o.size,fun k hk _=>o.block k hk⟩⟩;simp [results,Tryz.f116,go_sem,O]
    case stop=>
     rintro D c H W hD ⟨r,hr,N⟩ ⟨⟨rfl,P,d,rfl,e2,e3,E⟩,hB⟩ hK;obtain ⟨z,U⟩:=rP hr N;rw [z,← hg] at e3 E;have ac:=AC dA dB (by rw [lA,lB]) (show r<A.length by omega) (fun j h1 h2=>by
      obtain ⟨x,hx,aF⟩:=oe U h1 (show j<p by omega);have:=e2 x hx
      rwa [aF,← hg] at this) e3
     rw [ac,← HR.out] at E;clear e2 e3 N U z rA rB Z X t hg
     gi_wp2
     refine ⟨by simp,.inl ⟨_,_,rfl,run_takeDeferred hK,?_⟩⟩;have O:=cell_kept E (grownBy_putObj' _ D (.deferred none)) (fun r e=>by cases e;exact ⟨_,hK,rfl⟩);have o:=hB.trans (belowK_b (w:=w) (leR _) W D _ (.deferred none) (by simp [J] at hD;omega) hK rfl rfl);refine ⟨.int .i64 R,?_,rfl,⟨o.os,o.tape,o.output,o.size,fun k hk _=>o.block k hk⟩⟩;simp [results,Tryz.f116,go_sem,O]
   ·rw [show aH p q=R from HW.out.resolve_left (fun h=>hpq (iN.1 h))] at hC;have aI:R≠0:=by
     rw [← HW.out.resolve_left (fun h=>hpq (iN.1 h))];exact fun h=>hpq (iN.1 h)
    go_wp2_with fail;refine hC.mono ?_;rintro e w3 ⟨rfl,rfl⟩;go_wp2;have O:=World.cell?_setCell_same w3 ⟨w.heap.size+1,0,none⟩ (.int .i64 R) ad;refine ⟨.int .i64 R,?_,rfl,ab.setCell ⟨w.heap.size+1,0,none⟩ (fun h=>absurd h (by simp)) _⟩;simp [results,Tryz.f116,go_sem,O]
  | _=>exact h.elim
 ·go_region_with (first
   | (go_at_call_of 131 ao;refine (V _ ?_).mono ?_;(first | exact G | exact G.drew | exact G.drewN _);rintro e w' ⟨rfl,rfl⟩)
   | (go_at_call_of 131 bo;refine (Y _ ?_).mono ?_;(first | exact G | exact G.drew | exact G.drewN _);rintro e w' ⟨rfl,rfl⟩))
  all_goals exact ⟨rfl,World.cell?_setCell_same _ _ _ aj,(World.cell?_setCell_other _ _ _ _ (by simp)).trans ai,(World.frozen?_setCell _ _ _ _).trans aq,by simpa using al,(G.setCell ⟨w.heap.size,0,none⟩ (fun h=>absurd h (by simp)) _).drew⟩

end Go.Proofs.YtcemlfokmjjiaaaGreatDoor
