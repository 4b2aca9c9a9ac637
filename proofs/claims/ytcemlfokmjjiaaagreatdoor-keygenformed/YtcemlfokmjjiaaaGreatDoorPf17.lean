/- Put together of: Lim3 WInv Mon4. -/
import Derived.Test.YtcemlfokmjjiaaaGreatDoorPf16
import Derived.Lib.SliceRun
import Derived.Lib.LazyBuf
import Derived.Lib.RabinKarpLaws

namespace Go.Proofs.YtcemlfokmjjiaaaGreatDoor
set_option maxRecDepth 100000
set_option maxHeartbeats 4000000
open Go.RowKit

theorem sO (k x y:Nat) (hk:k<18446744073709551616) (hx:x<18446744073709551616) (hy:y<18446744073709551616) (w:World) :
  Calls Tryz.prog 228 #[.int .u64 (k:Nat),.int .u64 (x:Nat),.int .u64 (y:Nat)] w fun e w'=>e=.returned (.int .u64 (aP k x y:Nat))∧w'=w:=by
 refine (yJ (k:Int) (x:Int) (y:Int) (by omega) (by omega) (by omega) (by omega) (by omega) (by omega) w).mono ?_;rintro e w' ⟨rfl,rfl⟩;refine ⟨pJ ?_,rfl⟩;unfold sel aP;by_cases h:k%2=1
 ·rw [if_pos h,if_pos (by omega)]
 ·rw [if_neg h,if_neg (by omega)]

theorem yv (B X Y a k:Nat):dig (aP a X Y) k B=aP a (dig X k B) (dig Y k B):=by
 unfold aP;by_cases h:a%2=1
 ·rw [if_pos h,if_pos h]
 ·rw [if_neg h,if_neg h]

theorem qf (o:Tr) (a:Nat) (D:a<18446744073709551616) (u v:Value) (xs ys:List Nat) (w:World) (ht:TrRoom w o 1) (hu:RowT w o u xs) (hv:RowT w o v ys) (S:Digs xs) (G:Digs ys) (hL:xs.length≤100000000) (hM:ys.length≤100000000) :
  Calls Tryz.prog 187 #[aE o,.int .u64 (a:Nat),u,v] w fun e w'=>∃ v',e=.returned v' ∧
   OwnN .u64 23 w' w.heap.size v' (max xs.length ys.length) (digs (aP a (val xs) (val ys)) (max xs.length ys.length))∧∃ o',Did w o [(1,(max xs.length ys.length:Nat),0)] w' o':=by
 obtain ⟨i0,ae,ab,al,ak⟩:=info_parts Tryz.info23;obtain ⟨ao,L,cap,rfl,R,_,_,_,_⟩:=hu.1.open;obtain ⟨bo,M,C,rfl,H,_,_,_,_⟩:=hv.1.open;have eL:=R.out;have eM:=H.out;have hC:=iE ao bo L M cap C w;have I:=fun o' W g (t:TrIn W o') (r:RowT W o' (.slice ao L cap) xs) hg=>ku o' _ xs (max L M) g W t r S (by omega) (by omega) hg
 have F:=fun o' W g (t:TrIn W o') (r:RowT W o' (.slice bo M C) ys) hg=>ku o' _ ys (max L M) g W t r G (by omega) (by omega) hg
 have aq:max L M≤100000000:=by omega
 rw [eL,eM] at *;have HU:Hid (RowT w o (.slice ao L cap) xs):=hu;have HV:Hid (RowT w o (.slice bo M C) ys):=hv;have HT:Hid (TrRoom w o 1):=ht;obtain ⟨tp,q⟩:∃ tp,tp=aE o:=⟨_,rfl⟩
 rw [← q];have aj:Hid (tp=aE o):=q;clear hu hv ht R H eL eM S G hL hM q;generalize val xs=X at *;generalize val ys=Y at *;generalize max L M=n at *;go_enter Tryz.func187,Tryz.ntmps187;go_wp2_with fail;refine hC.mono ?_;rintro e w1 ⟨g,rfl,s,ac,k1⟩;have hS:=dC o n w1 (HT.out.1.grew k1);rw [← aj.out] at hS;clear hC;go_wp2_with fail;refine hS.mono ?_;rintro e w2 ⟨rfl,o2,d2⟩;have j:w2.heap[g]? = _:=(d2.kept.block g (lt_of_block s) (fun f=>by have:=HT.out.1.foot g f;omega)).trans s;have d:=Did.after k1 d2;have m:TrIn w2 o2:=(d.room (k:=0) HT.out).1;have V:=HU.out.did d;have E:=HV.out.did d;clear hS d2 k1 s;go_wp2_with fail
 refine (I o2 w2 g m V j).mono ?_;rintro e w3 ⟨v1,rfl,O,k3⟩;have Q:=(k3.block g (lt_of_block j) (fun f=>f)).trans j;go_wp2_with fail;refine (F o2 w3 g (m.grew k3) (E.grew k3) Q).mono ?_;rintro e w4 ⟨v2,rfl,T,k4⟩;have c:=O.1.grew k4;have d4:=aa ((d.grew k3).grew k4);have an:=aa ((m.grew k3).grew k4);obtain ⟨a1,n1,c1,rfl,N,_,_,_,A⟩:=c.open;obtain ⟨a2,n2,c2,rfl,P,_,_,_,B⟩:=T.1.open;obtain rfl:n1=n:=by rw [← N.out,ag]
 obtain rfl:n2=n1:=by rw [← P.out,ag]
 have am:Hid (w.heap.size≤w4.heap.size):=d4.out.size;clear I F m V E j Q O c T k3 k4 d N P ac;go_wp2_with (at_make;refine wpList_make_full _ rfl _ _ 32 rfl w4.heap.size 23 i0 _ 1 Tryz.underlying32 ae ab al _ _ _ _ n2 rfl rfl rfl rfl (by rw [ak];omega) (by unfold maxLen;omega) (leR _) ?_;intro w5 l J);rw [aG] at l;have k5:=aD J;clear J;go_loopw [32] (fun i wr=>∃ (k:Nat),k≤n2∧i=.int .i64 (k:Int)∧OwnN .u64 23 wr w4.heap.size (.slice (some ⟨w4.heap.size,0,none⟩) n2 n2) n2 (digs (aP a X Y) k ++ List.replicate (n2-k) 0)∧Kept af w4 wr) (fun i _=>n2-(intOf i).toNat)
 case atStart=>exact ⟨0,Nat.zero_le _,rfl,by rw [digs,List.nil_append,Nat.sub_zero];exact l,k5⟩
 case round=>
  obtain ⟨k,hk,rfl,ho,p⟩:=hrel;by_cases hkn:k<n2
  ·have au:(0:Int)≤(k:Int):=Int.natCast_nonneg _;have ah:(k:Int)<(n2:Int):=by omega
   obtain ⟨b1,ad,rfl,ap⟩:=cK ((A k hkn).grew p) hkn;obtain ⟨b2,Z,rfl,av⟩:=cK ((B k hkn).grew p) hkn;have ar:=ep ho (ag _ _ _) hkn;have hf:=World.ownsRow.frozenAt ho k;have U:=fun u=>(World.ownsRow.stored ho k u).1
   have hx:dig X k<18446744073709551616:=Nat.mod_lt _ (by omega);have hy:dig Y k<18446744073709551616:=Nat.mod_lt _ (by omega);have ai:Hid (OwnN .u64 23 (wr.setCell ⟨w4.heap.size,k,none⟩ (.int .u64 (aP a (dig X k) (dig Y k):Nat))) w4.heap.size (.slice (some ⟨w4.heap.size,0,none⟩) n2 n2) n2 (digs (aP a X Y) (k+1) ++ List.replicate (n2-(k+1)) 0)):=by
    have:=U (.int .u64 (aP a (dig X k) (dig Y k):Nat));unfold Hid OwnN;rw [← nE _ n2 k hkn,List.map_set,yv];exact this
   clear A B U l k5;generalize dig X k=x at *;generalize dig Y k=y at *;have hS:=fun W=>sO a x y D hx hy W
   generalize aP a x y=z at *;go_wp2_with fail;go_region_with (go_at_call 228;refine (hS _).mono ?_;rintro e w7 ⟨rfl,rfl⟩)
   all_goals
    go_wp2_with fail;go_roundw
    case rel=>exact ⟨k+1,by omega,by go_num,ai.out,(p.setCell _ (fun h=>by simp at h) _).drew⟩
    case measure=>simp [intOf];omega
  ·have ah:¬ (k:Int)<(n2:Int):=by omega
   have e:k=n2:=by omega
   subst e;rw [Nat.sub_self,List.replicate_zero,List.append_nil] at ho;clear A B l k5;go_wp2_with fail;go_ret;exact ⟨_,rfl,aZ ho (fun b hb=>Nat.le_trans am.out (ho.lt b hb).1),o2,d4.out.grew p⟩

theorem zN (x c:Nat) (hc:c≤1):bits .or .u64 (((2*x)%18446744073709551616:Nat):Int) (c:Int)=(((2*x)%18446744073709551616+c:Nat):Int):=by
 rw [u64_or_nat _ _ (by omega) (by omega)]
 congr 1
 have h0:c=0∨c=1:=by omega
 rcases h0 with rfl | rfl
 ·rw [Nat.or_zero,Nat.add_zero]
 ·have e:(2*x)%18446744073709551616=2^1*(x%9223372036854775808):=by omega
  rw [e,← Nat.two_pow_add_eq_or_of_lt (by omega:1<2^1)]

theorem qA {X k c z c' t:Nat} {os:List Nat} (hl:os.length=k) (h:val os+18446744073709551616^k*c=2*(X%18446744073709551616^k)+t) (hz:z+18446744073709551616*c'=2*dig X k+c) :
  val (os ++ [z])+18446744073709551616^(k+1)*c'=2*(X%18446744073709551616^(k+1))+t:=by
 rw [aS,hl,cF,Nat.pow_succ,Nat.mul_assoc];have e:18446744073709551616^k*(z+18446744073709551616*c')=18446744073709551616^k*(2*dig X k+c):=by rw [hz]
 rw [Nat.mul_add,Nat.mul_add,Nat.mul_left_comm (18446744073709551616^k) 2] at e;omega

theorem sG {n X c t:Nat} {os:List Nat} (hl:os.length=n) (hd:Digs os) (hX:X<18446744073709551616^n) (h:val os+18446744073709551616^n*c=2*(X%18446744073709551616^n)+t) :
  os=digs (2*X+t) n∧c=(2*X+t)/18446744073709551616^n:=by
 have hv:=aq (by omega) hd;rw [hl] at hv;rw [al hX] at h;have hp:0<18446744073709551616^n:=Nat.pow_pos (by omega);rw [← h];refine ⟨aW (by omega) hd hl ?_,?_⟩
 ·rw [Nat.add_mul_mod_self_left,al hv]
 ·rw [Nat.add_mul_div_left _ _ hp,Nat.div_eq_of_lt hv,Nat.zero_add]

theorem fw {xs:List Nat} (hd:Digs xs):digs (val xs) xs.length=xs:=
 (aW (by omega) hd rfl (al (aq (by omega) hd)).symm).symm

theorem BJ (o:Tr) (u:Value) (xs:List Nat) (d:Nat) (M:d<18446744073709551616) (w:World) (ht:TrRoom w o 1) (hu:RowT w o u xs) (m:Digs xs) (hL:xs.length≤100000000) :
  Calls Tryz.prog 247 #[aE o,u,.int .u64 (d:Nat)] w fun e w'=>∃ v',e=.returned (.tuple #[v',.int .u64 ((2*val xs+d%2)/18446744073709551616^xs.length:Nat)]) ∧
   OwnN .u64 23 w' w.heap.size v' xs.length (digs (2*val xs+d%2) xs.length)∧∃ o',Did w o [(1,(xs.length:Nat),0)] w' o':=by
 obtain ⟨i0,E,B,J,I⟩:=info_parts Tryz.info23;have q:=and_one_u64 (d:Int) (by omega) (by omega);obtain ⟨bt,v⟩:∃ bt,bt=d%2:=⟨_,rfl⟩
 rw [show (d:Int)%2=(bt:Int) by omega] at q;rw [← v];have O:bt≤1:=by omega
 clear v;have a:=aa (fw m);have hX:Hid (val xs<18446744073709551616^xs.length):=bV m (leR _);obtain ⟨ao,n,cap,rfl,l,_,_,_,_⟩:=hu.1.open;have Q:n≤100000000:=by rw [← l.out];exact hL
 rw [l.out] at hX a ⊢;have HU:Hid (RowT w o (.slice ao n cap) xs):=hu;have HT:Hid (TrRoom w o 1):=ht;have hS:=dC o n w ht.1;obtain ⟨tp,s⟩:∃ tp,tp=aE o:=⟨_,rfl⟩
 rw [← s] at hS ⊢;clear hu ht l m s hL;generalize val xs=X at *;obtain ⟨C,hC⟩:∃ C,C=(2*X+bt)/18446744073709551616^n:=⟨_,rfl⟩
 rw [← hC];have HC:=aa hC;clear hC;go_enter Tryz.func247,Tryz.ntmps247;go_wp2_with fail;refine hS.mono ?_;rintro e w4 ⟨rfl,o2,d2⟩;have d4:=aa d2;have y:=HU.out.did d2;obtain ⟨a1,n1,c1,e1,H,_,_,_,j⟩:=y.1.open;simp only [Value.slice.injEq] at e1;obtain ⟨rfl,rfl,rfl⟩:=e1;have L:Hid (w.heap.size≤w4.heap.size):=d2.size;rw [← a.out] at j;clear hS d2 y H;go_wp2_with (at_make;refine wpList_make_full _ rfl _ _ 32 rfl w4.heap.size 23 i0 _ 1 Tryz.underlying32 E B J _ _ _ _ n rfl rfl rfl rfl (by rw [I];omega) (by unfold maxLen;omega) (leR _) ?_;intro w5 f t);rw [aG] at f;have k5:=aD t;clear t
 go_loopw [10,22] (fun c i wr=>∃ (k c':Nat) (os:List Nat),k≤n∧c'≤1∧i=.int .i64 (k:Int)∧c=.int .u64 (c':Int)∧Hid (os.length=k)∧Digs os∧OwnN .u64 23 wr w4.heap.size (.slice (some ⟨w4.heap.size,0,none⟩) n n) n (os ++ List.replicate (n-k) 0)∧Kept af w4 wr ∧
   Hid (val os+18446744073709551616^k*c'=2*(X%18446744073709551616^k)+bt)) (fun _ i _=>n-(intOf i).toNat)
 case atStart=>exact ⟨0,bt,[],Nat.zero_le _,O,rfl,rfl,rfl,Digs.nil _,by rw [List.nil_append,Nat.sub_zero];exact f,k5,by unfold Hid;simp [val,Nat.mod_one]⟩
 case round=>
  obtain ⟨k,c,os,hk,hc,rfl,rfl,HL,r,ho,p,g⟩:=hrel;by_cases hkn:k<n
  ·have S:(0:Int)≤(k:Int):=Int.natCast_nonneg _;have F:(k:Int)<(n:Int):=by omega
   obtain ⟨b1,D,rfl,P⟩:=cK ((j k hkn).grew p) hkn;have R:=ep ho HL.out hkn;have hf:=World.ownsRow.frozenAt ho k;have A:=fun u=>(World.ownsRow.stored ho k u).1
   have hx:dig X k<18446744073709551616:=Nat.mod_lt _ (by omega);have HS:Hid (∀ z c',z+18446744073709551616*c'=2*dig X k+c→val (os ++ [z])+18446744073709551616^(k+1)*c'=2*(X%18446744073709551616^(k+1))+bt):=fun z c' h=>qA HL.out g.out h
   have G:Hid (∀ u:Nat,OwnN .u64 23 (wr.setCell ⟨w4.heap.size,k,none⟩ (.int .u64 (u:Int))) w4.heap.size (.slice (some ⟨w4.heap.size,0,none⟩) n n) n ((os ++ [u]) ++ List.replicate (n-(k+1)) 0)):=fun u=>by
    have:=A (.int .u64 (u:Int));unfold OwnN;rw [← fK os n k u HL.out hkn,List.map_set];exact this
   clear j g A f k5;generalize dig X k=x at *;obtain ⟨z,hz⟩:∃ z:Nat,z=(2*x)%18446744073709551616+c:=⟨_,rfl⟩
   have N:Hid (bits .or .u64 (IntKind.u64.wrap ((x:Int)*2)) (c:Int)=(z:Int)):=by
    unfold Hid;rw [IntKind.wrap_u64,show ((x:Int)*2)%18446744073709551616=(((2*x)%18446744073709551616:Nat):Int) by omega,zN x c hc,hz]
   have HZ:=aa hz;clear hz;go_wp2_with fail;go_region
   all_goals
    go_wp2_with fail;rw [N.out];have hz:=HZ.out;go_roundw
    case rel=>exact ⟨k+1,x/9223372036854775808,os ++ [z],by omega,by omega,by go_num,rfl,by unfold Hid;rw [List.length_append,HL.out];rfl,r.append (Digs.one (by omega)),G.out _,(p.setCell _ (fun h=>by simp at h) _).drew,HS.out _ _ (by omega)⟩
    case measure=>simp [intOf];omega
  ·have F:¬ (k:Int)<(n:Int):=by omega
   have e:k=n:=by omega
   subst e;rw [Nat.sub_self,List.replicate_zero,List.append_nil] at ho;obtain ⟨e1,e2⟩:=sG HL.out r hX.out g.out;have E1:=aa e1;have E2:=aa (HC.out.trans e2.symm);clear e1 e2 j g f k5;go_wp2_with fail;go_ret2;rw [← E1.out,E2.out];exact ⟨_,rfl,aZ ho (fun b hb=>Nat.le_trans L.out (ho.lt b hb).1),o2,d4.out.grew p⟩

theorem uW (x a:Int) (x0:0≤x) (x1:x<18446744073709551616):bits .and .u64 x (msk a)=if a%2=1 then x else 0:=by
 obtain ⟨X,rfl⟩:=Int.eq_ofNat_of_zero_le x0;unfold msk;have:a%2=0∨a%2=1:=by omega
 rcases this with h | h
 ·rw [h,if_neg (by decide)];have e:=u64_and_nat X 0 (by omega) (by omega);rw [Nat.and_zero] at e;exact e
 ·rw [h,if_pos rfl];have e:=u64_and_nat X 18446744073709551615 (by omega) (by omega);rw [show (18446744073709551615:Nat)=2^64-1 from rfl,Nat.and_two_pow_sub_one_of_lt_two_pow (by omega)] at e;exact e

theorem tY (a:Int) (a0:0≤a) (a1:a<18446744073709551616) (w:World) :
  Calls Tryz.prog 181 #[.int .u64 a] w fun e w'=>(∃ x,e=.returned (.int .u64 x)∧mJ a x)∧w'=w:=by
 go_enter Tryz.func181,Tryz.ntmps181;go_wp2_with (fail);go_loop [3,5] (fun x i=>∃ (X:Int) (k:Nat),k≤5∧x=.int .u64 X∧i=.int .i64 (k:Int)∧0≤X∧X<18446744073709551616∧Hid (a%2=1→(2:Int)^(min 64 (3*2^k)) ∣ 1-a*X)) (fun _ i=>(5-intOf i).toNat)
 case atStart=>exact ⟨a,0,by omega,rfl,rfl,a0,a1,rK a⟩
 case round=>
  obtain ⟨X,k,hk,rfl,rfl,X0,X1,HX⟩:=hrel;by_cases hp:k<5
  ·go_wp2_with (fail);go_round
   case rel=>
    refine ⟨_,k+1,by omega,rfl,by go_num,?_,?_,?_⟩
    ·rw [IntKind.wrap_u64];omega
    ·rw [IntKind.wrap_u64];omega
    ·intro h;have h1:=HX.out h;simp only [IntKind.wrap_u64];exact vz a X _ _ h1 (qD a X) _ (by rw [Nat.pow_succ];omega) (by omega)
   case measure=>simp [intOf];omega
  ·obtain rfl:k=5:=by omega
   obtain ⟨Y,hY,hi⟩:∃ Y,bits .and .u64 X (msk a)=Y∧mJ a Y:=by
    refine ⟨_,uW X a X0 X1,?_⟩;have:a%2=0∨a%2=1:=by omega
    rcases this with h | h
    ·rw [if_neg (by omega)];exact ⟨by omega,by omega,by omega,fun _=>rfl⟩
    ·rw [if_pos h];exact ⟨X0,X1,HX.out,by omega⟩
   have HI:Hid (mJ a Y):=hi;clear hi;go_wp2_with (go_at_call 164;refine (mF a a0 a1 _).mono ?_;rintro e w' ⟨rfl,rfl⟩);go_ret;exact ⟨⟨Y,rfl,HI.out⟩,rfl⟩

def Fresh (w:World) (v:Value):Prop:=∀ b,v.ownBlock=some b→w.heap.size≤b

theorem Fresh.after {w W:World} {v:Value} (h:Fresh W v) (k:Kept af w W):Fresh w v:=fun b hb=>Nat.le_trans k.size (h b hb)

theorem Fresh.own {w W:World} {base n:Nat} {v:Value} {zs:List Nat} (h:OwnN .u64 23 W base v n zs) (hb:w.heap.size≤base):Fresh w v:=fun b a=>Nat.le_trans hb (h.lt b a).1

theorem Ac (b off n c:Nat) (xs:List Nat) (w:World) (h:Row .u64 w (.slice (some ⟨b,off,none⟩) n c) xs) (hn:n≤1000000) :
  Calls Tryz.prog 142 #[.slice (some ⟨b,off,none⟩) n c] w fun e w'=>∃ v',e=.returned v'∧Row .u64 w' v' xs∧Fresh w v'∧Kept af w w':=by
 obtain ⟨i0,g,l,m,i⟩:=info_parts Tryz.info23;obtain ⟨_,_,_,e1,hL,_,_,_,_⟩:=h.open;cases e1
 have hq:∀ (w:World) (a:Option Addr) (n c:Nat),(binOp .eql 32 (.slice a n c) (.slice none 0 0)).run Tryz.prog w=.ok (.bool a.isNone) w:=fun w a n c=>Lib.run_eql_slice_nil w _ _ a n c _ _ Tryz.underlying32
 have HS:Hid (∀ W,Kept af w W→∀ j u,(xs.map fun z:Nat=>Value.int .u64 (z:Int))[j]? = some u→W.cell? ((⟨b,off,none⟩:Addr).add j)=some u):=fun W k j u hj=>by
  obtain ⟨ad,e,hs⟩:=h.source k (by
   rw [List.length_map];have:=(List.getElem?_eq_some_iff.1 hj).1;rw [List.length_map] at this;omega)
  cases e
  exact hs j u hj
 have HO:=aa (gQ .u64 xs);have k0:Kept af w (w.alloc (.cells #[] 23)):=(ai af w).alloc _;clear h;go_enter Tryz.func142,Tryz.ntmps142;go_wp2_with (at_builtin;refine wpList_append_own _ rfl _ _ 32 rfl w.heap.size 23 i0 (.int .u64 0) 1 8 Tryz.underlying32 g l m i rfl (by decide) _ _ _ rfl (World.ownsRow_made w #[] 0 (leR _) (Nat.zero_le _) rfl) ⟨b,off,none⟩ n c (xs.map fun z:Nat=>Value.int .u64 (z:Int)) rfl ?qc1 ?qc2 ?qc3 ?qc4 ?qc5 ?qc6 ?_)
 case qc1=>rw [List.length_map,hL.out];simp
 case qc2=>exact HS.out _ k0
 case qc3=>exact HO.out
 case qc4=>unfold maxLen;omega
 case qc5=>omega
 case qc6=>simp
 intro v' w1 f d o;have k1:Kept af w w1:=k0.grown d (fun k hk hlt=>by simp [Value.ownBlock] at hk;omega);go_wp2;go_ret;exact ⟨v',rfl,Row.of_own (base:=w.heap.size) (e:=23) (by rw [hL.out];simpa using f),(fun b hb=>(f.lt b hb).1),k1⟩

theorem Cq (y:Nat) (hy:y<18446744073709551616) (w:World) :
  Calls Tryz.prog 223 #[.int .u64 (y:Nat)] w fun e w'=>e=.returned (.int .i64 (au y:Nat))∧w'=w:=by
 have a:=Any.bits_Len64 Ak (y:Int) w (by omega) (by omega);rw [show ((y:Int).toNat)=y from rfl,gU y hy] at a;generalize au y=M at *;go_enter Tryz.func223,Tryz.ntmps223;go_wp2_with fail;refine a.mono ?_;rintro e w' ⟨rfl,rfl⟩;go_wp2;go_ret;exact ⟨rfl,rfl⟩

theorem mU (ao bo xo:Option Addr) (n a rl b xc V Y:Nat) (K:Int) (xs ms:List Nat) (w:World) (hx:Row .u64 w (.slice xo n xc) xs) (hm:Row .u64 w (.slice ao n a) ms) (p:Digs xs) (g:Digs ms) (hn:n≤100000) (hV:V=val ms) (hX:val xs<V) (hY:Y=2*val xs%V) :
  Calls Tryz.prog 224 #[.agg #[.slice ao n a,.int .u64 K,.slice bo rl b],.slice xo n xc] w fun e w'=>∃ v',e=.returned v'∧Row .u64 w' v' (digs Y n)∧Fresh w v'∧Kept af w w':=by
 obtain ⟨_,_,_,e1,h,_,_,_,_⟩:=hx.open;cases e1
 obtain ⟨_,_,_,e1,o,_,_,_,_⟩:=hm.open;cases e1
 have r:V<18446744073709551616^n:=by rw [hV,← o.out];exact aq (by omega) g
 obtain ⟨W,hW⟩:∃ W,W=w.alloc (.cells #[.slice ao n a,.int .u64 K,.slice bo rl b] 130):=⟨_,rfl⟩
 have k0:Kept af w W:=by rw [hW];exact (ai af w).alloc _
 have q:W.heap[w.heap.size]? = some (.cells #[.slice ao n a,.int .u64 K,.slice bo rl b] 130 (0,0)):=by rw [hW];exact heap_alloc_new _ _
 have f:=BJ none (.slice xo n xc) xs 0 (by omega) W (TrRoom.none _ _ (by omega)) (RowT.none (hx.grew k0)) p (by rw [h.out];omega);rw [h.out,show (0:Nat)%2=0 from rfl,Nat.add_zero,show aE none=.pointer none from rfl] at f;obtain ⟨X,i⟩:∃ X,X=val xs:=⟨_,rfl⟩
 rw [← i] at f hX hY;obtain ⟨c,hc⟩:∃ c,c=2*X/18446744073709551616^n:=⟨_,rfl⟩
 rw [← hc] at f;have l:c≤1:=by
  have:2*X/18446744073709551616^n<2:=by
   rw [Nat.div_lt_iff_lt_mul (Nat.pow_pos (by omega))];omega
  omega
 have m:iD (2*X%18446744073709551616^n) V c n=Y:=by
  have e:2*X%18446744073709551616^n+18446744073709551616^n*c=2*X:=by rw [hc];exact Nat.mod_add_div _ _
  rw [sR (Nat.mod_lt _ (Nat.pow_pos (by omega))) r l (by omega),e,hY]
 have HS:Hid (∀ W' v',Kept af W W'→Row .u64 W' v' (digs (2*X) n)→Calls Tryz.prog 244 #[.pointer none,.agg #[.slice ao n a,.int .u64 K,.slice bo rl b],v',.int .u64 (c:Nat)] W' fun e w'=>∃ v2,e=.returned v2∧Row .u64 w' v2 (digs Y n)∧Fresh w v2∧Kept af w w'):=fun W' v' k hr=>by
  have:=yW none ao bo n a rl b c K v' _ ms W' (TrRoom.none _ _ (by omega)) (RowT.none hr) (ag _ _ _) (RowT.none (hm.grew (k0.trans k))) (ah (by omega) _ _) g l hn;rw [ak,← hV,m] at this;refine this.mono ?_;rintro e w' ⟨v2,rfl,ho,o',d⟩;exact ⟨v2,rfl,aY ho (ag _ _ _),Fresh.own ho (k0.trans k).size,(k0.trans k).trans d.none.2⟩
 obtain ⟨p0,p1,p2⟩:=ax q;have HW:=aa hW;clear hx hm p g h o hV r hX hY i hc m k0 q hW;go_enter Tryz.func224,Tryz.ntmps224;go_wp2_with (rw [← HW.out]);refine f.mono ?_;rintro e w1 ⟨v1,rfl,j,o1,d1⟩;have k1:=d1.none.2;have q0:=k1.cellN p0;have q1:=k1.cellN p1;have q2:=k1.cellN p2;have hL:=HS.out w1 v1 k1 (aY j (ag _ _ _));clear f p0 p1 p2 j d1;go_wp2_with fail;refine hL.mono ?_;rintro e w2 ⟨v2,rfl,s,n2,k2⟩;go_wp2_with fail;go_ret;exact ⟨v2,rfl,s,n2,k2⟩

theorem Bz (ao bo:Option Addr) (n a rl c V Y:Nat) (K:Int) (ms:List Nat) (w:World) (hm:Row .u64 w (.slice ao n a) ms) (l:Digs ms) (R:0<n) (hn:n≤130) (hV:V=val ms) (j:18446744073709551616^(n-1)<V) (hY:Y=18446744073709551616^n%V) :
  Calls Tryz.prog 222 #[.agg #[.slice ao n a,.int .u64 K,.slice bo rl c]] w fun e w'=>∃ v',e=.returned v'∧Row .u64 w' v' (digs Y n)∧Fresh w v'∧Kept af w w':=by
 obtain ⟨i0,I,C,P,L⟩:=info_parts Tryz.info23;obtain ⟨_,_,_,e1,E,_,_,_,_⟩:=hm.open;cases e1
 have r:V<18446744073709551616^n:=by rw [hV,← E.out];exact aq (by omega) l
 obtain ⟨W,hW⟩:∃ W,W=w.alloc (.cells #[.slice ao n a,.int .u64 K,.slice bo rl c] 130):=⟨_,rfl⟩
 have k0:Kept af w W:=by rw [hW];exact (ai af w).alloc _
 have s:W.heap[w.heap.size]? = some (.cells #[.slice ao n a,.int .u64 K,.slice bo rl c] 130 (0,0)):=by rw [hW];exact heap_alloc_new _ _
 have D:Hid (∀ W' xo xc k,Kept af W W'→Row .u64 W' (.slice xo n xc) (digs (18446744073709551616^(n-1)*2^k%V) n)→Calls Tryz.prog 224 #[.agg #[.slice ao n a,.int .u64 K,.slice bo rl c],.slice xo n xc] W' fun e w'=>∃ v',e=.returned v'∧Row .u64 w' v' (digs (18446744073709551616^(n-1)*2^(k+1)%V) n)∧Fresh W v'∧Kept af W w'):=fun W' xo xc k kk hr=>by
  have hlt:18446744073709551616^(n-1)*2^k%V<V:=Nat.mod_lt _ (Nat.lt_of_le_of_lt (Nat.zero_le _) j);refine (mU ao bo xo n a rl c xc V (18446744073709551616^(n-1)*2^(k+1)%V) K _ ms W' hr (hm.grew (k0.trans kk)) (ah (by omega) _ _) l (by omega) hV (by rw [ak,al (Nat.lt_trans hlt r)];exact hlt) ?_).mono ?_
  ·rw [ak,al (Nat.lt_trans hlt r),pN,Nat.pow_succ]
   congr 1
   generalize 18446744073709551616^(n-1)=p;generalize 2^k=q
   grind
  ·rintro e w' ⟨v',rfl,h1,hf,h2⟩;exact ⟨v',rfl,h1,hf.after kk,kk.trans h2⟩
 obtain ⟨p0,p1,p2⟩:=ax s;have HW:=aa hW;have HX:=aa s;have v:=aa k0;have HI:Hid ((List.replicate n 0).set (n-1) 1=digs (18446744073709551616^(n-1)*2^0%V) n):=by
  unfold Hid;obtain ⟨m,rfl⟩:∃ m,n=m+1:=⟨n-1,by omega⟩
  rw [Nat.add_sub_cancel] at j ⊢;rw [Nat.pow_zero,Nat.mul_one,al j];refine aW (by omega) ?_ (by simp) ?_
  ·intro d hd;rcases List.mem_or_eq_of_mem_set hd with h | h
   ·rw [(List.mem_replicate.1 h).2];omega
   ·omega
  ·rw [List.replicate_succ',List.set_append_right _ _ (by simp),List.length_replicate,Nat.sub_self,lsZ,aS,cN _ (fun d hd=>(List.mem_replicate.1 hd).2),List.length_replicate,al (Nat.pow_lt_pow_right (by omega) (by omega))];omega
 have HY:Hid (18446744073709551616^(n-1)*2^64%V=Y):=by
  unfold Hid;obtain ⟨m,rfl⟩:∃ m,n=m+1:=⟨n-1,by omega⟩
  rw [hY,Nat.add_sub_cancel,Nat.pow_succ 18446744073709551616 m]
 have N:n-1<n:=by omega
 have gn:(n:Int)-1=((n-1:Nat):Int):=by omega
 have Q:((n-1:Nat):Int)<(n:Int):=by omega
 clear hW s k0 hm l hV j hY r;go_enter Tryz.func222,Tryz.ntmps222;go_wp2_with (at_make;rw [← HW.out];refine wpList_make_full _ rfl _ _ 32 rfl W.heap.size 23 i0 _ 1 Tryz.underlying32 I C P _ _ _ _ n rfl rfl rfl rfl (by rw [L];omega) (by unfold maxLen;omega) (leR _) ?_;intro w3 g A;rw [aG] at g;have k3:=aD A;have x:=World.ownsRow.cellAt g (n-1) (by omega);have B:=World.ownsRow.frozenAt g (n-1);rw [List.getElem?_map,List.getElem?_replicate,if_pos N] at x;clear A);have o:OwnN .u64 23 (w3.setCell ⟨W.heap.size,n-1,none⟩ (.int .u64 1)) W.heap.size (.slice (some ⟨W.heap.size,0,none⟩) n n) n (digs (18446744073709551616^(n-1)*2^0%V) n):=by
  have:=(World.ownsRow.stored g (n-1) (.int .u64 1)).1;unfold OwnN;rw [← HI.out,List.map_set];exact this
 have z:=aY o (ag _ _ _);have k4:Kept af W (w3.setCell ⟨W.heap.size,n-1,none⟩ (.int .u64 1)):=cP k3 ((ai (fun b=>b=W.heap.size) w3).setCell ⟨W.heap.size,n-1,none⟩ (fun _=>rfl) _) (leR _);generalize w3.setCell ⟨W.heap.size,n-1,none⟩ (.int .u64 1)=w4 at *;have G:=aa z;have M:Hid (Fresh W (.slice (some ⟨W.heap.size,0,none⟩) n n)):=Fresh.own o (leR _);have J:=aa k4;clear o g x B k3 p0 p1 p2 z k4 HI
 go_loopw [4,14] (fun rv i wr=>∃ (k:Nat) (xo:Option Addr) (xc:Nat),k≤64∧i=.int .i64 (k:Int)∧rv=.slice xo n xc∧Hid (Row .u64 wr (.slice xo n xc) (digs (18446744073709551616^(n-1)*2^k%V) n))∧Hid (Fresh W (.slice xo n xc))∧Hid (Kept af W wr)) (fun _ i _=>64-(intOf i).toNat)
 case atStart=>exact ⟨0,_,_,by omega,rfl,rfl,G.out,M.out,J.out⟩
 case round=>
  obtain ⟨k,xo,xc,hk,rfl,rfl,HR,HF,HK⟩:=hrel;by_cases hk6:k<64
  ·have g1:(k:Int)<64:=by omega
   obtain ⟨q0,q1,q2⟩:=ax ((HK.out.block _ (lt_of_block HX.out) (fun f=>f)).trans HX.out);have hD:=D.out wr xo xc k HK.out HR.out;go_wp2_with fail;refine hD.mono ?_;rintro e w5 ⟨v5,rfl,t,f5,k5⟩;obtain ⟨yo,yn,yc,rfl,y,_,_,_,_⟩:=t.open;obtain rfl:yn=n:=by rw [← y.out,ag]
   have O:=aa t;have F:=aa f5;have H:=aa k5;clear hD t k5 f5 q0 q1 q2 y;go_wp2_with fail;go_roundw
   case rel=>exact ⟨k+1,yo,yc,by omega,by go_num,rfl,O.out,F.out,H.out⟩
   case measure=>simp [intOf];omega
  ·have g1:¬ (k:Int)<64:=by omega
   obtain rfl:k=64:=by omega
   go_wp2_with fail;go_ret;refine ⟨_,rfl,?_,HF.out.after v.out,v.out.trans HK.out⟩;have:=HR.out;rw [HY.out] at this;exact this

theorem As {P V Y E s:Nat} (hc:Nat.Coprime P V) (hY:Y<V) (h:P*Y%V=(P*2^(E/2^(s+1))%V)*(P*2^(E/2^(s+1))%V)%V) :
  (E/2^s%2=0→Y=P*2^(E/2^s)%V)∧(E/2^s%2=1→2*Y%V=P*2^(E/2^s)%V):=by
 have e:=zH hc hY h;have h2:E/2^(s+1)=E/2^s/2:=by rw [Nat.pow_succ,Nat.div_div_eq_div_mul]
 rw [h2] at e;generalize E/2^s=d at *;constructor
 ·intro h0;rw [e,show 2*(d/2)=d by omega]
 ·intro h1;rw [e,pN];rw [show d=2*(d/2)+1 by omega];rw [show 2*((2*(d/2)+1)/2)=2*(d/2) by omega,Nat.pow_succ]
  congr 1
  generalize 2^(2*(d/2))=q
  grind

theorem nM (i:Nat) (hi:i<9223372036854775808):bits BinOp.and IntKind.i64 (i:Int) 1=((i%2:Nat):Int):=Go.Proofs.and_one i hi

theorem xz (ao bo:Option Addr) (n a rl b V Y K:Nat) (ms:List Nat) (w:World) (hm:Row .u64 w (.slice ao n a) ms) (h:Digs ms) (H:0<n) (hn:n≤130) (hV:V=val ms) (r:18446744073709551616^(n-1)<V) (m:V%2=1) (d:(V*K+1)%18446744073709551616=0) (hY:Y=18446744073709551616^(2*n)%V) :
  Calls Tryz.prog 182 #[.agg #[.slice ao n a,.int .u64 (K:Nat),.slice bo rl b]] w fun e w'=>∃ v',e=.returned v'∧Row .u64 w' v' (digs Y n)∧Fresh w v'∧Kept af w w':=by
 obtain ⟨_,_,_,e1,S,_,_,_,_⟩:=hm.open;cases e1
 have Q:0<V:=Nat.lt_of_le_of_lt (Nat.zero_le _) r;have o:V<18446744073709551616^n:=by rw [hV,← S.out];exact aq (by omega) h
 have M:Nat.Coprime (18446744073709551616^n) V:=by rw [B64];exact (dS m).symm
 obtain ⟨W,hW⟩:∃ W,W=w.alloc (.cells #[.slice ao n a,.int .u64 (K:Nat),.slice bo rl b] 130):=⟨_,rfl⟩
 have k0:Kept af w W:=by rw [hW];exact (ai af w).alloc _
 have x:W.heap[w.heap.size]? = some (.cells #[.slice ao n a,.int .u64 (K:Nat),.slice bo rl b] 130 (0,0)):=by rw [hW];exact heap_alloc_new _ _
 obtain ⟨E,hE⟩:∃ E,E=64*n:=⟨_,rfl⟩
 obtain ⟨l,hl⟩:∃ l,l=au E:=⟨_,rfl⟩
 have aj:l≤14:=by rw [hl];exact (aA E 14).2 (by omega)
 have I:E<2^l:=(aA E l).1 (by omega);have z:=Bz ao bo n a rl b V _ (K:Nat) ms W (hm.grew k0) h H hn hV r rfl;have y:Hid (∀ W',Calls Tryz.prog 223 #[.int .u64 (E:Int)] W' fun e w'=>e=.returned (.int .i64 (l:Int))∧w'=W'):=fun W'=>by
  have:=Cq E (by omega) W';rw [← hl] at this;exact this
 have R:Hid (∀ W' xo xc X,X<V→Kept af W W'→Row .u64 W' (.slice xo n xc) (digs X n)→Calls Tryz.prog 224 #[.agg #[.slice ao n a,.int .u64 (K:Nat),.slice bo rl b],.slice xo n xc] W' fun e w'=>∃ v',e=.returned v'∧Row .u64 w' v' (digs (2*X%V) n)∧Fresh W v'∧Kept af W w'):=fun W' xo xc X hX kk hr=>by
  have p:val (digs X n)=X:=by rw [ak,al (Nat.lt_trans hX o)]
  refine (mU ao bo xo n a rl b xc V (2*X%V) K _ ms W' hr (hm.grew (k0.trans kk)) (ah (by omega) _ _) h (by omega) hV (by rw [p];exact hX) (by rw [p])).mono ?_;rintro e w' ⟨v',rfl,h1,hf,h2⟩;exact ⟨v',rfl,h1,hf.after kk,kk.trans h2⟩
 have ae:Hid (∀ W' xo xc X,X<V→Kept af W W'→Row .u64 W' (.slice xo n xc) (digs X n)→Calls Tryz.prog 214 #[.pointer none,.agg #[.slice ao n a,.int .u64 (K:Nat),.slice bo rl b],.slice xo n xc,.slice xo n xc] W' fun e w'=>∃ v',e=.returned v'∧Kept af W w'∧Fresh W v'∧∃ Z,Z<V∧18446744073709551616^n*Z%V=X*X%V∧Row .u64 w' v' (digs Z n)):=fun W' xo xc X hX kk hr=>by
  have p:val (digs X n)=X:=by rw [ak,al (Nat.lt_trans hX o)]
  refine (oR none n K a rl b xc xc ao bo xo xo _ _ ms W' (TrRoom.none _ _ (by omega)) (RowT.none hr) (RowT.none hr) (RowT.none (hm.grew (k0.trans kk))) (ah (by omega) _ _) (ah (by omega) _ _) h hn).mono ?_;rintro e w' ⟨v',rfl,Z,o',h1,h2,h3⟩;rw [p,← hV] at h2;have N:X*X<V*18446744073709551616^n:=Nat.mul_lt_mul_of_lt_of_le hX (Nat.le_of_lt (Nat.lt_trans hX o)) (Nat.pow_pos (by omega));obtain ⟨z1,z2⟩:=h2 d H N;exact ⟨v',rfl,kk.trans h3.none.2,Fresh.own h1 kk.size,Z,z1,z2,aY h1 (ag _ _ _)⟩
 obtain ⟨p0,p1,p2⟩:=ax x;have HW:=aa hW;have HX:=aa x;have A:=aa k0;have P:=aa M;have T:=aa I;have HY:Hid (18446744073709551616^n*2^(E/2^0)%V=Y):=by
  unfold Hid;rw [hY,Nat.pow_zero,Nat.div_one,hE,← B64,← Nat.pow_add,Nat.two_mul]
 have gE:(64:Int)*(n:Int)=(E:Int):=by omega
 have ap:E≤10000:=by omega
 clear hW x k0 hm h hV r hY o hl I hE M d m;go_enter Tryz.func182,Tryz.ntmps182;go_wp2_with (rw [← HW.out]);refine z.mono ?_;rintro e w1 ⟨v1,rfl,t,f1,k1⟩;obtain ⟨yo,yn,yc,rfl,j,_,_,_,_⟩:=t.open;obtain rfl:yn=n:=by rw [← j.out,ag]
 have q0:=k1.cellN p0;have q1:=k1.cellN p1;have q2:=k1.cellN p2;have D:=aa t;have B:=aa f1;have G:=aa k1;clear z p0 p1 p2 t k1 f1 j;go_wp2_with fail;refine (y.out _).mono ?_;rintro e w2 ⟨rfl,rfl⟩;go_wp2_with fail;clear q0 q1 q2;go_loopw [3,17] (fun rv i wr=>∃ (k:Nat) (xo:Option Addr) (xc:Nat),k≤l∧i=.int .i64 (k:Int)∧rv=.slice xo yn xc∧Hid (Row .u64 wr (.slice xo yn xc) (digs (18446744073709551616^yn*2^(E/2^(l-k))%V) yn))∧Hid (Fresh W (.slice xo yn xc))∧Hid (Kept af W wr)) (fun _ i _=>l-(intOf i).toNat)
 case atStart=>exact ⟨0,_,_,by omega,rfl,rfl,by unfold Hid;rw [Nat.sub_zero,Nat.div_eq_of_lt T.out,Nat.pow_zero,Nat.mul_one];exact D.out,B.out,G.out⟩
 case round=>
  obtain ⟨k,xo,xc,hk,rfl,rfl,HR,HF,HK⟩:=hrel;clear D G B;by_cases hk6:k<l
  ·have g1:(k:Int)<(l:Int):=by omega
   obtain ⟨q0,q1,q2⟩:=ax ((HK.out.block _ (lt_of_block HX.out) (fun f=>f)).trans HX.out);have hT:=ae.out wr xo xc _ (Nat.mod_lt _ Q) HK.out HR.out;obtain ⟨s,hs⟩:∃ s,s=l-1-k:=⟨_,rfl⟩
   rw [show l-k=s+1 by omega] at hT;have gs:(l:Int)-1-(k:Int)=(s:Int):=by omega
   go_wp2_with fail;refine hT.mono ?_;rintro e w5 ⟨v5,rfl,k5,f5,Z,z1,z2,q⟩;obtain ⟨b0,b1⟩:=As P.out z1 z2;obtain ⟨zo,zn,zc,rfl,j,_,_,_,_⟩:=q.open;obtain rfl:zn=yn:=by rw [← j.out,ag]
   obtain ⟨r0,r1,r2⟩:=ax ((k5.block _ (lt_of_block HX.out) (fun f=>f)).trans HX.out);have J:=aa q;have U:=aa f5;have F:=aa k5;have B0:=aa b0;have B1:=aa b1;have HS:=aa hs;clear hT q0 q1 q2 q k5 f5 b0 b1 z2 j hs;have hD:=R.out w5 zo zc Z z1 F.out J.out;have C:l-(k+1)=s:=by have:=HS.out;omega
   have c:=nM (E/2^s) (by have:=Nat.div_le_self E (2^s);omega);have g:((E/2^s:Nat):Int)=(E:Int)/2^s:=by simp
   rw [g] at c;clear g;have hm2:E/2^s%2=0∨E/2^s%2=1:=by omega
   rcases hm2 with hm2 | hm2
   ·rw [hm2] at c;have e0:=B0.out hm2;clear hm2 B0 B1 hD;go_wp2_with fail;go_roundw
    case rel=>exact ⟨k+1,zo,zc,by omega,by go_num,rfl,by unfold Hid;rw [C,← e0];exact J.out,U.out,F.out⟩
    case measure=>simp [intOf];omega
   ·rw [hm2] at c;have e1:=B1.out hm2;clear hm2 B0 B1;go_wp2_with fail;refine hD.mono ?_;rintro e w6 ⟨v6,rfl,v,f6,k6⟩;obtain ⟨ac,ad,an,rfl,L,_,_,_,_⟩:=v.open;obtain rfl:ad=zn:=by rw [← L.out,ag]
    have O:=aa v;have ab:=aa f6;have am:=aa k6;have E1:=aa e1;clear hD v k6 f6 L r0 r1 r2 e1;go_wp2_with fail;go_roundw
    case rel=>exact ⟨k+1,ac,an,by omega,by go_num,rfl,by unfold Hid;rw [C,← E1.out];exact O.out,ab.out,am.out⟩
    case measure=>simp [intOf];omega
  ·have g1:¬ (k:Int)<(l:Int):=by omega
   obtain rfl:k=l:=by omega
   go_wp2_with fail;go_ret;refine ⟨_,rfl,?_,HF.out.after A.out,A.out.trans HK.out⟩;have:=HR.out;rw [Nat.sub_self,HY.out] at this;exact this

theorem jZ {W:World} {p:Nat} {a b c:Value} {t:TypeId} (h:W.heap[p]? = some (.cells #[a,b,c] t (0,0))):W.frozen? ⟨p,0,none⟩=false∧W.frozen? ⟨p,1,none⟩=false∧W.frozen? ⟨p,2,none⟩=false:=by
 simp [World.frozen?,h]

theorem xk {W:World} {p:Nat} {a b c:Value} {t:TypeId} (h:W.heap[p]? = some (.cells #[a,b,c] t (0,0))) (x y z:Value) :
  (W.setCell ⟨p,0,none⟩ x).heap[p]? = some (.cells #[x,b,c] t (0,0))∧(W.setCell ⟨p,1,none⟩ y).heap[p]? = some (.cells #[a,y,c] t (0,0))∧(W.setCell ⟨p,2,none⟩ z).heap[p]? = some (.cells #[a,b,z] t (0,0)):=by
 refine ⟨?_,?_,?_⟩
 ·have:=heap_setCell_same W p 0 #[a,b,c] t x h;simpa using this
 ·have:=heap_setCell_same W p 1 #[a,b,c] t y h;simpa using this
 ·have:=heap_setCell_same W p 2 #[a,b,c] t z h;simpa using this

theorem xq {W:World} {p:Nat} {a b c:Value} {t:TypeId} (h:W.heap[p]? = some (.cells #[a,b,c] t (0,0))) (x y z:Value) :
  (((W.setCell ⟨p,0,none⟩ x).setCell ⟨p,1,none⟩ y).setCell ⟨p,2,none⟩ z).heap[p]? = some (.cells #[x,y,z] t (0,0)):=
 (xk (xk (xk h x y z).1 x y z).2.1 x y z).2.2

theorem nI (W:World) (p:Nat) (x y z:Value):Kept (fun b=>b=p) W (((W.setCell ⟨p,0,none⟩ x).setCell ⟨p,1,none⟩ y).setCell ⟨p,2,none⟩ z):=
 (((ai (fun b=>b=p) W).setCell ⟨p,0,none⟩ (fun _=>rfl) x).setCell ⟨p,1,none⟩ (fun _=>rfl) y).setCell ⟨p,2,none⟩ (fun _=>rfl) z

theorem Aj {V m0:Nat} {x:Int} (b:V%18446744073709551616=m0) (a:V%2=1) (h:mJ (18446744073709551616-(m0:Int)) x):∃ K:Nat,x=(K:Int)∧K<18446744073709551616∧(V*K+1)%18446744073709551616=0:=by
 obtain ⟨x0,x1,x2,_⟩:=h;obtain ⟨K,rfl⟩:=Int.eq_ofNat_of_zero_le x0;refine ⟨K,rfl,by omega,?_⟩;have ho:(18446744073709551616-(m0:Int))%2=1:=by omega
 obtain ⟨t,ht⟩:=x2 ho;have hV:V=18446744073709551616*(V/18446744073709551616)+m0:=by rw [← b];exact (Nat.div_add_mod _ _).symm
 have e1:((V*K+1:Nat):Int)=18446744073709551616*(((V/18446744073709551616:Nat):Int)*(K:Int)+t+(K:Int)):=by
  generalize V/18446744073709551616=q at *;subst hV;have:(((18446744073709551616*q+m0)*K+1:Nat):Int)=(18446744073709551616*(q:Int)+(m0:Int))*(K:Int)+1:=by simp
  rw [this]
  grind
 have:(18446744073709551616:Int) ∣ ((V*K+1:Nat):Int):=⟨_,e1⟩
 omega

theorem Cc (b off n cap V:Nat) (ms:List Nat) (w:World) (hm:Row .u64 w (.slice (some ⟨b,off,none⟩) n cap) ms) (k:Digs ms) (A:0<n) (hn:n≤130) (hV:V=val ms) (t:18446744073709551616^(n-1)<V) (d:V%2=1) :
  Calls Tryz.prog 141 #[.slice (some ⟨b,off,none⟩) n cap] w fun e w'=>∃ (K:Nat) (v:Value),e=.returned (.agg #[.slice (some ⟨b,off,none⟩) n cap,.int .u64 (K:Int),v])∧K<18446744073709551616∧(V*K+1)%18446744073709551616=0∧Row .u64 w' v (digs (18446744073709551616^(2*n)%V) n)∧Fresh w v∧Kept af w w':=by
 obtain ⟨_,_,_,e1,I,_,_,_,g⟩:=hm.open;cases e1
 obtain ⟨b',J,e1,m⟩:=g 0 A;cases e1
 rw [Nat.add_zero] at m;have hx:ms.getD 0 0<18446744073709551616:=k.getD (by omega) _;have q:V%18446744073709551616=ms.getD 0 0:=by
  have:=aR (by omega) k 0;unfold dig at this;rw [hV]
  rwa [Nat.pow_zero,Nat.div_one] at this
 obtain ⟨m0,s⟩:∃ m0,m0=ms.getD 0 0:=⟨_,rfl⟩
 rw [← s] at m hx q;obtain ⟨W,hW⟩:∃ W,W=w.alloc (.cells #[.slice none 0 0,.int .u64 0,.slice none 0 0] 130):=⟨_,rfl⟩
 have k0:Kept af w W:=by rw [hW];exact (ai af w).alloc _
 have D:W.heap[w.heap.size]? = some (.cells #[.slice none 0 0,.int .u64 0,.slice none 0 0] 130 (0,0)):=by rw [hW];exact heap_alloc_new _ _
 have z:W.heap.size=w.heap.size+1:=by rw [hW];simp
 have G:IntKind.u64.wrap (-(m0:Int))=18446744073709551616-(m0:Int):=by rw [IntKind.wrap_u64];omega
 have hI:=tY (18446744073709551616-(m0:Int)) (by omega) (by omega) W;have H:=k0.cellN m;have l:Hid (∀ x,mJ (18446744073709551616-(m0:Int)) x→∃ K:Nat,x=(K:Int)∧K<18446744073709551616∧(V*K+1)%18446744073709551616=0):=fun x h=>Aj q d h
 have C:Hid (∀ K:Nat,(V*K+1)%18446744073709551616=0→Calls Tryz.prog 182 #[.agg #[.slice (some ⟨b,off,none⟩) n cap,.int .u64 (K:Int),.slice none 0 0]] (W.alloc (.cells #[.slice (some ⟨b,off,none⟩) n cap,.int .u64 (K:Int),.slice none 0 0] 130)) fun e w'=>∃ v',e=.returned v'∧Row .u64 w' v' (digs (18446744073709551616^(2*n)%V) n)∧Fresh (W.alloc (.cells #[.slice (some ⟨b,off,none⟩) n cap,.int .u64 (K:Int),.slice none 0 0] 130)) v'∧Kept af (W.alloc (.cells #[.slice (some ⟨b,off,none⟩) n cap,.int .u64 (K:Int),.slice none 0 0] 130)) w'):=fun K hg=>
  xz _ _ n cap 0 0 V _ K ms _ (hm.grew (k0.alloc _)) k A hn hV t d hg rfl
 have HX:=aa D;have o:=aa k0;have HW:=aa hW;have y:=aa z;clear hm k hn hV t d g I s q hW D k0 m hx z;go_enter Tryz.func141,Tryz.ntmps141;go_wp2_with (rw [← HW.out]);refine hI.mono ?_;rintro e w1 ⟨⟨x,rfl,hx⟩,rfl⟩;obtain ⟨K,rfl,hK,c⟩:=l.out x hx;have hS:=C.out K c;have hB:Hid ((w1.alloc (.cells #[.slice (some ⟨b,off,none⟩) n cap,.int .u64 (K:Int),.slice none 0 0] 130)).heap[w1.heap.size]? = some (.cells #[.slice (some ⟨b,off,none⟩) n cap,.int .u64 (K:Int),.slice none 0 0] 130 (0,0))):=heap_alloc_new _ _;clear hI hx l C;go_wp2_with fail;refine hS.mono ?_;rintro e w2 ⟨v2,rfl,p,f2,k2⟩;obtain ⟨zo,zn,zc,rfl,_,_,_,_,_⟩:=p.open
 have kA:=(ai af w1).alloc (.cells #[.slice (some ⟨b,off,none⟩) n cap,.int .u64 (K:Int),.slice none 0 0] 130);have j:=(k2.block _ (lt_of_block hB.out) (fun f=>f)).trans hB.out;have E:=((kA.trans k2).block _ (lt_of_block HX.out) (fun f=>f)).trans HX.out;have HF:=aa f2;clear f2;have L:w.heap.size≠w1.heap.size:=by have:=y.out;omega
 have N:w1.heap.size≠w.heap.size:=by omega
 obtain ⟨c0,c1,c2⟩:=ax j;obtain ⟨f0,f1,f2⟩:=jZ j;have r:=(xk j (.slice zo zn zc) (.slice zo zn zc) (.slice zo zn zc)).2.2;obtain ⟨d0,d1,d2⟩:=ax r;have i:=dj E (a:=⟨w1.heap.size,2,none⟩) L (.slice zo zn zc);obtain ⟨r0,r1,r2⟩:=ax i;obtain ⟨s0,s1,s2⟩:=jZ i;have F:=xq i (.slice (some ⟨b,off,none⟩) n cap) (.int .u64 (K:Int)) (.slice zo zn zc);obtain ⟨t0,t1,t2⟩:=ax F
 have kk:=(((o.out.trans (kA.trans k2)).next ((ai (fun b=>b=w1.heap.size) w2).setCell ⟨w1.heap.size,2,none⟩ (fun _=>rfl) (.slice zo zn zc)) (fun x hx e=>by have:=o.out.size;omega))).next (nI (w2.setCell ⟨w1.heap.size,2,none⟩ (.slice zo zn zc)) w.heap.size (.slice (some ⟨b,off,none⟩) n cap) (.int .u64 (K:Int)) (.slice zo zn zc)) (fun x hx e=>by omega)
 have l:=aa kk;have B:Row .u64 (w2.setCell ⟨w1.heap.size,2,none⟩ (.slice zo zn zc)) (.slice zo zn zc) (digs (18446744073709551616^(2*n)%V) n):=p.kept ((ai (fun b=>b=w1.heap.size) w2).setCell ⟨w1.heap.size,2,none⟩ (fun _=>rfl) (.slice zo zn zc)) (fun b' hb e=>by
  have h1:=HF.out b' hb;have h0:=((ai af w1).alloc (.cells #[.slice (some ⟨b,off,none⟩) n cap,.int .u64 (K:Int),.slice none 0 0] 130)).size;have h9:=lt_of_block hB.out;omega)
 have M:=aa (B.kept (nI (w2.setCell ⟨w1.heap.size,2,none⟩ (.slice zo zn zc)) w.heap.size (.slice (some ⟨b,off,none⟩) n cap) (.int .u64 (K:Int)) (.slice zo zn zc)) (fun b' hb e=>by
  have h1:=HF.out b' hb;have h2:=y.out;have h0:=((ai af w1).alloc (.cells #[.slice (some ⟨b,off,none⟩) n cap,.int .u64 (K:Int),.slice none 0 0] 130)).size;have h9:=lt_of_block hB.out;omega))
 clear B;have O:=aa (kA.trans k2);clear hS kA j E r i F kk hB p k2;go_wp2_with fail;refine bodyPost_ret (v:=.agg #[.slice (some ⟨b,off,none⟩) n cap,.int .u64 (K:Int),.slice zo zn zc]) (by simp [results,Tryz.results141,go_sem,t0,t1,t2]) rfl ⟨K,_,rfl,hK,c,?_,?_,l.out⟩
 ·exact M.out
 ·exact HF.out.after (o.out.alloc _)

def pY (W:World) (V:Nat) (a b:Value) (K:Nat):Prop:=Row .u64 W a (eP V)∧Row .u64 W b (eI V)∧lW V K

theorem ue (V:Nat):rfn (aj V) V=dD V:=rfl

theorem yh (ao:Option Addr) (L cap bM bO V E:Nat) (xs:List Nat) (w:World) (hx:Row .u64 w (.slice ao L cap) xs) (hd:Digs xs) (hL:L≤1000000) (hV:V=val xs) (hE:E=dD V)
  (hM:Box w bM (.slice ao L cap) 32) (hO:w.heap[bO]? = some (.cells #[.slice none 0 0,.int .u64 0,.slice none 0 0] 130 (0,0))) :
  Calls Tryz.prog 138 #[.pointer (some ⟨bM,0,none⟩),.pointer (some ⟨bO,0,none⟩)] w fun e w'=>
   (E=0∧e=.returned (.tuple #[])∧∃ (a b:Value) (K:Nat) (w1:World),pY w1 V a b K∧Fresh w a∧Fresh w b∧Kept af w w1∧w'=((w1.setCell ⟨bO,0,none⟩ a).setCell ⟨bO,1,none⟩ (.int .u64 (K:Int))).setCell ⟨bO,2,none⟩ b) ∨
   (E≠0∧e=.panicked [refusal (E:Nat)]∧Kept af w w'):=by
 obtain ⟨_,_,_,e1,p,Y,_,g,_⟩:=hx.open;cases e1
 obtain ⟨R,hR⟩:∃ R,R=aj V:=⟨_,rfl⟩
 have D:V<18446744073709551616^L:=by rw [hV,← p.out];exact aq (by omega) hd
 have T:R≤L:=by rw [hR];exact (am V L).2 D
 have q:V<18446744073709551616^R:=(am V R).1 (by omega);have hcut:=hx.cut (m:=R) (by rw [p.out];exact T);have r:=hd.take R;have y:val (xs.take R)=V:=by rw [eW (by omega) hd,← hV,al q]
 have F:(xs.take R).length=R:=by rw [List.length_take,p.out];omega
 have B:=fun W=>tJ (.slice ao L cap) xs R (by rw [hR,hV]) W
 have H:Hid (∀ W,Kept af w W→Calls Tryz.prog 139 #[.slice ao L cap] W fun e w'=>e=.returned (.int .i64 (R:Int))∧w'=W):=fun W k=>B W (hx.grew k) hd (by rw [p.out];omega)
 have N:Hid (∀ W,Kept af w W→Calls Tryz.prog 140 #[.slice ao R cap] W fun e w'=>((E=0∧e=.returned (.tuple #[]))∨(E≠0∧e=.panicked [refusal (E:Nat)]))∧w'=W):=fun W k=>by
  have:=iq ao R cap (xs.take R) W (hcut.grew k) r (by omega);rw [y,hR,ue,← hE,← hR] at this;exact this
 have U:=hM.cell;have gR:(R:Int)≤(cap:Int):=by omega
 have X:R≤cap:=by omega
 have HX:=aa hcut;have M:=aa r;have G:=aa y;have O:=aa F;have HO:=aa hO;have HR:=aa hR;have HE:=aa hE;have C:=aa q;clear hx hd hV hE D q hcut r y F B hO hM hR;go_enter Tryz.func138,Tryz.ntmps138;go_wp2_with fail;go_region_held3 (fun w'=>w'.cell? ⟨bM,0,none⟩=some (.slice ao L cap))
  (((try dsimp only);first | (go_keep;done) | assumption))
  (first
  | (go_at_call 139;refine (H.out _ ?_).mono ?_;(exact (ai _ _).drew);rintro e w2 ⟨rfl,rfl⟩))
 go_wp2_with fail;have kd:Kept af w w.drew:=(ai _ _).drew;refine (N.out _ kd).mono ?_;rintro e w2 ⟨⟨h0,rfl⟩ | ⟨h0,rfl⟩,rfl⟩
 ·have x:=eF (V:=V) (by rw [← HE.out];exact h0);have l:0<R:=by
   rcases Nat.eq_zero_or_pos R with h1 | h1
   ·have h2:=C.out;rw [h1,Nat.pow_zero] at h2;omega
   ·exact h1
  obtain ⟨_,_,_,e1,_,_,_,_,i⟩:=HX.out.open;cases e1
  obtain ⟨b1,t,e1,_⟩:=i 0 l;cases e1
  have hC:=Ac b1 t R cap (xs.take R) w.drew (HX.out.grew kd) (by omega);clear H N g i U;go_wp2_with fail;refine hC.mono ?_;rintro e w3 ⟨v3,rfl,o,f3,k3⟩;obtain ⟨zo,zn,zc,rfl,z,_,_,_,c⟩:=o.open;obtain rfl:zn=R:=z.out.symm.trans O.out;obtain ⟨b3,j,e3,_⟩:=c 0 l;cases e3
  have hP:=Cc b3 j zn zc V (xs.take zn) w3 o M.out l (by have:=HR.out;omega) G.out.symm (kX HR.out.symm l x.2.1 x.2.2) x.2.2;have J:=aa o;have I:=aa f3;have A:=aa k3;clear hC o f3 k3 c z;go_wp2_with fail;refine hP.mono ?_;rintro e w4 ⟨K,v4,rfl,hK,d,n,f4,k4⟩;obtain ⟨yo,yn,yc,rfl,_,_,_,_,_⟩:=n.open;have kk:=(kd.trans A.out).trans k4;have s:=(kk.block _ (lt_of_block HO.out) (fun f=>f)).trans HO.out;obtain ⟨c0,c1,c2⟩:=ax s;obtain ⟨f0,f1,f2⟩:=jZ s;have HS:Hid (pY w4 V (.slice (some ⟨b3,j,none⟩) zn zc) (.slice yo yn yc) K):=by
   have v:dD V=0:=by rw [← HE.out];exact h0
   refine ⟨?_,?_,hK,fun _=>d,fun h=>absurd v h⟩
   ·unfold eP;rw [if_pos v,← HR.out,← aW (by omega) M.out O.out (by rw [G.out,al C.out])];exact J.out.grew k4
   ·unfold eI;rw [if_pos v,← HR.out];rw [B64,show 64*(2*zn)=128*zn by omega] at n;exact n
  have S:=aa (I.out.after kd);have Q:=aa (f4.after (kd.trans A.out));have P:=aa kk;clear hP s n f4 k4 kk kd J I;go_wp2_with fail;go_end0
  exact .inl ⟨h0,rfl,_,_,K,w4,HS.out,S.out,Q.out,P.out,rfl⟩
 ·exact ⟨rfl,.inr ⟨h0,rfl,kd⟩⟩

theorem qp (ao:Option Addr) (L cap:Nat) (xs:List Nat) (V E:Nat) (hV:V=val xs) (hE:E=dD V) (w:World) (hx:Row .u64 w (.slice ao L cap) xs) (hd:Digs xs) (hL:L≤1000000) :
  Calls Tryz.prog 101 #[.slice ao L cap] w fun e w'=>∃ a K b,e=.returned (.tuple #[.agg (fl a K b),.int .i64 (E:Nat)])∧Row .u64 w' a (eP V)∧Row .u64 w' b (eI V)∧lW V K∧(Fresh w a∧Fresh w b)∧Kept af w w':=by
 have J:=eR;have he:∀ args w,(callFunc 138 args).run Tryz.prog w=.ok (.enter 138 args) w:=fun _ _=>by simp [go_sem]
 obtain ⟨W,hW⟩:∃ W,W=(w.alloc (.cells #[.slice ao L cap] 32)).alloc (.cells #[.slice none 0 0,.int .u64 0,.slice none 0 0] 130):=⟨_,rfl⟩
 have k0:Kept af w W:=by rw [hW];exact ((ai af w).alloc _).alloc _
 have D:W.heap.size=w.heap.size+1+1:=by rw [hW];simp
 have B:Box W w.heap.size (.slice ao L cap) 32:=by rw [hW];exact (Box.new w _ _).alloc _
 have g:W.heap[w.heap.size+1]? = some (.cells #[.slice none 0 0,.int .u64 0,.slice none 0 0] 130 (0,0)):=by
  rw [hW];have:=heap_alloc_new (w.alloc (.cells #[.slice ao L cap] 32)) (.cells #[.slice none 0 0,.int .u64 0,.slice none 0 0] 130)
  rwa [show (w.alloc (.cells #[.slice ao L cap] 32)).heap.size=w.heap.size+1 by simp] at this
 have k1:=k0.alloc (.cells #[.int .i64 0] 33);have xe:=Box.new W (.int .i64 0) 33;have s:(W.alloc (.cells #[.int .i64 0] 33)).heap.size=W.heap.size+1:=by simp
 have h1:=yh ao L cap w.heap.size (w.heap.size+1) V E xs _ (hx.grew k1) hd hL hV hE (B.alloc _) (ap g);have z:=kh 138 #[.pointer (some ⟨w.heap.size,0,none⟩),.pointer (some ⟨w.heap.size+1,0,none⟩)] W
  (fun c W'=>c=(E:Nat)∧Kept af w W'∧∃ (a b:Value) (K:Nat),pY W' V a b K∧Fresh W a∧Fresh W b∧(∀ x,a.ownBlock=some x→x≠W.heap.size)∧(∀ x,b.ownBlock=some x→x≠W.heap.size)∧W'.heap[w.heap.size+1]? = some (.cells #[a,.int .u64 (K:Int),b] 130 (0,0))) he (h1.mono (by
  rintro e w' (⟨h2,rfl,a,b,K,w1,hS,fa,fb,kk,rfl⟩ | ⟨h2,rfl,kk⟩)
  ·have r:=(kk.block _ (lt_of_block (ap g)) (fun f=>f)).trans (ap (o:=.cells #[.int .i64 0] 33) g);have q:=(kk.block _ xe.lt (fun f=>f)).trans xe;have k3:=nI w1 (w.heap.size+1) a (.int .u64 (K:Int)) b;have y:∀ x,a.ownBlock=some x→W.heap.size+1≤x:=fun x hx=>by have:=fa x hx;omega
   have t:∀ x,b.ownBlock=some x→W.heap.size+1≤x:=fun x hx=>by have:=fb x hx;omega
   refine ⟨(k3.block _ (lt_of_block q) (by omega)).trans q,.inl ⟨rfl,by rw [h2];rfl,(k1.trans kk).next k3 (fun x hx e=>by omega),a,b,K,⟨hS.1.kept k3 (fun x hx e=>by have:=y x hx;omega),hS.2.1.kept k3 (fun x hx e=>by have:=t x hx;omega),hS.2.2⟩,fun x hx=>by have:=y x hx;omega,fun x hx=>by have:=t x hx;omega,fun x hx=>by have:=y x hx;omega,fun x hx=>by have:=t x hx;omega,xq r _ _ _⟩⟩
  ·have r:=(kk.block _ (lt_of_block (ap g)) (fun f=>f)).trans (ap (o:=.cells #[.int .i64 0] 33) g);have q:=(kk.block _ xe.lt (fun f=>f)).trans xe;have hb:=ya (V:=V) (by rw [← hE];exact h2);exact ⟨q,.inr ⟨_,rfl,rfl,k1.trans kk,.slice none 0 0,.slice none 0 0,0,⟨by rw [hb.1];exact Row.nil _ _,by rw [hb.2.1];exact Row.nil _ _,hb.2.2⟩,(fun x hx=>by cases hx),(fun x hx=>by cases hx),(fun x hx=>by cases hx),(fun x hx=>by cases hx),r⟩⟩))
 have HW:=aa hW;have d:=aa D;clear h1 hx hd hL hV hE hW k0 k1 B g xe he D s;go_enter Tryz.func101,Tryz.ntmps101;go_wp2_with (rw [← HW.out]);refine z.mono ?_;rintro e w' ⟨c,w1,rfl,⟨⟨rfl,k2,a,b,K,hS,fa,fb,na,nb,A⟩,F⟩,rfl⟩;obtain ⟨i,m,k,rfl,_,_,_,_,_⟩:=hS.1.open;obtain ⟨h,l,j,rfl,_,_,_,_,_⟩:=hS.2.1.open;have k3:=ar w1 W.heap.size (.int .i64 (E:Nat));have I:w.heap.size+1≠W.heap.size:=by have:=d.out;omega
 have n:=dj A (a:=⟨W.heap.size,0,none⟩) I (.int .i64 (E:Nat));have p:pY (w1.setCell ⟨W.heap.size,0,none⟩ (.int .i64 (E:Nat))) V (.slice i m k) (.slice h l j) K:=⟨hS.1.kept k3 na,hS.2.1.kept k3 nb,hS.2.2⟩
 have k4:=k2.next k3 (fun x hx e=>by have:=d.out;omega)
 generalize w1.setCell ⟨W.heap.size,0,none⟩ (.int .i64 (E:Nat))=w2 at *;obtain ⟨c0,c1,c2⟩:=ax n;obtain ⟨f0,f1,f2⟩:=jZ n;have C:=xq n (.slice i m k) (.int .u64 (K:Int)) (.slice h l j);obtain ⟨d0,d1,d2⟩:=ax C;have k5:=nI w2 (w.heap.size+1) (.slice i m k) (.int .u64 (K:Int)) (.slice h l j);have HA:=aa (p.1.kept k5 (fun x hx e=>by have:=fa x hx;have:=d.out;omega));have HB:=aa (p.2.1.kept k5 (fun x hx e=>by have:=fb x hx;have:=d.out;omega));have HK:=aa p.2.2;have H:Hid (Fresh w (.slice i m k)∧Fresh w (.slice h l j)):=⟨fun x hx=>by have:=fa x hx;have:=d.out;omega,fun x hx=>by have:=fb x hx;have:=d.out;omega⟩
 have G:=aa (k4.next k5 (fun x hx e=>by omega));clear z hS p A n C k2 k3 k4 k5 F fa fb na nb;go_wp2_with fail;exact bodyPost_ret (v:=.tuple #[.agg (fl (.slice i m k) K (.slice h l j)),.int .i64 (E:Nat)]) (by simp [results,Tryz.results101,go_sem,d0,d1,d2,fl]) rfl ⟨_,K,_,rfl,HA.out,HB.out,HK.out,H.out,G.out⟩

theorem sZ (ao:Option Addr) (L cap:Nat) (xs:List Nat) (V E:Nat) (hV:V=val xs) (hE:E=dD V) (w:World) (hx:Row .u64 w (.slice ao L cap) xs) (hd:Digs xs) (hL:L≤1000000) :
  Calls Tryz.prog 101 #[.slice ao L cap] w fun e w'=>∃ a K b,e=.returned (.tuple #[.agg (fl a K b),.int .i64 (E:Nat)])∧Row .u64 w' a (eP V)∧Row .u64 w' b (eI V)∧lW V K∧Kept af w w':=by
 refine (qp ao L cap xs V E hV hE w hx hd hL).mono ?_;rintro e w' ⟨a,K,b,rfl,h1,h2,h3,_,h4⟩;exact ⟨a,K,b,rfl,h1,h2,h3,h4⟩

end Go.Proofs.YtcemlfokmjjiaaaGreatDoor
