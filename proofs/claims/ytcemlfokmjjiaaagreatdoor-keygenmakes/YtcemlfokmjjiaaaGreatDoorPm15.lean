/- Put together of: Lim1 Pro1 Pro0. -/
import Derived.Test.YtcemlfokmjjiaaaGreatDoorPm3
import Derived.Test.YtcemlfokmjjiaaaGreatDoorPm14
import Derived.Deep.RegionWith
import Derived.Defers
import Derived.Recover

namespace Go.Proofs.YtcemlfokmjjiaaaGreatDoor
set_option maxRecDepth 100000
set_option maxHeartbeats 4000000
open Go.RowKit

def ke (L:Nat→Nat):Nat→Nat
 | 0=>0
 | n+1=>max (ke L n) (L n)

def Slots (w:World) (ao:Option Addr) (n:Nat) (A:Nat→Option Addr) (L C:Nat→Nat):Prop:=
 ∀ i,i<n→∃ b off,ao=some ⟨b,off,none⟩∧w.cell? ⟨b,off+i,none⟩=some (.slice (A i) (L i) (C i))

theorem yi (ao:Option Addr) (n cap:Nat) (A:Nat→Option Addr) (L C:Nat→Nat) (w:World) (hn:n≤1000000000) (hc:Slots w ao n A L C) :
  Calls Tryz.prog 163 #[.slice ao n cap] w fun e w'=>e=.returned (.tuple #[.int .i64 (ke L n:Nat),.func (.func 207) #[] #[.pointer (some ⟨w.heap.size,0,none⟩)]])∧w'=w.alloc (.cells #[.int .i64 (ke L n:Nat)] 3):=by
 have o:=fd;have HC:Hid (Slots w ao n A L C):=hc;clear hc;go_enter Tryz.func163,Tryz.ntmps163;go_wp2_with fail;go_loopw [9] (fun i wr=>∃ (k m:Nat),k≤n∧i=.int .i64 (k:Int)∧wr=w.alloc (.cells #[.int .i64 (m:Int)] 3)∧Hid (m=ke L k)) (fun i _=>((n:Int)-intOf i).toNat)
 case atStart=>exact ⟨0,0,Nat.zero_le _,rfl,rfl,rfl⟩
 case round=>
  obtain ⟨k,m,hk,rfl,rfl,hm⟩:=hrel;by_cases hkn:k<n
  ·have l:(k:Int)<(n:Int):=by omega
   obtain ⟨b,off,rfl,a⟩:=HC.out k hkn;obtain ⟨ao,j⟩:∃ ao,ao=A k:=⟨_,rfl⟩
   obtain ⟨d,c⟩:∃ d,d=L k:=⟨_,rfl⟩
   obtain ⟨cp,f⟩:∃ cap,cap=C k:=⟨_,rfl⟩
   rw [← j,← c,← f] at a;have h:Hid (d=L k):=c;have g:=((ah af w).alloc (.cells #[.int .i64 (m:Int)] 3)).cellN a;clear j c f HC;go_wp2_with fail;go_roundw
   case rel=>exact ⟨k+1,max m d,by omega,by go_num,by rw [show ((max m d:Nat):Int)=max (m:Int) (d:Int) by omega],by unfold Hid;rw [ke,← hm.out,← h.out]⟩
   case measure=>simp [intOf];omega
  ·have l:¬ (k:Int)<(n:Int):=by omega
   have e:k=n:=by omega
   subst e;go_wp2_with fail;go_ret2;rw [hm.out];exact ⟨rfl,rfl⟩

theorem Row.source {k:IntKind} {w:World} {ao:Option Addr} {L cap:Nat} {xs:List Nat} (h:Row k w (.slice ao L cap) xs) {W:World} (hk:Kept af w W) (hp:0<(xs.map fun z:Nat=>Value.int k (z:Int)).length) :
  ∃ ad,ao=some ad∧∀ j u,(xs.map fun z:Nat=>Value.int k (z:Int))[j]? = some u→W.cell? (ad.add j)=some u:=by
 obtain ⟨d,n,a,e,hL,_,_,_,g4⟩:=h.open;simp only [Value.slice.injEq] at e;obtain ⟨rfl,rfl,rfl⟩:=e;rw [List.length_map] at hp;have hl:=hL.out;obtain ⟨b,off,rfl,_⟩:=g4 0 (by omega);refine ⟨_,rfl,fun j u hu=>?_⟩;have hj:j<xs.length:=by
  have:=(List.getElem?_eq_some_iff.1 hu).1;simpa using this
 obtain ⟨b',c,e,hc⟩:=(g4 j (by omega)).grew hk;simp only [Option.some.injEq,Addr.mk.injEq] at e;obtain ⟨rfl,rfl,_⟩:=e;rw [List.getElem?_map,List.getElem?_eq_getElem hj] at hu;rw [show (⟨b,off,none⟩:Addr).add j=⟨b,off+j,none⟩ by simp [Addr.add],hc,← hu,List.getD_eq_getElem?_getD,List.getElem?_eq_getElem hj];rfl

theorem ib (k:IntKind) (xs:List Nat):∀ u ∈ xs.map (fun z:Nat=>Value.int k (z:Int)),u.oneCell'=true:=by
 intro u hu;obtain ⟨z,_,rfl⟩:=List.mem_map.1 hu;rfl

theorem Cz (o:Tr) (v:Value) (xs:List Nat) (n g:Nat) (w:World) (ht:TrIn w o) (h:RowT w o v xs) (hd:Digs xs) (hl:xs.length≤n) (hn:n≤1000000000) (hg:w.heap[g]? = some (.cells #[.int .i64 (n:Nat)] 3 (0,0))) :
  Calls Tryz.prog 207 #[v,.pointer (some ⟨g,0,none⟩)] w fun e w'=>∃ v',e=.returned v'∧RowT w' o v' (ai (val xs) n)∧Kept af w w'∧(v'=v∨∀ b,v'.ownBlock=some b→w.heap.size≤b):=by
 obtain ⟨i0,l,x,i,r⟩:=info_parts Tryz.info23;have hb:w.cell? ⟨g,0,none⟩=some (.int .i64 (n:Nat)):=(cell_of_row w g 0 _ _ _ hg).trans rfl;rw [eI hd rfl hl];obtain ⟨ao,q,cap,rfl,hL,_,_,_,_⟩:=h.1.open;by_cases he:q=n
 ·have t:(q:Int)=(n:Int):=by omega
  rw [show n-xs.length=0 by rw [hL.out];omega,List.replicate_zero,List.append_nil];have H:Hid (RowT w o (.slice ao q cap) xs):=h;clear h hg hd;go_enter Tryz.func207,Tryz.ntmps207;go_wp2;go_ret;exact ⟨_,rfl,H.out,ah _ _,.inl rfl⟩
 ·have t:¬ (q:Int)=(n:Int):=by omega
  have HS:Hid (∀ W,Kept af w W→0<(xs.map fun z:Nat=>Value.int .u64 (z:Int)).length→∃ ad,ao=some ad∧∀ j u,(xs.map fun z:Nat=>Value.int .u64 (z:Int))[j]? = some u→W.cell? (ad.add j)=some u):=fun W hk hp=>h.1.source hk hp
  have HO:=aa (ib .u64 xs);have c:Hid ((xs.map fun z:Nat=>Value.int .u64 (z:Int)).length=q):=by unfold Hid;rw [List.length_map];exact hL.out
  obtain ⟨CS,f⟩:∃ CS,CS=xs.map (fun z:Nat=>Value.int .u64 (z:Int)):=⟨_,rfl⟩
  rw [← f] at HS HO c;have s:Hid (CS=xs.map (fun z:Nat=>Value.int .u64 (z:Int))):=f;have hq:q≤n:=by rw [← hL.out];exact hl
  have HT:Hid (TrIn w o):=ht;clear f h hg hd ht hl;go_enter Tryz.func207,Tryz.ntmps207;go_wp2_with (at_make;refine wpList_make_full _ rfl _ _ 32 rfl w.heap.size 23 i0 _ 1 Tryz.underlying32 l x i _ _ _ _ n rfl rfl rfl rfl (by rw [r];omega) (by unfold maxLen;omega) (leR _) ?_;intro w1 d m;rw [aJ] at d;have k1:=aE m;obtain ⟨w2,p,k,k2⟩:=dr (P:=Tryz.prog) 32 32 3 23 w.heap.size 0 n n (some ⟨w.heap.size,0,none⟩) ao q cap _ 23 CS Tryz.underlying32 (by rw [l];simp [i]) (eF d) (by rw [c.out];exact (Nat.min_eq_left hq).symm) (fun hp=>⟨rfl,HS.out _ k1 hp⟩) (by have:=c.out;simp;omega) HO.out;have y:Hid _:=k;clear k d m);go_ret
  have a:=y.out;rw [s.out,er] at a;have kk:=cZ k1 k2 (leR _);exact ⟨_,rfl,fZ (base:=w.heap.size) (cL a (by simp [hL.out];omega) (by unfold maxLen;omega) (leR _)) (by simp [hL.out];omega) (HT.out.grew kk),kk,.inr (fun b hb=>by simp [Value.ownBlock] at hb;omega)⟩

theorem kD (o:Tr) (v:Value) (xs:List Nat) (n g:Nat) (w:World) (ht:TrIn w o) (h:RowT w o v xs) (hd:Digs xs) (hl:xs.length≤n) (hn:n≤1000000000) (hg:w.heap[g]? = some (.cells #[.int .i64 (n:Nat)] 3 (0,0))) :
  Calls Tryz.prog 207 #[v,.pointer (some ⟨g,0,none⟩)] w fun e w'=>∃ v',e=.returned v'∧RowT w' o v' (ai (val xs) n)∧Kept af w w':=by
 refine (Cz o v xs n g w ht h hd hl hn hg).mono ?_;rintro e w' ⟨v',rfl,hr,hk,_⟩;exact ⟨v',rfl,hr,hk⟩

def bC (b:Bool):Nat:=if b=true then 1 else 0

def dg (A B n:Nat):Nat:=if A<B then A+2^(64*n)-B else A-B

def aO (bit A B:Nat):Nat:=if bit%2=1 then A else B

theorem iQ (ao bo:Option Addr) (L M cap a:Nat) (w:World) :
  Calls Tryz.prog 163 #[.slice (some ⟨w.heap.size,0,none⟩) 2 2] (w.alloc (.cells #[.slice ao L cap,.slice bo M a] 32)) fun e w'=>∃ g,e=.returned (.tuple #[.int .i64 (max L M:Nat),.func (.func 207) #[] #[.pointer (some ⟨g,0,none⟩)]])∧w'.heap[g]? = some (.cells #[.int .i64 (max L M:Nat)] 3 (0,0))∧w.heap.size≤g∧Kept af w w':=by
 have hn:=BR w (.slice ao L cap) (.slice bo M a) 32;refine (yi (some ⟨w.heap.size,0,none⟩) 2 2 (fun i=>if i=0 then ao else bo) (fun i=>if i=0 then L else M) (fun i=>if i=0 then cap else a) _ (by omega) ?_).mono ?_
 ·intro i hi;refine ⟨_,_,rfl,?_⟩;rw [Nat.zero_add,World.ownsRow.cellAt hn i (by omega)];have:i=0∨i=1:=by omega
  rcases this with rfl | rfl <;> rfl
 ·rintro e w' ⟨rfl,rfl⟩;have hm:ke (fun i=>if i=0 then L else M) 2=max L M:=by simp [ke]
  rw [hm];exact ⟨_,rfl,heap_alloc_new _ _,by simp,((ah af w).alloc _).alloc _⟩

theorem ve (x y c:Nat) (hx:x<18446744073709551616) (hy:y<18446744073709551616) (hc:c≤1) (w:World) :
  Calls Tryz.prog 251 #[.int .u64 (x:Nat),.int .u64 (y:Nat),.int .u64 (c:Nat)] w fun e w'=>∃ z c':Nat,e=.returned (.tuple #[.int .u64 (z:Nat),.int .u64 (c':Nat)])∧z<18446744073709551616∧c'≤1∧z+18446744073709551616*c'=x+y+c∧w'=w:=by
 refine (CQ (x:Int) (y:Int) (c:Int) (by omega) (by omega) (by omega) (by omega) w).mono ?_;rintro e w' ⟨rfl,rfl⟩;refine ⟨(x+y+c)%18446744073709551616,(x+y+c)/18446744073709551616,ij ?_ ?_,Nat.mod_lt _ (by omega),by omega,by omega,rfl⟩ <;> omega

theorem pY (x y c:Nat) (hx:x<18446744073709551616) (hy:y<18446744073709551616) (hc:c≤1) (w:World) :
  Calls Tryz.prog 165 #[.int .u64 (x:Nat),.int .u64 (y:Nat),.int .u64 (c:Nat)] w fun e w'=>∃ z c':Nat,e=.returned (.tuple #[.int .u64 (z:Nat),.int .u64 (c':Nat)])∧z<18446744073709551616∧c'≤1∧z+y+c=x+18446744073709551616*c'∧w'=w:=by
 refine (C6 (x:Int) (y:Int) (c:Int) (by omega) (by omega) (by omega) (by omega) (by omega) w).mono ?_;rintro e w' ⟨rfl,rfl⟩;unfold bor;by_cases h:(x:Int)<(y:Int)+(c:Int)%2
 ·rw [if_pos h];refine ⟨x+18446744073709551616-(y+c),1,ij ?_ ?_,by omega,by omega,by omega,rfl⟩ <;> omega
 ·rw [if_neg h];refine ⟨x-(y+c),0,ij ?_ ?_,by omega,by omega,by omega,rfl⟩ <;> omega

theorem qu (y a:Nat) (hy:y<18446744073709551616):bits .and .u64 (y:Int) (msk (a:Int))=((y*(a%2):Nat):Int):=by
 unfold msk;have:a%2=0∨a%2=1:=by omega
 rcases this with h | h
 ·rw [show (a:Int)%2=0 by omega,h];have e:=u64_and_nat y 0 (by omega) (by omega);rw [Nat.and_zero] at e;exact e
 ·rw [show (a:Int)%2=1 by omega,h];have e:=u64_and_nat y 18446744073709551615 (by omega) (by omega);rw [show (18446744073709551615:Nat)=2^64-1 from rfl,Nat.and_two_pow_sub_one_of_lt_two_pow (by omega)] at e;rw [Nat.mul_one];exact e

theorem cJ (B X k:Nat):X%B^(k+1)=X%B^k+B^k*dig X k B:=by rw [dig,Nat.pow_succ,Nat.mod_mul]

theorem pM (B Y a k:Nat):dig (Y*(a%2)) k B=dig Y k B*(a%2):=by
 have:a%2=0∨a%2=1:=by omega
 rcases this with h | h <;> rw [h] <;> simp [dig]

theorem qX {B X Y k c z c':Nat} {os:List Nat} (hl:os.length=k) (h:val os B+B^k*c=X%B^k+Y%B^k) (hz:z+B*c'=dig X k B+dig Y k B+c) :
  val (os ++ [z]) B+B^(k+1)*c'=X%B^(k+1)+Y%B^(k+1):=by
 rw [aS,hl,cJ,cJ,Nat.pow_succ,Nat.mul_assoc];have e:B^k*(z+B*c')=B^k*(dig X k B+dig Y k B+c):=by rw [hz]
 rw [Nat.mul_add,Nat.mul_add,Nat.mul_add] at e;omega

theorem rM {B X Y k c z c':Nat} {os:List Nat} (hl:os.length=k) (h:val os B+Y%B^k=X%B^k+B^k*c) (hz:z+dig Y k B+c=dig X k B+B*c') :
  val (os ++ [z]) B+Y%B^(k+1)=X%B^(k+1)+B^(k+1)*c':=by
 rw [aS,hl,cJ,cJ,Nat.pow_succ,Nat.mul_assoc];have e:B^k*(z+dig Y k B+c)=B^k*(dig X k B+B*c'):=by rw [hz]
 rw [Nat.mul_add,Nat.mul_add,Nat.mul_add] at e;omega

theorem fT (os:List Nat) (n k z:Nat) (hl:os.length=k) (h:k<n):(os ++ List.replicate (n-k) 0).set k z=(os ++ [z]) ++ List.replicate (n-(k+1)) 0:=by
 rw [List.set_append_right _ _ (by omega),hl,Nat.sub_self,show n-k=(n-(k+1))+1 by omega,List.replicate_succ];simp

theorem B64 (n:Nat):(18446744073709551616:Nat)^n=2^(64*n):=by rw [Nat.pow_mul]

theorem eG {w:World} {base g n k:Nat} {t:TypeId} {os:List Nat} (h:OwnN .u64 t w base (.slice (some ⟨g,0,none⟩) n n) n (os ++ List.replicate (n-k) 0)) (hl:os.length=k) (hk:k<n):w.cell? ⟨g,k,none⟩=some (.int .u64 0):=by
 rw [World.ownsRow.cellAt h k (by omega),List.getElem?_map,List.getElem?_append_right (by omega),hl,Nat.sub_self,List.getElem?_replicate,if_pos (by omega)];rfl

theorem Slots.grew {w w':World} {ao:Option Addr} {n:Nat} {A:Nat→Option Addr} {L C:Nat→Nat} (h:Slots w ao n A L C) (k:Kept af w w'):Slots w' ao n A L C:=by
 intro i hi;obtain ⟨b,off,rfl,hc⟩:=h i hi;exact ⟨b,off,rfl,k.cellN hc⟩

theorem qm (a b c d:Nat) (ha:a<18446744073709551616) (hb:b<18446744073709551616) (hc:c<18446744073709551616) (hd:d<18446744073709551616) (w:World) :
  Calls Tryz.prog 178 #[.int .u64 (a:Nat),.int .u64 (b:Nat),.int .u64 (c:Nat),.int .u64 (d:Nat)] w fun e w'=>∃ h l:Nat,e=.returned (.tuple #[.int .u64 (h:Nat),.int .u64 (l:Nat)])∧h<18446744073709551616∧l<18446744073709551616∧l+18446744073709551616*h=a*b+c+d∧w'=w:=by
 refine (CZ (a:Int) (b:Int) (c:Int) (d:Int) (by omega) (by omega) (by omega) (by omega) (by omega) (by omega) (by omega) (by omega) w).mono ?_;rintro e w' ⟨rfl,rfl⟩;have hp:a*b≤18446744073709551615*18446744073709551615:=Nat.mul_le_mul (by omega) (by omega);have e1:(a:Int)*(b:Int)=((a*b:Nat):Int):=by simp
 rw [e1];generalize a*b=p at *;refine ⟨(p+c+d)/18446744073709551616,(p+c+d)%18446744073709551616,ij ?_ ?_,by omega,Nat.mod_lt _ (by omega),by omega,rfl⟩ <;> omega

theorem jo {B X Y W k c z c':Nat} {os:List Nat} (hl:os.length=k) (h:val os B+B^k*c=X%B^k+Y%B^k*W) (hz:z+B*c'=dig Y k B*W+dig X k B+c) :
  val (os ++ [z]) B+B^(k+1)*c'=X%B^(k+1)+Y%B^(k+1)*W:=by
 rw [aS,hl,cJ,cJ,Nat.pow_succ,Nat.mul_assoc,Nat.add_mul,Nat.mul_assoc];have e:B^k*(z+B*c')=B^k*(dig Y k B*W+dig X k B+c):=by rw [hz]
 rw [Nat.mul_add,Nat.mul_add,Nat.mul_add] at e;omega

theorem mx {B n S c:Nat} {os:List Nat} (hB:0<B) (hl:os.length=n) (hd:Digs os B) (h:val os B+B^n*c=S):os=ai S n B∧c=S/B^n:=by
 have hv:=ar hB hd;rw [hl] at hv;refine ⟨bd hB hd hl ?_,?_⟩
 ·rw [← h,Nat.add_mul_mod_self_left,am hv]
 ·rw [← h,Nat.add_mul_div_left _ _ (Nat.pow_pos hB),Nat.div_eq_of_lt hv,Nat.zero_add]

theorem fN (zs os:List Nat) (j k z:Nat) (hl:os.length=k) (hk:j+k<zs.length):(zs.take j ++ (os ++ zs.drop (j+k))).set (j+k) z=zs.take j ++ ((os ++ [z]) ++ zs.drop (j+(k+1))):=by
 have h1:(zs.take j).length=j:=by rw [List.length_take];omega
 rw [List.set_append_right _ _ (by omega),h1,Nat.add_sub_cancel_left,List.set_append_right _ _ (by omega),hl,Nat.sub_self,List.drop_eq_getElem_cons hk,lsZ,List.append_assoc];rfl

theorem ff {w:World} {base g N cap j k:Nat} {t:TypeId} {zs os:List Nat} (h:OwnN .u64 t w base (.slice (some ⟨g,0,none⟩) N cap) N (zs.take j ++ (os ++ zs.drop (j+k)))) (a:zs.length=N) (hl:os.length=k) (hk:j+k<N):w.cell? ⟨g,j+k,none⟩=some (.int .u64 (zs.getD (j+k) 0:Nat)):=by
 have h1:(zs.take j).length=j:=by rw [List.length_take];omega
 rw [World.ownsRow.cellAt h (j+k) (by omega),List.getElem?_map,List.getElem?_append_right (by omega),h1,Nat.add_sub_cancel_left,List.getElem?_append_right (by omega),hl,Nat.sub_self,List.getElem?_drop,Nat.add_zero,List.getD_eq_getElem?_getD,List.getElem?_eq_getElem (by omega)];rfl

theorem km {zs:List Nat} {j n k:Nat} (hd:Digs zs) (hk:k<n):dig (val ((zs.drop j).take n)) k=zs.getD (j+k) 0:=by
 rw [aR (by omega) ((hd.drop j).take n),List.getD_eq_getElem?_getD,List.getElem?_take,if_pos hk,List.getElem?_drop,← List.getD_eq_getElem?_getD]

theorem jM {zs:List Nat} {j n:Nat} (hd:Digs zs):val ((zs.drop j).take n)<18446744073709551616^n:=
 Nat.lt_of_lt_of_le (ar (by omega) ((hd.drop j).take n)) (Nat.pow_le_pow_right (by omega) (by rw [List.length_take];omega))

theorem de {w:World} {base a g N cap n:Nat} {e:TypeId} {xs:List Value} (ho:w.ownsRow base e a (.slice (some ⟨g,0,none⟩) N cap) n xs):g<w.heap.size:=by
 rcases ho.2 with ⟨h',_⟩ | ⟨g',cap',cur,h',_,hgg,_⟩
 ·simp at h'
 ·simp only [Value.slice.injEq,Option.some.injEq,Addr.mk.injEq,and_true] at h';obtain ⟨rfl,_,_⟩:=h';exact lt_of_block hgg

theorem mw (g base N cap j n c W:Nat) (zs ys:List Nat) (v:Value) (w:World) (ho:OwnN .u64 23 w base (.slice (some ⟨g,0,none⟩) N cap) N zs) (C:zs.length=N) (f:Digs zs) (hj:j+n≤N)
  (hv:Row .u64 w v ys) (p:ys.length=n) (l:Digs ys) (B:ys≠[]→∀ b,v.ownBlock=some b→b≠g) (hW:W<18446744073709551616) (R S:Nat) (hS:S=val ((zs.drop j).take n)+val ys*W) (hR:R=S/18446744073709551616^n) :
  Calls Tryz.prog 136 #[.slice (some ⟨g,j,none⟩) n c,v,.int .u64 (W:Nat)] w fun e w'=>e=.returned (.int .u64 (R:Nat)) ∧
   OwnN .u64 23 w' base (.slice (some ⟨g,0,none⟩) N cap) N (zs.take j ++ (ai S n ++ zs.drop (j+n)))∧Kept (fun b=>b=g) w w':=by
 have hX:=jM (j:=j) (n:=n) f;have hY:val ys<18446744073709551616^n:=by rw [← p];exact ar (by omega) l
 have o:Hid (∀ k,k<n→dig (val ((zs.drop j).take n)) k=zs.getD (j+k) 0):=fun k hk=>km f hk
 have t:Hid (∀ k,dig (val ys) k=ys.getD k 0):=fun k=>aR (by omega) l k
 have q:Hid (∀ k,zs.getD (j+k) 0<18446744073709551616):=fun k=>f.getD (by omega) _
 have s:Hid (∀ k,ys.getD k 0<18446744073709551616):=fun k=>l.getD (by omega) _
 have a:Hid (∀ W',Kept (fun b=>b=g) w W'→Row .u64 W' v ys):=fun W' k=>hv.kept' k B
 generalize val ((zs.drop j).take n)=X at *;generalize val ys=Y at *;have HX:=aa hX;have HY:=aa hY;have HS:=aa hS;have HR:=aa hR;have D:=aa C;have HO:=aa ho;have hlt:=de ho;obtain ⟨bo,m,bc,rfl,hM,_,_,_,_⟩:=hv.open;obtain rfl:m=n:=hM.out.symm.trans p;clear ho C hX hY hS hR p l f B hv hM;go_enter Tryz.func136,Tryz.ntmps136;go_wp2_with fail;go_loopw [7,11] (fun ab i wr=>∃ (k c':Nat) (os:List Nat),k≤m∧c'<18446744073709551616∧i=.int .i64 (k:Int)∧ab=.int .u64 (c':Int)∧Hid (os.length=k)∧Digs os∧OwnN .u64 23 wr base (.slice (some ⟨g,0,none⟩) N cap) N (zs.take j ++ (os ++ zs.drop (j+k)))∧Kept (fun b=>b=g) w wr ∧
   Hid (val os+18446744073709551616^k*c'=X%18446744073709551616^k+Y%18446744073709551616^k*W)) (fun _ i _=>m-(intOf i).toNat)
 case atStart=>exact ⟨0,0,[],Nat.zero_le _,by omega,rfl,rfl,rfl,Digs.nil _,by rw [Nat.add_zero,List.nil_append,List.take_append_drop];exact HO.out,ah _ _,by unfold Hid;simp [val,Nat.mod_one]⟩
 case round=>
  obtain ⟨k,c',os,hk,hc,rfl,rfl,HL,A,ho,r,HV⟩:=hrel;by_cases hkn:k<m
  ·have P:(0:Int)≤(k:Int):=Int.natCast_nonneg _;have L:(k:Int)<(m:Int):=by omega
   have O:=ff ho D.out HL.out (by omega);obtain ⟨_,_,_,e2,_,_,_,_,d⟩:=(a.out wr r).open;cases e2
   obtain ⟨b2,H,rfl,M⟩:=d k hkn;have hf:=World.ownsRow.frozenAt ho (j+k);have hx:=q.out k;have hy:=s.out k;have G:Hid (∀ z c2,z+18446744073709551616*c2=ys.getD k 0*W+zs.getD (j+k) 0+c'→val (os ++ [z])+18446744073709551616^(k+1)*c2=X%18446744073709551616^(k+1)+Y%18446744073709551616^(k+1)*W):=fun z c2 h=>jo HL.out HV.out (by rw [o.out k hkn,t.out k];exact h)
   have E:Hid (∀ u:Nat,OwnN .u64 23 (wr.setCell ⟨g,j+k,none⟩ (.int .u64 (u:Int))) base (.slice (some ⟨g,0,none⟩) N cap) N (zs.take j ++ ((os ++ [u]) ++ zs.drop (j+(k+1))))):=fun u=>by
    have:=(World.ownsRow.stored ho (j+k) (.int .u64 (u:Int))).1;unfold OwnN;rw [← fN zs os j k u HL.out (by have:=D.out;omega),List.map_set];exact this
   clear HV a d o t q s HO HX HY HS HR;generalize zs.getD (j+k) 0=x at *;generalize ys.getD k 0=y at *;go_wp2_with fail;go_region_with (go_at_call 178;refine (qm y W x c' hy hW hx hc _).mono ?_;rintro e w7 ⟨h2,l2,rfl,J,F,I,rfl⟩)
   all_goals
    go_wp2_with fail;go_roundw
    case rel=>exact ⟨k+1,h2,os ++ [l2],by omega,J,by go_num,rfl,by unfold Hid;rw [List.length_append,HL.out];rfl,A.append (Digs.one F),E.out l2,(r.setCell _ (fun _=>rfl) _).drew,G.out l2 h2 I⟩
    case measure=>simp [intOf];omega
  ·have L:¬ (k:Int)<(m:Int):=by omega
   obtain rfl:k=m:=by omega
   have e:=HV.out;rw [am HX.out,am HY.out,← HS.out] at e;obtain ⟨e1,e2⟩:=mx (by omega) HL.out A e;have E1:=aa e1;have E2:=aa (e2.trans HR.out.symm);clear e e1 e2 HV a o t q s HO HX HY HS HR;go_wp2_with fail;go_ret;rw [← E1.out,← E2.out];exact ⟨rfl,ho,r⟩

theorem fi {B:Nat} (hB:0<B) {zs:List Nat} (hd:Digs zs B) (k:Nat):val (zs.take k) B=val zs B%B^k:=by
 by_cases h:k≤zs.length
 ·have e:=ax B zs k h;have a:val (zs.take k) B<B^k:=by
   have:=ar hB (hd.take k)
   rwa [List.length_take,Nat.min_eq_left h] at this
  rw [e,Nat.add_mul_mod_self_left,am a]
 ·rw [List.take_of_length_le (by omega),am];exact Nat.lt_of_lt_of_le (ar hB hd) (Nat.pow_le_pow_right hB (by omega))

theorem fW {B:Nat} (hB:0<B) {zs:List Nat} (hd:Digs zs B) (k:Nat):val (zs.drop k) B=val zs B/B^k:=by
 by_cases h:k≤zs.length
 ·have e:=ax B zs k h;have a:val (zs.take k) B<B^k:=by
   have:=ar hB (hd.take k)
   rwa [List.length_take,Nat.min_eq_left h] at this
  rw [e,Nat.add_mul_div_left _ _ (Nat.pow_pos hB),Nat.div_eq_of_lt a,Nat.zero_add]
 ·rw [List.drop_of_length_le (by omega)];have h1:=ar hB hd;have h2:B^zs.length≤B^k:=Nat.pow_le_pow_right hB (by omega);rw [Nat.div_eq_of_lt (by omega)];rfl

theorem oA {B:Nat} (hB:0<B) {zs:List Nat} (hd:Digs zs B) (j n:Nat):val ((zs.drop j).take n) B=val zs B/B^j%B^n:=by
 rw [fi hB (hd.drop j),fW hB hd]

theorem nE {B:Nat} (hB:0<B) {zs os:List Nat} {j k:Nat} (hd:Digs zs B) (hl:os.length=k) (hj:j≤zs.length):val (zs.take j ++ (os ++ zs.drop (j+k))) B=val zs B%B^j+B^j*(val os B+B^k*(val zs B/B^(j+k))):=by
 have h1:(zs.take j).length=j:=by rw [List.length_take];omega
 rw [bZ,bZ,h1,hl,fi hB hd,fW hB hd]

theorem fM {B:Nat} {zs os:List Nat} {j k:Nat} (hd:Digs zs B) (ho:Digs os B):Digs (zs.take j ++ (os ++ zs.drop (j+k))) B:=(hd.take j).append (ho.append (hd.drop _))

theorem mr {zs os:List Nat} {j k N:Nat} (hl:zs.length=N) (ho:os.length=k) (hj:j+k≤N):(zs.take j ++ (os ++ zs.drop (j+k))).length=N:=by
 simp [ho,hl];omega

theorem rW {B X Y M N k S:Nat} {zs:List Nat} (hB:0<B) (hY:Y<B^M) (hk:k+M<N) (hz:zs=ai (X%B^k*Y) N B) (hS:S=val ((zs.drop k).take M) B+Y*dig X k B) :
  zs.take k ++ ((ai S M B ++ [S/B^M]) ++ zs.drop (k+(M+1)))=ai (X%B^(k+1)*Y) N B∧S/B^M<B:=by
 have c:0<B^k:=Nat.pow_pos hB;have hP:X%B^k*Y<B^(k+M):=by
  rw [Nat.pow_add];exact Nat.mul_lt_mul_of_lt_of_le (Nat.mod_lt _ c) (Nat.le_of_lt hY) (Nat.pow_pos hB)
 have h:X%B^k*Y<B^N:=Nat.lt_of_lt_of_le hP (Nat.pow_le_pow_right hB (by omega));have i:zs.length=N:=by rw [hz,ag]
 have a:Digs zs B:=by rw [hz];exact aj hB _ _
 have d:val zs B=X%B^k*Y:=by rw [hz,al,am h]
 clear hz;rw [oA hB a,d] at hS;have e2:X%B^(k+1)*Y=X%B^k*Y+B^k*(Y*dig X k B):=by
  rw [Nat.pow_succ,Nat.mod_mul,Nat.add_mul,dig,Nat.mul_assoc,Nat.mul_comm (X/B^k%B) Y]
 have g:X%B^(k+1)*Y<B^N:=by
  have h1:X%B^(k+1)*Y<B^(k+1)*B^M:=Nat.mul_lt_mul_of_lt_of_le (Nat.mod_lt _ (Nat.pow_pos hB)) (Nat.le_of_lt hY) (Nat.pow_pos hB);rw [← Nat.pow_add] at h1;exact Nat.lt_of_lt_of_le h1 (Nat.pow_le_pow_right hB (by omega))
 generalize hPP:X%B^k*Y=P at *;have f:P/B^k<B^M:=by rw [Nat.div_lt_iff_lt_mul c,Nat.mul_comm,← Nat.pow_add];exact hP
 rw [am f] at hS;have hx:dig X k B<B:=Nat.mod_lt _ hB;have b:S/B^M<B:=by
  rw [Nat.div_lt_iff_lt_mul (Nat.pow_pos hB),hS];have h1:Y*dig X k B≤B^M*dig X k B:=Nat.mul_le_mul_right _ (Nat.le_of_lt hY);have h2:B^M*(dig X k B+1)≤B^M*B:=Nat.mul_le_mul_left _ hx;rw [Nat.mul_add,Nat.mul_one] at h2;rw [Nat.mul_comm B];omega
 refine ⟨?_,b⟩;have e:(ai S M B ++ [S/B^M]).length=M+1:=by simp [ag]
 refine bd hB (fM a ((aj hB _ _).append (Digs.one b))) (mr i e (by omega)) ?_;rw [nE hB a e (by omega),aS,ag,al,d,am g,e2];have e3:P/B^(k+(M+1))=0:=by
  apply Nat.div_eq_of_lt;exact Nat.lt_of_lt_of_le hP (Nat.pow_le_pow_right hB (by omega))
 rw [e3,Nat.mul_zero,Nat.add_zero,Nat.mod_add_div,hS,Nat.mul_add,← Nat.add_assoc,Nat.mod_add_div]

theorem kT (B:Nat):∀ n,ai 0 n B=List.replicate n 0
 | 0=>rfl
 | n+1=>by rw [ai,kT B n,List.replicate_succ',dig];simp

theorem iB {w w':World} {v:Value} {xs:List Nat} {g:Nat} (h:Row .u64 w v xs) (hg:w.heap.size≤g) (_:w.heap.size≤w'.heap.size):xs≠[]→∀ b,v.ownBlock=some b→b≠g:=fun a b hb e=>by
 have:=h.lt a b hb;omega

theorem Cm (o:Tr) (u v:Value) (xs ys:List Nat) (w:World) (ht:TrRoom w o xs.length) (hu:RowT w o u xs) (hv:RowT w o v ys) (n:Digs xs) (D:Digs ys) (hL:xs.length≤100000) (hM:ys.length≤100000) :
  Calls Tryz.prog 98 #[aG o,u,v] w fun e w'=>∃ v',e=.returned v'∧v'=.slice (some ⟨w.heap.size,0,none⟩) (xs.length+ys.length) (xs.length+ys.length) ∧
   OwnN .u64 23 w' w.heap.size v' (xs.length+ys.length) (ai (val xs*val ys) (xs.length+ys.length))∧∃ o',Did w o (List.replicate xs.length (1,(ys.length:Nat),0)) w' o':=by
 obtain ⟨i0,Z,W,U,ae⟩:=info_parts Tryz.info23;obtain ⟨ao,L,cap,rfl,I,_,_,_,_⟩:=hu.1.open;obtain ⟨bo,M,al,rfl,O,_,_,_,_⟩:=hv.1.open;have eL:=I.out;have eM:=O.out;have hX:Hid (val xs<18446744073709551616^L):=by have:=ar (by omega) n;rw [eL] at this;exact this
 have hY:Hid (val ys<18446744073709551616^M):=by have:=ar (by omega) D;rw [eM] at this;exact this
 have a:Hid (∀ k,dig (val xs) k=xs.getD k 0):=fun k=>aR (by omega) n k
 have C:Hid (∀ k,xs.getD k 0<18446744073709551616):=fun k=>n.getD (by omega) _
 rw [eL] at hL ht ⊢;rw [eM] at hM ⊢;have HU:=aa hu;have HV:=aa hv;have HT:=aa ht;have HM:=aa eM;have y:=aa D;obtain ⟨Y,z⟩:∃ Y,Y=val ys:=⟨_,rfl⟩
 rw [← z] at hY ⊢;have r:=aa z;obtain ⟨tp,s⟩:∃ tp,tp=aG o:=⟨_,rfl⟩
 rw [← s];have V:=aa s;clear hu hv ht I O eL eM n D s z;generalize val xs=X at *;obtain ⟨N,hN⟩:∃ N,N=L+M:=⟨_,rfl⟩
 have G:(L:Int)+(M:Int)=(N:Int):=by omega
 rw [← hN];have ax:N≤200000:=by omega
 have HN:=aa hN;clear hN;go_enter Tryz.func98,Tryz.ntmps98;go_wp2_with (at_make;refine wpList_make_full _ rfl _ _ 32 rfl w.heap.size 23 i0 _ 1 Tryz.underlying32 Z W U _ _ _ _ N rfl rfl (by first | exact G | rfl) (by first | exact G | rfl) (by rw [ae];omega) (by unfold maxLen;omega) (leR _) ?_;intro w1 p P);rw [aJ] at p;have k1:=aE P;clear P;rw [← kT 18446744073709551616 N] at p;go_loopw [18] (fun i wr=>∃ (k:Nat) (o':Tr),k≤L∧i=.int .i64 (k:Int)∧Hid (Did w o (List.replicate k (1,(M:Int),0)) wr o')∧OwnN .u64 23 wr w.heap.size (.slice (some ⟨w.heap.size,0,none⟩) N N) N (ai (X%18446744073709551616^k*Y) N)) (fun i _=>L-(intOf i).toNat)
 case atStart=>exact ⟨0,o,Nat.zero_le _,rfl,Did.of_kept k1 (HT.out.1),by rw [Nat.pow_zero,Nat.mod_one,Nat.zero_mul];exact p⟩
 case round=>
  obtain ⟨k,o1,hk,rfl,HD,ho⟩:=hrel;clear p k1;by_cases hkn:k<L
  ·have aB:(0:Int)≤(k:Int):=Int.natCast_nonneg _;have av:(k:Int)<(L:Int):=by omega
   have c:TrRoom wr o1 (L-k):=HD.out.room (by rw [List.length_replicate,show k+(L-k)=L by omega];exact HT.out);have hS:=dX o1 (M:Int) wr c.1;rw [HD.out.ptr,← V.out] at hS;go_wp2_with fail;refine hS.mono ?_;rintro e w2 ⟨rfl,o2,d2⟩;have q:=d2.kept.own ho (fh ho c.1);have d:=aa (HD.out.trans d2);have Q:=HU.out.did d.out;have F:=HV.out.did d.out;clear hS ho d2 c HD;obtain ⟨_,_,_,e2,_,_,_,_,l⟩:=Q.1.open;cases e2
   obtain ⟨b2,an,rfl,aw⟩:=l k hkn;have ab:=C.out k;obtain ⟨zs,j⟩:∃ zs,zs=ai (X%18446744073709551616^k*Y) N:=⟨_,rfl⟩
   rw [← j] at q;have A:zs.length=N:=by rw [j,ag]
   have E:Digs zs:=by rw [j];exact aj (by omega) _ _
   obtain ⟨S,hS⟩:∃ S,S=val ((zs.drop k).take M)+Y*xs.getD k 0:=⟨_,rfl⟩
   obtain ⟨R,hR⟩:∃ R,R=S/18446744073709551616^M:=⟨_,rfl⟩
   have H:k+M<N:=by have:=HN.out;omega
   obtain ⟨B,ap⟩:=rW (S:=S) (by omega) hY.out H j (by rw [a.out k];exact hS);rw [← hR] at B ap;have J:S=val ((zs.drop k).take M)+val ys*xs.getD k 0:=by rw [← r.out];exact hS
   have T:=iB (w':=w2) (g:=w.heap.size) HV.out.1 (leR _) d.out.size;have HA:=fun W' (kk:Kept af w2 W')=>mw w.heap.size w.heap.size N N k M (N-k) (xs.getD k 0) zs ys (.slice bo M al) W' (kk.own q (fun _ _ f=>f)) A E (by omega) (F.1.grew kk) HM.out y.out T ab R S J hR
   have au:Hid (∀ W',OwnN .u64 23 W' w.heap.size (.slice (some ⟨w.heap.size,0,none⟩) N N) N (zs.take k ++ (ai S M ++ zs.drop (k+M)))→OwnN .u64 23 (W'.setCell ⟨w.heap.size,k+M,none⟩ (.int .u64 (R:Int))) w.heap.size (.slice (some ⟨w.heap.size,0,none⟩) N N) N (ai (X%18446744073709551616^(k+1)*Y) N)):=fun W' h=>by
    have:=(World.ownsRow.stored h (k+M) (.int .u64 (R:Int))).1;unfold OwnN;rw [← B,← fN zs _ k M R (ag _ _ _) (by omega),List.map_set];exact this
   have m:∀ W',OwnN .u64 23 W' w.heap.size (.slice (some ⟨w.heap.size,0,none⟩) N N) N (zs.take k ++ (ai S M ++ zs.drop (k+M)))→W'.cell? ⟨w.heap.size,k+M,none⟩=some (.int .u64 (zs.getD (k+M) 0:Nat)):=fun W' h=>ff h A (ag _ _ _) H
   have aq:∀ W',OwnN .u64 23 W' w.heap.size (.slice (some ⟨w.heap.size,0,none⟩) N N) N (zs.take k ++ (ai S M ++ zs.drop (k+M)))→W'.frozen? ⟨w.heap.size,k+M,none⟩=false:=fun W' h=>World.ownsRow.frozenAt h (k+M)
   have ad:¬ dM o2 w.heap.size:=fh q (d.out.room (k:=0) (by rw [List.length_append,List.length_replicate];exact HT.out.less (by simp;omega))).1 _ rfl;clear hS J hR j E A Q F l C a y r T B q;generalize xs.getD k 0=x at *;generalize zs.getD (k+M) 0=zz at *;generalize zs.take k ++ (ai S M ++ zs.drop (k+M))=zs' at *;have ay:(k:Int)+(M:Int)<(N:Int):=by omega
   have ac:(0:Int)≤(k:Int)+(M:Int):=by omega
   have ak:((k:Int)+(M:Int)).toNat=k+M:=by omega
   go_wp2_with fail;go_region_with (go_at_call 136;refine (HA _ ((ah _ _).drew)).mono ?_;rintro e w3 ⟨rfl,t,k3⟩;have az:=m _ t;have aA:=aq _ t)
   all_goals
    go_wp2_with fail;go_roundw
    case rel=>
     have k4:Kept (fun b=>b=w.heap.size) w2 (w3.setCell ⟨w.heap.size,k+M,none⟩ (.int .u64 (R:Int))):=(((ah _ _).drew).trans k3).setCell _ (fun _=>rfl) _;exact ⟨k+1,o2,by omega,by go_num,by unfold Hid;rw [List.replicate_succ'];exact d.out.wroteNew k4 (leR _) ad,au.out _ t⟩
    case measure=>simp [intOf];omega
  ·have av:¬ (k:Int)<(L:Int):=by omega
   obtain rfl:k=L:=by omega
   rw [am hX.out] at ho;clear C a y r;go_wp2_with fail;go_ret;exact ⟨_,rfl,by rw [HN.out];rfl,ho,o1,HD.out⟩

abbrev refusal (n:Int):PanicEntry:={ v:=.iface 33 (.int .i64 n),recovered:=false }

theorem oS (p:Addr) (w:World) :
  CallsD Tryz.prog 134 #[.pointer (some p)] .returning w fun e u' w'=>e=.returned (.tuple #[])∧u'=.returning∧w'=w:=by
 refine callsD_of_wpS Tryz.func134 rfl fun c₀ cs hu=>?_
 apply wpS_seq;apply wpS_region;simp [wpOpsS,go_sem,recoverD,hu,Tryz.ntmps134,Exit.thenS];apply wpS_seq;apply wpS_seq;apply wpS_region;simp [wpOpsS,go_sem,Exit.thenS];refine wpS_cond (t:=true) (by simp [Act.eval,Array.replicate]) ?_;simp only [if_true];refine wpS_of_wp (wp_ret ?_);cases c₀
 simp_all [bodyPostS,results,Tryz.results134,Exit.thenS]

theorem Ai (p:Addr) (x n:Int) (a:List PanicEntry) (w:World) (hc:w.cell? p=some (.int .i64 x)) (hz:w.frozen? p=false) :
  CallsD Tryz.prog 134 #[.pointer (some p)] (.panicking (refusal n :: a)) w fun e u' w'=>
   e=.returned (.tuple #[])∧u'=.panicking ({ refusal n with recovered:=true } :: a)∧w'=w.setCell p (.int .i64 n):=by
 refine callsD_of_wpS Tryz.func134 rfl fun c₀ cs hu=>?_
 apply wpS_seq;apply wpS_region;simp [wpOpsS,go_sem,recoverD,hu,Tryz.ntmps134,Exit.thenS];apply wpS_seq;apply wpS_seq;apply wpS_region;simp [wpOpsS,go_sem,Exit.thenS];refine wpS_cond (t:=false) (by simp [Act.eval,Array.replicate]) ?_;simp only [Bool.false_eq_true,if_false];refine wpS_of_wp (wp_skip ?_);simp only [Exit.thenS];refine wpS_of_wp ?_;have c:∀ w:World,(Instr.typeAssert (.iface 33 (.int .i64 n)) 20 33 true).run Tryz.prog w=.ok (.tuple #[.int .i64 n,.bool true]) w:=fun w=>by kernel_rfl
 have b:∀ (x:Bool) (w:World),(Op.unary .not (.bool x)).run Tryz.prog w=.ok (.bool (!x)) w:=fun _ _=>rfl
 have e:(#[Value.pointer (some p)] ++ ((((Array.replicate 15 undef).setIfInBounds 3 (Value.iface 33 (Value.int IntKind.i64 n))).setIfInBounds 0 (Value.iface 33 (Value.int IntKind.i64 n))).setIfInBounds 4 (Value.iface 33 (Value.int IntKind.i64 n))).setIfInBounds 5 (Value.bool false):Array Value)=#[.pointer (some p),.iface 33 (.int .i64 n),undef,undef,.iface 33 (.int .i64 n),.iface 33 (.int .i64 n),.bool false,undef,undef,undef,undef,undef,undef,undef,undef,undef]:=rfl;rw [e];clear e;go_wp2;simp [bodyPostS,results,Tryz.results134]

theorem jc (f:Nat) (cap:Array Value) (w:World) (Q:Int→World→Prop) (he:∀ args w,(callFunc f args).run Tryz.prog w=.ok (.enter f args) w)
  (h:Calls Tryz.prog f cap (w.alloc (.cells #[.int .i64 0] 33)) fun e w'=>w'.heap[w.heap.size]? = some (.cells #[.int .i64 0] 33 (0,0)) ∧
   ((e=.returned (.tuple #[])∧Q 0 w')∨∃ n,e=.panicked [refusal n]∧Q n w')) :
  Calls Tryz.prog 95 #[.func (.func f) #[] cap] w fun e w'=>∃ n w1,e=.returned (.int .i64 n)∧(Q n w1∧w1.heap[w.heap.size]? = some (.cells #[.int .i64 0] 33 (0,0)))∧w'=w1.setCell ⟨w.heap.size,0,none⟩ (.int .i64 n):=by
 have c:=fd;go_enter_defers Tryz.func95,Tryz.ntmps95
 go_wp2_with fail;refine h.mono ?_;rintro e w1 ⟨hb,(⟨rfl,hq⟩ | ⟨n,rfl,hq⟩)⟩
 ·have hc:w1.cell? ⟨w.heap.size,0,none⟩=some (.int .i64 0):=by simp [World.cell?,hb]
  have hz:w1.frozen? ⟨w.heap.size,0,none⟩=false:=by simp [World.frozen?,hb]
  clear h;go_wp2_with fail;refine leaves_cons (f:=134) (args:=#[.pointer (some ⟨w.heap.size,0,none⟩)]) (by simp) (by simp [go_sem]) ?_;refine (oS ⟨w.heap.size,0,none⟩ _).mono ?_;rintro e u' b ⟨rfl,rfl,rfl⟩;have a:(w1.setCell ⟨w.heap.size,0,none⟩ (.int .i64 0)).cell? ⟨w.heap.size,0,none⟩=some (.int .i64 0):=World.cell?_setCell_same' _ _ _ (by rw [hc];rfl);simp [Leaves,settle,results,Tryz.results95,go_sem,a];exact ⟨_,⟨hq,hb⟩,rfl⟩
 ·have hc:w1.cell? ⟨w.heap.size,0,none⟩=some (.int .i64 0):=by simp [World.cell?,hb]
  have hz:w1.frozen? ⟨w.heap.size,0,none⟩=false:=by simp [World.frozen?,hb]
  clear h;refine leaves_cons (f:=134) (args:=#[.pointer (some ⟨w.heap.size,0,none⟩)]) (by simp) (by simp [go_sem]) ?_;refine (Ai ⟨w.heap.size,0,none⟩ 0 n [] _ hc hz).mono ?_;rintro e u' b ⟨rfl,rfl,rfl⟩;have a:(w1.setCell ⟨w.heap.size,0,none⟩ (.int .i64 n)).cell? ⟨w.heap.size,0,none⟩=some (.int .i64 n):=World.cell?_setCell_same' _ _ _ (by rw [hc];rfl);simp [Leaves,settle,results,Tryz.results95,go_sem,a];exact ⟨_,⟨hq,hb⟩,rfl⟩

theorem jg (n:Int) (w:World):Calls Tryz.prog 120 #[.bool false,.int .i64 n] w fun e w'=>e=.returned (.tuple #[])∧w'=w:=by
 go_enter Tryz.func120,Tryz.ntmps120;go_wp2;go_end0
 exact ⟨rfl,rfl⟩

theorem iF (n:Int) (w:World):Calls Tryz.prog 120 #[.bool true,.int .i64 n] w fun e w'=>e=.panicked [refusal n]∧w'=w:=by
 go_enter Tryz.func120,Tryz.ntmps120;go_wp2;exact ⟨rfl,rfl,rfl⟩

theorem vU (ao bo:Option Addr) (L M cap a:Nat) (w:World) :
  Calls Tryz.prog 97 #[.slice ao L cap,.slice bo M a] w fun e w'=>((L≤300∧M≤300∧e=.returned (.tuple #[]))∨(¬ (L≤300∧M≤300)∧e=.panicked [refusal 2]))∧w'=w:=by
 have hN:=jg 2 w;have hY:=iF 2 w;by_cases h:L≤300∧M≤300
 ·have g:¬ max (L:Int) (M:Int) > 300:=by omega
  go_enter Tryz.func97,Tryz.ntmps97;go_wp2_with fail;refine hN.mono ?_;rintro e w' ⟨rfl,rfl⟩;go_wp2;go_end0
  exact ⟨.inl ⟨h.1,h.2,rfl⟩,rfl⟩
 ·have g:max (L:Int) (M:Int) > 300:=by omega
  go_enter Tryz.func97,Tryz.ntmps97;go_wp2_with fail;refine hY.mono ?_;rintro e w' ⟨rfl,rfl⟩;exact ⟨rfl,.inr ⟨h,rfl⟩,rfl⟩

def Box (w:World) (b:Nat) (v:Value) (t:TypeId):Prop:=w.heap[b]? = some (.cells #[v] t (0,0))

theorem Box.cell {w:World} {b:Nat} {v:Value} {t:TypeId} (h:Box w b v t):w.cell? ⟨b,0,none⟩=some v:=by
 unfold Box at h;simp [World.cell?,h]

theorem Box.free {w:World} {b:Nat} {v:Value} {t:TypeId} (h:Box w b v t):w.frozen? ⟨b,0,none⟩=false:=by
 unfold Box at h;simp [World.frozen?,h]

theorem Box.lt {w:World} {b:Nat} {v:Value} {t:TypeId} (h:Box w b v t):b<w.heap.size:=lt_of_block h

theorem Box.new (w:World) (v:Value) (t:TypeId):Box (w.alloc (.cells #[v] t)) w.heap.size v t:=heap_alloc_new w _

theorem Box.kept {S:Nat→Prop} {w w':World} {b:Nat} {v:Value} {t:TypeId} (h:Box w b v t) (k:Kept S w w') (hs:¬ S b):Box w' b v t:=(k.block b h.lt hs).trans h

theorem Box.grew {w w':World} {b:Nat} {v:Value} {t:TypeId} (h:Box w b v t) (k:Kept af w w'):Box w' b v t:=h.kept k (fun f=>f)

theorem Box.alloc {w:World} {b:Nat} {v:Value} {t:TypeId} (h:Box w b v t) (o:Obj):Box (w.alloc o) b v t:=aq h

theorem Box.drew {w:World} {b:Nat} {v:Value} {t:TypeId} (h:Box w b v t):Box w.drew b v t:=h

theorem Box.set {w:World} {b:Nat} {v:Value} {t:TypeId} (h:Box w b v t) (u:Value):Box (w.setCell ⟨b,0,none⟩ u) b u t:=by
 have:=heap_setCell_same w b 0 #[v] t u h;simpa [Box] using this

theorem Box.other {w:World} {b:Nat} {v:Value} {t:TypeId} (h:Box w b v t) (a:Addr) (c:b≠a.block) (u:Value):Box (w.setCell a u) b v t:=dF h c u

theorem au (w:World) (b:Nat) (u:Value):Kept (fun x=>x=b) w (w.setCell ⟨b,0,none⟩ u):=(ah (fun x=>x=b) w).setCell ⟨b,0,none⟩ (fun _=>rfl) u

theorem zQ (w:World) (v1:Value) (t1:TypeId):Kept af w (w.alloc (.cells #[v1] t1))∧Box (w.alloc (.cells #[v1] t1)) w.heap.size v1 t1∧(w.alloc (.cells #[v1] t1)).heap.size=w.heap.size+1:=by
 exact ⟨(ah af w).alloc _,Box.new w _ _,by simp⟩

theorem AK (w:World) (v1 v2:Value) (t1 t2:TypeId):Kept af w ((w.alloc (.cells #[v1] t1)).alloc (.cells #[v2] t2))∧Box ((w.alloc (.cells #[v1] t1)).alloc (.cells #[v2] t2)) w.heap.size v1 t1∧Box ((w.alloc (.cells #[v1] t1)).alloc (.cells #[v2] t2)) (w.heap.size+1) v2 t2∧((w.alloc (.cells #[v1] t1)).alloc (.cells #[v2] t2)).heap.size=w.heap.size+1+1:=by
 obtain ⟨k0,b1,hs⟩:=zQ w v1 t1;exact ⟨k0.alloc _,b1.alloc _,by rw [← hs];exact Box.new _ _ _,by rw [← hs];simp⟩

theorem mI (w:World) (v1 v2 v3:Value) (t1 t2 t3:TypeId):Kept af w (((w.alloc (.cells #[v1] t1)).alloc (.cells #[v2] t2)).alloc (.cells #[v3] t3))∧Box (((w.alloc (.cells #[v1] t1)).alloc (.cells #[v2] t2)).alloc (.cells #[v3] t3)) w.heap.size v1 t1∧Box (((w.alloc (.cells #[v1] t1)).alloc (.cells #[v2] t2)).alloc (.cells #[v3] t3)) (w.heap.size+1) v2 t2∧Box (((w.alloc (.cells #[v1] t1)).alloc (.cells #[v2] t2)).alloc (.cells #[v3] t3)) (w.heap.size+1+1) v3 t3∧(((w.alloc (.cells #[v1] t1)).alloc (.cells #[v2] t2)).alloc (.cells #[v3] t3)).heap.size=w.heap.size+1+1+1:=by
 obtain ⟨k0,b1,b2,hs⟩:=AK w v1 v2 t1 t2;exact ⟨k0.alloc _,b1.alloc _,b2.alloc _,by rw [← hs];exact Box.new _ _ _,by rw [← hs];simp⟩

theorem jV (w:World) (v1 v2 v3 v4:Value) (t1 t2 t3 t4:TypeId):Kept af w ((((w.alloc (.cells #[v1] t1)).alloc (.cells #[v2] t2)).alloc (.cells #[v3] t3)).alloc (.cells #[v4] t4))∧Box ((((w.alloc (.cells #[v1] t1)).alloc (.cells #[v2] t2)).alloc (.cells #[v3] t3)).alloc (.cells #[v4] t4)) w.heap.size v1 t1∧Box ((((w.alloc (.cells #[v1] t1)).alloc (.cells #[v2] t2)).alloc (.cells #[v3] t3)).alloc (.cells #[v4] t4)) (w.heap.size+1) v2 t2∧Box ((((w.alloc (.cells #[v1] t1)).alloc (.cells #[v2] t2)).alloc (.cells #[v3] t3)).alloc (.cells #[v4] t4)) (w.heap.size+1+1) v3 t3∧Box ((((w.alloc (.cells #[v1] t1)).alloc (.cells #[v2] t2)).alloc (.cells #[v3] t3)).alloc (.cells #[v4] t4)) (w.heap.size+1+1+1) v4 t4∧((((w.alloc (.cells #[v1] t1)).alloc (.cells #[v2] t2)).alloc (.cells #[v3] t3)).alloc (.cells #[v4] t4)).heap.size=w.heap.size+1+1+1+1:=by
 obtain ⟨k0,b1,b2,b3,hs⟩:=mI w v1 v2 v3 t1 t2 t3;exact ⟨k0.alloc _,b1.alloc _,b2.alloc _,b3.alloc _,by rw [← hs];exact Box.new _ _ _,by rw [← hs];simp⟩

theorem tA (w:World) (v1 v2 v3 v4 v5:Value) (t1 t2 t3 t4 t5:TypeId):Kept af w (((((w.alloc (.cells #[v1] t1)).alloc (.cells #[v2] t2)).alloc (.cells #[v3] t3)).alloc (.cells #[v4] t4)).alloc (.cells #[v5] t5))∧Box (((((w.alloc (.cells #[v1] t1)).alloc (.cells #[v2] t2)).alloc (.cells #[v3] t3)).alloc (.cells #[v4] t4)).alloc (.cells #[v5] t5)) w.heap.size v1 t1∧Box (((((w.alloc (.cells #[v1] t1)).alloc (.cells #[v2] t2)).alloc (.cells #[v3] t3)).alloc (.cells #[v4] t4)).alloc (.cells #[v5] t5)) (w.heap.size+1) v2 t2∧Box (((((w.alloc (.cells #[v1] t1)).alloc (.cells #[v2] t2)).alloc (.cells #[v3] t3)).alloc (.cells #[v4] t4)).alloc (.cells #[v5] t5)) (w.heap.size+1+1) v3 t3∧Box (((((w.alloc (.cells #[v1] t1)).alloc (.cells #[v2] t2)).alloc (.cells #[v3] t3)).alloc (.cells #[v4] t4)).alloc (.cells #[v5] t5)) (w.heap.size+1+1+1) v4 t4∧Box (((((w.alloc (.cells #[v1] t1)).alloc (.cells #[v2] t2)).alloc (.cells #[v3] t3)).alloc (.cells #[v4] t4)).alloc (.cells #[v5] t5)) (w.heap.size+1+1+1+1) v5 t5∧(((((w.alloc (.cells #[v1] t1)).alloc (.cells #[v2] t2)).alloc (.cells #[v3] t3)).alloc (.cells #[v4] t4)).alloc (.cells #[v5] t5)).heap.size=w.heap.size+1+1+1+1+1:=by
 obtain ⟨k0,b1,b2,b3,b4,hs⟩:=jV w v1 v2 v3 v4 t1 t2 t3 t4;exact ⟨k0.alloc _,b1.alloc _,b2.alloc _,b3.alloc _,b4.alloc _,by rw [← hs];exact Box.new _ _ _,by rw [← hs];simp⟩

theorem uX (w:World) (v1 v2 v3 v4 v5 v6:Value) (t1 t2 t3 t4 t5 t6:TypeId):Kept af w ((((((w.alloc (.cells #[v1] t1)).alloc (.cells #[v2] t2)).alloc (.cells #[v3] t3)).alloc (.cells #[v4] t4)).alloc (.cells #[v5] t5)).alloc (.cells #[v6] t6))∧Box ((((((w.alloc (.cells #[v1] t1)).alloc (.cells #[v2] t2)).alloc (.cells #[v3] t3)).alloc (.cells #[v4] t4)).alloc (.cells #[v5] t5)).alloc (.cells #[v6] t6)) w.heap.size v1 t1∧Box ((((((w.alloc (.cells #[v1] t1)).alloc (.cells #[v2] t2)).alloc (.cells #[v3] t3)).alloc (.cells #[v4] t4)).alloc (.cells #[v5] t5)).alloc (.cells #[v6] t6)) (w.heap.size+1) v2 t2∧Box ((((((w.alloc (.cells #[v1] t1)).alloc (.cells #[v2] t2)).alloc (.cells #[v3] t3)).alloc (.cells #[v4] t4)).alloc (.cells #[v5] t5)).alloc (.cells #[v6] t6)) (w.heap.size+1+1) v3 t3∧Box ((((((w.alloc (.cells #[v1] t1)).alloc (.cells #[v2] t2)).alloc (.cells #[v3] t3)).alloc (.cells #[v4] t4)).alloc (.cells #[v5] t5)).alloc (.cells #[v6] t6)) (w.heap.size+1+1+1) v4 t4∧Box ((((((w.alloc (.cells #[v1] t1)).alloc (.cells #[v2] t2)).alloc (.cells #[v3] t3)).alloc (.cells #[v4] t4)).alloc (.cells #[v5] t5)).alloc (.cells #[v6] t6)) (w.heap.size+1+1+1+1) v5 t5∧Box ((((((w.alloc (.cells #[v1] t1)).alloc (.cells #[v2] t2)).alloc (.cells #[v3] t3)).alloc (.cells #[v4] t4)).alloc (.cells #[v5] t5)).alloc (.cells #[v6] t6)) (w.heap.size+1+1+1+1+1) v6 t6∧((((((w.alloc (.cells #[v1] t1)).alloc (.cells #[v2] t2)).alloc (.cells #[v3] t3)).alloc (.cells #[v4] t4)).alloc (.cells #[v5] t5)).alloc (.cells #[v6] t6)).heap.size=w.heap.size+1+1+1+1+1+1:=by
 obtain ⟨k0,b1,b2,b3,b4,b5,hs⟩:=tA w v1 v2 v3 v4 v5 t1 t2 t3 t4 t5;exact ⟨k0.alloc _,b1.alloc _,b2.alloc _,b3.alloc _,b4.alloc _,b5.alloc _,by rw [← hs];exact Box.new _ _ _,by rw [← hs];simp⟩

end Go.Proofs.YtcemlfokmjjiaaaGreatDoor
