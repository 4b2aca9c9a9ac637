/- Put together of: Lim1 Pro1 Pro0. -/
import Derived.Test.YtcemlfokmjjiaaaGreatDoorPf3
import Derived.Test.YtcemlfokmjjiaaaGreatDoorPf11
import Derived.Deep.RegionWith
import Derived.Defers
import Derived.Recover

namespace Go.Proofs.YtcemlfokmjjiaaaGreatDoor
set_option maxRecDepth 100000
set_option maxHeartbeats 4000000
open Go.RowKit

def jU (L:Nat→Nat):Nat→Nat
 | 0=>0
 | n+1=>max (jU L n) (L n)

def Slots (w:World) (ao:Option Addr) (n:Nat) (A:Nat→Option Addr) (L C:Nat→Nat):Prop:=
 ∀ i,i<n→∃ b off,ao=some ⟨b,off,none⟩∧w.cell? ⟨b,off+i,none⟩=some (.slice (A i) (L i) (C i))

theorem xY (ao:Option Addr) (n cap:Nat) (A:Nat→Option Addr) (L C:Nat→Nat) (w:World) (hn:n≤1000000000) (hc:Slots w ao n A L C) :
  Calls Tryz.prog 163 #[.slice ao n cap] w fun e w'=>e=.returned (.tuple #[.int .i64 (jU L n:Nat),.func (.func 207) #[] #[.pointer (some ⟨w.heap.size,0,none⟩)]])∧w'=w.alloc (.cells #[.int .i64 (jU L n:Nat)] 3):=by
 have o:=eR;have HC:Hid (Slots w ao n A L C):=hc;clear hc;go_enter Tryz.func163,Tryz.ntmps163;go_wp2_with fail;go_loopw [9] (fun i wr=>∃ (k m:Nat),k≤n∧i=.int .i64 (k:Int)∧wr=w.alloc (.cells #[.int .i64 (m:Int)] 3)∧Hid (m=jU L k)) (fun i _=>((n:Int)-intOf i).toNat)
 case atStart=>exact ⟨0,0,Nat.zero_le _,rfl,rfl,rfl⟩
 case round=>
  obtain ⟨k,m,hk,rfl,rfl,hm⟩:=hrel;by_cases hkn:k<n
  ·have l:(k:Int)<(n:Int):=by omega
   obtain ⟨b,off,rfl,a⟩:=HC.out k hkn;obtain ⟨ao,j⟩:∃ ao,ao=A k:=⟨_,rfl⟩
   obtain ⟨d,c⟩:∃ d,d=L k:=⟨_,rfl⟩
   obtain ⟨cp,f⟩:∃ cap,cap=C k:=⟨_,rfl⟩
   rw [← j,← c,← f] at a;have h:Hid (d=L k):=c;have g:=((ai af w).alloc (.cells #[.int .i64 (m:Int)] 3)).cellN a;clear j c f HC;go_wp2_with fail;go_roundw
   case rel=>exact ⟨k+1,max m d,by omega,by go_num,by rw [show ((max m d:Nat):Int)=max (m:Int) (d:Int) by omega],by unfold Hid;rw [jU,← hm.out,← h.out]⟩
   case measure=>simp [intOf];omega
  ·have l:¬ (k:Int)<(n:Int):=by omega
   have e:k=n:=by omega
   subst e;go_wp2_with fail;go_ret2;rw [hm.out];exact ⟨rfl,rfl⟩

theorem Row.source {k:IntKind} {w:World} {ao:Option Addr} {L cap:Nat} {xs:List Nat} (h:Row k w (.slice ao L cap) xs) {W:World} (hk:Kept af w W) (hp:0<(xs.map fun z:Nat=>Value.int k (z:Int)).length) :
  ∃ ad,ao=some ad∧∀ j u,(xs.map fun z:Nat=>Value.int k (z:Int))[j]? = some u→W.cell? (ad.add j)=some u:=by
 obtain ⟨d,n,c,e,hL,_,_,_,g4⟩:=h.open;simp only [Value.slice.injEq] at e;obtain ⟨rfl,rfl,rfl⟩:=e;rw [List.length_map] at hp;have hl:=hL.out;obtain ⟨b,off,rfl,_⟩:=g4 0 (by omega);refine ⟨_,rfl,fun j u hu=>?_⟩;have hj:j<xs.length:=by
  have:=(List.getElem?_eq_some_iff.1 hu).1;simpa using this
 obtain ⟨b',a,e,hc⟩:=(g4 j (by omega)).grew hk;simp only [Option.some.injEq,Addr.mk.injEq] at e;obtain ⟨rfl,rfl,_⟩:=e;rw [List.getElem?_map,List.getElem?_eq_getElem hj] at hu;rw [show (⟨b,off,none⟩:Addr).add j=⟨b,off+j,none⟩ by simp [Addr.add],hc,← hu,List.getD_eq_getElem?_getD,List.getElem?_eq_getElem hj];rfl

theorem gQ (k:IntKind) (xs:List Nat):∀ u ∈ xs.map (fun z:Nat=>Value.int k (z:Int)),u.oneCell'=true:=by
 intro u hu;obtain ⟨z,_,rfl⟩:=List.mem_map.1 hu;rfl

theorem BH (o:Tr) (v:Value) (xs:List Nat) (n g:Nat) (w:World) (ht:TrIn w o) (h:RowT w o v xs) (hd:Digs xs) (hl:xs.length≤n) (hn:n≤1000000000) (hg:w.heap[g]? = some (.cells #[.int .i64 (n:Nat)] 3 (0,0))) :
  Calls Tryz.prog 207 #[v,.pointer (some ⟨g,0,none⟩)] w fun e w'=>∃ v',e=.returned v'∧RowT w' o v' (digs (val xs) n)∧Kept af w w'∧(v'=v∨∀ b,v'.ownBlock=some b→w.heap.size≤b):=by
 obtain ⟨i0,i,s,k,p⟩:=info_parts Tryz.info23;have hb:w.cell? ⟨g,0,none⟩=some (.int .i64 (n:Nat)):=(cell_of_row w g 0 _ _ _ hg).trans rfl;rw [ef hd rfl hl];obtain ⟨ao,q,cap,rfl,hL,_,_,_,_⟩:=h.1.open;by_cases he:q=n
 ·have y:(q:Int)=(n:Int):=by omega
  rw [show n-xs.length=0 by rw [hL.out];omega,List.replicate_zero,List.append_nil];have H:Hid (RowT w o (.slice ao q cap) xs):=h;clear h hg hd;go_enter Tryz.func207,Tryz.ntmps207;go_wp2;go_ret;exact ⟨_,rfl,H.out,ai _ _,.inl rfl⟩
 ·have y:¬ (q:Int)=(n:Int):=by omega
  have HS:Hid (∀ W,Kept af w W→0<(xs.map fun z:Nat=>Value.int .u64 (z:Int)).length→∃ ad,ao=some ad∧∀ j u,(xs.map fun z:Nat=>Value.int .u64 (z:Int))[j]? = some u→W.cell? (ad.add j)=some u):=fun W hk hp=>h.1.source hk hp
  have HO:=aa (gQ .u64 xs);have f:Hid ((xs.map fun z:Nat=>Value.int .u64 (z:Int)).length=q):=by unfold Hid;rw [List.length_map];exact hL.out
  obtain ⟨CS,d⟩:∃ CS,CS=xs.map (fun z:Nat=>Value.int .u64 (z:Int)):=⟨_,rfl⟩
  rw [← d] at HS HO f;have t:Hid (CS=xs.map (fun z:Nat=>Value.int .u64 (z:Int))):=d;have hq:q≤n:=by rw [← hL.out];exact hl
  have HT:Hid (TrIn w o):=ht;clear d h hg hd ht hl;go_enter Tryz.func207,Tryz.ntmps207;go_wp2_with (at_make;refine wpList_make_full _ rfl _ _ 32 rfl w.heap.size 23 i0 _ 1 Tryz.underlying32 i s k _ _ _ _ n rfl rfl rfl rfl (by rw [p];omega) (by unfold maxLen;omega) (leR _) ?_;intro w1 c l;rw [aG] at c;have k1:=aD l;obtain ⟨w2,r,m,k2⟩:=df (P:=Tryz.prog) 32 32 3 23 w.heap.size 0 n n (some ⟨w.heap.size,0,none⟩) ao q cap _ 23 CS Tryz.underlying32 (by rw [i];simp [k]) (et c) (by rw [f.out];exact (Nat.min_eq_left hq).symm) (fun hp=>⟨rfl,HS.out _ k1 hp⟩) (by have:=f.out;simp;omega) HO.out;have x:Hid _:=m;clear m c l);go_ret
  have a:=x.out;rw [t.out,dU] at a;have kk:=cP k1 k2 (leR _);exact ⟨_,rfl,fN (base:=w.heap.size) (cl a (by simp [hL.out];omega) (by unfold maxLen;omega) (leR _)) (by simp [hL.out];omega) (HT.out.grew kk),kk,.inr (fun b hb=>by simp [Value.ownBlock] at hb;omega)⟩

theorem ku (o:Tr) (v:Value) (xs:List Nat) (n g:Nat) (w:World) (ht:TrIn w o) (h:RowT w o v xs) (hd:Digs xs) (hl:xs.length≤n) (hn:n≤1000000000) (hg:w.heap[g]? = some (.cells #[.int .i64 (n:Nat)] 3 (0,0))) :
  Calls Tryz.prog 207 #[v,.pointer (some ⟨g,0,none⟩)] w fun e w'=>∃ v',e=.returned v'∧RowT w' o v' (digs (val xs) n)∧Kept af w w':=by
 refine (BH o v xs n g w ht h hd hl hn hg).mono ?_;rintro e w' ⟨v',rfl,hr,hk,_⟩;exact ⟨v',rfl,hr,hk⟩

def bi (b:Bool):Nat:=if b=true then 1 else 0

def cS (A B n:Nat):Nat:=if A<B then A+2^(64*n)-B else A-B

def aP (bit A B:Nat):Nat:=if bit%2=1 then A else B

theorem iE (ao bo:Option Addr) (L M cap a:Nat) (w:World) :
  Calls Tryz.prog 163 #[.slice (some ⟨w.heap.size,0,none⟩) 2 2] (w.alloc (.cells #[.slice ao L cap,.slice bo M a] 32)) fun e w'=>∃ g,e=.returned (.tuple #[.int .i64 (max L M:Nat),.func (.func 207) #[] #[.pointer (some ⟨g,0,none⟩)]])∧w'.heap[g]? = some (.cells #[.int .i64 (max L M:Nat)] 3 (0,0))∧w.heap.size≤g∧Kept af w w':=by
 have hn:=Bn w (.slice ao L cap) (.slice bo M a) 32;refine (xY (some ⟨w.heap.size,0,none⟩) 2 2 (fun i=>if i=0 then ao else bo) (fun i=>if i=0 then L else M) (fun i=>if i=0 then cap else a) _ (by omega) ?_).mono ?_
 ·intro i hi;refine ⟨_,_,rfl,?_⟩;rw [Nat.zero_add,World.ownsRow.cellAt hn i (by omega)];have:i=0∨i=1:=by omega
  rcases this with rfl | rfl <;> rfl
 ·rintro e w' ⟨rfl,rfl⟩;have hm:jU (fun i=>if i=0 then L else M) 2=max L M:=by simp [jU]
  rw [hm];exact ⟨_,rfl,heap_alloc_new _ _,by simp,((ai af w).alloc _).alloc _⟩

theorem uO (x y c:Nat) (hx:x<18446744073709551616) (hy:y<18446744073709551616) (hc:c≤1) (w:World) :
  Calls Tryz.prog 251 #[.int .u64 (x:Nat),.int .u64 (y:Nat),.int .u64 (c:Nat)] w fun e w'=>∃ z c':Nat,e=.returned (.tuple #[.int .u64 (z:Nat),.int .u64 (c':Nat)])∧z<18446744073709551616∧c'≤1∧z+18446744073709551616*c'=x+y+c∧w'=w:=by
 refine (Cx (x:Int) (y:Int) (c:Int) (by omega) (by omega) (by omega) (by omega) w).mono ?_;rintro e w' ⟨rfl,rfl⟩;refine ⟨(x+y+c)%18446744073709551616,(x+y+c)/18446744073709551616,ia ?_ ?_,Nat.mod_lt _ (by omega),by omega,by omega,rfl⟩ <;> omega

theorem pK (x y c:Nat) (hx:x<18446744073709551616) (hy:y<18446744073709551616) (hc:c≤1) (w:World) :
  Calls Tryz.prog 165 #[.int .u64 (x:Nat),.int .u64 (y:Nat),.int .u64 (c:Nat)] w fun e w'=>∃ z c':Nat,e=.returned (.tuple #[.int .u64 (z:Nat),.int .u64 (c':Nat)])∧z<18446744073709551616∧c'≤1∧z+y+c=x+18446744073709551616*c'∧w'=w:=by
 refine (Ct (x:Int) (y:Int) (c:Int) (by omega) (by omega) (by omega) (by omega) (by omega) w).mono ?_;rintro e w' ⟨rfl,rfl⟩;unfold bor;by_cases h:(x:Int)<(y:Int)+(c:Int)%2
 ·rw [if_pos h];refine ⟨x+18446744073709551616-(y+c),1,ia ?_ ?_,by omega,by omega,by omega,rfl⟩ <;> omega
 ·rw [if_neg h];refine ⟨x-(y+c),0,ia ?_ ?_,by omega,by omega,by omega,rfl⟩ <;> omega

theorem p8 (y a:Nat) (hy:y<18446744073709551616):bits .and .u64 (y:Int) (msk (a:Int))=((y*(a%2):Nat):Int):=by
 unfold msk;have:a%2=0∨a%2=1:=by omega
 rcases this with h | h
 ·rw [show (a:Int)%2=0 by omega,h];have e:=u64_and_nat y 0 (by omega) (by omega);rw [Nat.and_zero] at e;exact e
 ·rw [show (a:Int)%2=1 by omega,h];have e:=u64_and_nat y 18446744073709551615 (by omega) (by omega);rw [show (18446744073709551615:Nat)=2^64-1 from rfl,Nat.and_two_pow_sub_one_of_lt_two_pow (by omega)] at e;rw [Nat.mul_one];exact e

theorem cF (B X k:Nat):X%B^(k+1)=X%B^k+B^k*dig X k B:=by rw [dig,Nat.pow_succ,Nat.mod_mul]

theorem pU (B Y a k:Nat):dig (Y*(a%2)) k B=dig Y k B*(a%2):=by
 have:a%2=0∨a%2=1:=by omega
 rcases this with h | h <;> rw [h] <;> simp [dig]

theorem rD {B X Y k c z c':Nat} {os:List Nat} (hl:os.length=k) (h:val os B+B^k*c=X%B^k+Y%B^k) (hz:z+B*c'=dig X k B+dig Y k B+c) :
  val (os ++ [z]) B+B^(k+1)*c'=X%B^(k+1)+Y%B^(k+1):=by
 rw [aS,hl,cF,cF,Nat.pow_succ,Nat.mul_assoc];have e:B^k*(z+B*c')=B^k*(dig X k B+dig Y k B+c):=by rw [hz]
 rw [Nat.mul_add,Nat.mul_add,Nat.mul_add] at e;omega

theorem rz {B X Y k c z c':Nat} {os:List Nat} (hl:os.length=k) (h:val os B+Y%B^k=X%B^k+B^k*c) (hz:z+dig Y k B+c=dig X k B+B*c') :
  val (os ++ [z]) B+Y%B^(k+1)=X%B^(k+1)+B^(k+1)*c':=by
 rw [aS,hl,cF,cF,Nat.pow_succ,Nat.mul_assoc];have e:B^k*(z+dig Y k B+c)=B^k*(dig X k B+B*c'):=by rw [hz]
 rw [Nat.mul_add,Nat.mul_add,Nat.mul_add] at e;omega

theorem fK (os:List Nat) (n k z:Nat) (hl:os.length=k) (h:k<n):(os ++ List.replicate (n-k) 0).set k z=(os ++ [z]) ++ List.replicate (n-(k+1)) 0:=by
 rw [List.set_append_right _ _ (by omega),hl,Nat.sub_self,show n-k=(n-(k+1))+1 by omega,List.replicate_succ];simp

theorem B64 (n:Nat):(18446744073709551616:Nat)^n=2^(64*n):=by rw [Nat.pow_mul]

theorem ep {w:World} {base g n k:Nat} {t:TypeId} {os:List Nat} (h:OwnN .u64 t w base (.slice (some ⟨g,0,none⟩) n n) n (os ++ List.replicate (n-k) 0)) (hl:os.length=k) (hk:k<n):w.cell? ⟨g,k,none⟩=some (.int .u64 0):=by
 rw [World.ownsRow.cellAt h k (by omega),List.getElem?_map,List.getElem?_append_right (by omega),hl,Nat.sub_self,List.getElem?_replicate,if_pos (by omega)];rfl

theorem Slots.grew {w w':World} {ao:Option Addr} {n:Nat} {A:Nat→Option Addr} {L C:Nat→Nat} (h:Slots w ao n A L C) (k:Kept af w w'):Slots w' ao n A L C:=by
 intro i hi;obtain ⟨b,off,rfl,hc⟩:=h i hi;exact ⟨b,off,rfl,k.cellN hc⟩

theorem pR (a b c d:Nat) (ha:a<18446744073709551616) (hb:b<18446744073709551616) (hc:c<18446744073709551616) (hd:d<18446744073709551616) (w:World) :
  Calls Tryz.prog 178 #[.int .u64 (a:Nat),.int .u64 (b:Nat),.int .u64 (c:Nat),.int .u64 (d:Nat)] w fun e w'=>∃ h l:Nat,e=.returned (.tuple #[.int .u64 (h:Nat),.int .u64 (l:Nat)])∧h<18446744073709551616∧l<18446744073709551616∧l+18446744073709551616*h=a*b+c+d∧w'=w:=by
 refine (Cz (a:Int) (b:Int) (c:Int) (d:Int) (by omega) (by omega) (by omega) (by omega) (by omega) (by omega) (by omega) (by omega) w).mono ?_;rintro e w' ⟨rfl,rfl⟩;have hp:a*b≤18446744073709551615*18446744073709551615:=Nat.mul_le_mul (by omega) (by omega);have e1:(a:Int)*(b:Int)=((a*b:Nat):Int):=by simp
 rw [e1];generalize a*b=p at *;refine ⟨(p+c+d)/18446744073709551616,(p+c+d)%18446744073709551616,ia ?_ ?_,by omega,Nat.mod_lt _ (by omega),by omega,rfl⟩ <;> omega

theorem iW {B X Y W k c z c':Nat} {os:List Nat} (hl:os.length=k) (h:val os B+B^k*c=X%B^k+Y%B^k*W) (hz:z+B*c'=dig Y k B*W+dig X k B+c) :
  val (os ++ [z]) B+B^(k+1)*c'=X%B^(k+1)+Y%B^(k+1)*W:=by
 rw [aS,hl,cF,cF,Nat.pow_succ,Nat.mul_assoc,Nat.add_mul,Nat.mul_assoc];have e:B^k*(z+B*c')=B^k*(dig Y k B*W+dig X k B+c):=by rw [hz]
 rw [Nat.mul_add,Nat.mul_add,Nat.mul_add] at e;omega

theorem l9 {B n S c:Nat} {os:List Nat} (hB:0<B) (hl:os.length=n) (hd:Digs os B) (h:val os B+B^n*c=S):os=digs S n B∧c=S/B^n:=by
 have hv:=aq hB hd;rw [hl] at hv;refine ⟨aW hB hd hl ?_,?_⟩
 ·rw [← h,Nat.add_mul_mod_self_left,al hv]
 ·rw [← h,Nat.add_mul_div_left _ _ (Nat.pow_pos hB),Nat.div_eq_of_lt hv,Nat.zero_add]

theorem fM (zs os:List Nat) (j k z:Nat) (hl:os.length=k) (hk:j+k<zs.length):(zs.take j ++ (os ++ zs.drop (j+k))).set (j+k) z=zs.take j ++ ((os ++ [z]) ++ zs.drop (j+(k+1))):=by
 have h1:(zs.take j).length=j:=by rw [List.length_take];omega
 rw [List.set_append_right _ _ (by omega),h1,Nat.add_sub_cancel_left,List.set_append_right _ _ (by omega),hl,Nat.sub_self,List.drop_eq_getElem_cons hk,lsZ,List.append_assoc];rfl

theorem eY {w:World} {base g N cap j k:Nat} {t:TypeId} {zs os:List Nat} (h:OwnN .u64 t w base (.slice (some ⟨g,0,none⟩) N cap) N (zs.take j ++ (os ++ zs.drop (j+k)))) (a:zs.length=N) (hl:os.length=k) (hk:j+k<N):w.cell? ⟨g,j+k,none⟩=some (.int .u64 (zs.getD (j+k) 0:Nat)):=by
 have h1:(zs.take j).length=j:=by rw [List.length_take];omega
 rw [World.ownsRow.cellAt h (j+k) (by omega),List.getElem?_map,List.getElem?_append_right (by omega),h1,Nat.add_sub_cancel_left,List.getElem?_append_right (by omega),hl,Nat.sub_self,List.getElem?_drop,Nat.add_zero,List.getD_eq_getElem?_getD,List.getElem?_eq_getElem (by omega)];rfl

theorem j9 {zs:List Nat} {j n k:Nat} (hd:Digs zs) (hk:k<n):dig (val ((zs.drop j).take n)) k=zs.getD (j+k) 0:=by
 rw [aR (by omega) ((hd.drop j).take n),List.getD_eq_getElem?_getD,List.getElem?_take,if_pos hk,List.getElem?_drop,← List.getD_eq_getElem?_getD]

theorem jE {zs:List Nat} {j n:Nat} (hd:Digs zs):val ((zs.drop j).take n)<18446744073709551616^n:=
 Nat.lt_of_lt_of_le (aq (by omega) ((hd.drop j).take n)) (Nat.pow_le_pow_right (by omega) (by rw [List.length_take];omega))

theorem cW {w:World} {base a g N cap n:Nat} {e:TypeId} {xs:List Value} (ho:w.ownsRow base e a (.slice (some ⟨g,0,none⟩) N cap) n xs):g<w.heap.size:=by
 rcases ho.2 with ⟨h',_⟩ | ⟨g',cap',cur,h',_,hgg,_⟩
 ·simp at h'
 ·simp only [Value.slice.injEq,Option.some.injEq,Addr.mk.injEq,and_true] at h';obtain ⟨rfl,_,_⟩:=h';exact lt_of_block hgg

theorem lF (g base N cap j n c W:Nat) (zs ys:List Nat) (v:Value) (w:World) (ho:OwnN .u64 23 w base (.slice (some ⟨g,0,none⟩) N cap) N zs) (D:zs.length=N) (l:Digs zs) (hj:j+n≤N)
  (hv:Row .u64 w v ys) (r:ys.length=n) (f:Digs ys) (B:ys≠[]→∀ b,v.ownBlock=some b→b≠g) (hW:W<18446744073709551616) (R S:Nat) (hS:S=val ((zs.drop j).take n)+val ys*W) (hR:R=S/18446744073709551616^n) :
  Calls Tryz.prog 136 #[.slice (some ⟨g,j,none⟩) n c,v,.int .u64 (W:Nat)] w fun e w'=>e=.returned (.int .u64 (R:Nat)) ∧
   OwnN .u64 23 w' base (.slice (some ⟨g,0,none⟩) N cap) N (zs.take j ++ (digs S n ++ zs.drop (j+n)))∧Kept (fun b=>b=g) w w':=by
 have hX:=jE (j:=j) (n:=n) l;have hY:val ys<18446744073709551616^n:=by rw [← r];exact aq (by omega) f
 have s:Hid (∀ k,k<n→dig (val ((zs.drop j).take n)) k=zs.getD (j+k) 0):=fun k hk=>j9 l hk
 have o:Hid (∀ k,dig (val ys) k=ys.getD k 0):=fun k=>aR (by omega) f k
 have q:Hid (∀ k,zs.getD (j+k) 0<18446744073709551616):=fun k=>l.getD (by omega) _
 have p:Hid (∀ k,ys.getD k 0<18446744073709551616):=fun k=>f.getD (by omega) _
 have a:Hid (∀ W',Kept (fun b=>b=g) w W'→Row .u64 W' v ys):=fun W' k=>hv.kept' k B
 generalize val ((zs.drop j).take n)=X at *;generalize val ys=Y at *;have HX:=aa hX;have HY:=aa hY;have HS:=aa hS;have HR:=aa hR;have C:=aa D;have HO:=aa ho;have hlt:=cW ho;obtain ⟨bo,m,bc,rfl,hM,_,_,_,_⟩:=hv.open;obtain rfl:m=n:=hM.out.symm.trans r;clear ho D hX hY hS hR r f l B hv hM;go_enter Tryz.func136,Tryz.ntmps136;go_wp2_with fail;go_loopw [7,11] (fun ab i wr=>∃ (k c':Nat) (os:List Nat),k≤m∧c'<18446744073709551616∧i=.int .i64 (k:Int)∧ab=.int .u64 (c':Int)∧Hid (os.length=k)∧Digs os∧OwnN .u64 23 wr base (.slice (some ⟨g,0,none⟩) N cap) N (zs.take j ++ (os ++ zs.drop (j+k)))∧Kept (fun b=>b=g) w wr ∧
   Hid (val os+18446744073709551616^k*c'=X%18446744073709551616^k+Y%18446744073709551616^k*W)) (fun _ i _=>m-(intOf i).toNat)
 case atStart=>exact ⟨0,0,[],Nat.zero_le _,by omega,rfl,rfl,rfl,Digs.nil _,by rw [Nat.add_zero,List.nil_append,List.take_append_drop];exact HO.out,ai _ _,by unfold Hid;simp [val,Nat.mod_one]⟩
 case round=>
  obtain ⟨k,c',os,hk,hc,rfl,rfl,HL,A,ho,t,HV⟩:=hrel;by_cases hkn:k<m
  ·have O:(0:Int)≤(k:Int):=Int.natCast_nonneg _;have F:(k:Int)<(m:Int):=by omega
   have M:=eY ho C.out HL.out (by omega);obtain ⟨_,_,_,e2,_,_,_,_,d⟩:=(a.out wr t).open;cases e2
   obtain ⟨b2,E,rfl,P⟩:=d k hkn;have hf:=World.ownsRow.frozenAt ho (j+k);have hx:=q.out k;have hy:=p.out k;have I:Hid (∀ z c2,z+18446744073709551616*c2=ys.getD k 0*W+zs.getD (j+k) 0+c'→val (os ++ [z])+18446744073709551616^(k+1)*c2=X%18446744073709551616^(k+1)+Y%18446744073709551616^(k+1)*W):=fun z c2 h=>iW HL.out HV.out (by rw [s.out k hkn,o.out k];exact h)
   have G:Hid (∀ u:Nat,OwnN .u64 23 (wr.setCell ⟨g,j+k,none⟩ (.int .u64 (u:Int))) base (.slice (some ⟨g,0,none⟩) N cap) N (zs.take j ++ ((os ++ [u]) ++ zs.drop (j+(k+1))))):=fun u=>by
    have:=(World.ownsRow.stored ho (j+k) (.int .u64 (u:Int))).1;unfold OwnN;rw [← fM zs os j k u HL.out (by have:=C.out;omega),List.map_set];exact this
   clear HV a d s o q p HO HX HY HS HR;generalize zs.getD (j+k) 0=x at *;generalize ys.getD k 0=y at *;go_wp2_with fail;go_region_with (go_at_call 178;refine (pR y W x c' hy hW hx hc _).mono ?_;rintro e w7 ⟨h2,l2,rfl,J,H,L,rfl⟩)
   all_goals
    go_wp2_with fail;go_roundw
    case rel=>exact ⟨k+1,h2,os ++ [l2],by omega,J,by go_num,rfl,by unfold Hid;rw [List.length_append,HL.out];rfl,A.append (Digs.one H),G.out l2,(t.setCell _ (fun _=>rfl) _).drew,I.out l2 h2 L⟩
    case measure=>simp [intOf];omega
  ·have F:¬ (k:Int)<(m:Int):=by omega
   obtain rfl:k=m:=by omega
   have e:=HV.out;rw [al HX.out,al HY.out,← HS.out] at e;obtain ⟨e1,e2⟩:=l9 (by omega) HL.out A e;have E1:=aa e1;have E2:=aa (e2.trans HR.out.symm);clear e e1 e2 HV a s o q p HO HX HY HS HR;go_wp2_with fail;go_ret;rw [← E1.out,← E2.out];exact ⟨rfl,ho,t⟩

theorem eW {B:Nat} (hB:0<B) {zs:List Nat} (hd:Digs zs B) (k:Nat):val (zs.take k) B=val zs B%B^k:=by
 by_cases h:k≤zs.length
 ·have e:=aw B zs k h;have a:val (zs.take k) B<B^k:=by
   have:=aq hB (hd.take k)
   rwa [List.length_take,Nat.min_eq_left h] at this
  rw [e,Nat.add_mul_mod_self_left,al a]
 ·rw [List.take_of_length_le (by omega),al];exact Nat.lt_of_lt_of_le (aq hB hd) (Nat.pow_le_pow_right hB (by omega))

theorem fJ {B:Nat} (hB:0<B) {zs:List Nat} (hd:Digs zs B) (k:Nat):val (zs.drop k) B=val zs B/B^k:=by
 by_cases h:k≤zs.length
 ·have e:=aw B zs k h;have a:val (zs.take k) B<B^k:=by
   have:=aq hB (hd.take k)
   rwa [List.length_take,Nat.min_eq_left h] at this
  rw [e,Nat.add_mul_div_left _ _ (Nat.pow_pos hB),Nat.div_eq_of_lt a,Nat.zero_add]
 ·rw [List.drop_of_length_le (by omega)];have h1:=aq hB hd;have h2:B^zs.length≤B^k:=Nat.pow_le_pow_right hB (by omega);rw [Nat.div_eq_of_lt (by omega)];rfl

theorem nA {B:Nat} (hB:0<B) {zs:List Nat} (hd:Digs zs B) (j n:Nat):val ((zs.drop j).take n) B=val zs B/B^j%B^n:=by
 rw [eW hB (hd.drop j),fJ hB hd]

theorem mZ {B:Nat} (hB:0<B) {zs os:List Nat} {j k:Nat} (hd:Digs zs B) (hl:os.length=k) (hj:j≤zs.length):val (zs.take j ++ (os ++ zs.drop (j+k))) B=val zs B%B^j+B^j*(val os B+B^k*(val zs B/B^(j+k))):=by
 have h1:(zs.take j).length=j:=by rw [List.length_take];omega
 rw [bG,bG,h1,hl,eW hB hd,fJ hB hd]

theorem fy {B:Nat} {zs os:List Nat} {j k:Nat} (hd:Digs zs B) (ho:Digs os B):Digs (zs.take j ++ (os ++ zs.drop (j+k))) B:=(hd.take j).append (ho.append (hd.drop _))

theorem lO {zs os:List Nat} {j k N:Nat} (hl:zs.length=N) (ho:os.length=k) (hj:j+k≤N):(zs.take j ++ (os ++ zs.drop (j+k))).length=N:=by
 simp [ho,hl];omega

theorem qr {B X Y M N k S:Nat} {zs:List Nat} (hB:0<B) (hY:Y<B^M) (hk:k+M<N) (hz:zs=digs (X%B^k*Y) N B) (hS:S=val ((zs.drop k).take M) B+Y*dig X k B) :
  zs.take k ++ ((digs S M B ++ [S/B^M]) ++ zs.drop (k+(M+1)))=digs (X%B^(k+1)*Y) N B∧S/B^M<B:=by
 have b:0<B^k:=Nat.pow_pos hB;have hP:X%B^k*Y<B^(k+M):=by
  rw [Nat.pow_add];exact Nat.mul_lt_mul_of_lt_of_le (Nat.mod_lt _ b) (Nat.le_of_lt hY) (Nat.pow_pos hB)
 have h:X%B^k*Y<B^N:=Nat.lt_of_lt_of_le hP (Nat.pow_le_pow_right hB (by omega));have f:zs.length=N:=by rw [hz,ag]
 have a:Digs zs B:=by rw [hz];exact ah hB _ _
 have c:val zs B=X%B^k*Y:=by rw [hz,ak,al h]
 clear hz;rw [nA hB a,c] at hS;have e2:X%B^(k+1)*Y=X%B^k*Y+B^k*(Y*dig X k B):=by
  rw [Nat.pow_succ,Nat.mod_mul,Nat.add_mul,dig,Nat.mul_assoc,Nat.mul_comm (X/B^k%B) Y]
 have g:X%B^(k+1)*Y<B^N:=by
  have h1:X%B^(k+1)*Y<B^(k+1)*B^M:=Nat.mul_lt_mul_of_lt_of_le (Nat.mod_lt _ (Nat.pow_pos hB)) (Nat.le_of_lt hY) (Nat.pow_pos hB);rw [← Nat.pow_add] at h1;exact Nat.lt_of_lt_of_le h1 (Nat.pow_le_pow_right hB (by omega))
 generalize hPP:X%B^k*Y=P at *;have i:P/B^k<B^M:=by rw [Nat.div_lt_iff_lt_mul b,Nat.mul_comm,← Nat.pow_add];exact hP
 rw [al i] at hS;have hx:dig X k B<B:=Nat.mod_lt _ hB;have e:S/B^M<B:=by
  rw [Nat.div_lt_iff_lt_mul (Nat.pow_pos hB),hS];have h1:Y*dig X k B≤B^M*dig X k B:=Nat.mul_le_mul_right _ (Nat.le_of_lt hY);have h2:B^M*(dig X k B+1)≤B^M*B:=Nat.mul_le_mul_left _ hx;rw [Nat.mul_add,Nat.mul_one] at h2;rw [Nat.mul_comm B];omega
 refine ⟨?_,e⟩;have d:(digs S M B ++ [S/B^M]).length=M+1:=by simp [ag]
 refine aW hB (fy a ((ah hB _ _).append (Digs.one e))) (lO f d (by omega)) ?_;rw [mZ hB a d (by omega),aS,ag,ak,c,al g,e2];have e3:P/B^(k+(M+1))=0:=by
  apply Nat.div_eq_of_lt;exact Nat.lt_of_lt_of_le hP (Nat.pow_le_pow_right hB (by omega))
 rw [e3,Nat.mul_zero,Nat.add_zero,Nat.mod_add_div,hS,Nat.mul_add,← Nat.add_assoc,Nat.mod_add_div]

theorem lv (B:Nat):∀ n,digs 0 n B=List.replicate n 0
 | 0=>rfl
 | n+1=>by rw [digs,lv B n,List.replicate_succ',dig];simp

theorem im {w w':World} {v:Value} {xs:List Nat} {g:Nat} (h:Row .u64 w v xs) (hg:w.heap.size≤g) (_:w.heap.size≤w'.heap.size):xs≠[]→∀ b,v.ownBlock=some b→b≠g:=fun a b hb e=>by
 have:=h.lt a b hb;omega

theorem Cf (o:Tr) (u v:Value) (xs ys:List Nat) (w:World) (ht:TrRoom w o xs.length) (hu:RowT w o u xs) (hv:RowT w o v ys) (q:Digs xs) (r:Digs ys) (hL:xs.length≤100000) (hM:ys.length≤100000) :
  Calls Tryz.prog 98 #[aE o,u,v] w fun e w'=>∃ v',e=.returned v'∧v'=.slice (some ⟨w.heap.size,0,none⟩) (xs.length+ys.length) (xs.length+ys.length) ∧
   OwnN .u64 23 w' w.heap.size v' (xs.length+ys.length) (digs (val xs*val ys) (xs.length+ys.length))∧∃ o',Did w o (List.replicate xs.length (1,(ys.length:Nat),0)) w' o':=by
 obtain ⟨i0,ac,Z,am,aj⟩:=info_parts Tryz.info23;obtain ⟨ao,L,cap,rfl,P,_,_,_,_⟩:=hu.1.open;obtain ⟨bo,M,ar,rfl,H,_,_,_,_⟩:=hv.1.open;have eL:=P.out;have eM:=H.out;have hX:Hid (val xs<18446744073709551616^L):=by have:=aq (by omega) q;rw [eL] at this;exact this
 have hY:Hid (val ys<18446744073709551616^M):=by have:=aq (by omega) r;rw [eM] at this;exact this
 have c:Hid (∀ k,dig (val xs) k=xs.getD k 0):=fun k=>aR (by omega) q k
 have z:Hid (∀ k,xs.getD k 0<18446744073709551616):=fun k=>q.getD (by omega) _
 rw [eL] at hL ht ⊢;rw [eM] at hM ⊢;have HU:=aa hu;have HV:=aa hv;have HT:=aa ht;have HM:=aa eM;have C:=aa r;obtain ⟨Y,t⟩:∃ Y,Y=val ys:=⟨_,rfl⟩
 rw [← t] at hY ⊢;have y:=aa t;obtain ⟨tp,s⟩:∃ tp,tp=aE o:=⟨_,rfl⟩
 rw [← s];have ae:=aa s;clear hu hv ht P H eL eM q r s t;generalize val xs=X at *;obtain ⟨N,hN⟩:∃ N,N=L+M:=⟨_,rfl⟩
 have Q:(L:Int)+(M:Int)=(N:Int):=by omega
 rw [← hN];have ax:N≤200000:=by omega
 have HN:=aa hN;clear hN;go_enter Tryz.func98,Tryz.ntmps98;go_wp2_with (at_make;refine wpList_make_full _ rfl _ _ 32 rfl w.heap.size 23 i0 _ 1 Tryz.underlying32 ac Z am _ _ _ _ N rfl rfl (by first | exact Q | rfl) (by first | exact Q | rfl) (by rw [aj];omega) (by unfold maxLen;omega) (leR _) ?_;intro w1 p I);rw [aG] at p;have k1:=aD I;clear I;rw [← lv 18446744073709551616 N] at p;go_loopw [18] (fun i wr=>∃ (k:Nat) (o':Tr),k≤L∧i=.int .i64 (k:Int)∧Hid (Did w o (List.replicate k (1,(M:Int),0)) wr o')∧OwnN .u64 23 wr w.heap.size (.slice (some ⟨w.heap.size,0,none⟩) N N) N (digs (X%18446744073709551616^k*Y) N)) (fun i _=>L-(intOf i).toNat)
 case atStart=>exact ⟨0,o,Nat.zero_le _,rfl,Did.of_kept k1 (HT.out.1),by rw [Nat.pow_zero,Nat.mod_one,Nat.zero_mul];exact p⟩
 case round=>
  obtain ⟨k,o1,hk,rfl,HD,ho⟩:=hrel;clear p k1;by_cases hkn:k<L
  ·have az:(0:Int)≤(k:Int):=Int.natCast_nonneg _;have ad:(k:Int)<(L:Int):=by omega
   have a:TrRoom wr o1 (L-k):=HD.out.room (by rw [List.length_replicate,show k+(L-k)=L by omega];exact HT.out);have hS:=dC o1 (M:Int) wr a.1;rw [HD.out.ptr,← ae.out] at hS;go_wp2_with fail;refine hS.mono ?_;rintro e w2 ⟨rfl,o2,d2⟩;have n:=d2.kept.own ho (eS ho a.1);have l:=aa (HD.out.trans d2);have T:=HU.out.did l.out;have E:=HV.out.did l.out;clear hS ho d2 a HD;obtain ⟨_,_,_,e2,_,_,_,_,j⟩:=T.1.open;cases e2
   obtain ⟨b2,V,rfl,aA⟩:=j k hkn;have an:=z.out k;obtain ⟨zs,d⟩:∃ zs,zs=digs (X%18446744073709551616^k*Y) N:=⟨_,rfl⟩
   rw [← d] at n;have D:zs.length=N:=by rw [d,ag]
   have J:Digs zs:=by rw [d];exact ah (by omega) _ _
   obtain ⟨S,hS⟩:∃ S,S=val ((zs.drop k).take M)+Y*xs.getD k 0:=⟨_,rfl⟩
   obtain ⟨R,hR⟩:∃ R,R=S/18446744073709551616^M:=⟨_,rfl⟩
   have F:k+M<N:=by have:=HN.out;omega
   obtain ⟨B,ak⟩:=qr (S:=S) (by omega) hY.out F d (by rw [c.out k];exact hS);rw [← hR] at B ak;have O:S=val ((zs.drop k).take M)+val ys*xs.getD k 0:=by rw [← y.out];exact hS
   have G:=im (w':=w2) (g:=w.heap.size) HV.out.1 (leR _) l.out.size;have HA:=fun W' (kk:Kept af w2 W')=>lF w.heap.size w.heap.size N N k M (N-k) (xs.getD k 0) zs ys (.slice bo M ar) W' (kk.own n (fun _ _ f=>f)) D J (by omega) (E.1.grew kk) HM.out C.out G an R S O hR
   have U:Hid (∀ W',OwnN .u64 23 W' w.heap.size (.slice (some ⟨w.heap.size,0,none⟩) N N) N (zs.take k ++ (digs S M ++ zs.drop (k+M)))→OwnN .u64 23 (W'.setCell ⟨w.heap.size,k+M,none⟩ (.int .u64 (R:Int))) w.heap.size (.slice (some ⟨w.heap.size,0,none⟩) N N) N (digs (X%18446744073709551616^(k+1)*Y) N)):=fun W' h=>by
    have:=(World.ownsRow.stored h (k+M) (.int .u64 (R:Int))).1;unfold OwnN;rw [← B,← fM zs _ k M R (ag _ _ _) (by omega),List.map_set];exact this
   have m:∀ W',OwnN .u64 23 W' w.heap.size (.slice (some ⟨w.heap.size,0,none⟩) N N) N (zs.take k ++ (digs S M ++ zs.drop (k+M)))→W'.cell? ⟨w.heap.size,k+M,none⟩=some (.int .u64 (zs.getD (k+M) 0:Nat)):=fun W' h=>eY h D (ag _ _ _) F
   have ap:∀ W',OwnN .u64 23 W' w.heap.size (.slice (some ⟨w.heap.size,0,none⟩) N N) N (zs.take k ++ (digs S M ++ zs.drop (k+M)))→W'.frozen? ⟨w.heap.size,k+M,none⟩=false:=fun W' h=>World.ownsRow.frozenAt h (k+M)
   have W:¬ dx o2 w.heap.size:=eS n (l.out.room (k:=0) (by rw [List.length_append,List.length_replicate];exact HT.out.less (by simp;omega))).1 _ rfl;clear hS O hR d J D T E j z c C y G B n;generalize xs.getD k 0=x at *;generalize zs.getD (k+M) 0=zz at *;generalize zs.take k ++ (digs S M ++ zs.drop (k+M))=zs' at *;have ay:(k:Int)+(M:Int)<(N:Int):=by omega
   have au:(0:Int)≤(k:Int)+(M:Int):=by omega
   have ab:((k:Int)+(M:Int)).toNat=k+M:=by omega
   go_wp2_with fail;go_region_with (go_at_call 136;refine (HA _ ((ai _ _).drew)).mono ?_;rintro e w3 ⟨rfl,A,k3⟩;have aw:=m _ A;have av:=ap _ A)
   all_goals
    go_wp2_with fail;go_roundw
    case rel=>
     have k4:Kept (fun b=>b=w.heap.size) w2 (w3.setCell ⟨w.heap.size,k+M,none⟩ (.int .u64 (R:Int))):=(((ai _ _).drew).trans k3).setCell _ (fun _=>rfl) _;exact ⟨k+1,o2,by omega,by go_num,by unfold Hid;rw [List.replicate_succ'];exact l.out.wroteNew k4 (leR _) W,U.out _ A⟩
    case measure=>simp [intOf];omega
  ·have ad:¬ (k:Int)<(L:Int):=by omega
   obtain rfl:k=L:=by omega
   rw [al hX.out] at ho;clear z c C y;go_wp2_with fail;go_ret;exact ⟨_,rfl,by rw [HN.out];rfl,ho,o1,HD.out⟩

abbrev refusal (n:Int):PanicEntry:={ v:=.iface 33 (.int .i64 n),recovered:=false }

theorem oH (p:Addr) (w:World) :
  CallsD Tryz.prog 134 #[.pointer (some p)] .returning w fun e u' w'=>e=.returned (.tuple #[])∧u'=.returning∧w'=w:=by
 refine callsD_of_wpS Tryz.func134 rfl fun c₀ cs hu=>?_
 apply wpS_seq;apply wpS_region;simp [wpOpsS,go_sem,recoverD,hu,Tryz.ntmps134,Exit.thenS];apply wpS_seq;apply wpS_seq;apply wpS_region;simp [wpOpsS,go_sem,Exit.thenS];refine wpS_cond (t:=true) (by simp [Act.eval,Array.replicate]) ?_;simp only [if_true];refine wpS_of_wp (wp_ret ?_);cases c₀
 simp_all [bodyPostS,results,Tryz.results134,Exit.thenS]

theorem zt (p:Addr) (x n:Int) (a:List PanicEntry) (w:World) (hc:w.cell? p=some (.int .i64 x)) (hz:w.frozen? p=false) :
  CallsD Tryz.prog 134 #[.pointer (some p)] (.panicking (refusal n :: a)) w fun e u' w'=>
   e=.returned (.tuple #[])∧u'=.panicking ({ refusal n with recovered:=true } :: a)∧w'=w.setCell p (.int .i64 n):=by
 refine callsD_of_wpS Tryz.func134 rfl fun c₀ cs hu=>?_
 apply wpS_seq;apply wpS_region;simp [wpOpsS,go_sem,recoverD,hu,Tryz.ntmps134,Exit.thenS];apply wpS_seq;apply wpS_seq;apply wpS_region;simp [wpOpsS,go_sem,Exit.thenS];refine wpS_cond (t:=false) (by simp [Act.eval,Array.replicate]) ?_;simp only [Bool.false_eq_true,if_false];refine wpS_of_wp (wp_skip ?_);simp only [Exit.thenS];refine wpS_of_wp ?_;have c:∀ w:World,(Instr.typeAssert (.iface 33 (.int .i64 n)) 20 33 true).run Tryz.prog w=.ok (.tuple #[.int .i64 n,.bool true]) w:=fun w=>by kernel_rfl
 have b:∀ (x:Bool) (w:World),(Op.unary .not (.bool x)).run Tryz.prog w=.ok (.bool (!x)) w:=fun _ _=>rfl
 have e:(#[Value.pointer (some p)] ++ ((((Array.replicate 15 undef).setIfInBounds 3 (Value.iface 33 (Value.int IntKind.i64 n))).setIfInBounds 0 (Value.iface 33 (Value.int IntKind.i64 n))).setIfInBounds 4 (Value.iface 33 (Value.int IntKind.i64 n))).setIfInBounds 5 (Value.bool false):Array Value)=#[.pointer (some p),.iface 33 (.int .i64 n),undef,undef,.iface 33 (.int .i64 n),.iface 33 (.int .i64 n),.bool false,undef,undef,undef,undef,undef,undef,undef,undef,undef]:=rfl;rw [e];clear e;go_wp2;simp [bodyPostS,results,Tryz.results134]

theorem iP (f:Nat) (cap:Array Value) (w:World) (Q:Int→World→Prop) (he:∀ args w,(callFunc f args).run Tryz.prog w=.ok (.enter f args) w)
  (h:Calls Tryz.prog f cap (w.alloc (.cells #[.int .i64 0] 33)) fun e w'=>w'.heap[w.heap.size]? = some (.cells #[.int .i64 0] 33 (0,0)) ∧
   ((e=.returned (.tuple #[])∧Q 0 w')∨∃ n,e=.panicked [refusal n]∧Q n w')) :
  Calls Tryz.prog 95 #[.func (.func f) #[] cap] w fun e w'=>∃ n w1,e=.returned (.int .i64 n)∧(Q n w1∧w1.heap[w.heap.size]? = some (.cells #[.int .i64 0] 33 (0,0)))∧w'=w1.setCell ⟨w.heap.size,0,none⟩ (.int .i64 n):=by
 have c:=eR;go_enter_defers Tryz.func95,Tryz.ntmps95
 go_wp2_with fail;refine h.mono ?_;rintro e w1 ⟨hb,(⟨rfl,hq⟩ | ⟨n,rfl,hq⟩)⟩
 ·have hc:w1.cell? ⟨w.heap.size,0,none⟩=some (.int .i64 0):=by simp [World.cell?,hb]
  have hz:w1.frozen? ⟨w.heap.size,0,none⟩=false:=by simp [World.frozen?,hb]
  clear h;go_wp2_with fail;refine leaves_cons (f:=134) (args:=#[.pointer (some ⟨w.heap.size,0,none⟩)]) (by simp) (by simp [go_sem]) ?_;refine (oH ⟨w.heap.size,0,none⟩ _).mono ?_;rintro e u' b ⟨rfl,rfl,rfl⟩;have a:(w1.setCell ⟨w.heap.size,0,none⟩ (.int .i64 0)).cell? ⟨w.heap.size,0,none⟩=some (.int .i64 0):=World.cell?_setCell_same' _ _ _ (by rw [hc];rfl);simp [Leaves,settle,results,Tryz.results95,go_sem,a];exact ⟨_,⟨hq,hb⟩,rfl⟩
 ·have hc:w1.cell? ⟨w.heap.size,0,none⟩=some (.int .i64 0):=by simp [World.cell?,hb]
  have hz:w1.frozen? ⟨w.heap.size,0,none⟩=false:=by simp [World.frozen?,hb]
  clear h;refine leaves_cons (f:=134) (args:=#[.pointer (some ⟨w.heap.size,0,none⟩)]) (by simp) (by simp [go_sem]) ?_;refine (zt ⟨w.heap.size,0,none⟩ 0 n [] _ hc hz).mono ?_;rintro e u' b ⟨rfl,rfl,rfl⟩;have a:(w1.setCell ⟨w.heap.size,0,none⟩ (.int .i64 n)).cell? ⟨w.heap.size,0,none⟩=some (.int .i64 n):=World.cell?_setCell_same' _ _ _ (by rw [hc];rfl);simp [Leaves,settle,results,Tryz.results95,go_sem,a];exact ⟨_,⟨hq,hb⟩,rfl⟩

theorem ji (n:Int) (w:World):Calls Tryz.prog 120 #[.bool false,.int .i64 n] w fun e w'=>e=.returned (.tuple #[])∧w'=w:=by
 go_enter Tryz.func120,Tryz.ntmps120;go_wp2;go_end0
 exact ⟨rfl,rfl⟩

theorem iu (n:Int) (w:World):Calls Tryz.prog 120 #[.bool true,.int .i64 n] w fun e w'=>e=.panicked [refusal n]∧w'=w:=by
 go_enter Tryz.func120,Tryz.ntmps120;go_wp2;exact ⟨rfl,rfl,rfl⟩

theorem sP (ao bo:Option Addr) (L M cap a:Nat) (w:World) :
  Calls Tryz.prog 97 #[.slice ao L cap,.slice bo M a] w fun e w'=>((L≤300∧M≤300∧e=.returned (.tuple #[]))∨(¬ (L≤300∧M≤300)∧e=.panicked [refusal 2]))∧w'=w:=by
 have hN:=ji 2 w;have hY:=iu 2 w;by_cases h:L≤300∧M≤300
 ·have g:¬ max (L:Int) (M:Int) > 300:=by omega
  go_enter Tryz.func97,Tryz.ntmps97;go_wp2_with fail;refine hN.mono ?_;rintro e w' ⟨rfl,rfl⟩;go_wp2;go_end0
  exact ⟨.inl ⟨h.1,h.2,rfl⟩,rfl⟩
 ·have g:max (L:Int) (M:Int) > 300:=by omega
  go_enter Tryz.func97,Tryz.ntmps97;go_wp2_with fail;refine hY.mono ?_;rintro e w' ⟨rfl,rfl⟩;exact ⟨rfl,.inr ⟨h,rfl⟩,rfl⟩

def Box (w:World) (b:Nat) (v:Value) (t:TypeId):Prop:=w.heap[b]? = some (.cells #[v] t (0,0))

theorem Box.cell {w:World} {b:Nat} {v:Value} {t:TypeId} (h:Box w b v t):w.cell? ⟨b,0,none⟩=some v:=by
 unfold Box at h;simp [World.cell?,h]

theorem Box.free {w:World} {b:Nat} {v:Value} {t:TypeId} (h:Box w b v t):w.frozen? ⟨b,0,none⟩=false:=by
 unfold Box at h;simp [World.frozen?,h]

theorem Box.lt {w:World} {b:Nat} {v:Value} {t:TypeId} (h:Box w b v t):b<w.heap.size:=lt_of_block h

theorem Box.new (w:World) (v:Value) (t:TypeId):Box (w.alloc (.cells #[v] t)) w.heap.size v t:=heap_alloc_new w _

theorem Box.kept {S:Nat→Prop} {w w':World} {b:Nat} {v:Value} {t:TypeId} (h:Box w b v t) (k:Kept S w w') (hs:¬ S b):Box w' b v t:=(k.block b h.lt hs).trans h

theorem Box.grew {w w':World} {b:Nat} {v:Value} {t:TypeId} (h:Box w b v t) (k:Kept af w w'):Box w' b v t:=h.kept k (fun f=>f)

theorem Box.alloc {w:World} {b:Nat} {v:Value} {t:TypeId} (h:Box w b v t) (o:Obj):Box (w.alloc o) b v t:=ap h

theorem Box.drew {w:World} {b:Nat} {v:Value} {t:TypeId} (h:Box w b v t):Box w.drew b v t:=h

theorem Box.set {w:World} {b:Nat} {v:Value} {t:TypeId} (h:Box w b v t) (u:Value):Box (w.setCell ⟨b,0,none⟩ u) b u t:=by
 have:=heap_setCell_same w b 0 #[v] t u h;simpa [Box] using this

theorem Box.other {w:World} {b:Nat} {v:Value} {t:TypeId} (h:Box w b v t) (a:Addr) (c:b≠a.block) (u:Value):Box (w.setCell a u) b v t:=dj h c u

theorem ar (w:World) (b:Nat) (u:Value):Kept (fun x=>x=b) w (w.setCell ⟨b,0,none⟩ u):=(ai (fun x=>x=b) w).setCell ⟨b,0,none⟩ (fun _=>rfl) u

theorem zV (w:World) (v1:Value) (t1:TypeId):Kept af w (w.alloc (.cells #[v1] t1))∧Box (w.alloc (.cells #[v1] t1)) w.heap.size v1 t1∧(w.alloc (.cells #[v1] t1)).heap.size=w.heap.size+1:=by
 exact ⟨(ai af w).alloc _,Box.new w _ _,by simp⟩

theorem AH (w:World) (v1 v2:Value) (t1 t2:TypeId):Kept af w ((w.alloc (.cells #[v1] t1)).alloc (.cells #[v2] t2))∧Box ((w.alloc (.cells #[v1] t1)).alloc (.cells #[v2] t2)) w.heap.size v1 t1∧Box ((w.alloc (.cells #[v1] t1)).alloc (.cells #[v2] t2)) (w.heap.size+1) v2 t2∧((w.alloc (.cells #[v1] t1)).alloc (.cells #[v2] t2)).heap.size=w.heap.size+1+1:=by
 obtain ⟨k0,b1,hs⟩:=zV w v1 t1;exact ⟨k0.alloc _,b1.alloc _,by rw [← hs];exact Box.new _ _ _,by rw [← hs];simp⟩

theorem lQ (w:World) (v1 v2 v3:Value) (t1 t2 t3:TypeId):Kept af w (((w.alloc (.cells #[v1] t1)).alloc (.cells #[v2] t2)).alloc (.cells #[v3] t3))∧Box (((w.alloc (.cells #[v1] t1)).alloc (.cells #[v2] t2)).alloc (.cells #[v3] t3)) w.heap.size v1 t1∧Box (((w.alloc (.cells #[v1] t1)).alloc (.cells #[v2] t2)).alloc (.cells #[v3] t3)) (w.heap.size+1) v2 t2∧Box (((w.alloc (.cells #[v1] t1)).alloc (.cells #[v2] t2)).alloc (.cells #[v3] t3)) (w.heap.size+1+1) v3 t3∧(((w.alloc (.cells #[v1] t1)).alloc (.cells #[v2] t2)).alloc (.cells #[v3] t3)).heap.size=w.heap.size+1+1+1:=by
 obtain ⟨k0,b1,b2,hs⟩:=AH w v1 v2 t1 t2;exact ⟨k0.alloc _,b1.alloc _,b2.alloc _,by rw [← hs];exact Box.new _ _ _,by rw [← hs];simp⟩

theorem jI (w:World) (v1 v2 v3 v4:Value) (t1 t2 t3 t4:TypeId):Kept af w ((((w.alloc (.cells #[v1] t1)).alloc (.cells #[v2] t2)).alloc (.cells #[v3] t3)).alloc (.cells #[v4] t4))∧Box ((((w.alloc (.cells #[v1] t1)).alloc (.cells #[v2] t2)).alloc (.cells #[v3] t3)).alloc (.cells #[v4] t4)) w.heap.size v1 t1∧Box ((((w.alloc (.cells #[v1] t1)).alloc (.cells #[v2] t2)).alloc (.cells #[v3] t3)).alloc (.cells #[v4] t4)) (w.heap.size+1) v2 t2∧Box ((((w.alloc (.cells #[v1] t1)).alloc (.cells #[v2] t2)).alloc (.cells #[v3] t3)).alloc (.cells #[v4] t4)) (w.heap.size+1+1) v3 t3∧Box ((((w.alloc (.cells #[v1] t1)).alloc (.cells #[v2] t2)).alloc (.cells #[v3] t3)).alloc (.cells #[v4] t4)) (w.heap.size+1+1+1) v4 t4∧((((w.alloc (.cells #[v1] t1)).alloc (.cells #[v2] t2)).alloc (.cells #[v3] t3)).alloc (.cells #[v4] t4)).heap.size=w.heap.size+1+1+1+1:=by
 obtain ⟨k0,b1,b2,b3,hs⟩:=lQ w v1 v2 v3 t1 t2 t3;exact ⟨k0.alloc _,b1.alloc _,b2.alloc _,b3.alloc _,by rw [← hs];exact Box.new _ _ _,by rw [← hs];simp⟩

theorem sM (w:World) (v1 v2 v3 v4 v5:Value) (t1 t2 t3 t4 t5:TypeId):Kept af w (((((w.alloc (.cells #[v1] t1)).alloc (.cells #[v2] t2)).alloc (.cells #[v3] t3)).alloc (.cells #[v4] t4)).alloc (.cells #[v5] t5))∧Box (((((w.alloc (.cells #[v1] t1)).alloc (.cells #[v2] t2)).alloc (.cells #[v3] t3)).alloc (.cells #[v4] t4)).alloc (.cells #[v5] t5)) w.heap.size v1 t1∧Box (((((w.alloc (.cells #[v1] t1)).alloc (.cells #[v2] t2)).alloc (.cells #[v3] t3)).alloc (.cells #[v4] t4)).alloc (.cells #[v5] t5)) (w.heap.size+1) v2 t2∧Box (((((w.alloc (.cells #[v1] t1)).alloc (.cells #[v2] t2)).alloc (.cells #[v3] t3)).alloc (.cells #[v4] t4)).alloc (.cells #[v5] t5)) (w.heap.size+1+1) v3 t3∧Box (((((w.alloc (.cells #[v1] t1)).alloc (.cells #[v2] t2)).alloc (.cells #[v3] t3)).alloc (.cells #[v4] t4)).alloc (.cells #[v5] t5)) (w.heap.size+1+1+1) v4 t4∧Box (((((w.alloc (.cells #[v1] t1)).alloc (.cells #[v2] t2)).alloc (.cells #[v3] t3)).alloc (.cells #[v4] t4)).alloc (.cells #[v5] t5)) (w.heap.size+1+1+1+1) v5 t5∧(((((w.alloc (.cells #[v1] t1)).alloc (.cells #[v2] t2)).alloc (.cells #[v3] t3)).alloc (.cells #[v4] t4)).alloc (.cells #[v5] t5)).heap.size=w.heap.size+1+1+1+1+1:=by
 obtain ⟨k0,b1,b2,b3,b4,hs⟩:=jI w v1 v2 v3 v4 t1 t2 t3 t4;exact ⟨k0.alloc _,b1.alloc _,b2.alloc _,b3.alloc _,b4.alloc _,by rw [← hs];exact Box.new _ _ _,by rw [← hs];simp⟩

theorem tg (w:World) (v1 v2 v3 v4 v5 v6:Value) (t1 t2 t3 t4 t5 t6:TypeId):Kept af w ((((((w.alloc (.cells #[v1] t1)).alloc (.cells #[v2] t2)).alloc (.cells #[v3] t3)).alloc (.cells #[v4] t4)).alloc (.cells #[v5] t5)).alloc (.cells #[v6] t6))∧Box ((((((w.alloc (.cells #[v1] t1)).alloc (.cells #[v2] t2)).alloc (.cells #[v3] t3)).alloc (.cells #[v4] t4)).alloc (.cells #[v5] t5)).alloc (.cells #[v6] t6)) w.heap.size v1 t1∧Box ((((((w.alloc (.cells #[v1] t1)).alloc (.cells #[v2] t2)).alloc (.cells #[v3] t3)).alloc (.cells #[v4] t4)).alloc (.cells #[v5] t5)).alloc (.cells #[v6] t6)) (w.heap.size+1) v2 t2∧Box ((((((w.alloc (.cells #[v1] t1)).alloc (.cells #[v2] t2)).alloc (.cells #[v3] t3)).alloc (.cells #[v4] t4)).alloc (.cells #[v5] t5)).alloc (.cells #[v6] t6)) (w.heap.size+1+1) v3 t3∧Box ((((((w.alloc (.cells #[v1] t1)).alloc (.cells #[v2] t2)).alloc (.cells #[v3] t3)).alloc (.cells #[v4] t4)).alloc (.cells #[v5] t5)).alloc (.cells #[v6] t6)) (w.heap.size+1+1+1) v4 t4∧Box ((((((w.alloc (.cells #[v1] t1)).alloc (.cells #[v2] t2)).alloc (.cells #[v3] t3)).alloc (.cells #[v4] t4)).alloc (.cells #[v5] t5)).alloc (.cells #[v6] t6)) (w.heap.size+1+1+1+1) v5 t5∧Box ((((((w.alloc (.cells #[v1] t1)).alloc (.cells #[v2] t2)).alloc (.cells #[v3] t3)).alloc (.cells #[v4] t4)).alloc (.cells #[v5] t5)).alloc (.cells #[v6] t6)) (w.heap.size+1+1+1+1+1) v6 t6∧((((((w.alloc (.cells #[v1] t1)).alloc (.cells #[v2] t2)).alloc (.cells #[v3] t3)).alloc (.cells #[v4] t4)).alloc (.cells #[v5] t5)).alloc (.cells #[v6] t6)).heap.size=w.heap.size+1+1+1+1+1+1:=by
 obtain ⟨k0,b1,b2,b3,b4,b5,hs⟩:=sM w v1 v2 v3 v4 v5 t1 t2 t3 t4 t5;exact ⟨k0.alloc _,b1.alloc _,b2.alloc _,b3.alloc _,b4.alloc _,b5.alloc _,by rw [← hs];exact Box.new _ _ _,by rw [← hs];simp⟩

end Go.Proofs.YtcemlfokmjjiaaaGreatDoor
