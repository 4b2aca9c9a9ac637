/- Put together of: Prw1 Prw2 Prw3 Prw4. -/
import Derived.Test.YtpkmoamgpjcdeaaGreatDoorBY11
import Derived.Test.YtpkmoamgpjcdeaaGreatDoorBY12

namespace Go.Proofs.YtpkmoamgpjcdeaaGreatDoor
open _root_.Go.Proofs.Tryz
set_option maxRecDepth 100000
set_option maxHeartbeats 4000000
open Go.RowKit
variable {K L V X c fc fl k n:Nat} {P:Program} {Q:Exit->Act->World->Prop} {S:World->Prop} {ao bo fo:OA} {at_:Int} {fs:LN} {m:List Ev} {o':Tr} {ops:Array Oper} {w w':World}

theorem vS (p:Addr) (w:World) :
  CallsD prog 56 #[.pointer (some p)] .returning w fun e u' w'=>e=.returned (.tuple #[])/\u'=.returning/\w'=w:=by
 refine callsD_of_wpS func56 rfl fun c₀ cs hu=>?_
 apply wpS_seq;apply wpS_region;simp [wpOpsS,go_sem,recoverD,hu,ntmps56,Exit.thenS];apply wpS_seq;apply wpS_seq;apply wpS_region;simp [wpOpsS,go_sem,Exit.thenS];refine wpS_cond (t:=true) (by simp [Act.eval,Array.replicate]) ?_;simp only [if_true];refine wpS_of_wp (wp_ret ?_);cases c₀
 simp_all [bodyPostS,results,results56,Exit.thenS]

theorem Fv (p:Addr) (x n:Int) (a:List PanicEntry) (w:World) (hc:w.cell? p=some (.int .i64 x)) (hz:w.frozen? p=false) :
  CallsD prog 56 #[.pointer (some p)] (.panicking (refusal n :: a)) w fun e u' w'=>
   e=.returned (.tuple #[])/\u'=.panicking ({ refusal n with recovered:=true } :: a)/\w'=w.setCell p (.int .i64 n):=by
 refine callsD_of_wpS func56 rfl fun c₀ cs hu=>?_
 apply wpS_seq;apply wpS_region;simp [wpOpsS,go_sem,recoverD,hu,ntmps56,Exit.thenS];apply wpS_seq;apply wpS_seq;apply wpS_region;simp [wpOpsS,go_sem,Exit.thenS];refine wpS_cond (t:=false) (by simp [Act.eval,Array.replicate]) ?_;simp only [mg,if_false];refine wpS_of_wp (wp_skip ?_);simp only [Exit.thenS];refine wpS_of_wp ?_;have b:∀ w:World,(Instr.typeAssert (.iface 35 (.int .i64 n)) 20 35 true).run prog w=.ok (.tuple #[.int .i64 n,.bool true]) w:=fun w=>by kernel_rfl
 have e:(#[Value.pointer (some p)] ++ ((((Array.replicate 15 undef).setIfInBounds 3 (Value.iface 35 (Value.int IntKind.i64 n))).setIfInBounds 0 (Value.iface 35 (Value.int IntKind.i64 n))).setIfInBounds 4 (Value.iface 35 (Value.int IntKind.i64 n))).setIfInBounds 5 (Value.bool false):Array Value)=#[.pointer (some p),.iface 35 (.int .i64 n),undef,undef,.iface 35 (.int .i64 n),.iface 35 (.int .i64 n),.bool false,undef,undef,undef,undef,undef,undef,undef,undef,undef]:=rfl;rw [e];clear e;go_wp2;simp [bodyPostS,results,results56]

theorem oW (f:Nat) (b:Array Value) (w:World) (Q:Int->World->Prop) (he:∀ args w,(callFunc f args).run prog w=.ok (.enter f args) w)
  (h:ClZ f b (w.alloc (.cells #[.int .i64 0] 35)) fun e w'=>w'.heap[w.heap.size]? = some (.cells #[.int .i64 0] 35 (0,0)) /\
   ((e=.returned (.tuple #[])/\Q 0 w')\/∃ n,e=.panicked [refusal n]/\Q n w')) :
  ClZ 21 #[.func (.func f) #[] b] w fun e w'=>∃ n w1,e=.returned (.int .i64 n)/\(Q n w1/\w1.heap[w.heap.size]? = some (.cells #[.int .i64 0] 35 (0,0)))/\w'=w1.setCell ⟨w.heap.size,0,none⟩ (.int .i64 n):=by
 go_enter_defers func21,ntmps21
 go_wp2_with fail;refine h.mono ?_;rintro e w1 ⟨hb,(⟨rfl,hq⟩ | ⟨n,rfl,hq⟩)⟩
 ·have hc:w1.cell? ⟨w.heap.size,0,none⟩=some (.int .i64 0):=by simp [World.cell?,hb]
  have hz:w1.frozen? ⟨w.heap.size,0,none⟩=false:=by simp [World.frozen?,hb]
  clear h;go_wp2_with fail;refine leaves_cons (f:=56) (args:=#[.pointer (some ⟨w.heap.size,0,none⟩)]) (by simp) (by simp [go_sem]) ?_;refine (vS ⟨w.heap.size,0,none⟩ _).mono ?_;rintro e u' c ⟨rfl,rfl,rfl⟩;have a:(w1.setCell ⟨w.heap.size,0,none⟩ (.int .i64 0)).cell? ⟨w.heap.size,0,none⟩=some (.int .i64 0):=World.cell?_setCell_same' _ _ _ (by rw [hc];rfl);simp [Leaves,settle,results,results21,go_sem,a];exact ⟨_,⟨hq,hb⟩,rfl⟩
 ·have hc:w1.cell? ⟨w.heap.size,0,none⟩=some (.int .i64 0):=by simp [World.cell?,hb]
  have hz:w1.frozen? ⟨w.heap.size,0,none⟩=false:=by simp [World.frozen?,hb]
  clear h;refine leaves_cons (f:=56) (args:=#[.pointer (some ⟨w.heap.size,0,none⟩)]) (by simp) (by simp [go_sem]) ?_;refine (Fv ⟨w.heap.size,0,none⟩ 0 n [] _ hc hz).mono ?_;rintro e u' c ⟨rfl,rfl,rfl⟩;have a:(w1.setCell ⟨w.heap.size,0,none⟩ (.int .i64 n)).cell? ⟨w.heap.size,0,none⟩=some (.int .i64 n):=World.cell?_setCell_same' _ _ _ (by rw [hc];rfl);simp [Leaves,settle,results,results21,go_sem,a];exact ⟨_,⟨hq,hb⟩,rfl⟩

theorem eZ (n:Int) (w:World):ClZ 24 #[.bool false,.int .i64 n] w fun e w'=>e=.returned (.tuple #[])/\w'=w:=by
 delta ClZ;go_in;go_wp2;go_end0
 exact ⟨rfl,rfl⟩

theorem ic (n:Int) (w:World):ClZ 24 #[.bool true,.int .i64 n] w fun e w'=>e=.panicked [refusal n]/\w'=w:=by
 delta ClZ;go_in;go_wp2;exact ⟨rfl,rfl,rfl⟩

theorem gO (ao:OA) (n a:Nat) (w:World):ClZ 29 #[.slice ao n a,.int .i64 0] w fun e w'=>e=.returned (.slice ao n a)/\w'=w:=by
 have hR:=eZ 0 w;delta ClZ;go_in;go_wp2_with fail;refine hR.mono ?_;rintro e w' ⟨rfl,rfl⟩;go_wp2;go_ret;exact ⟨rfl,rfl⟩

theorem jB (ao bo:OA) (n ac K l bc:Nat) (w:World):ClZ 31 #[.agg (mzA ao n ac K bo l bc),.int .i64 0] w fun e w'=>e=.returned (.agg (mzA ao n ac K bo l bc))/\Kept af w w':=by
 have hR:=eZ 0;obtain ⟨W,hW⟩:=aj ((w.alloc (.cells (mzA ao n ac K bo l bc) 71)).alloc (.cells #[.slice none 0 0,.int .u64 0,.slice none 0 0] 71))
 have k0:Kept af w W:=by rw [hW];exact ((ah af w).alloc _).alloc _
 have b1:W.heap[w.heap.size]? = some (.cells (mzA ao n ac K bo l bc) 71 (0,0)):=by rw [hW];exact aw (heap_alloc_new _ _)
 have b2:W.heap[w.heap.size+1]? = some (.cells #[.slice none 0 0,.int .u64 0,.slice none 0 0] 71 (0,0)):=by
  rw [hW];have:=heap_alloc_new (w.alloc (.cells (mzA ao n ac K bo l bc) 71)) (.cells #[.slice none 0 0,.int .u64 0,.slice none 0 0] 71)
  rwa [World.size_alloc] at this
 obtain ⟨c0,c1,c2⟩:=ax b1;obtain ⟨f0,f1,f2⟩:=kC b2;obtain ⟨d0,d1,d2⟩:=ax (tE b2 (.slice ao n ac) (.int .u64 (K:Nat)) (.slice bo l bc));obtain ⟨g0,g1,g2⟩:=ax b2;have a:=aa (k0.next (mO W (w.heap.size+1) (.slice ao n ac) (.int .u64 (K:Nat)) (.slice bo l bc)) (fun x hx e=>by omega));have HW:=aa hW;clear hW k0 b1 b2;delta ClZ;go_in;go_wp2_with (rw [<- HW.o]);refine (hR W).mono ?_;rintro e w1 ⟨rfl,rfl⟩;clear hR;go_wp2_with fail;exact bodyPost_ret (v:=.agg (mzA ao n ac K bo l bc)) (by simp [results,results31,go_sem,d0,d1,d2]) rfl ⟨rfl,a.o⟩

theorem Aa (v:Value) (xs:LN) (n:Nat) (w:World) (h:Row .u64 w v xs) (hd:Digs xs) (hn:n<=1000000:=by omega) :
  ClZ 83 #[v,.int .i64 (n:Nat)] w fun e w'=>e=.returned (.slice (some ⟨w.heap.size,0,none⟩) n n)/\OwnN .u64 24 w' w.heap.size (.slice (some ⟨w.heap.size,0,none⟩) n n) n (digs (val xs) n)/\Kept af w w':=by
 obtain ⟨i0,i,r,k,s⟩:=info_parts Tryz.info24;obtain ⟨ao,q,o,rfl,hL,_,_,_,_⟩:=h.open;have HD:=aa (qG hd n);have HS:HzD (∀ W,Kept af w W->0<((xs.take n).map fun z:Nat=>Value.int .u64 (z:Int)).length->∃ ad,ao=some ad/\∀ j u,((xs.take n).map fun z:Nat=>Value.int .u64 (z:Int))[j]? = some u->W.cell? (ad.add j)=some u):=fun W hk hp=>by
  obtain ⟨ad,e,hs⟩:=h.source hk (by rw [cJ,aR] at hp;rw [cJ];omega);refine ⟨ad,e,fun j u hj=>hs j u ?_⟩;rw [List.map_take,eG] at hj
  split at hj
  ·exact hj
  ·cases hj
 have HO:=aa (jE .u64 (xs.take n));have b:HzD (((xs.take n).map fun z:Nat=>Value.int .u64 (z:Int)).length=Nat.min q n):=by
  unfold HzD;rw [cJ,aR,hL.o];exact Nat.min_comm n q
 obtain ⟨CS,c⟩:=aj ((xs.take n).map (fun z:Nat=>Value.int .u64 (z:Int)))
 rw [<- c] at HS HO b;have m:HzD (CS=(xs.take n).map (fun z:Nat=>Value.int .u64 (z:Int))):=c;have t:Nat.min q n<=n:=Nat.min_le_right _ _;clear c h hd;delta ClZ;go_in
 go_wp2_with (at_make;refine wpList_make_full _ rfl _ _ 23 rfl w.heap.size 24 i0 _ 1 underlying23 i r k _ _ _ _ n rfl rfl rfl rfl (by rw [s];omega) (by unfold maxLen;omega) (leR _) ?_;intro w1 d g;rw [bD] at d;have k1:=bf g;obtain ⟨w2,p,f,k2⟩:=ew (P:=prog) 23 23 3 24 w.heap.size 0 n n (some ⟨w.heap.size,0,none⟩) ao q o _ 24 CS underlying23 (by rw [i];simp [k]) (iy d) b.o (fun hp=>⟨rfl,HS.o _ k1 hp⟩) (by have:=b.o;simp;omega) HO.o;have l:HzD _:=f;clear f d g);go_ret;have a:=l.o;rw [m.o,ig] at a;rw [HD.o] at a;have kk:=fH k1 k2 (leR _)
 exact ⟨rfl,dZ a (by rw [ag]) (by unfold maxLen;omega) (leR _),kk⟩

theorem BA (X k:Nat):dig X (k/8)/2^(8*(k%8))%256=dig X k 256:=by
 unfold dig;have e:(18446744073709551616:Nat)^(k/8)=256^(8*(k/8)):=by rw [aW]
 have e0:(2:Nat)^(8*(k%8))=256^(k%8):=by rw [aW]
 have e3:(256:Nat)^k=256^(8*(k/8))*256^(k%8):=by rw [<- aL];congr 1;omega
 rw [e,e0,e3,<- di];generalize X/256^(8*(k/8))=x;have h:k%8=0\/k%8=1\/k%8=2\/k%8=3\/k%8=4\/k%8=5\/k%8=6\/k%8=7:=by omega
 rcases h with h | h | h | h | h | h | h | h <;> rw [h] <;> omega

theorem qd (V n:Nat):∀ i j,j<i->(bes V n i)[j]? = some (dig V (n-1-j) 256)
 | 0,j,h=>by omega
 | i+1,j,h=>by
  unfold bes;by_cases e:j<i
  ·rw [im (by rw [dt];exact e)];exact qd V n i j e
  ·obtain rfl:j=i:=by omega
   rw [io (by rw [dt];omega),dt,cj];rfl

def byk (X z k:Nat):LN:=List.replicate (z-k) 0 ++ (bes X z z).drop (z-k)

theorem ED {z:Nat} (h:k<z):(byk X z k).set (z-1-k) (dig X k 256)=byk X z (k+1):=by
 refine List.ext_getElem? fun j=>?_
 unfold byk;rw [List.getElem?_set,bk,bw,cV,dt];by_cases h1:z-1-k=j
 ·rw [ai h1,cf,io (by rw [bw];omega),bw,fd,qd _ _ _ _ (by omega),show z-1-(z-(k+1)+(j-(z-(k+1))))=k by omega]
 ·rw [ar h1];by_cases h2:j<z-(k+1)
  ·rw [im (by rw [bw];omega),im (by rw [bw];omega),eF,eF,cf,cf]
  ·rw [io (by rw [bw];omega),io (by rw [bw];omega),bw,bw,fd,fd]
   congr 1
   omega

theorem GO {z:Nat} (h:k<z):(byk X z k)[z-1-k]? = some 0:=by
 unfold byk;rw [im (by rw [bw];omega),eF,cf]

theorem Gz (xo:OA) (n xc X z:Nat) (w:World) (h:Row .u64 w (.slice xo n xc) (digs X n)) (hz:z<=8*n) (hn:n<=100000:=by omega) :
  ClZ 26 #[.slice xo n xc,.int .i64 (z:Nat)] w fun e w'=>∃ vo vn vc,e=.returned (.slice vo vn vc)/\Row .u8 w' (.slice vo vn vc) (bes X z z)/\Fresh w (.slice vo vn vc)/\Kept af w w':=by
 obtain ⟨i0,o,r,s,t⟩:=info_parts Tryz.info5;have HX:=aa h;have hm:max (z:Int) 0=(z:Int):=by omega
 clear h;delta ClZ;go_in;go_wp2_with (at_make;refine wpList_make_full _ rfl _ _ 28 rfl w.heap.size 5 i0 _ 1 underlying28 o r s _ _ _ _ z rfl rfl rfl rfl (by rw [t];omega) (by unfold maxLen;omega) (leR _) ?_;intro w1 f l);rw [bD] at f;have k1:=bf l;go_loopw [11] (fun i wr=>∃ k:Nat,k<=z/\i=.int .i64 k/\OwnN .u8 5 wr w.heap.size (.slice (some ⟨w.heap.size,0,none⟩) z z) z (byk X z k)/\Kept af w wr) (fun i _=>z-(intOf i).toNat)
 case atStart=>exact ⟨0,aQ _,rfl,by rw [show byk X z 0=List.replicate z 0 by unfold byk;rw [et,kU (by rw [dt];omega),dY]];exact f,k1⟩
 case round=>
  clear f l k1;obtain ⟨k,hk,rfl,ho,c⟩:=hrel;by_cases hkn:k<z
  ·have p:(k:Int)<(z:Int):=by omega
   obtain ⟨j,hj⟩:=aj (z-1-k)
   have hJ:(z:Int)-1-(k:Int)=(j:Int):=by omega
   have y:j<z:=by omega
   have hc:wr.cell? ⟨w.heap.size,j,none⟩=some (.int .u8 0):=by
    rw [World.ownsRow.cellAt ho j (by omega),bV,hj,GO hkn];rfl
   have hf:=World.ownsRow.frozenAt ho j;have q:=fun u=>(World.ownsRow.stored ho j u).1
   have HF:HzD ((byk X z k).set j (dig X k 256)=byk X z (k+1)):=by unfold HzD;rw [hj];exact ED hkn
   obtain ⟨_,_,_,e1,_,_,_,_,a⟩:=(HX.o.g c).open;cases e1
   obtain ⟨b,off,rfl,v⟩:=fi (a (k/8) (by omega));have x:dig X (k/8)<18446744073709551616:=bu;have g:=BA X k;have g1:(k:Int)/8<(n:Int):=by omega
   have g2:(0:Int)<=(k:Int)/8:=by omega
   have g3:((k:Int)/8).toNat=k/8:=by omega
   clear a hj;generalize dig X (k/8)=d at *;have e1:(d:Int)/2^(8*(k%8))=((d/2^(8*(k%8)):Nat):Int):=by simp
   have HB:HzD ((d:Int)/2^(8*(k%8))%256=((dig X k 256:Nat):Int)):=by unfold HzD;rw [e1,<- g];omega
   clear e1 g;go_wp2_with fail;rw [HB.o];go_roundw
   case rel=>
    refine ⟨k+1,by omega,by go_num,?_,c.setCell _ (fun h=>by simp at h) _⟩;unfold OwnN;rw [<- HF.o,cG];exact q _
   case measure=>simp [intOf];omega
  ·have p:¬ (k:Int)<(z:Int):=by omega
   have e:k=z:=by omega
   subst e;go_wp2;go_ret;have hb:byk X k k=bes X k k:=by unfold byk;simp
   refine ⟨_,_,_,rfl,Row.of_own (base:=w.heap.size) (e:=5) (by rw [dt,<- hb];exact ho),?_,c⟩;intro b m;simp [Value.ownBlock] at m;omega

structure Md (w:World) (o:Tr) (ao bo:OA) (n K mcap rcap V:Nat):Prop where
 m8:Mod8 w o ao bo n n K mcap rcap (jF V) (j4 V)
 ev:val (jF V)=V

theorem Md.did {o:Tr} {a b:Nat} (h:Md w o ao bo n K a b V) (d:Did w o m w' o'):Md w' o' ao bo n K a b V:=⟨h.m8.did d,h.ev⟩

theorem Md.g {o:Tr} {a b:Nat} (h:Md w o ao bo n K a b V) (k:Kept af w w'):Md w' o ao bo n K a b V:=⟨h.m8.g k,h.ev⟩

def Md.off (ao bo:OA) (n mcap rcap b:Nat):Prop:=(∀ x,(Value.slice ao n mcap).ownBlock=some x->¬ x=b)/\(∀ x,(Value.slice bo n rcap).ownBlock=some x->¬ x=b)

theorem Md.kept {S:Nat->Prop} {o:Tr} {a b:Nat} (h:Md w o ao bo n K a b V) (k:Kept S w w') (h1:∀ x,(Value.slice ao n a).ownBlock=some x->¬ S x) (h2:∀ x,(Value.slice bo n b).ownBlock=some x->¬ S x):Md w' o ao bo n K a b V:=⟨⟨⟨h.m8.hm.1.kept k h1,h.m8.hm.2⟩,⟨h.m8.hr.1.kept k h2,h.m8.hr.2⟩,h.m8.hmd,h.m8.hrd,h.m8.hK,h.m8.ok⟩,h.ev⟩

theorem Md.new {o:Tr} {a b:Nat} (h:Md w o ao bo n K a c V) (hb:w.heap.size<=b):Md.off ao bo n a c b:=by
 obtain ⟨⟨f0,f1⟩,-⟩:=h.m8.a;obtain ⟨_,_,_,e1,h1,_⟩:=h.m8.hm.1.open;cases e1
 obtain ⟨_,_,_,e1,h2,_⟩:=h.m8.hr.1.open;cases e1
 have n1:jF V≠[]:=fun e=>by have:=h1.o;rw [e] at this;simp at this;omega
 have n2:j4 V≠[]:=fun e=>by have:=h2.o;rw [e] at this;simp at this;omega
 exact ⟨fun x hx e=>by have:=h.m8.hm.1.lt n1 x hx;omega,fun x hx e=>by have:=h.m8.hr.1.lt n2 x hx;omega⟩

theorem Md.a {o:Tr} {a b:Nat} (h:Md w o ao bo n K a b V):0<n/\n<=130/\2<=V/\V<18446744073709551616^n:=by
 obtain ⟨⟨f0,f1⟩,-,f3,f4,f5⟩:=h.m8.a;rw [h.ev] at f4 f5;exact ⟨f0,f1,f4,f5⟩

theorem mF {o:Tr} {v:Value} (h:U64s w v) (ht:TrIn w o) (hr:Row .u64 w v (digs X n)) (hX:X<18446744073709551616^n):NumT w o v n X:=⟨h.rowT hr ht,hX⟩

theorem vT (o:Tr) (xo:OA) (L f:Nat) (xs:LN) (V n:Nat) (w:World) (ht:TrIn w o) (hx:Row .u64 w (.slice xo L f) xs) (hd:Digs xs) (hL:L<=1000000) (hV:V=val xs) (hE:eS V=0) (hn:n=am V) :
  ClZ 32 #[.slice xo L f] w fun e w'=>∃ ao bo K c d,e=.returned (.tuple #[.agg (mzA ao n c K bo n d),.int .i64 0])/\Md w' o ao bo n K c d V/\(Fresh w (.slice ao n c)/\Fresh w (.slice bo n d))/\Kept af w w':=by
 refine (pU xo L f xs V 0 hV hE.symm w hx hd hL).mono ?_;rintro e w' ⟨a,K,b,rfl,ra,rb,hK,⟨fa,fb⟩,k⟩;obtain ⟨i,j,l,m,p,q⟩:=me hE hK;obtain ⟨ao,an,c,rfl,g,-⟩:=ra.open;obtain ⟨bo,bn,d,rfl,h,-⟩:=rb.open;obtain rfl:n=an:=by rw [<- g.o,j,hn]
 obtain rfl:n=bn:=by rw [<- h.o,l,hn]
 exact ⟨ao,bo,K,c,d,rfl,⟨⟨ji fa ht ra,ji fb ht rb,p,q,hK.1,i⟩,m⟩,⟨fa,fb⟩,k⟩

def vv (n:Nat):List Ev:=List.replicate 2 (1,(n:Int),0) ++ lI n

theorem kJ (h:n<=130):(vv n).length<=1000:=by
 unfold vv lI de;simp;omega

def FO (n:Nat):List Ev:=List.replicate 2 (1,(n:Int),0) ++ List.replicate 2 (1,(n:Int),0)

theorem gX (L M:Nat):(fj L M).length<=60000:=by
 unfold fj
 split
 ·rw [lC];omega
 ·simp

theorem Dt (o:Tr) (ao bo xo yo:OA) (n K a b xc yc X Y V:Nat) (w:World) (ht:TrRoom w o 5000) (hM:Md w o ao bo n K a b V) (hx:NumT w o (.slice xo n xc) n X) (hX:X<V) (hy:NumT w o (.slice yo n yc) n Y) (hY:Y<V) :
  ClZ 62 #[aP o,.agg (mzA ao n a K bo n b),.slice xo n xc,.slice yo n yc] w fun e w'=>∃ zo zc o',e=.returned (.tuple #[.slice zo n zc,.int .i64 0])/\NumT w' o' (.slice zo n zc) n (X*Y%V)/\Did w o (vv n) w' o':=by
 obtain ⟨f0,f1,f4,f5⟩:=hM.a;refine (LK o ao bo xo yo n n K a b n n xc yc _ _ _ _ w ht hM.m8.hm hM.m8.hr hx.1 hy.1 hM.m8.hmd hM.m8.hrd (ak (by omega) _ _) (ak (by omega) _ _) hM.m8.hK (by omega) (by omega) (by omega)).mono ?_;rintro e w' ⟨v',c,rfl,zs,m,o',hr,hl,d,hp,-⟩;rw [hM.ev,bY hx.2,bY hy.2] at hp;obtain ⟨⟨rfl,rfl⟩,rfl⟩:=hp ⟨hM.m8.ok,⟨rfl,hX⟩,rfl,hY⟩;have hT:=(d.room (k:=0) (ht.l (by have h:=kJ f1;unfold vv at h;omega))).1;have hN:NumT w' o' v' n (X*Y%V):=mF (hl rfl).2 hT hr (bH (bu) f5);obtain ⟨zo,zc,rfl⟩:=hN.s;exact ⟨zo,zc,o',rfl,hN,d⟩

theorem Ln (o:Tr) (ao bo xo yo:OA) (n K a b xc yc X Y V:Nat) (w:World) (ht:TrRoom w o 10) (hM:Md w o ao bo n K a b V) (hx:NumT w o (.slice xo n xc) n X) (hX:X<V) (hy:NumT w o (.slice yo n yc) n Y) (hY:Y<V) :
  ClZ 108 #[aP o,.agg (mzA ao n a K bo n b),.slice xo n xc,.slice yo n yc] w fun e w'=>∃ zo zc o',e=.returned (.tuple #[.slice zo n zc,.int .i64 0])/\NumT w' o' (.slice zo n zc) n (ij X Y V)/\Did w o (FO n) w' o':=by
 obtain ⟨f0,f1,f4,f5⟩:=hM.a;refine (LO o ao bo xo yo n n K a b n n xc yc _ _ _ _ w ht hM.m8.hm hM.m8.hr hx.1 hy.1 hM.m8.hmd hM.m8.hrd (ak (by omega) _ _) (ak (by omega) _ _) hM.m8.hK (by omega) (by omega) (by omega)).mono ?_;rintro e w' ⟨v',c,rfl,zs,m,o',hr,hl,d,hp,-⟩;rw [hM.ev,bY hx.2,bY hy.2] at hp;obtain ⟨⟨rfl,rfl⟩,rfl⟩:=hp ⟨hM.m8.ok,⟨rfl,hX⟩,rfl,hY⟩;have hT:=(d.room (k:=0) (ht.l (by simp))).1;have hN:NumT w' o' v' n (ij X Y V):=mF (hl rfl).2 hT hr (bH (tR hX hY) f5);obtain ⟨zo,zc,rfl⟩:=hN.s;exact ⟨zo,zc,o',rfl,hN,d⟩

theorem Du (o:Tr) (ao bo xo:OA) (n K a b N1 xc X V:Nat) (w:World) (ht:TrRoom w o 60000) (hM:Md w o ao bo n K a b V) (hx:NumT w o (.slice xo N1 xc) N1 X) (hN:N1<=300:=by omega) :
  ClZ 102 #[aP o,.agg (mzA ao n a K bo n b),.slice xo N1 xc] w fun e w'=>∃ zo zc o',e=.returned (.tuple #[.slice zo n zc,.int .i64 0])/\NumT w' o' (.slice zo n zc) n (X%V)/\Did w o (fj N1 n) w' o':=by
 obtain ⟨f0,f1,f4,f5⟩:=hM.a;refine (LM o ao bo xo n n K a b N1 xc _ _ _ w ht hM.m8.hm hM.m8.hr hx.1 hM.m8.hmd hM.m8.hrd (ak (by omega) _ _) hM.m8.hK (by omega)).mono ?_;rintro e w' ⟨v',c,rfl,zs,m,o',hr,hl,d,hp,-⟩;obtain ⟨g1,-,g3⟩:=iz (X:=X) (Y:=V) (L:=N1) (M:=n) ⟨hN,by omega⟩;rw [hM.ev,bY hx.2,g1,g3] at hp;obtain ⟨⟨rfl,rfl⟩,rfl⟩:=hp hM.m8.ok;rw [fg,bZ] at d;have hT:=(d.room (k:=0) (ht.l (by have h:=gX N1 n;omega))).1;have hN:NumT w' o' v' n (X%V):=mF (hl rfl).2 hT hr (bH (bu) f5);obtain ⟨zo,zc,rfl⟩:=hN.s;exact ⟨zo,zc,o',rfl,hN,d⟩

def Dk (n L:Nat):List Ev:=jM n ++ oM n L

theorem rg (h:n<=130) (hL:L<=300):(Dk n L).length<=61000000:=by
 have h1:=(ix h).2.1;have h2:=qE h hL;unfold Dk;rw [bk];omega

theorem Lh (o:Tr) (ao bo xo eo:OA) (n K b f xc L a X V:Nat) (ys:LN) (w:World) (ht:TrRoom w o 70000000) (hM:Md w o ao bo n K b f V) (hx:NumT w o (.slice xo n xc) n X) (hX:X<V) (hy:RowT w o (.slice eo L a) ys) (g:Digs ys) (hL:L<=300) :
  ClZ 163 #[aP o,.agg (mzA ao n b K bo n f),.slice xo n xc,.slice eo L a] w fun e w'=>∃ zo zc o',e=.returned (.tuple #[.slice zo n zc,.int .i64 0])/\NumT w' o' (.slice zo n zc) n (X^val ys%V)/\Did w o (Dk n L) w' o':=by
 obtain ⟨f0,f1,f4,f5⟩:=hM.a;refine (Mg o ao bo xo eo n n K b f n xc L a _ _ _ ys 0 w ht hM.m8.hm hM.m8.hr hx.1 hy hM.m8.hmd hM.m8.hrd (ak (by omega) _ _) g hM.m8.hK (by omega) (by rw [hM.ev,bY hx.2];exact iff_of_true rfl ⟨hM.m8.ok,rfl,hX⟩) (by omega)).mono ?_;rintro e w' ⟨zo,zn,zc,c,rfl,(⟨-,-,rfl,⟨hr,hu⟩,o',d⟩ | ⟨h,-⟩)⟩
 ·rw [hM.ev,bY hx.2] at hr;have hT:=(d.room (k:=0) (ht.l (by have h:=rg f1 hL;unfold Dk at h;omega))).1;have hN:NumT w' o' (.slice zo zn zc) n (X^val ys%V):=mF hu hT hr (bH (bu) f5);obtain ⟨yo,yc,e1⟩:=hN.s;cases e1
  exact ⟨_,_,o',rfl,hN,d⟩
 ·omega

theorem uK (n:Nat):∀ k,(AQ n k).length=12*k
 | 0=>rfl
 | k+1=>by
  unfold AQ;rw [bk,uK n k,oC];omega

theorem oU (h:n<=130):(vD n).length<=400000:=by
 unfold vD tr;have h1:stp n<=30000:=by unfold stp;omega
 simp [uK];omega

theorem Lj (o:Tr) (ao bo xo:OA) (n K a b xc X V:Nat) (w:World) (ht:TrRoom w o 400000) (hM:Md w o ao bo n K a b V) (hx:NumT w o (.slice xo n xc) n X) (hX:X<V) (hg:Nat.gcd X V=1) :
  ClZ 65 #[aP o,.agg (mzA ao n a K bo n b),.slice xo n xc] w fun e w'=>∃ zo zc T o',e=.returned (.tuple #[.slice zo n zc,.int .u64 1,.int .i64 0])/\(T<V/\X*T%V=1)/\NumT w' o' (.slice zo n zc) n T/\Did w o (vD n) w' o':=by
 obtain ⟨f0,f1,f4,f5⟩:=hM.a;refine (iOf o ao bo xo n n K a b n xc _ _ _ w ht hM.m8.hm hM.m8.hr hx.1 hM.m8.hmd hM.m8.hrd (ak (by omega) _ _) hM.m8.hK (by omega) (.inl hM.m8.ok)).mono ?_;rintro e w' ⟨v',is,c,rfl,zs,m,o',hr,hl,d,hp,-⟩;rw [hM.ev,bY hx.2] at hp;obtain ⟨rfl,rfl,T,rfl,hi⟩:=hp ⟨hM.m8.ok,rfl,hX⟩;obtain ⟨h1,h2,rfl⟩:=hi.1 hg;have hT:=(d.room (k:=0) (ht.l (by have h:=oU f1;omega))).1;have hN:NumT w' o' v' n T:=mF (hl rfl).2 hT hr (bH h1 f5);obtain ⟨zo,zc,rfl⟩:=hN.s;exact ⟨zo,zc,T,o',rfl,⟨h1,h2⟩,hN,d⟩

theorem L9 (ao bo xo:OA) (n K a b xc X V:Nat) (w:World) (hM:Md w none ao bo n K a b V) (hx:Row .u64 w (.slice xo n xc) (digs X n)) (hX:X<V) :
  ClZ 65 #[.pointer none,.agg (mzA ao n a K bo n b),.slice xo n xc] w fun e w'=>∃ zo zn zc is,e=.returned (.tuple #[.slice zo zn zc,.int .u64 (is:Nat),.int .i64 0])/\(is=if Nat.gcd X V=1 then 1 else 0)/\Kept af w w':=by
 obtain ⟨f0,f1,f4,f5⟩:=hM.a;have f:NumT w none (.slice xo n xc) n X:=⟨RowT.none hx,bH hX f5⟩
 refine (iOf none ao bo xo n n K a b n xc _ _ _ w (TrRoom.none w _ (by omega)) hM.m8.hm hM.m8.hr f.1 hM.m8.hmd hM.m8.hrd (ak (by omega) _ _) hM.m8.hK (by omega) (.inr rfl)).mono ?_;rintro e w' ⟨v',is,c,rfl,zs,m,o',hr,hl,d,hp,-⟩;rw [hM.ev,bY f.2] at hp;obtain ⟨rfl,rfl,T,rfl,hi⟩:=hp ⟨hM.m8.ok,rfl,hX⟩;obtain ⟨zo,zn,zc,rfl,-⟩:=hr.open;refine ⟨zo,zn,zc,is,rfl,?_,d.none.2⟩;by_cases hg:Nat.gcd X V=1
 ·rw [ai hg];exact (hi.1 hg).2.2
 ·rw [ar hg];exact (hi.2 hg).2

theorem Ac (o:Tr) (ao bo xo:OA) (n K a b xc d X V:Nat) (w:World) (ht:TrIn w o) (hM:Md w o ao bo n K a b V) (hx:NumT w o (.slice xo n xc) n X) (hX:X<V) (hd:d<18446744073709551616) :
  ClZ 63 #[.agg (mzA ao n a K bo n b),.slice xo n xc,.int .u64 (d:Nat)] w fun e w'=>∃ zo zc,e=.returned (.tuple #[.slice zo n zc,.int .i64 0])/\NumT w' o (.slice zo n zc) n (X^d%V)/\Kept af w w':=by
 obtain ⟨f0,f1,f4,f5⟩:=hM.a;refine (Lt ao bo xo n n K a b n xc d _ _ _ 0 (by rw [hM.ev,bY hx.2];exact iff_of_true rfl ⟨hM.m8.ok,rfl,hX⟩) (by omega) _ rfl w hM.m8.hm.1 hM.m8.hr.1 hx.1.1 hM.m8.hmd hM.m8.hrd (ak (by omega) _ _) hd hM.m8.hK (by omega)).mono ?_;rintro e w' ⟨v',rfl,⟨hr,hu⟩,k⟩;rw [ai rfl,hM.ev,bY hx.2] at hr;have hN:NumT w' o v' n (X^d%V):=mF hu (ht.g k) hr (bH (bu) f5);obtain ⟨zo,zc,rfl⟩:=hN.s;exact ⟨zo,zc,rfl,hN,k⟩

theorem Lg (o:Tr) (u v:Value) (n m X Y:Nat) (w:World) (ht:TrRoom w o 1) (hu:NumT w o u n X) (hv:NumT w o v m Y) (hn:n<=1000:=by omega) (hm:m<=1000:=by omega) :
  ClZ 66 #[aP o,u,v] w fun e w'=>e=.returned (.int .u64 (dF (decide (X=Y)):Nat))/\∃ o',Did w o [(1,(max n m:Nat),0)] w' o':=by
 have h:=qN o u v _ _ w ht hu.1 hv.1 (ak (by omega) _ _) (ak (by omega) _ _) (by rw [ag];omega) (by rw [ag];omega);rw [ag,ag,bY hu.2,bY hv.2] at h;exact h

theorem Lm (o:Tr) (bit n X Y:Nat) (a:bit<18446744073709551616) (u v:Value) (w:World) (ht:TrRoom w o 1) (hu:NumT w o u n X) (hv:NumT w o v n Y) (hn:n<=1000) :
  ClZ 67 #[aP o,.int .u64 (bit:Nat),u,v] w fun e w'=>∃ zo zc o',e=.returned (.slice zo n zc)/\NumT w' o' (.slice zo n zc) n (cZ bit X Y)/\Did w o [(1,(n:Nat),0)] w' o':=by
 have h:=oh o bit a u v _ _ w ht hu.1 hv.1 (ak (by omega) _ _) (ak (by omega) _ _) (by rw [ag];omega) (by rw [ag];omega);rw [ag,ag,it,bY hu.2,bY hv.2] at h;refine h.mono ?_;rintro e w' ⟨v',rfl,ho,o',d⟩;have hN:=NumT.own ho (oB hu.2 hv.2) (d.room (k:=0) (ht.l (by simp))).1;obtain ⟨zo,zc,rfl⟩:=hN.s;exact ⟨zo,zc,o',rfl,hN,d⟩

theorem Ib (o:Tr) (bit n X:Nat) (a:bit<18446744073709551616) (u:Value) (w:World) (ht:TrRoom w o 1) (hu:NumT w o u n X) (hn:n<=1000) :
  ClZ 67 #[aP o,.int .u64 (bit:Nat),u,.slice none 0 0] w fun e w'=>∃ zo zc o',e=.returned (.slice zo n zc)/\NumT w' o' (.slice zo n zc) n (cZ bit X 0)/\Did w o [(1,(n:Nat),0)] w' o':=by
 have h:=oh o bit a u (.slice none 0 0) _ [] w ht hu.1 ⟨Row.nil _ _,fun h=>absurd rfl h⟩ (ak (by omega) _ _) (Digs.nil _) (by rw [ag];omega) (by simp);rw [ag,fB,Nat.max_zero,bY hu.2,show val []=0 from rfl] at h;refine h.mono ?_;rintro e w' ⟨v',rfl,ho,o',d⟩;have hN:=NumT.own ho (oB hu.2 (aX)) (d.room (k:=0) (ht.l (by simp))).1;obtain ⟨zo,zc,rfl⟩:=hN.s;exact ⟨zo,zc,o',rfl,hN,d⟩

theorem Ll (o:Tr) (xo yo:OA) (n m xc yc X Y:Nat) (w:World) (ht:TrRoom w o 300) (hx:NumT w o (.slice xo n xc) n X) (hy:NumT w o (.slice yo m yc) m Y) (hn:n<=300) (hm:m<=300) :
  ClZ 110 #[aP o,.slice xo n xc,.slice yo m yc] w fun e w'=>∃ zo zc o',e=.returned (.slice zo (n+m) zc)/\NumT w' o' (.slice zo (n+m) zc) (n+m) (X*Y)/\Did w o (kF n m) w' o':=by
 refine (Dh o xo yo n m xc yc _ _ w ht hx.1 hy.1 (ak (by omega) _ _) (ak (by omega) _ _)).mono ?_;rintro e w' ⟨v',rfl,-,-,h,o',d⟩;obtain ⟨g,-,-,ho⟩:=h ⟨hn,hm⟩;rw [bY hx.2,bY hy.2] at ho;have hlt:X*Y<18446744073709551616^(n+m):=by
  rw [aL];exact Nat.mul_lt_mul'' hx.2 hy.2
 have hN:=NumT.own ho hlt (d.room (k:=0) (ht.l (by unfold kF;rw [ai ⟨hn,hm⟩];simp;omega))).1;obtain ⟨zo,zc,rfl⟩:=hN.s;exact ⟨zo,zc,o',rfl,hN,d⟩

theorem Le (o:Tr) (u v:Value) (n m X Y:Nat) (w:World) (ht:TrRoom w o 1) (hu:NumT w o u n X) (hv:NumT w o v m Y) (hn:n<=1000) (hm:m<=n) (hlt:X+Y<18446744073709551616^n) :
  ClZ 109 #[aP o,u,v] w fun e w'=>∃ zo zc c o',e=.returned (.tuple #[.slice zo n zc,.int .u64 ((c:Nat):Int)])/\NumT w' o' (.slice zo n zc) n (X+Y)/\Did w o [(1,(n:Nat),0)] w' o':=by
 have h:=Jm o u v _ _ w ht hu.1 hv.1 (ak (by omega) _ _) (ak (by omega) _ _) (by rw [ag];omega) (by rw [ag];omega);rw [ag,ag,Nat.max_eq_left hm,bY hu.2,bY hv.2] at h;refine h.mono ?_;rintro e w' ⟨v',rfl,ho,o',d⟩;have hN:=NumT.own ho hlt (d.room (k:=0) (ht.l (by simp))).1;obtain ⟨zo,zc,rfl⟩:=hN.s;exact ⟨zo,zc,_,o',rfl,hN,d⟩

def pmV (N1 n L:Nat):List Ev:=fj N1 n ++ Dk n L

theorem Lk (o:Tr) (ao bo xo eo:OA) (n K a b N1 xc L c X V:Nat) (ys:LN) (w:World) (ht:TrRoom w o 71000000) (hM:Md w o ao bo n K a b V) (hx:NumT w o (.slice xo N1 xc) N1 X) (i:N1<=300) (hy:RowT w o (.slice eo L c) ys) (j:Digs ys) (hL:L<=300) :
  ClZ 107 #[aP o,.agg (mzA ao n a K bo n b),.slice xo N1 xc,.slice eo L c] w fun e w'=>∃ zo zc o',e=.returned (.slice zo n zc)/\NumT w' o' (.slice zo n zc) n (X^val ys%V)/\Did w o (pmV N1 n L) w' o':=by
 obtain ⟨po,g⟩:=aM o;obtain ⟨f0,f1,f4,f5⟩:=hM.a;obtain ⟨W,hW⟩:=aj (w.alloc (.cells (mzA ao n a K bo n b) 71))
 have k0:Kept af w W:=by rw [hW];exact (ah af w).alloc _
 have l:W.heap[w.heap.size]? = some (.cells (mzA ao n a K bo n b) 71 (0,0)):=by rw [hW];exact heap_alloc_new _ _
 have kd:Kept af w W.drew:=k0.drew;have s0:Wr w o [] W.drew o (.pointer po) 71000000:=⟨Did.of_kept kd ht.1,ht.g kd,g⟩
 have M0:=hM.g kd;have Y0:=hy.g kd;have hV:0<V:=by omega
 have HE:HzD (X^val ys%V=(X%V)^val ys%V):=jx _ _ _;have c1:=Du o ao bo xo n K a b N1 xc X V W.drew (s0.room.l (by omega)) M0 (hx.g kd) i;rw [g] at c1;have HW:=aa hW;rw [g];clear hM hx hy hW k0;delta ClZ;go_in;go_wp2_with (rw [<- HW.o]);refine wp_region_held_drew (S:=fun w'=>w'.heap[w.heap.size]? = some (.cells (mzA ao n a K bo n b) 71 (0,0))) (by kernel_rfl) l (fun hS=>?_);refine aO 0 (some 9) (.pointer po) hS ?_;refine aO 1 (some 10) (.agg (mzA ao n a K bo n b)) hS ?_ (y:=dL fun w h=>by simp [execOp,go_sem,(ax h).1,(ax h).2.1,(ax h).2.2]);refine aO 2 (some 11) (.pointer po) hS ?_
 refine aO 3 (some 12) (.agg (mzA ao n a K bo n b)) hS ?_ (y:=dL fun w h=>by simp [execOp,go_sem,(ax h).1,(ax h).2.1,(ax h).2.2]);refine aO 4 (some 13) (.slice xo N1 xc) hS ?_;refine aO 9 (some 18) (.slice eo L c) hS ?_;simp only [aU];refine cD 5 (some 14) 102 [.pointer po,.agg (mzA ao n a K bo n b),.slice xo N1 xc] (c1) ?_;rintro r w1 ⟨zo,zc,o1,rfl,X1,d1⟩;have d:=d1.cells hS s0.room.1;have s1:=s0.next (k:=70500000) d1 (by have h:=gX N1 n;omega)
 have M1:=M0.did d1;have Y1:=Y0.did d1;refine .inl ⟨_,rfl,d,?_⟩;refine aO 6 (some 15) (.slice zo n zc) d ?_;refine aO 7 (some 16) (.int .i64 0) d ?_;simp only [aU];refine cD 8 (some 17) 29 [.slice zo n zc,.int .i64 0] (gO zo n zc _) ?_;rintro r w2 ⟨rfl,rfl⟩;refine .inl ⟨_,rfl,d,?_⟩;simp only [aU];have c2:=Lh o1 ao bo zo eo n K a b zc L c (X%V) V ys _ (s1.room.l (by omega)) M1 X1 (aY _ hV) Y1 j hL;rw [s1.ptr] at c2;refine cD 10 (some 19) 163 [.pointer po,.agg (mzA ao n a K bo n b),.slice zo n zc,.slice eo L c] (c2) ?_;rintro r w3 ⟨yo,yc,o3,rfl,X3,d3⟩
 have f:=d3.cells d s1.room.1;have s3:=s1.next (k:=9000000) d3 (by have h:=rg f1 hL;omega)
 refine .inl ⟨_,rfl,f,?_⟩;refine aO 11 (some 20) (.slice yo n yc) f ?_;refine aO 12 (some 21) (.int .i64 0) f ?_;simp only [aU];refine cD 13 (some 22) 29 [.slice yo n yc,.int .i64 0] (gO yo n yc _) ?_;rintro r w4 ⟨rfl,rfl⟩;refine .inl ⟨_,rfl,f,?_⟩;refine aO 14 (some 8) (.slice yo n yc) f ?_;simp only [aU];refine wpAnyH_done (by kernel_rfl) ?_ _;go_wp2_with fail;go_ret;exact ⟨yo,yc,o3,rfl,by rw [HE.o];exact X3,s3.did⟩

def xw (at_ k:Int) (fs:LN) (X n V:Nat):Nat:=(if at_=k then val (fs.take n) else X)%V

theorem p8 {k:Int} (h:X<V):xw at_ k fs X n V=rP at_ k fs X n V:=by
 unfold xw rP
 split
 ·rfl
 ·exact aB h

def pB (n:Nat):List Ev:=[(1,((1:Nat):Int),0)] ++ [(1,(n:Int),0)] ++ fj n n

theorem jr (n:Nat):(pB n).length<=60010:=by
 have h:=gX n n;unfold pB;simp;omega

def atW (a:Int):Nat:=(a%18446744073709551616).toNat

theorem GK (a:Int):atW a<18446744073709551616:=by unfold atW;omega

theorem Eu {a:Int} (h:rJ a) (hk:k<=4) (h1:1<=k):k=atW a↔a=(k:Int):=by
 unfold rJ at h;unfold atW;omega

theorem zU (W:World) (o:Tr) (x:Nat) (hx:x<18446744073709551616) (ht:TrIn W o):NumT (W.alloc (.cells #[.int .u64 (x:Nat)] 24)) o (.slice (some ⟨W.heap.size,0,none⟩) 1 1) 1 x:=by
 have hr:=World.ownsRow_lit (base:=W.heap.size) (e:=24) (size:=1) W #[.int .u64 (x:Nat)] 1 (leR _) (by unfold maxLen;omega) rfl;refine NumT.own (base:=W.heap.size) ?_ (by rw [i8];exact hx) (ht.g ((ah _ _).alloc _));unfold OwnN;rw [jt x 0 hx];exact hr

theorem jD {b:Nat} {x y:Value} (h:w.heap[b]? = some (.cells #[x,y] 32 (0,0))):w.cell? ⟨b,0,none⟩=some x/\w.cell? ⟨b,1,none⟩=some y:=⟨(cell_of_row w _ 0 _ _ _ h).trans rfl,(cell_of_row w _ 1 _ _ _ h).trans rfl⟩

theorem ox (k:Nat) (h1:1<=k) (h4:k<=4) (o:Tr) (bT bF:Nat) (at_:Int) (z:rJ at_) (ao bo xo fo:OA) (n K c d xc fl fc X V:Nat) (fs:LN) (w:World) (ht:TrRoom w o 100000) (hM:Md w o ao bo n K c d V) (hx:NumT w o (.slice xo n xc) n X)
  (hT:Box w bT (aP o) 57) (hF:w.heap[bF]? = some (.cells #[.int .i64 at_,.slice fo fl fc] 32 (0,0))) (hf:RowT w o (.slice fo fl fc) fs) (gf:Digs fs) :
  ClZ 101 #[.int .i64 (k:Nat),.agg (mzA ao n c K bo n d),.slice xo n xc,.pointer (some ⟨bT,0,none⟩),.pointer (some ⟨bF,0,none⟩)] w fun e w'=>∃ zo zc o',e=.returned (.slice zo n zc)/\NumT w' o' (.slice zo n zc) n (xw at_ k fs X n V)/\Did w o (pB n) w' o':=by
 obtain ⟨po,s⟩:=aM o;rw [s] at hT;obtain ⟨f0,f1,f4,f5⟩:=hM.a;obtain ⟨a,ha⟩:=aj (atW at_)
 have G:a<18446744073709551616:=by rw [ha];exact GK _
 have H:IntKind.u64.wrap at_=(a:Int):=by rw [ha];rw [IntKind.wrap_u64];unfold atW;omega
 obtain ⟨W1,m⟩:=aj (w.alloc (.cells (mzA ao n c K bo n d) 71))
 obtain ⟨W2,p⟩:=aj (W1.alloc (.cells #[.int .u64 (k:Nat)] 24))
 obtain ⟨W3,q⟩:=aj (W2.alloc (.cells #[.int .u64 (a:Nat)] 24))
 have z1:W1.heap.size=w.heap.size+1:=by rw [m];simp
 have z2:W2.heap.size=w.heap.size+1+1:=by rw [p];simp [z1]
 have k1:Kept af w W1:=by rw [m];exact (ah af w).alloc _
 have k2:Kept af W1 W2:=by rw [p];exact (ah af W1).alloc _
 have k3:Kept af W2 W3:=by rw [q];exact (ah af W2).alloc _
 have v:=k2.trans k3;have g:=k1.trans v;have t:W1.heap[w.heap.size]? = some (.cells (mzA ao n c K bo n d) 71 (0,0)):=by rw [m];exact heap_alloc_new _ _
 have A:=(v.block _ (lt_of_block t) (fun f=>f)).trans t;have n1:NumT W2 o (.slice (some ⟨W1.heap.size,0,none⟩) 1 1) 1 k:=by rw [p];exact zU W1 o k (by omega) (ht.1.g k1)
 have n2:NumT W3 o (.slice (some ⟨W2.heap.size,0,none⟩) 1 1) 1 a:=by rw [q];exact zU W2 o a G (ht.1.g (k1.trans k2))
 rw [z1] at n1;rw [z2] at n2;have s0:Wr w o [] W3 o (.pointer po) 100000:=⟨Did.of_kept g ht.1,ht.g g,s⟩
 obtain ⟨b,hb⟩:=aj (dF (decide (k=a)))
 have I:b<=1:=by rw [hb];exact qY _
 have HB:HzD (cZ b (val (fs.take n)) X=if at_=(k:Int) then val (fs.take n) else X):=by
  unfold HzD;have hi:=Eu z h4 h1;rw [<- ha] at hi;by_cases e:k=a
  ·rw [ai (hi.1 e),hb,dV e];rfl
  ·rw [ar (fun h=>e (hi.2 h)),hb,cI e];rfl
 have c1:=Lg o _ _ 1 1 k a W3 (s0.room.l (by omega)) (n1.g k3) n2;rw [s,<- hb] at c1;have M0:=hM.g g;have X0:=hx.g g;have F0:=hf.g g;have T0:=hT.g g;have G0:=(g.block _ (lt_of_block hF) (fun f=>f)).trans hF;have F:=(hT.g k1).cell;have E:=(jD ((k2.block _ (lt_of_block ((k1.block _ (lt_of_block hF) (fun f=>f)).trans hF)) (fun f=>f)).trans ((k1.block _ (lt_of_block hF) (fun f=>f)).trans hF))).1;have B:=aa m;have C:=aa p;have D:=aa q;have Z1:=z1;have Z2:=z2;clear hM hx hf hT hF m p q k1 k2 k3 v g z1 z2 n1 n2 hb ha t ht h1 z;delta ClZ;go_in
 go_wp2_with (first | rw [<- B.o] | rw [<- C.o] | rw [<- D.o]);refine c1.mono ?_;rintro e w4 ⟨rfl,o4,d4⟩;have dd:Did w4 o4 [] w4.drew o4:=Did.of_kept (ah af w4).drew (s0.next (k:=99000) d4 (by simp)).room.1;have d5:=d4.trans dd;have s5:=s0.next (k:=99000) d5 (by simp)
 have M5:=M0.did d5;have X5:=X0.did d5;have F5:=F0.did d5;have x:=And.intro (d4.cells T0 s0.room.1) (And.intro (d4.cells G0 s0.room.1) (d4.cells A s0.room.1));clear c1 M0 X0 F0 T0 G0 A F E dd Z1 Z2;go_wp2_with fail;refine wp_region_held_drew (S:=fun w'=>w'.heap[bT]? = some (.cells #[.pointer po] 57 (0,0))/\w'.heap[bF]? = some (.cells #[.int .i64 at_,.slice fo fl fc] 32 (0,0))/\w'.heap[w.heap.size]? = some (.cells (mzA ao n c K bo n d) 71 (0,0))) (by kernel_rfl) x (fun hS=>?_);refine aO 0 (some 20) (.pointer po) hS ?_ (y:=dL fun w h=>by simp [execOp,go_sem,Box.cell h.1])
 refine aO 1 (some 21) (.int .u64 (b:Int)) hS ?_;refine aO 2 (some 22) (.pointer (some ⟨bF,1,none⟩)) hS ?_;refine aO 3 (some 23) (.slice fo fl fc) hS ?_ (y:=dL fun w h=>by simp [execOp,go_sem,(jD h.2.1).2]);refine aO 4 (some 24) (.slice xo n xc) hS ?_;refine aO 5 (some 25) (.int .i64 (n:Int)) hS ?_;refine aO 7 (some 27) (.slice xo n xc) hS ?_;simp only [aU];refine cD 6 (some 26) 83 [.slice fo fl fc,.int .i64 (n:Int)] (Aa _ fs n _ F5.1 gf) ?_;rintro r w6 ⟨rfl,i,k6⟩;have d6:Did w4.drew o4 [] w6 o4:=Did.of_kept k6 s5.room.1;have s6:=s5.next (k:=98000) d6 (by simp)
 have M6:=M5.did d6;have X6:=X5.did d6;rw [nW,<- iQ (by omega) gf] at i;have F6:=NumT.own i (by rw [iQ (by omega) gf];exact aY _ (aX)) s6.room.1;have j:=And.intro (d6.cells hS.1 s5.room.1) (And.intro (d6.cells hS.2.1 s5.room.1) (d6.cells hS.2.2 s5.room.1));refine .inl ⟨_,rfl,j,?_⟩;simp only [aU];have c7:=Lm o4 b n _ X (by omega) _ _ _ (s6.room.l (by omega)) F6 X6 (by omega);rw [s6.ptr,HB.o] at c7;refine cD 8 (some 28) 67 [.pointer po,.int .u64 (b:Int),.slice (some ⟨w4.drew.heap.size,0,none⟩) n n,.slice xo n xc] (c7) ?_
 rintro r w7 ⟨zo,zc,o7,rfl,X7,d7⟩;have s7:=s6.next (k:=97000) d7 (by simp)
 have M7:=M6.did d7;have l:=And.intro (d7.cells j.1 s6.room.1) (And.intro (d7.cells j.2.1 s6.room.1) (d7.cells j.2.2 s6.room.1));refine .inl ⟨_,rfl,l,?_⟩;refine aO 9 (some 10) (.slice zo n zc) l ?_;simp only [aU];refine wpAnyH_done (by kernel_rfl) ?_ _;have c8:=Du o7 ao bo zo n K c d n zc _ V _ (s7.room.l (by omega)) M7 X7;rw [s7.ptr] at c8;obtain ⟨q0,q1,q2⟩:=ax l.2.2;have q3:=Box.cell l.1;clear hS x j l c7 i F5 F6 X5 X6 M5 M6 M7 X7 d4 d6 k6;go_wp2_with fail;refine c8.mono ?_;rintro e w8 ⟨yo,yc,o8,rfl,X8,d8⟩
 have s8:=s7.next (k:=10) d8 (by have h:=gX n n;omega)
 clear c8;go_wp2_with fail;refine (gO yo n yc w8).mono ?_;rintro e w9 ⟨rfl,rfl⟩;go_wp2_with fail;go_ret;refine ⟨yo,yc,o8,rfl,X8,?_⟩;have h:=s8.did;simpa [pB] using h

theorem zx {md:Region.Mode} {g:Nat} {b:Array Bool} {a:Act} {o:Oper} (i:Nat) (d:Option Tmp) (hr:Region.ready md ops b=[i]) (hi:ops[i]? = some o) (hd:o.dst=d) (hw:Region.wanted o (yielded ops a.tmps)=true) (f:Nat) (c:Tmp) (l:Array Value) (args:List Operand) (n:Array TypeId) (k:List Value)
  (ho:o.op=.call { callee:=.value (.tmp c),args:=args.toArray,argTypes:=n }) (hcv:a.tmps[c]?.getD undef=.func (.func f) #[] l) (hv:args.map a.eval=k) (he:∀ args w,(callFunc f args).run P w=.ok (.enter f args) w) {R:Ending->World->Prop} (hc:Calls P f (k.toArray ++ l) w R)
  (h:∀ e w',R e w'->∃ v,e=.returned v/\S w'/\wpAnyH P md ops Q S g (b.setIfInBounds i true) (a.put d v) w') :
  wpAnyH P md ops Q S (g+1) b a w:=by
 subst hd;refine wpAnyH_all hr (by simp) fun j hj=>?_
 obtain rfl:j=i:=by simpa using hj
 unfold wpOp;rw [hi];dsimp only;rw [ai hw];refine .inl ?_;have m:Calls P f (k.toArray ++ l) w fun
   | .returned v,w''=>S w''/\wpAnyH P md ops Q S g (b.setIfInBounds j true) (a.put o.dst v) w''
   | .panicked chain,w''=>Q (.panic chain) a w''
   | .outgrown,_=>LetsOut Q:=hc.mono (fun e w' r=>by
  obtain ⟨v,rfl,hk⟩:=h e w' r;exact hk)
 unfold Oper.wp;simp [execOp,ho,resolve,invoke,hcv,hv,he,go_sem];exact m

theorem ei {md:Region.Mode} {b:Array Bool} {a:Act} {o:Oper} {rs:LN} (i:Nat) (d:Option Tmp) (hi:ops[i]? = some o) (hd:o.dst=d) (hw:Region.wanted o (yielded ops a.tmps)=true) (f:Nat) (args:List Operand) (l:Array TypeId) (g:List Value)
  (ho:o.op=.call { callee:=.value (.func f),args:=args.toArray,argTypes:=l }) (hv:args.map a.eval=g) (he:∀ args w,(callFunc f args).run P w=.ok (.enter f args) w) {R:Ending->World->Prop} (hc:Calls P f g.toArray w R)
  (h:∀ e w',R e w'->∃ v,e=.returned v/\S w'/\wpAnyH P md ops Q S c (b.setIfInBounds i true) (a.put d v) w') (hs:AllReadyH P md ops Q S c b a w rs) :
  AllReadyH P md ops Q S c b a w (i :: rs):=fun j hj=>by
 subst hd;rcases fM.1 hj with e | hj
 case inr=>exact hs j hj
 subst e;unfold wpOp;rw [hi];dsimp only;rw [ai hw];refine .inl ?_;have k:Calls P f g.toArray w fun
   | .returned v,w''=>S w''/\wpAnyH P md ops Q S c (b.setIfInBounds j true) (a.put o.dst v) w''
   | .panicked chain,w''=>Q (.panic chain) a w''
   | .outgrown,_=>LetsOut Q:=hc.mono (fun e w' r=>by
  obtain ⟨v,rfl,hk⟩:=h e w' r;exact hk)
 unfold Oper.wp;simp [execOp,ho,resolve,invoke,hv,he,go_sem];exact k

theorem dM {md:Region.Mode} {b:Array Bool} {a:Act} {o:Oper} {rs:LN} (i:Nat) (d:Option Tmp) (hi:ops[i]? = some o) (hd:o.dst=d) (hw:Region.wanted o (yielded ops a.tmps)=true) (ho:o.op=.alloc 71)
  (hS:S (w.alloc (.cells #[.slice none 0 0,.int .u64 0,.slice none 0 0] 71))) (h:wpAnyH prog md ops Q S c (b.setIfInBounds i true) (a.put d (.pointer (some ⟨w.heap.size,0,none⟩))) (w.alloc (.cells #[.slice none 0 0,.int .u64 0,.slice none 0 0] 71))) (hs:AllReadyH prog md ops Q S c b a w rs) :
  AllReadyH prog md ops Q S c b a w (i :: rs):=fun j hj=>by
 subst hd;rcases fM.1 hj with e | hj
 case inr=>exact hs j hj
 subst e;unfold wpOp;rw [hi];dsimp only;rw [ai hw];refine .inl ?_;unfold Oper.wp;simp [execOp,ho,go_sem];exact ⟨hS,h⟩

theorem DU {md:Region.Mode} {d:Nat} {c:Array Bool} {a:Act} {o:Oper} (i:Nat) (hr:Region.ready md ops c=[i]) (hi:ops[i]? = some o) (hd:o.dst=none) (hw:Region.wanted o (yielded ops a.tmps)=true) (p v:Tmp) (b:Nat) (xo zo:OA) (xn xc y zn zc:Nat) (ho:o.op=.store 71 (.tmp p) (.tmp v)) (hp:a.tmps[p]?.getD undef=.pointer (some ⟨b,0,none⟩)) (hv:a.tmps[v]?.getD undef=.agg #[.slice xo xn xc,.int .u64 (y:Nat),.slice zo zn zc]) {c0 c1 c2:Value} (hb:w.heap[b]? = some (.cells #[c0,c1,c2] 71 (0,0))) (hS:S (((w.setCell ⟨b,0,none⟩ (.slice xo xn xc)).setCell ⟨b,1,none⟩ (.int .u64 (y:Nat))).setCell ⟨b,2,none⟩ (.slice zo zn zc))) (h:wpAnyH prog md ops Q S d (c.setIfInBounds i true) a (((w.setCell ⟨b,0,none⟩ (.slice xo xn xc)).setCell ⟨b,1,none⟩ (.int .u64 (y:Nat))).setCell ⟨b,2,none⟩ (.slice zo zn zc))):wpAnyH prog md ops Q S (d+1) c a w:=by
 obtain ⟨f0,f1,f2⟩:=kC hb;obtain ⟨q0,q1,q2⟩:=ax hb;refine wpAnyH_all hr (by simp) fun j hj=>?_
 obtain rfl:j=i:=by simpa using hj
 unfold wpOp;rw [hi];dsimp only;rw [ai hw];refine .inl ?_;unfold Oper.wp;simp [execOp,ho,hd,hp,hv,go_sem,f0,f1,f2,q0,q1,q2];exact ⟨hS,h⟩

theorem tJ {md:Region.Mode} {b:Array Bool} {a:Act} (h:∀ G:Nat->Array Bool->Act->World->Prop,(∀ f l a w,G f l a w↔wpAnyH P md ops Q S f l a w)->G c b a w):wpAnyH P md ops Q S c b a w:=
 h (fun f l a w=>wpAnyH P md ops Q S f l a w) (fun _ _ _ _=>Iff.rfl)

theorem mM {md:Region.Mode} {e:Nat} {b:Array Bool} {a:Act} (hp:∀ c a d v w,Q (.panic c) (a.put d v) w->Q (.panic c) a w) (h:∀ Q':Exit->Act->World->Prop,(∀ c a d v w,Q' (.panic c) (a.put d v) w->Q' (.panic c) a w)->Shut (∀ a w,Q .normal a w->Q' .normal a w)->wpAnyH P md ops Q' S e b a w):wpAnyH P md ops Q S e b a w:=
 h Q hp (fun _ _ h=>h)

structure KRows (w:World) (o:Tr) (s:KS) (l:KL) (fo:OA) (fl fc:Nat) (fs:LN):Prop where
 n:RowT w o (.slice s.no s.nl s.nc) l.n
 d:RowT w o (.slice s.dO s.dl s.dc) l.d
 p:RowT w o (.slice s.po s.pl s.pc) l.p
 q:RowT w o (.slice s.qo s.ql s.qc) l.q
 dp:RowT w o (.slice s.dpo s.dpl s.dpc) l.dp
 dq:RowT w o (.slice s.dqo s.dql s.dqc) l.dq
 qi:RowT w o (.slice s.qio s.qil s.qic) l.qi
 f:RowT w o (.slice fo fl fc) fs

theorem KRows.did {o:Tr} {s:KS} {l:KL} (h:KRows w o s l fo fl fc fs) (d:Did w o m w' o'):KRows w' o' s l fo fl fc fs:=⟨h.n.did d,h.d.did d,h.p.did d,h.q.did d,h.dp.did d,h.dq.did d,h.qi.did d,h.f.did d⟩

theorem KRows.g {o:Tr} {s:KS} {l:KL} (h:KRows w o s l fo fl fc fs) (k:Kept af w w'):KRows w' o s l fo fl fc fs:=⟨h.n.g k,h.d.g k,h.p.g k,h.q.g k,h.dp.g k,h.dq.g k,h.qi.g k,h.f.g k⟩

structure Clo (w:World) (bT bF:Nat) (tp:Value) (at_:Int) (fo:OA) (fl fc:Nat):Prop where
 t:Box w bT tp 57
 f:w.heap[bF]? = some (.cells #[.int .i64 at_,.slice fo fl fc] 32 (0,0))

theorem Clo.did {o:Tr} {bT bF:Nat} {tp:Value} (h:Clo w bT bF tp at_ fo fl fc) (d:Did w o m w' o') (ht:TrIn w o):Clo w' bT bF tp at_ fo fl fc:=⟨d.cells h.t ht,d.cells h.f ht⟩

theorem Clo.g {bT bF:Nat} {tp:Value} (h:Clo w bT bF tp at_ fo fl fc) (k:Kept af w w'):Clo w' bT bF tp at_ fo fl fc:=⟨h.t.g k,(k.block _ (lt_of_block h.f) (fun f=>f)).trans h.f⟩

theorem au {b:Nat} {cs:Array Value} {t:TypeId} {fr:Nat × Nat} (h:w.heap[b]? = some (.cells cs t fr)) (k:Kept af w w'):w'.heap[b]? = some (.cells cs t fr):=(k.block _ (lt_of_block h) (fun f=>f)).trans h

theorem L8 (o:Tr) (at_:Int) (fo:OA) (fl fc:Nat) (w:World) :
  ClZ 61 #[aP o,.agg #[.int .i64 at_,.slice fo fl fc]] w fun e w'=>∃ bT bF,e=.returned (.func (.func 101) #[] #[.pointer (some ⟨bT,0,none⟩),.pointer (some ⟨bF,0,none⟩)])/\Clo w' bT bF (aP o) at_ fo fl fc/\Kept af w w':=by
 obtain ⟨po,a⟩:=aM o;rw [a];obtain ⟨W,hW⟩:=aj ((w.alloc (.cells #[.pointer po] 57)).alloc (.cells #[.int .i64 at_,.slice fo fl fc] 32))
 have k0:Kept af w W:=by rw [hW];exact ((ah af w).alloc _).alloc _
 have h1:Box W w.heap.size (.pointer po) 57:=by rw [hW];exact (Box.new w _ _).alloc _
 have h2:W.heap[w.heap.size+1]? = some (.cells #[.int .i64 at_,.slice fo fl fc] 32 (0,0)):=by
  rw [hW];have:=heap_alloc_new (w.alloc (.cells #[.pointer po] 57)) (.cells #[.int .i64 at_,.slice fo fl fc] 32)
  rwa [World.size_alloc] at this
 have HW:=aa hW;have HF:=aa (And.intro h1 (And.intro h2 k0));clear hW k0 h1 h2;delta ClZ;go_in;go_wp2_with (rw [<- HW.o]);go_ret;exact ⟨w.heap.size,w.heap.size+1,rfl,⟨HF.o.1,HF.o.2.1⟩,HF.o.2.2⟩

def ES (at_:Int) (fs:LN) (b DP P nP:Nat):Nat:=xw at_ 1 fs (b^DP%P) nP P
def ET (at_:Int) (fs:LN) (b DQ Q nQ:Nat):Nat:=xw at_ 2 fs (b^DQ%Q) nQ Q
def yj (X Y QI P Q:Nat):Nat:=QI*ij X (Y%P) P%P*Q+Y

theorem zH {Y QI P Q:Nat} (hP:0<P) (hY:Y<Q):yj X Y QI P Q<P*Q:=by
 unfold yj;have h1:QI*ij X (Y%P) P%P<P:=aY _ hP;generalize QI*ij X (Y%P) P%P=H at *;have h2:(H+1)*Q<=P*Q:=cF Q h1;rw [ll] at h2;omega

theorem mE {k:Int} (h:0<V:=by omega):xw at_ k fs X n V<V:=aY _ h

def uN (n nP nQ LP LQ:Nat):List Ev:=pmV n nP LP ++ (pB nP ++ (pmV n nQ LQ ++ (pB nQ ++ (fj nQ nP ++ (FO nP ++ (vv nP ++ (kF nP nQ ++ [(1,((nP+nQ:Nat):Int),0)])))))))

theorem pY {N1:Nat} (h:n<=130) (hL:L<=300):(pmV N1 n L).length<=61060000:=by
 have h1:=gX N1 n;have h2:=rg h hL;unfold pmV;rw [bk];omega

theorem qU {M:Nat}:(kF L M).length<=300:=by
 unfold kF
 split
 ·simp;omega
 ·simp

theorem NumT.md {o:Tr} {a b:Nat} (h:Md w o ao bo n K a b V):NumT w o (.slice ao n a) n V:=by
 obtain ⟨_,_,_,e1,h1,_⟩:=h.m8.hm.1.open;cases e1
 have h2:=NumT.of h.m8.hm h.m8.hmd h1.o;rw [h.ev] at h2;exact h2

abbrev mdA (a b:OA) (n K m r:Nat):Value:=.agg #[.slice a n m,.int .u64 (K:Nat),.slice b n r]

abbrev vBx (w:World) (b:Nat):Prop:=w.heap[b]? = some (.cells #[.slice none 0 0,.int .u64 0,.slice none 0 0] 71 (0,0))

def lsH (k:Nat):Array Bool:=((List.range 16).map fun i=>k.testBit i).toArray

def tmH (po:OA) (s:KS) (yo:OA) (n yc bT bF bK:Nat) (v9 v10 v19 v20 v21 v22 v25 v26 v27 v28:Value):Array Value:=#[.pointer po,.agg #[.slice s.no s.nl s.nc,.int .u64 (s.en:Nat),.slice s.dO s.dl s.dc,.slice s.po s.pl s.pc,.slice s.qo s.ql s.qc,.slice s.dpo s.dpl s.dpc,.slice s.dqo s.dql s.dqc,.slice s.qio s.qil s.qic],.slice yo n yc,.func (.func 101) #[] #[.pointer (some ⟨bT,0,none⟩),.pointer (some ⟨bF,0,none⟩)],undef,.pointer (some ⟨bK,0,none⟩),undef,undef,.slice none 0 0,v9,v10,undef,undef,undef,undef,undef,undef,.pointer (some ⟨bK,3,none⟩),.slice s.po s.pl s.pc,v19,v20,v21,v22,.pointer (some ⟨bK,4,none⟩),.slice s.qo s.ql s.qc,v25,v26,v27,v28,undef,undef,undef,undef,undef,undef,undef,undef,undef,undef,undef,undef,undef,undef,undef,undef,undef,undef,undef,undef,undef,undef,undef,undef,undef,undef,undef,undef,undef,undef,undef,undef,undef,undef,undef,undef,undef,undef,undef,undef,undef,undef,undef,undef,undef,undef,undef,undef,undef,undef,undef,undef,undef,undef,undef,undef,undef,undef,undef,undef,undef]

theorem Li (o:Tr) (bT bF:Nat) (at_:Int) (co:rJ at_) (s:KS) (l:KL) (fo:OA) (fl fc:Nat) (fs:LN) (yo:OA) (n yc Bv P Q nP nQ:Nat) (w:World) (ht:TrRoom w o 300000000) (hR:KRows w o s l fo fl fc fs) (hC:Clo w bT bF (aP o) at_ fo fl fc) (gf:Digs fs) (hd:l.Digs)
  (hP:P=val l.p) (hQ:Q=val l.q) (bi:eS P=0) (bj:eS Q=0) (bB:nP=am P) (bD:nQ=am Q) (dr:s.pl<=300) (dt:s.ql<=300) (aN:s.dpl<=300) (aO:s.dql<=300) (ct:s.nl=n) (hn:n<=130) (cH:val l.qi<P) (cn:P*Q<18446744073709551616^n) (hy:NumT w o (.slice yo n yc) n Bv) :
  ClZ 64 #[aP o,.agg #[.slice s.no s.nl s.nc,.int .u64 (s.en:Nat),.slice s.dO s.dl s.dc,.slice s.po s.pl s.pc,.slice s.qo s.ql s.qc,.slice s.dpo s.dpl s.dpc,.slice s.dqo s.dql s.dqc,.slice s.qio s.qil s.qic],.slice yo n yc,.func (.func 101) #[] #[.pointer (some ⟨bT,0,none⟩),.pointer (some ⟨bF,0,none⟩)]] w fun e w'=>∃ zo zc o',e=.returned (.slice zo n zc)/\NumT w' o' (.slice zo n zc) n (yj (ES at_ fs Bv (val l.dp) P nP) (ET at_ fs Bv (val l.dq) Q nQ) (val l.qi) P Q)/\Did w o (uN n nP nQ s.dpl s.dql) w' o':=by
 obtain ⟨po,cy⟩:=aM o;rw [cy] at hC ⊢;obtain ⟨W,hW⟩:=aj (w.alloc (.cells #[.slice s.no s.nl s.nc,.int .u64 (s.en:Nat),.slice s.dO s.dl s.dc,.slice s.po s.pl s.pc,.slice s.qo s.ql s.qc,.slice s.dpo s.dpl s.dpc,.slice s.dqo s.dql s.dqc,.slice s.qio s.qil s.qic] 26))
 have k0:Kept af w W:=by rw [hW];exact (ah af w).alloc _
 have bM:W.heap[w.heap.size]? = some (.cells s.v 26 (0,0)):=by rw [hW];exact heap_alloc_new _ _
 have cI:W.heap.size=w.heap.size+1:=by rw [hW];simp
 have JP:=aa fun W' (k:Kept af w W')=>vT o s.po s.pl s.pc l.p P nP W' (ht.1.g k) (hR.p.1.g k) hd.p (by omega) hP bi bB
 have JQ:=aa fun W' (k:Kept af w W')=>vT o s.qo s.ql s.qc l.q Q nQ W' (ht.1.g k) (hR.q.1.g k) hd.q (by omega) hQ bj bD
 have RW:=hR.g k0;have CW:=hC.g k0;have YW:=hy.g k0;have dQ:=(eu bi).2.1;have dR:=(eu bj).2.1;have bC:nP<=130:=by rw [bB];exact (eu bi).1
 have dm:nQ<=130:=by rw [bD];exact (eu bj).1
 have dj:=hd.dp;have dk:=hd.dq;have bw:=hd.qi;have dg:=aa cn;have df:=aa ct;have ce:=aa cH;have HW:=aa hW;have cf:=aa cI;have HT:=aa (ht.g k0);have O:=aa k0;have dh:=aa ht.1;clear hR hC hy hd hP hQ bi bj bB bD dr dt hW k0 ht cI cn cH ct;delta ClZ;go_in;go_wp2_with (rw [<- HW.o]);refine wp_region_held_drew (S:=fun w'=>w'.heap[w.heap.size]? = some (.cells s.v 26 (0,0))) (by kernel_rfl) bM (fun hS=>?_);refine mM (fun _ _ d _ _ h=>by cases d <;> exact h) fun Q1 a C=>?_
 refine aT a 0 (some 17) (.pointer (some ⟨w.heap.size,3,none⟩)) hS ?_;refine aT a 1 (some 18) (.slice s.po s.pl s.pc) hS ?_ (y:=dL fun w h=>by simp [execOp,go_sem,(aZ h).2.2.2.1]);refine aT a 6 (some 23) (.pointer (some ⟨w.heap.size,4,none⟩)) hS ?_;refine aT a 7 (some 24) (.slice s.qo s.ql s.qc) hS ?_ (y:=dL fun w h=>by simp [execOp,go_sem,(aZ h).2.2.2.2.1]);simp only [aU];refine tJ fun G hG=>?_
 have N:∀ w' ls pa pb pK pm pr qa qb qK qm qr bP bQ,ls=lsH 16383->Kept af W w'->w'.heap[w.heap.size]? = some (.cells s.v 26 (0,0))->Md w' o pa pb nP pK pm pr P->Md w' o qa qb nQ qK qm qr Q->vBx w' bP->w.heap.size+1<=bP->vBx w' bQ->w.heap.size+1<=bQ->¬ bP=bQ->Md.off pa pb nP pm pr bP->Md.off pa pb nP pm pr bQ->Md.off qa qb nQ qm qr bP->Md.off qa qb nQ qm qr bQ->G 2 ls ⟨tmH po s yo n yc bT bF w.heap.size (.pointer (some ⟨bP,0,none⟩)) (.pointer (some ⟨bQ,0,none⟩)) (.tuple #[mdA pa pb nP pK pm pr,.int .i64 0]) (mdA pa pb nP pK pm pr) (.int .i64 0) (mdA pa pb nP pK pm pr) (.tuple #[mdA qa qb nQ qK qm qr,.int .i64 0]) (mdA qa qb nQ qK qm qr) (.int .i64 0) (mdA qa qb nQ qK qm qr),[]⟩ w':=by
  intro w' ls pa pb pK pm pr qa qb qK qm qr bP bQ g k hk mP mQ zP gP zQ gQ ne b c i j;subst g;refine (hG _ _ _ _).2 ?_;unfold tmH;have kp:=mO w' bP (.slice pa nP pm) (.int .u64 (pK:Nat)) (.slice pb nP pr);have b8:=tE zP (.slice pa nP pm) (.int .u64 (pK:Nat)) (.slice pb nP pr);have U:=(kp.block _ (lt_of_block hk) (fun (e:w.heap.size=bP)=>by omega)).trans hk;have b9:=(kp.block _ (lt_of_block zQ) (fun (e:bQ=bP)=>ne e.symm)).trans zQ;have aI:=mP.kept kp b.1 b.2;have a1:=mQ.kept kp i.1 i.2;have K1:=k.next kp (fun x hx (e:x=bP)=>by have h1:=cf.o;omega)
  refine DU 14 (by kernel_rfl) rfl rfl (by rfl) 9 22 bP pa pb nP pm pK nP pr rfl rfl rfl zP U ?_;generalize (((w'.setCell ⟨bP,0,none⟩ (.slice pa nP pm)).setCell ⟨bP,1,none⟩ (.int .u64 (pK:Nat))).setCell ⟨bP,2,none⟩ (.slice pb nP pr))=w1 at *;have kq:=mO w1 bQ (.slice qa nQ qm) (.int .u64 (qK:Nat)) (.slice qb nQ qr);have dd:=tE b9 (.slice qa nQ qm) (.int .u64 (qK:Nat)) (.slice qb nQ qr);have ao:=(kq.block _ (lt_of_block U) (fun (e:w.heap.size=bQ)=>by omega)).trans U;have db:=(kq.block _ (lt_of_block b8) ne).trans b8;have aJ:=aI.kept kq c.1 c.2;have a3:=a1.kept kq j.1 j.2;have K2:=K1.next kq (fun x hx (e:x=bQ)=>by have h1:=cf.o;omega)
  refine DU 15 (by kernel_rfl) rfl rfl (by rfl) 10 28 bQ qa qb nQ qm qK nQ qr rfl rfl rfl b9 ao ?_;generalize (((w1.setCell ⟨bQ,0,none⟩ (.slice qa nQ qm)).setCell ⟨bQ,1,none⟩ (.int .u64 (qK:Nat))).setCell ⟨bQ,2,none⟩ (.slice qb nQ qr))=w2 at *;refine wpAnyH_done (by kernel_rfl) ?_ _;refine C.out _ _ ?_;have s0:Wr w o [] w2 o (.pointer po) 300000000:=⟨Did.of_kept (O.o.trans K2) dh.o,HT.o.g K2,cy⟩
  have R0:=RW.g K2;have C0:=CW.g K2;have Y0:=YW.g K2;have cJ:=aJ;have cP:=a3;have cp:=ao;have cu:=db;have cz:=dd;clear hG hS hk U ao zP zQ b8 b9 db dd mP mQ aI a1 aJ a3 K1 K2 kp kq gP gQ ne b c i j k bM RW CW YW JP JQ;go_wp2_with fail;have d1:Did w2 o [] w2.drew o:=Did.of_kept (ah af w2).drew s0.room.1;have s1:=s0.next (k:=299000000) d1 (by simp)
  have R1:=R0.did d1;have C1:=C0.did d1 s0.room.1;have Y1:=Y0.did d1;have aI:=cJ.did d1;have a1:=cP.did d1;have U:=d1.cells cp s0.room.1;have bE:=d1.cells cu s0.room.1;have cA:=d1.cells cz s0.room.1;clear R0 C0 Y0 cJ cP cp cu cz s0 d1;refine wp_region_held_drew (S:=fun w'=>w'.heap[w.heap.size]? = some (.cells s.v 26 (0,0))/\w'.heap[bP]? = some (.cells #[.slice pa nP pm,.int .u64 (pK:Nat),.slice pb nP pr] 71 (0,0))) (by kernel_rfl) (And.intro U (bE)) (fun hS=>?_);clear a C;refine mM (fun _ _ d _ _ h=>by cases d <;> exact h) fun Q1 a C=>?_
  refine aT a 0 (some 29) (.func (.func 101) #[] #[.pointer (some ⟨bT,0,none⟩),.pointer (some ⟨bF,0,none⟩)]) hS ?_;refine aT a 1 (some 30) (mdA pa pb nP pK pm pr) hS ?_ (y:=dL fun w h=>by simp [execOp,go_sem,(ax h.2).1,(ax h.2).2.1,(ax h.2).2.2]);refine aT a 2 (some 31) (.pointer po) hS ?_;refine aT a 3 (some 32) (mdA pa pb nP pK pm pr) hS ?_ (y:=dL fun w h=>by simp [execOp,go_sem,(ax h.2).1,(ax h.2).2.1,(ax h.2).2.2]);refine aT a 4 (some 33) (.slice yo n yc) hS ?_;refine aT a 5 (some 34) (.pointer (some ⟨w.heap.size,5,none⟩)) hS ?_
  refine aT a 6 (some 35) (.slice s.dpo s.dpl s.dpc) hS ?_ (y:=dL fun w h=>by simp [execOp,go_sem,(aZ h.1).2.2.2.2.2.1]);simp only [aU];have c2:=Lk o pa pb yo s.dpo nP pK pm pr n yc s.dpl s.dpc Bv P l.dp _ (s1.room.l (by omega)) aI Y1 (by omega) R1.dp dj aN;rw [s1.ptr] at c2;refine cD 7 (some 36) 107 [.pointer po,mdA pa pb nP pK pm pr,.slice yo n yc,.slice s.dpo s.dpl s.dpc] (c2) ?_;rintro r dS ⟨up,vp,o2,rfl,bX,d2⟩;have s2:=s1.next (k:=229000000) d2 (by have h:=pY (N1:=n) (n:=nP) (L:=s.dpl) (by omega) aN;omega)
  have R2:=R1.did d2;have C2:=C1.did d2 s1.room.1;have Y2:=Y1.did d2;have aJ:=aI.did d2;have a3:=a1.did d2;have ao:=d2.cells U s1.room.1;have bG:=d2.cells bE s1.room.1;have cB:=d2.cells cA s1.room.1;refine .inl ⟨_,rfl,(And.intro ao (bG)),?_⟩;simp only [aU];clear R1 C1 Y1 aI a1 U bE cA c2 s1 d2;have c3:=ox 1 (by omega) (by omega) o2 bT bF at_ co pa pb up fo nP pK pm pr vp fl fc _ P fs _ (s2.room.l (by omega)) aJ bX (by rw [s2.ptr];exact C2.t) C2.f R2.f gf
  refine zx 8 (some 37) (by kernel_rfl) rfl rfl (by rfl) 101 29 _ _ _ [.int .i64 (1:Nat),mdA pa pb nP pK pm pr,.slice up nP vp] rfl rfl rfl (fun _ _=>by simp [go_sem]) c3 ?_;rintro r b2 ⟨ap,bp,o3,rfl,cW,d3⟩;have s3:=s2.next (k:=228000000) d3 (by have h:=jr nP;omega)
  have R3:=R2.did d3;have C3:=C2.did d3 s2.room.1;have Y3:=Y2.did d3;have cK:=aJ.did d3;have cQ:=a3.did d3;have bk:=d3.cells ao s2.room.1;have bm:=d3.cells bG s2.room.1;have cC:=d3.cells cB s2.room.1;have dz:=bX.did d3;refine ⟨_,rfl,(And.intro bk (bm)),?_⟩;simp only [aU];clear R2 C2 Y2 aJ a3 ao bG cB bX c3 s2 d3;clear dz;refine aT a 9 (some 11) (.slice ap nP bp) (And.intro bk (bm)) ?_;simp only [aU];refine wpAnyH_done (by kernel_rfl) ?_ _;refine C.out _ _ ?_;go_wp2_with fail;have d4:Did b2 o3 [] b2.drew o3:=Did.of_kept (ah af b2).drew s3.room.1
  have s4:=s3.next (k:=220000000) d4 (by simp)
  have R4:=R3.did d4;have C4:=C3.did d4 s3.room.1;have Y4:=Y3.did d4;have cL:=cK.did d4;have bU:=cQ.did d4;have bz:=d4.cells bk s3.room.1;have cv:=d4.cells bm s3.room.1;have bK:=d4.cells cC s3.room.1;have cX:=cW.did d4;clear R3 C3 Y3 cK cQ bk bm cC cW s3 d4;refine wp_region_held_drew (S:=fun w'=>w'.heap[w.heap.size]? = some (.cells s.v 26 (0,0))/\w'.heap[bQ]? = some (.cells #[.slice qa nQ qm,.int .u64 (qK:Nat),.slice qb nQ qr] 71 (0,0))) (by kernel_rfl) (And.intro bz (bK)) (fun hS=>?_);clear a C;refine mM (fun _ _ d _ _ h=>by cases d <;> exact h) fun Q1 a C=>?_
  refine aT a 0 (some 38) (.func (.func 101) #[] #[.pointer (some ⟨bT,0,none⟩),.pointer (some ⟨bF,0,none⟩)]) hS ?_;refine aT a 1 (some 39) (mdA qa qb nQ qK qm qr) hS ?_ (y:=dL fun w h=>by simp [execOp,go_sem,(ax h.2).1,(ax h.2).2.1,(ax h.2).2.2]);refine aT a 2 (some 40) (.pointer po) hS ?_;refine aT a 3 (some 41) (mdA qa qb nQ qK qm qr) hS ?_ (y:=dL fun w h=>by simp [execOp,go_sem,(ax h.2).1,(ax h.2).2.1,(ax h.2).2.2]);refine aT a 4 (some 42) (.slice yo n yc) hS ?_;refine aT a 5 (some 43) (.pointer (some ⟨w.heap.size,6,none⟩)) hS ?_
  refine aT a 6 (some 44) (.slice s.dqo s.dql s.dqc) hS ?_ (y:=dL fun w h=>by simp [execOp,go_sem,(aZ h.1).2.2.2.2.2.2.1]);simp only [aU];have c5:=Lk o3 qa qb yo s.dqo nQ qK qm qr n yc s.dql s.dqc Bv Q l.dq _ (s4.room.l (by omega)) bU Y4 (by omega) R4.dq dk aO;rw [s4.ptr] at c5;refine cD 7 (some 45) 107 [.pointer po,mdA qa qb nQ qK qm qr,.slice yo n yc,.slice s.dqo s.dql s.dqc] (c5) ?_;rintro r dT ⟨uq,vq,o5,rfl,b0,d5⟩;have s5:=s4.next (k:=150000000) d5 (by have h:=pY (N1:=n) (n:=nQ) (L:=s.dql) (by omega) aO;omega)
  have R5:=R4.did d5;have C5:=C4.did d5 s4.room.1;have Y5:=Y4.did d5;have cM:=cL.did d5;have bV:=bU.did d5;have bA:=d5.cells bz s4.room.1;have cw:=d5.cells cv s4.room.1;have bL:=d5.cells bK s4.room.1;have cY:=cX.did d5;refine .inl ⟨_,rfl,(And.intro bA (bL)),?_⟩;simp only [aU];clear R4 C4 Y4 cL bU bz cv bK cX c5 s4 d5;have c6:=ox 2 (by omega) (by omega) o5 bT bF at_ co qa qb uq fo nQ qK qm qr vq fl fc _ Q fs _ (s5.room.l (by omega)) bV b0 (by rw [s5.ptr];exact C5.t) C5.f R5.f gf
  refine zx 8 (some 46) (by kernel_rfl) rfl rfl (by rfl) 101 38 _ _ _ [.int .i64 (2:Nat),mdA qa qb nQ qK qm qr,.slice uq nQ vq] rfl rfl rfl (fun _ _=>by simp [go_sem]) c6 ?_;rintro r b3 ⟨aq,bq,o6,rfl,c4,d6⟩;have s6:=s5.next (k:=149000000) d6 (by have h:=jr nQ;omega)
  have R6:=R5.did d6;have C6:=C5.did d6 s5.room.1;have Y6:=Y5.did d6;have cN:=cM.did d6;have cR:=bV.did d6;have bl:=d6.cells bA s5.room.1;have cx:=d6.cells cw s5.room.1;have bn:=d6.cells bL s5.room.1;have cZ:=cY.did d6;have dA:=b0.did d6;refine ⟨_,rfl,(And.intro bl (bn)),?_⟩;simp only [aU];clear R5 C5 Y5 cM bV bA cw bL cY b0 c6 s5 d6;clear dA;refine aT a 9 (some 12) (.slice aq nQ bq) (And.intro bl (bn)) ?_;simp only [aU];refine wpAnyH_done (by kernel_rfl) ?_ _;refine C.out _ _ ?_;go_wp2_with fail
  have d7:Did b3 o6 [] b3.drew o6:=Did.of_kept (ah af b3).drew s6.room.1;have s7:=s6.next (k:=140000000) d7 (by simp)
  have R7:=R6.did d7;have C7:=C6.did d7 s6.room.1;have Y7:=Y6.did d7;have bO:=cN.did d7;have cS:=cR.did d7;have cq:=d7.cells bl s6.room.1;have bI:=d7.cells cx s6.room.1;have cE:=d7.cells bn s6.room.1;have c0:=cZ.did d7;have b7:=c4.did d7;clear R6 C6 Y6 cN cR bl cx bn cZ c4 s6 d7;refine wp_region_held_drew (S:=fun w'=>w'.heap[bP]? = some (.cells #[.slice pa nP pm,.int .u64 (pK:Nat),.slice pb nP pr] 71 (0,0))) (by kernel_rfl) bI (fun hS=>?_);clear a C;refine mM (fun _ _ d _ _ h=>by cases d <;> exact h) fun Q1 a C=>?_
  refine aT a 0 (some 47) (.pointer po) hS ?_;refine aT a 1 (some 48) (mdA pa pb nP pK pm pr) hS ?_ (y:=dL fun w h=>by simp [execOp,go_sem,(ax h).1,(ax h).2.1,(ax h).2.2]);refine aT a 2 (some 49) (.slice ap nP bp) hS ?_;refine aT a 3 (some 50) (.pointer po) hS ?_;refine aT a 4 (some 51) (mdA pa pb nP pK pm pr) hS ?_ (y:=dL fun w h=>by simp [execOp,go_sem,(ax h).1,(ax h).2.1,(ax h).2.2]);refine aT a 5 (some 52) (.slice aq nQ bq) hS ?_;simp only [aU];have c8:=Du o6 pa pb aq nP pK pm pr nQ bq _ P _ (s7.room.l (by omega)) bO b7;rw [s7.ptr] at c8
  refine cD 6 (some 53) 102 [.pointer po,mdA pa pb nP pK pm pr,.slice aq nQ bq] (c8) ?_;rintro r dU ⟨ur,vr,o8,rfl,b1,d8⟩;have s8:=s7.next (k:=139000000) d8 (by have h:=gX nQ nP;omega)
  have R8:=R7.did d8;have C8:=C7.did d8 s7.room.1;have Y8:=Y7.did d8;have bR:=bO.did d8;have cT:=cS.did d8;have cr:=d8.cells cq s7.room.1;have aH:=d8.cells bI s7.room.1;have cF:=d8.cells cE s7.room.1;have b5:=c0.did d8;have c7:=b7.did d8;refine .inl ⟨_,rfl,aH,?_⟩;simp only [aU];clear R7 C7 Y7 bO cS cq bI cE c0 b7 c8 s7 d8;refine aT a 7 (some 54) (.slice ur nP vr) aH ?_;refine aT a 8 (some 55) (.int .i64 0) aH ?_;simp only [aU];refine cD 9 (some 56) 29 [.slice ur nP vr,.int .i64 0] (gO ur nP vr _) ?_;rintro r wz ⟨rfl,aY⟩;obtain rfl:=aY.symm
  refine .inl ⟨_,rfl,aH,?_⟩;simp only [aU];have c9:=Ln o8 pa pb ap ur nP pK pm pr bp vr _ _ P _ (s8.room.l (by omega)) bR b5 (mE) b1 (bu);rw [s8.ptr] at c9;refine cD 10 (some 57) 108 [.pointer po,mdA pa pb nP pK pm pr,.slice ap nP bp,.slice ur nP vr] (c9) ?_;rintro r be ⟨ud,vd,o9,rfl,cV,d9⟩;have s9:=s8.next (k:=138000000) d9 (by simp [FO])
  have R9:=R8.did d9;have C9:=C8.did d9 s8.room.1;have Y9:=Y8.did d9;have cO:=bR.did d9;have cU:=cT.did d9;have cs:=d9.cells cr s8.room.1;have av:=d9.cells aH s8.room.1;have cG:=d9.cells cF s8.room.1;have c1:=b5.did d9;have da:=c7.did d9;have dB:=b1.did d9;refine .inl ⟨_,rfl,av,?_⟩;simp only [aU];clear R8 C8 Y8 bR cT cr aH cF b5 c7 b1 c9 s8 d9;clear dB;refine aT a 11 (some 58) (.slice ud nP vd) av ?_;refine aT a 12 (some 59) (.int .i64 0) av ?_;simp only [aU];refine cD 13 (some 60) 29 [.slice ud nP vd,.int .i64 0] (gO ud nP vd _) ?_
  rintro r wz ⟨rfl,aY⟩;obtain rfl:=aY.symm;refine .inl ⟨_,rfl,av,?_⟩;refine aT a 14 (some 13) (.slice ud nP vd) av ?_;simp only [aU];refine wpAnyH_done (by kernel_rfl) ?_ _;refine C.out _ _ ?_;go_wp2_with fail;have B:Did be o9 [] be.drew o9:=Did.of_kept (ah af be).drew s9.room.1;have aK:=s9.next (k:=130000000) B (by simp)
  have cg:=R9.did B;have de:=C9.did B s9.room.1;have di:=Y9.did B;have bN:=cO.did B;have bS:=cU.did B;have aQ:=B.cells cs s9.room.1;have aS:=B.cells av s9.room.1;have bJ:=B.cells cG s9.room.1;have b4:=c1.did B;have b6:=da.did B;have bW:=cV.did B;clear R9 C9 Y9 cO cU cs av cG c1 da cV s9 B;refine wp_region_held_drew (S:=fun w'=>w'.heap[w.heap.size]? = some (.cells s.v 26 (0,0))/\w'.heap[bP]? = some (.cells #[.slice pa nP pm,.int .u64 (pK:Nat),.slice pb nP pr] 71 (0,0))) (by kernel_rfl) (And.intro aQ (aS)) (fun hS=>?_);clear a C
  refine mM (fun _ _ d _ _ h=>by cases d <;> exact h) fun Q1 a C=>?_
  refine aT a 0 (some 61) (.pointer po) hS ?_;refine aT a 1 (some 62) (mdA pa pb nP pK pm pr) hS ?_ (y:=dL fun w h=>by simp [execOp,go_sem,(ax h.2).1,(ax h.2).2.1,(ax h.2).2.2]);refine aT a 2 (some 63) (.pointer (some ⟨w.heap.size,7,none⟩)) hS ?_;refine aT a 3 (some 64) (.slice s.qio s.qil s.qic) hS ?_ (y:=dL fun w h=>by simp [execOp,go_sem,(aZ h.1).2.2.2.2.2.2.2]);refine aT a 4 (some 65) (.pointer (some ⟨bP,0,none⟩)) hS ?_;refine aT a 5 (some 66) (.slice pa nP pm) hS ?_ (y:=dL fun w h=>by simp [execOp,go_sem,(ax h.2).1]);refine aT a 6 (some 67) (.int .i64 (nP:Int)) hS ?_
  refine aT a 8 (some 69) (.slice ud nP vd) hS ?_;simp only [aU];refine cD 7 (some 68) 83 [.slice s.qio s.qil s.qic,.int .i64 (nP:Int)] (Aa _ l.qi nP _ cg.qi.1 bw) ?_;rintro r dH ⟨rfl,bo,du⟩;have D:Did be.drew o9 [] dH o9:=Did.of_kept du aK.room.1;have T:=aK.next (k:=129000000) D (by simp)
  have ch:=cg.did D;have cb:=de.did D aK.room.1;have ck:=di.did D;have R:=bN.did D;have a2:=bS.did D;have an:=D.cells aQ aK.room.1;have ar:=D.cells aS aK.room.1;have aW:=D.cells bJ aK.room.1;have bf:=b4.did D;have bg:=b6.did D;have aB:=bW.did D;refine .inl ⟨_,rfl,(And.intro an (ar)),?_⟩;simp only [aU];have aC:=NumT.own bo (bH ce.o R.a.2.2.2) T.room.1;clear bo
  have br:=Dt o9 pa pb _ ud nP pK pm pr nP vd _ _ P _ (T.room.l (by omega)) R aC ce.o aB (tR (mE) (bu));rw [T.ptr] at br;refine cD 9 (some 70) 62 [.pointer po,mdA pa pb nP pK pm pr,.slice (some ⟨be.drew.heap.size,0,none⟩) nP nP,.slice ud nP vd] (br) ?_;rintro r dV ⟨ut,vt,dD,rfl,aD,A⟩;have aE:=T.next (k:=128000000) A (by have h:=kJ bC;omega)
  have ci:=ch.did A;have cc:=cb.did A T.room.1;have cl:=ck.did A;have a0:=R.did A;have az:=a2.did A;have m:=A.cells an T.room.1;have z:=A.cells ar T.room.1;have aw:=A.cells aW T.room.1;have dI:=bf.did A;have bh:=bg.did A;have dx:=aB.did A;have dy:=aC.did A;refine .inl ⟨_,rfl,(And.intro m (z)),?_⟩;simp only [aU];clear ch cb ck R a2 an ar aW bf bg aB aC br T A;refine aT a 10 (some 71) (.slice ut nP vt) (And.intro m (z)) ?_
  refine aT a 11 (some 72) (.int .i64 0) (And.intro m (z)) ?_;simp only [aU];refine cD 12 (some 73) 29 [.slice ut nP vt,.int .i64 0] (gO ut nP vt _) ?_;rintro r wz ⟨rfl,aY⟩;obtain rfl:=aY.symm;refine .inl ⟨_,rfl,(And.intro m (z)),?_⟩;refine aT a 13 (some 14) (.slice ut nP vt) (And.intro m (z)) ?_;simp only [aU];refine wpAnyH_done (by kernel_rfl) ?_ _;refine C.out _ _ ?_;have q0:=(ax aw).1;have bs:=Ll dD ut qa nP nQ vt qm _ Q _ (aE.room.l (by omega)) aD (NumT.md az) (by omega) (by omega);rw [aE.ptr] at bs;go_wp2_with fail;refine bs.mono ?_;rintro e dW ⟨uz,vz,dE,rfl,a6,E⟩
  have aF:=aE.next (k:=127000000) E (by have h:=qU (L:=nP) (M:=nQ);omega)
  have cj:=ci.did E;have cd:=cc.did E aE.room.1;have cm:=cl.did E;have ay:=a0.did E;have aA:=az.did E;have aR:=E.cells m aE.room.1;have aV:=E.cells z aE.room.1;have aX:=E.cells aw aE.room.1;have aG:=bh.did E;have a5:=aD.did E;clear ci cc cl a0 az m z aw bh aD bs q0;have hZ:=zH (X:=ES at_ fs Bv (val l.dp) P nP) (Y:=ET at_ fs Bv (val l.dq) Q nQ) (QI:=val l.qi) (P:=P) (Q:=Q) (by omega) (mE)
  have bt:=Le dE _ _ (nP+nQ) nQ _ _ _ (aF.room.l (by omega)) a6 aG (by omega) (by omega) (bH hZ (by rw [aL];exact Nat.mul_lt_mul'' ay.a.2.2.2 aA.a.2.2.2));rw [aF.ptr] at bt;go_wp2_with fail;refine bt.mono ?_;rintro e dZ ⟨ua,va,ca,dF,rfl,a4,F⟩;have dG:=aF.next (k:=126000000) F (by simp)
  have dN:=cj.did F;have dK:=cd.did F aF.room.1;have dP:=cm.did F;have dv:=ay.did F;have dw:=aA.did F;have bx:=F.cells aR aF.room.1;have dn:=F.cells aV aF.room.1;have ds:=F.cells aX aF.room.1;have dJ:=aG.did F;have dC:=a5.did F;clear cj cd cm ay aA aR aV aX aG a5 bt a6;have q0:=(aZ bx).1;rw [df.o] at q0;have bv:=Aa _ _ n _ a4.1.1 (ak (by omega) _ _);rw [bY a4.2] at bv;go_wp2_with fail;refine bv.mono ?_;rintro e d0 ⟨rfl,bo,kz⟩;have sz:=dG.g kz;clear bv q0;go_wp2_with fail;go_ret
  refine ⟨_,_,dF,rfl,NumT.own bo (bH hZ dg.o) sz.room.1,?_⟩;have h:=sz.did;simp only [uN,dX,bZ,dY] at h ⊢;exact h
 have al:∀ w' ls pa pb pK pm pr qa qb qK qm qr bP,ls=lsH 8191->Kept af W w'->w'.heap[w.heap.size]? = some (.cells s.v 26 (0,0))->Md w' o pa pb nP pK pm pr P->Md w' o qa qb nQ qK qm qr Q->vBx w' bP->w.heap.size+1<=bP->Md.off pa pb nP pm pr bP->Md.off qa qb nQ qm qr bP->G 3 ls ⟨tmH po s yo n yc bT bF w.heap.size (.pointer (some ⟨bP,0,none⟩)) undef (.tuple #[mdA pa pb nP pK pm pr,.int .i64 0]) (mdA pa pb nP pK pm pr) (.int .i64 0) (mdA pa pb nP pK pm pr) (.tuple #[mdA qa qb nQ qK qm qr,.int .i64 0]) (mdA qa qb nQ qK qm qr) (.int .i64 0) (mdA qa qb nQ qK qm qr),[]⟩ w':=by
  intro w' ls pa pb pK pm pr qa qb qK qm qr bP g k hk mP mQ zP gP b i;subst g;refine (hG _ _ _ _).2 ?_;unfold tmH;refine wpAnyH_ready (rs:=[13]) (by kernel_rfl) (by simp) ?_;refine dM 13 (some 10) rfl rfl (by rfl) rfl (au hk ((ah _ _).alloc _)) ?_ ?_
  ·simp only [aU];exact (hG _ _ _ _).1 (N (w'.alloc _) _ pa pb pK pm pr qa qb qK qm qr bP w'.heap.size (by kernel_rfl) (k.alloc _) (au hk ((ah _ _).alloc _)) (mP.g ((ah _ _).alloc _)) (mQ.g ((ah _ _).alloc _)) (au zP ((ah _ _).alloc _)) gP (heap_alloc_new _ _) (by have h1:=lt_of_block hk;omega) (fun e=>by have h1:=lt_of_block zP;omega) b (mP.new (leR _)) i (mQ.new (leR _)))
  ·exact AllReadyH.nil
 have ai:∀ w' ls pa pb pK pm pr qa qb qK qm qr bQ,ls=lsH 12287->Kept af W w'->w'.heap[w.heap.size]? = some (.cells s.v 26 (0,0))->Md w' o pa pb nP pK pm pr P->Md w' o qa qb nQ qK qm qr Q->vBx w' bQ->w.heap.size+1<=bQ->Md.off pa pb nP pm pr bQ->Md.off qa qb nQ qm qr bQ->G 3 ls ⟨tmH po s yo n yc bT bF w.heap.size undef (.pointer (some ⟨bQ,0,none⟩)) (.tuple #[mdA pa pb nP pK pm pr,.int .i64 0]) (mdA pa pb nP pK pm pr) (.int .i64 0) (mdA pa pb nP pK pm pr) (.tuple #[mdA qa qb nQ qK qm qr,.int .i64 0]) (mdA qa qb nQ qK qm qr) (.int .i64 0) (mdA qa qb nQ qK qm qr),[]⟩ w':=by
  intro w' ls pa pb pK pm pr qa qb qK qm qr bQ g k hk mP mQ zQ gQ c j;subst g;refine (hG _ _ _ _).2 ?_;unfold tmH;refine wpAnyH_ready (rs:=[12]) (by kernel_rfl) (by simp) ?_;refine dM 12 (some 9) rfl rfl (by rfl) rfl (au hk ((ah _ _).alloc _)) ?_ ?_
  ·simp only [aU];exact (hG _ _ _ _).1 (N (w'.alloc _) _ pa pb pK pm pr qa qb qK qm qr w'.heap.size bQ (by kernel_rfl) (k.alloc _) (au hk ((ah _ _).alloc _)) (mP.g ((ah _ _).alloc _)) (mQ.g ((ah _ _).alloc _)) (heap_alloc_new _ _) (by have h1:=lt_of_block hk;omega) (au zQ ((ah _ _).alloc _)) gQ (fun e=>by have h1:=lt_of_block zQ;omega) (mP.new (leR _)) c (mQ.new (leR _)) j)
  ·exact AllReadyH.nil
 have bd:∀ w' ls pa pb pK pm pr qa qb qK qm qr,ls=lsH 4095->Kept af W w'->w'.heap[w.heap.size]? = some (.cells s.v 26 (0,0))->Md w' o pa pb nP pK pm pr P->Md w' o qa qb nQ qK qm qr Q->G 4 ls ⟨tmH po s yo n yc bT bF w.heap.size undef undef (.tuple #[mdA pa pb nP pK pm pr,.int .i64 0]) (mdA pa pb nP pK pm pr) (.int .i64 0) (mdA pa pb nP pK pm pr) (.tuple #[mdA qa qb nQ qK qm qr,.int .i64 0]) (mdA qa qb nQ qK qm qr) (.int .i64 0) (mdA qa qb nQ qK qm qr),[]⟩ w':=by
  intro w' ls pa pb pK pm pr qa qb qK qm qr g k hk mP mQ;subst g;refine (hG _ _ _ _).2 ?_;unfold tmH;refine wpAnyH_ready (rs:=[12,13]) (by kernel_rfl) (by simp) ?_;refine dM 12 (some 9) rfl rfl (by rfl) rfl (au hk ((ah _ _).alloc _)) ?_ ?_
  ·simp only [aU];exact (hG _ _ _ _).1 (al (w'.alloc _) _ pa pb pK pm pr qa qb qK qm qr w'.heap.size (by kernel_rfl) (k.alloc _) (au hk ((ah _ _).alloc _)) (mP.g ((ah _ _).alloc _)) (mQ.g ((ah _ _).alloc _)) (heap_alloc_new _ _) (by have h1:=lt_of_block hk;omega) (mP.new (leR _)) (mQ.new (leR _)))
  ·refine dM 13 (some 10) rfl rfl (by rfl) rfl (au hk ((ah _ _).alloc _)) ?_ ?_
   ·simp only [aU];exact (hG _ _ _ _).1 (ai (w'.alloc _) _ pa pb pK pm pr qa qb qK qm qr w'.heap.size (by kernel_rfl) (k.alloc _) (au hk ((ah _ _).alloc _)) (mP.g ((ah _ _).alloc _)) (mQ.g ((ah _ _).alloc _)) (heap_alloc_new _ _) (by have h1:=lt_of_block hk;omega) (mP.new (leR _)) (mQ.new (leR _)))
   ·exact AllReadyH.nil
 have J:∀ w' ls pa pb pK pm pr qa qb qK qm qr bP bQ,ls=lsH 14335->Kept af W w'->w'.heap[w.heap.size]? = some (.cells s.v 26 (0,0))->Md w' o pa pb nP pK pm pr P->Md w' o qa qb nQ qK qm qr Q->vBx w' bP->w.heap.size+1<=bP->vBx w' bQ->w.heap.size+1<=bQ->¬ bP=bQ->Md.off pa pb nP pm pr bP->Md.off pa pb nP pm pr bQ->Md.off qa qb nQ qm qr bP->Md.off qa qb nQ qm qr bQ->G 3 ls ⟨tmH po s yo n yc bT bF w.heap.size (.pointer (some ⟨bP,0,none⟩)) (.pointer (some ⟨bQ,0,none⟩)) (.tuple #[mdA pa pb nP pK pm pr,.int .i64 0]) (mdA pa pb nP pK pm pr) (.int .i64 0) (mdA pa pb nP pK pm pr) (.tuple #[mdA qa qb nQ qK qm qr,.int .i64 0]) (mdA qa qb nQ qK qm qr) (.int .i64 0) undef,[]⟩ w':=by
  intro w' ls pa pb pK pm pr qa qb qK qm qr bP bQ g k hk mP mQ zP gP zQ gQ ne b c i j;subst g;refine (hG _ _ _ _).2 ?_;unfold tmH;refine wpAnyH_ready (rs:=[11]) (by kernel_rfl) (by simp) ?_;refine ei 11 (some 28) rfl rfl (by rfl) 31 _ _ [mdA qa qb nQ qK qm qr,.int .i64 0] rfl rfl (fun _ _=>by simp [go_sem]) (jB qa qb nQ qm qK nQ qr _) ?_ ?_
  ·rintro r w5 ⟨rfl,k5⟩;refine ⟨_,rfl,au hk k5,?_⟩;simp only [aU];exact (hG _ _ _ _).1 (N (w5) _ pa pb pK pm pr qa qb qK qm qr bP bQ (by kernel_rfl) (k.trans k5) (au hk k5) (mP.g k5) (mQ.g k5) (au zP k5) gP (au zQ k5) gQ ne b c i j)
  ·exact AllReadyH.nil
 have ag:∀ w' ls pa pb pK pm pr qa qb qK qm qr bP,ls=lsH 6143->Kept af W w'->w'.heap[w.heap.size]? = some (.cells s.v 26 (0,0))->Md w' o pa pb nP pK pm pr P->Md w' o qa qb nQ qK qm qr Q->vBx w' bP->w.heap.size+1<=bP->Md.off pa pb nP pm pr bP->Md.off qa qb nQ qm qr bP->G 4 ls ⟨tmH po s yo n yc bT bF w.heap.size (.pointer (some ⟨bP,0,none⟩)) undef (.tuple #[mdA pa pb nP pK pm pr,.int .i64 0]) (mdA pa pb nP pK pm pr) (.int .i64 0) (mdA pa pb nP pK pm pr) (.tuple #[mdA qa qb nQ qK qm qr,.int .i64 0]) (mdA qa qb nQ qK qm qr) (.int .i64 0) undef,[]⟩ w':=by
  intro w' ls pa pb pK pm pr qa qb qK qm qr bP g k hk mP mQ zP gP b i;subst g;refine (hG _ _ _ _).2 ?_;unfold tmH;refine wpAnyH_ready (rs:=[11,13]) (by kernel_rfl) (by simp) ?_;refine ei 11 (some 28) rfl rfl (by rfl) 31 _ _ [mdA qa qb nQ qK qm qr,.int .i64 0] rfl rfl (fun _ _=>by simp [go_sem]) (jB qa qb nQ qm qK nQ qr _) ?_ ?_
  ·rintro r w5 ⟨rfl,k5⟩;refine ⟨_,rfl,au hk k5,?_⟩;simp only [aU];exact (hG _ _ _ _).1 (al (w5) _ pa pb pK pm pr qa qb qK qm qr bP (by kernel_rfl) (k.trans k5) (au hk k5) (mP.g k5) (mQ.g k5) (au zP k5) gP b i)
  ·refine dM 13 (some 10) rfl rfl (by rfl) rfl (au hk ((ah _ _).alloc _)) ?_ ?_
   ·simp only [aU];exact (hG _ _ _ _).1 (J (w'.alloc _) _ pa pb pK pm pr qa qb qK qm qr bP w'.heap.size (by kernel_rfl) (k.alloc _) (au hk ((ah _ _).alloc _)) (mP.g ((ah _ _).alloc _)) (mQ.g ((ah _ _).alloc _)) (au zP ((ah _ _).alloc _)) gP (heap_alloc_new _ _) (by have h1:=lt_of_block hk;omega) (fun e=>by have h1:=lt_of_block zP;omega) b (mP.new (leR _)) i (mQ.new (leR _)))
   ·exact AllReadyH.nil
 have ae:∀ w' ls pa pb pK pm pr qa qb qK qm qr bQ,ls=lsH 10239->Kept af W w'->w'.heap[w.heap.size]? = some (.cells s.v 26 (0,0))->Md w' o pa pb nP pK pm pr P->Md w' o qa qb nQ qK qm qr Q->vBx w' bQ->w.heap.size+1<=bQ->Md.off pa pb nP pm pr bQ->Md.off qa qb nQ qm qr bQ->G 4 ls ⟨tmH po s yo n yc bT bF w.heap.size undef (.pointer (some ⟨bQ,0,none⟩)) (.tuple #[mdA pa pb nP pK pm pr,.int .i64 0]) (mdA pa pb nP pK pm pr) (.int .i64 0) (mdA pa pb nP pK pm pr) (.tuple #[mdA qa qb nQ qK qm qr,.int .i64 0]) (mdA qa qb nQ qK qm qr) (.int .i64 0) undef,[]⟩ w':=by
  intro w' ls pa pb pK pm pr qa qb qK qm qr bQ g k hk mP mQ zQ gQ c j;subst g;refine (hG _ _ _ _).2 ?_;unfold tmH;refine wpAnyH_ready (rs:=[11,12]) (by kernel_rfl) (by simp) ?_;refine ei 11 (some 28) rfl rfl (by rfl) 31 _ _ [mdA qa qb nQ qK qm qr,.int .i64 0] rfl rfl (fun _ _=>by simp [go_sem]) (jB qa qb nQ qm qK nQ qr _) ?_ ?_
  ·rintro r w5 ⟨rfl,k5⟩;refine ⟨_,rfl,au hk k5,?_⟩;simp only [aU];exact (hG _ _ _ _).1 (ai (w5) _ pa pb pK pm pr qa qb qK qm qr bQ (by kernel_rfl) (k.trans k5) (au hk k5) (mP.g k5) (mQ.g k5) (au zQ k5) gQ c j)
  ·refine dM 12 (some 9) rfl rfl (by rfl) rfl (au hk ((ah _ _).alloc _)) ?_ ?_
   ·simp only [aU];exact (hG _ _ _ _).1 (J (w'.alloc _) _ pa pb pK pm pr qa qb qK qm qr w'.heap.size bQ (by kernel_rfl) (k.alloc _) (au hk ((ah _ _).alloc _)) (mP.g ((ah _ _).alloc _)) (mQ.g ((ah _ _).alloc _)) (heap_alloc_new _ _) (by have h1:=lt_of_block hk;omega) (au zQ ((ah _ _).alloc _)) gQ (fun e=>by have h1:=lt_of_block zQ;omega) (mP.new (leR _)) c (mQ.new (leR _)) j)
   ·exact AllReadyH.nil
 have bc:∀ w' ls pa pb pK pm pr qa qb qK qm qr,ls=lsH 2047->Kept af W w'->w'.heap[w.heap.size]? = some (.cells s.v 26 (0,0))->Md w' o pa pb nP pK pm pr P->Md w' o qa qb nQ qK qm qr Q->G 5 ls ⟨tmH po s yo n yc bT bF w.heap.size undef undef (.tuple #[mdA pa pb nP pK pm pr,.int .i64 0]) (mdA pa pb nP pK pm pr) (.int .i64 0) (mdA pa pb nP pK pm pr) (.tuple #[mdA qa qb nQ qK qm qr,.int .i64 0]) (mdA qa qb nQ qK qm qr) (.int .i64 0) undef,[]⟩ w':=by
  intro w' ls pa pb pK pm pr qa qb qK qm qr g k hk mP mQ;subst g;refine (hG _ _ _ _).2 ?_;unfold tmH;refine wpAnyH_ready (rs:=[11,12,13]) (by kernel_rfl) (by simp) ?_;refine ei 11 (some 28) rfl rfl (by rfl) 31 _ _ [mdA qa qb nQ qK qm qr,.int .i64 0] rfl rfl (fun _ _=>by simp [go_sem]) (jB qa qb nQ qm qK nQ qr _) ?_ ?_
  ·rintro r w5 ⟨rfl,k5⟩;refine ⟨_,rfl,au hk k5,?_⟩;simp only [aU];exact (hG _ _ _ _).1 (bd (w5) _ pa pb pK pm pr qa qb qK qm qr (by kernel_rfl) (k.trans k5) (au hk k5) (mP.g k5) (mQ.g k5))
  ·refine dM 12 (some 9) rfl rfl (by rfl) rfl (au hk ((ah _ _).alloc _)) ?_ ?_
   ·simp only [aU];exact (hG _ _ _ _).1 (ag (w'.alloc _) _ pa pb pK pm pr qa qb qK qm qr w'.heap.size (by kernel_rfl) (k.alloc _) (au hk ((ah _ _).alloc _)) (mP.g ((ah _ _).alloc _)) (mQ.g ((ah _ _).alloc _)) (heap_alloc_new _ _) (by have h1:=lt_of_block hk;omega) (mP.new (leR _)) (mQ.new (leR _)))
   ·refine dM 13 (some 10) rfl rfl (by rfl) rfl (au hk ((ah _ _).alloc _)) ?_ ?_
    ·simp only [aU];exact (hG _ _ _ _).1 (ae (w'.alloc _) _ pa pb pK pm pr qa qb qK qm qr w'.heap.size (by kernel_rfl) (k.alloc _) (au hk ((ah _ _).alloc _)) (mP.g ((ah _ _).alloc _)) (mQ.g ((ah _ _).alloc _)) (heap_alloc_new _ _) (by have h1:=lt_of_block hk;omega) (mP.new (leR _)) (mQ.new (leR _)))
    ·exact AllReadyH.nil
 have I:∀ w' ls pa pb pK pm pr bP bQ,ls=lsH 12543->Kept af W w'->w'.heap[w.heap.size]? = some (.cells s.v 26 (0,0))->Md w' o pa pb nP pK pm pr P->vBx w' bP->w.heap.size+1<=bP->vBx w' bQ->w.heap.size+1<=bQ->¬ bP=bQ->Md.off pa pb nP pm pr bP->Md.off pa pb nP pm pr bQ->G 6 ls ⟨tmH po s yo n yc bT bF w.heap.size (.pointer (some ⟨bP,0,none⟩)) (.pointer (some ⟨bQ,0,none⟩)) (.tuple #[mdA pa pb nP pK pm pr,.int .i64 0]) (mdA pa pb nP pK pm pr) (.int .i64 0) (mdA pa pb nP pK pm pr) undef undef undef undef,[]⟩ w':=by
  intro w' ls pa pb pK pm pr bP bQ g k hk mP zP gP zQ gQ ne b c;subst g;refine (hG _ _ _ _).2 ?_;unfold tmH;refine wpAnyH_ready (rs:=[8]) (by kernel_rfl) (by simp) ?_;refine ei 8 (some 25) rfl rfl (by rfl) 32 _ _ [.slice s.qo s.ql s.qc] rfl rfl (fun _ _=>by simp [go_sem]) (JQ.o _ (O.o.trans k)) ?_ ?_
  ·rintro r w5 ⟨qa,qb,qK,qm,qr,rfl,mQ,⟨fa,fb⟩,k5⟩;refine ⟨_,rfl,au hk k5,?_⟩;refine aT a 9 (some 26) (mdA qa qb nQ qK qm qr) (au hk k5) ?_;refine aT a 10 (some 27) (.int .i64 0) (au hk k5) ?_;simp only [aU];exact (hG _ _ _ _).1 (J (w5) _ pa pb pK pm pr qa qb qK qm qr bP bQ (by kernel_rfl) (k.trans k5) (au hk k5) (mP.g k5) mQ (au zP k5) gP (au zQ k5) gQ ne b c ⟨fun x hx e=>by have h1:=fa x hx;have h2:=lt_of_block zP;omega,fun x hx e=>by have h1:=fb x hx;have h2:=lt_of_block zP;omega⟩ ⟨fun x hx e=>by have h1:=fa x hx;have h2:=lt_of_block zQ;omega,fun x hx e=>by have h1:=fb x hx;have h2:=lt_of_block zQ;omega⟩)
  ·exact AllReadyH.nil
 have ad:∀ w' ls pa pb pK pm pr bP,ls=lsH 4351->Kept af W w'->w'.heap[w.heap.size]? = some (.cells s.v 26 (0,0))->Md w' o pa pb nP pK pm pr P->vBx w' bP->w.heap.size+1<=bP->Md.off pa pb nP pm pr bP->G 7 ls ⟨tmH po s yo n yc bT bF w.heap.size (.pointer (some ⟨bP,0,none⟩)) undef (.tuple #[mdA pa pb nP pK pm pr,.int .i64 0]) (mdA pa pb nP pK pm pr) (.int .i64 0) (mdA pa pb nP pK pm pr) undef undef undef undef,[]⟩ w':=by
  intro w' ls pa pb pK pm pr bP g k hk mP zP gP b;subst g;refine (hG _ _ _ _).2 ?_;unfold tmH;refine wpAnyH_ready (rs:=[8,13]) (by kernel_rfl) (by simp) ?_;refine ei 8 (some 25) rfl rfl (by rfl) 32 _ _ [.slice s.qo s.ql s.qc] rfl rfl (fun _ _=>by simp [go_sem]) (JQ.o _ (O.o.trans k)) ?_ ?_
  ·rintro r w5 ⟨qa,qb,qK,qm,qr,rfl,mQ,⟨fa,fb⟩,k5⟩;refine ⟨_,rfl,au hk k5,?_⟩;refine aT a 9 (some 26) (mdA qa qb nQ qK qm qr) (au hk k5) ?_;refine aT a 10 (some 27) (.int .i64 0) (au hk k5) ?_;simp only [aU];exact (hG _ _ _ _).1 (ag (w5) _ pa pb pK pm pr qa qb qK qm qr bP (by kernel_rfl) (k.trans k5) (au hk k5) (mP.g k5) mQ (au zP k5) gP b ⟨fun x hx e=>by have h1:=fa x hx;have h2:=lt_of_block zP;omega,fun x hx e=>by have h1:=fb x hx;have h2:=lt_of_block zP;omega⟩)
  ·refine dM 13 (some 10) rfl rfl (by rfl) rfl (au hk ((ah _ _).alloc _)) ?_ ?_
   ·simp only [aU];exact (hG _ _ _ _).1 (I (w'.alloc _) _ pa pb pK pm pr bP w'.heap.size (by kernel_rfl) (k.alloc _) (au hk ((ah _ _).alloc _)) (mP.g ((ah _ _).alloc _)) (au zP ((ah _ _).alloc _)) gP (heap_alloc_new _ _) (by have h1:=lt_of_block hk;omega) (fun e=>by have h1:=lt_of_block zP;omega) b (mP.new (leR _)))
   ·exact AllReadyH.nil
 have ac:∀ w' ls pa pb pK pm pr bQ,ls=lsH 8447->Kept af W w'->w'.heap[w.heap.size]? = some (.cells s.v 26 (0,0))->Md w' o pa pb nP pK pm pr P->vBx w' bQ->w.heap.size+1<=bQ->Md.off pa pb nP pm pr bQ->G 7 ls ⟨tmH po s yo n yc bT bF w.heap.size undef (.pointer (some ⟨bQ,0,none⟩)) (.tuple #[mdA pa pb nP pK pm pr,.int .i64 0]) (mdA pa pb nP pK pm pr) (.int .i64 0) (mdA pa pb nP pK pm pr) undef undef undef undef,[]⟩ w':=by
  intro w' ls pa pb pK pm pr bQ g k hk mP zQ gQ c;subst g;refine (hG _ _ _ _).2 ?_;unfold tmH;refine wpAnyH_ready (rs:=[8,12]) (by kernel_rfl) (by simp) ?_;refine ei 8 (some 25) rfl rfl (by rfl) 32 _ _ [.slice s.qo s.ql s.qc] rfl rfl (fun _ _=>by simp [go_sem]) (JQ.o _ (O.o.trans k)) ?_ ?_
  ·rintro r w5 ⟨qa,qb,qK,qm,qr,rfl,mQ,⟨fa,fb⟩,k5⟩;refine ⟨_,rfl,au hk k5,?_⟩;refine aT a 9 (some 26) (mdA qa qb nQ qK qm qr) (au hk k5) ?_;refine aT a 10 (some 27) (.int .i64 0) (au hk k5) ?_;simp only [aU];exact (hG _ _ _ _).1 (ae (w5) _ pa pb pK pm pr qa qb qK qm qr bQ (by kernel_rfl) (k.trans k5) (au hk k5) (mP.g k5) mQ (au zQ k5) gQ c ⟨fun x hx e=>by have h1:=fa x hx;have h2:=lt_of_block zQ;omega,fun x hx e=>by have h1:=fb x hx;have h2:=lt_of_block zQ;omega⟩)
  ·refine dM 12 (some 9) rfl rfl (by rfl) rfl (au hk ((ah _ _).alloc _)) ?_ ?_
   ·simp only [aU];exact (hG _ _ _ _).1 (I (w'.alloc _) _ pa pb pK pm pr w'.heap.size bQ (by kernel_rfl) (k.alloc _) (au hk ((ah _ _).alloc _)) (mP.g ((ah _ _).alloc _)) (heap_alloc_new _ _) (by have h1:=lt_of_block hk;omega) (au zQ ((ah _ _).alloc _)) gQ (fun e=>by have h1:=lt_of_block zQ;omega) (mP.new (leR _)) c)
   ·exact AllReadyH.nil
 have bb:∀ w' ls pa pb pK pm pr,ls=lsH 255->Kept af W w'->w'.heap[w.heap.size]? = some (.cells s.v 26 (0,0))->Md w' o pa pb nP pK pm pr P->G 8 ls ⟨tmH po s yo n yc bT bF w.heap.size undef undef (.tuple #[mdA pa pb nP pK pm pr,.int .i64 0]) (mdA pa pb nP pK pm pr) (.int .i64 0) (mdA pa pb nP pK pm pr) undef undef undef undef,[]⟩ w':=by
  intro w' ls pa pb pK pm pr g k hk mP;subst g;refine (hG _ _ _ _).2 ?_;unfold tmH;refine wpAnyH_ready (rs:=[8,12,13]) (by kernel_rfl) (by simp) ?_;refine ei 8 (some 25) rfl rfl (by rfl) 32 _ _ [.slice s.qo s.ql s.qc] rfl rfl (fun _ _=>by simp [go_sem]) (JQ.o _ (O.o.trans k)) ?_ ?_
  ·rintro r w5 ⟨qa,qb,qK,qm,qr,rfl,mQ,⟨fa,fb⟩,k5⟩;refine ⟨_,rfl,au hk k5,?_⟩;refine aT a 9 (some 26) (mdA qa qb nQ qK qm qr) (au hk k5) ?_;refine aT a 10 (some 27) (.int .i64 0) (au hk k5) ?_;simp only [aU];exact (hG _ _ _ _).1 (bc (w5) _ pa pb pK pm pr qa qb qK qm qr (by kernel_rfl) (k.trans k5) (au hk k5) (mP.g k5) mQ)
  ·refine dM 12 (some 9) rfl rfl (by rfl) rfl (au hk ((ah _ _).alloc _)) ?_ ?_
   ·simp only [aU];exact (hG _ _ _ _).1 (ad (w'.alloc _) _ pa pb pK pm pr w'.heap.size (by kernel_rfl) (k.alloc _) (au hk ((ah _ _).alloc _)) (mP.g ((ah _ _).alloc _)) (heap_alloc_new _ _) (by have h1:=lt_of_block hk;omega) (mP.new (leR _)))
   ·refine dM 13 (some 10) rfl rfl (by rfl) rfl (au hk ((ah _ _).alloc _)) ?_ ?_
    ·simp only [aU];exact (hG _ _ _ _).1 (ac (w'.alloc _) _ pa pb pK pm pr w'.heap.size (by kernel_rfl) (k.alloc _) (au hk ((ah _ _).alloc _)) (mP.g ((ah _ _).alloc _)) (heap_alloc_new _ _) (by have h1:=lt_of_block hk;omega) (mP.new (leR _)))
    ·exact AllReadyH.nil
 have H:∀ w' ls pa pb pK pm pr bP bQ,ls=lsH 12511->Kept af W w'->w'.heap[w.heap.size]? = some (.cells s.v 26 (0,0))->Md w' o pa pb nP pK pm pr P->vBx w' bP->w.heap.size+1<=bP->vBx w' bQ->w.heap.size+1<=bQ->¬ bP=bQ->Md.off pa pb nP pm pr bP->Md.off pa pb nP pm pr bQ->G 7 ls ⟨tmH po s yo n yc bT bF w.heap.size (.pointer (some ⟨bP,0,none⟩)) (.pointer (some ⟨bQ,0,none⟩)) (.tuple #[mdA pa pb nP pK pm pr,.int .i64 0]) (mdA pa pb nP pK pm pr) (.int .i64 0) undef undef undef undef undef,[]⟩ w':=by
  intro w' ls pa pb pK pm pr bP bQ g k hk mP zP gP zQ gQ ne b c;subst g;refine (hG _ _ _ _).2 ?_;unfold tmH;refine wpAnyH_ready (rs:=[5]) (by kernel_rfl) (by simp) ?_;refine ei 5 (some 22) rfl rfl (by rfl) 31 _ _ [mdA pa pb nP pK pm pr,.int .i64 0] rfl rfl (fun _ _=>by simp [go_sem]) (jB pa pb nP pm pK nP pr _) ?_ ?_
  ·rintro r w5 ⟨rfl,k5⟩;refine ⟨_,rfl,au hk k5,?_⟩;simp only [aU];exact (hG _ _ _ _).1 (I (w5) _ pa pb pK pm pr bP bQ (by kernel_rfl) (k.trans k5) (au hk k5) (mP.g k5) (au zP k5) gP (au zQ k5) gQ ne b c)
  ·exact AllReadyH.nil
 have ab:∀ w' ls pa pb pK pm pr bP,ls=lsH 4319->Kept af W w'->w'.heap[w.heap.size]? = some (.cells s.v 26 (0,0))->Md w' o pa pb nP pK pm pr P->vBx w' bP->w.heap.size+1<=bP->Md.off pa pb nP pm pr bP->G 8 ls ⟨tmH po s yo n yc bT bF w.heap.size (.pointer (some ⟨bP,0,none⟩)) undef (.tuple #[mdA pa pb nP pK pm pr,.int .i64 0]) (mdA pa pb nP pK pm pr) (.int .i64 0) undef undef undef undef undef,[]⟩ w':=by
  intro w' ls pa pb pK pm pr bP g k hk mP zP gP b;subst g;refine (hG _ _ _ _).2 ?_;unfold tmH;refine wpAnyH_ready (rs:=[5,13]) (by kernel_rfl) (by simp) ?_;refine ei 5 (some 22) rfl rfl (by rfl) 31 _ _ [mdA pa pb nP pK pm pr,.int .i64 0] rfl rfl (fun _ _=>by simp [go_sem]) (jB pa pb nP pm pK nP pr _) ?_ ?_
  ·rintro r w5 ⟨rfl,k5⟩;refine ⟨_,rfl,au hk k5,?_⟩;simp only [aU];exact (hG _ _ _ _).1 (ad (w5) _ pa pb pK pm pr bP (by kernel_rfl) (k.trans k5) (au hk k5) (mP.g k5) (au zP k5) gP b)
  ·refine dM 13 (some 10) rfl rfl (by rfl) rfl (au hk ((ah _ _).alloc _)) ?_ ?_
   ·simp only [aU];exact (hG _ _ _ _).1 (H (w'.alloc _) _ pa pb pK pm pr bP w'.heap.size (by kernel_rfl) (k.alloc _) (au hk ((ah _ _).alloc _)) (mP.g ((ah _ _).alloc _)) (au zP ((ah _ _).alloc _)) gP (heap_alloc_new _ _) (by have h1:=lt_of_block hk;omega) (fun e=>by have h1:=lt_of_block zP;omega) b (mP.new (leR _)))
   ·exact AllReadyH.nil
 have Z:∀ w' ls pa pb pK pm pr bQ,ls=lsH 8415->Kept af W w'->w'.heap[w.heap.size]? = some (.cells s.v 26 (0,0))->Md w' o pa pb nP pK pm pr P->vBx w' bQ->w.heap.size+1<=bQ->Md.off pa pb nP pm pr bQ->G 8 ls ⟨tmH po s yo n yc bT bF w.heap.size undef (.pointer (some ⟨bQ,0,none⟩)) (.tuple #[mdA pa pb nP pK pm pr,.int .i64 0]) (mdA pa pb nP pK pm pr) (.int .i64 0) undef undef undef undef undef,[]⟩ w':=by
  intro w' ls pa pb pK pm pr bQ g k hk mP zQ gQ c;subst g;refine (hG _ _ _ _).2 ?_;unfold tmH;refine wpAnyH_ready (rs:=[5,12]) (by kernel_rfl) (by simp) ?_;refine ei 5 (some 22) rfl rfl (by rfl) 31 _ _ [mdA pa pb nP pK pm pr,.int .i64 0] rfl rfl (fun _ _=>by simp [go_sem]) (jB pa pb nP pm pK nP pr _) ?_ ?_
  ·rintro r w5 ⟨rfl,k5⟩;refine ⟨_,rfl,au hk k5,?_⟩;simp only [aU];exact (hG _ _ _ _).1 (ac (w5) _ pa pb pK pm pr bQ (by kernel_rfl) (k.trans k5) (au hk k5) (mP.g k5) (au zQ k5) gQ c)
  ·refine dM 12 (some 9) rfl rfl (by rfl) rfl (au hk ((ah _ _).alloc _)) ?_ ?_
   ·simp only [aU];exact (hG _ _ _ _).1 (H (w'.alloc _) _ pa pb pK pm pr w'.heap.size bQ (by kernel_rfl) (k.alloc _) (au hk ((ah _ _).alloc _)) (mP.g ((ah _ _).alloc _)) (heap_alloc_new _ _) (by have h1:=lt_of_block hk;omega) (au zQ ((ah _ _).alloc _)) gQ (fun e=>by have h1:=lt_of_block zQ;omega) (mP.new (leR _)) c)
   ·exact AllReadyH.nil
 have ba:∀ w' ls pa pb pK pm pr,ls=lsH 223->Kept af W w'->w'.heap[w.heap.size]? = some (.cells s.v 26 (0,0))->Md w' o pa pb nP pK pm pr P->G 9 ls ⟨tmH po s yo n yc bT bF w.heap.size undef undef (.tuple #[mdA pa pb nP pK pm pr,.int .i64 0]) (mdA pa pb nP pK pm pr) (.int .i64 0) undef undef undef undef undef,[]⟩ w':=by
  intro w' ls pa pb pK pm pr g k hk mP;subst g;refine (hG _ _ _ _).2 ?_;unfold tmH;refine wpAnyH_ready (rs:=[5,12,13]) (by kernel_rfl) (by simp) ?_;refine ei 5 (some 22) rfl rfl (by rfl) 31 _ _ [mdA pa pb nP pK pm pr,.int .i64 0] rfl rfl (fun _ _=>by simp [go_sem]) (jB pa pb nP pm pK nP pr _) ?_ ?_
  ·rintro r w5 ⟨rfl,k5⟩;refine ⟨_,rfl,au hk k5,?_⟩;simp only [aU];exact (hG _ _ _ _).1 (bb (w5) _ pa pb pK pm pr (by kernel_rfl) (k.trans k5) (au hk k5) (mP.g k5))
  ·refine dM 12 (some 9) rfl rfl (by rfl) rfl (au hk ((ah _ _).alloc _)) ?_ ?_
   ·simp only [aU];exact (hG _ _ _ _).1 (ab (w'.alloc _) _ pa pb pK pm pr w'.heap.size (by kernel_rfl) (k.alloc _) (au hk ((ah _ _).alloc _)) (mP.g ((ah _ _).alloc _)) (heap_alloc_new _ _) (by have h1:=lt_of_block hk;omega) (mP.new (leR _)))
   ·refine dM 13 (some 10) rfl rfl (by rfl) rfl (au hk ((ah _ _).alloc _)) ?_ ?_
    ·simp only [aU];exact (hG _ _ _ _).1 (Z (w'.alloc _) _ pa pb pK pm pr w'.heap.size (by kernel_rfl) (k.alloc _) (au hk ((ah _ _).alloc _)) (mP.g ((ah _ _).alloc _)) (heap_alloc_new _ _) (by have h1:=lt_of_block hk;omega) (mP.new (leR _)))
    ·exact AllReadyH.nil
 have V:∀ w' ls bP bQ,ls=lsH 12483->Kept af W w'->w'.heap[w.heap.size]? = some (.cells s.v 26 (0,0))->vBx w' bP->w.heap.size+1<=bP->vBx w' bQ->w.heap.size+1<=bQ->¬ bP=bQ->G 10 ls ⟨tmH po s yo n yc bT bF w.heap.size (.pointer (some ⟨bP,0,none⟩)) (.pointer (some ⟨bQ,0,none⟩)) undef undef undef undef undef undef undef undef,[]⟩ w':=by
  intro w' ls bP bQ g k hk zP gP zQ gQ ne;subst g;refine (hG _ _ _ _).2 ?_;unfold tmH;refine wpAnyH_ready (rs:=[2]) (by kernel_rfl) (by simp) ?_;refine ei 2 (some 19) rfl rfl (by rfl) 32 _ _ [.slice s.po s.pl s.pc] rfl rfl (fun _ _=>by simp [go_sem]) (JP.o _ (O.o.trans k)) ?_ ?_
  ·rintro r w5 ⟨pa,pb,pK,pm,pr,rfl,mP,⟨fa,fb⟩,k5⟩;refine ⟨_,rfl,au hk k5,?_⟩;refine aT a 3 (some 20) (mdA pa pb nP pK pm pr) (au hk k5) ?_;refine aT a 4 (some 21) (.int .i64 0) (au hk k5) ?_;simp only [aU];exact (hG _ _ _ _).1 (H (w5) _ pa pb pK pm pr bP bQ (by kernel_rfl) (k.trans k5) (au hk k5) mP (au zP k5) gP (au zQ k5) gQ ne ⟨fun x hx e=>by have h1:=fa x hx;have h2:=lt_of_block zP;omega,fun x hx e=>by have h1:=fb x hx;have h2:=lt_of_block zP;omega⟩ ⟨fun x hx e=>by have h1:=fa x hx;have h2:=lt_of_block zQ;omega,fun x hx e=>by have h1:=fb x hx;have h2:=lt_of_block zQ;omega⟩)
  ·exact AllReadyH.nil
 have a9:∀ w' ls bP,ls=lsH 4291->Kept af W w'->w'.heap[w.heap.size]? = some (.cells s.v 26 (0,0))->vBx w' bP->w.heap.size+1<=bP->G 11 ls ⟨tmH po s yo n yc bT bF w.heap.size (.pointer (some ⟨bP,0,none⟩)) undef undef undef undef undef undef undef undef undef,[]⟩ w':=by
  intro w' ls bP g k hk zP gP;subst g;refine (hG _ _ _ _).2 ?_;unfold tmH;refine wpAnyH_ready (rs:=[2,13]) (by kernel_rfl) (by simp) ?_;refine ei 2 (some 19) rfl rfl (by rfl) 32 _ _ [.slice s.po s.pl s.pc] rfl rfl (fun _ _=>by simp [go_sem]) (JP.o _ (O.o.trans k)) ?_ ?_
  ·rintro r w5 ⟨pa,pb,pK,pm,pr,rfl,mP,⟨fa,fb⟩,k5⟩;refine ⟨_,rfl,au hk k5,?_⟩;refine aT a 3 (some 20) (mdA pa pb nP pK pm pr) (au hk k5) ?_;refine aT a 4 (some 21) (.int .i64 0) (au hk k5) ?_;simp only [aU];exact (hG _ _ _ _).1 (ab (w5) _ pa pb pK pm pr bP (by kernel_rfl) (k.trans k5) (au hk k5) mP (au zP k5) gP ⟨fun x hx e=>by have h1:=fa x hx;have h2:=lt_of_block zP;omega,fun x hx e=>by have h1:=fb x hx;have h2:=lt_of_block zP;omega⟩)
  ·refine dM 13 (some 10) rfl rfl (by rfl) rfl (au hk ((ah _ _).alloc _)) ?_ ?_
   ·simp only [aU];exact (hG _ _ _ _).1 (V (w'.alloc _) _ bP w'.heap.size (by kernel_rfl) (k.alloc _) (au hk ((ah _ _).alloc _)) (au zP ((ah _ _).alloc _)) gP (heap_alloc_new _ _) (by have h1:=lt_of_block hk;omega) (fun e=>by have h1:=lt_of_block zP;omega))
   ·exact AllReadyH.nil
 have a8:∀ w' ls bQ,ls=lsH 8387->Kept af W w'->w'.heap[w.heap.size]? = some (.cells s.v 26 (0,0))->vBx w' bQ->w.heap.size+1<=bQ->G 11 ls ⟨tmH po s yo n yc bT bF w.heap.size undef (.pointer (some ⟨bQ,0,none⟩)) undef undef undef undef undef undef undef undef,[]⟩ w':=by
  intro w' ls bQ g k hk zQ gQ;subst g;refine (hG _ _ _ _).2 ?_;unfold tmH;refine wpAnyH_ready (rs:=[2,12]) (by kernel_rfl) (by simp) ?_;refine ei 2 (some 19) rfl rfl (by rfl) 32 _ _ [.slice s.po s.pl s.pc] rfl rfl (fun _ _=>by simp [go_sem]) (JP.o _ (O.o.trans k)) ?_ ?_
  ·rintro r w5 ⟨pa,pb,pK,pm,pr,rfl,mP,⟨fa,fb⟩,k5⟩;refine ⟨_,rfl,au hk k5,?_⟩;refine aT a 3 (some 20) (mdA pa pb nP pK pm pr) (au hk k5) ?_;refine aT a 4 (some 21) (.int .i64 0) (au hk k5) ?_;simp only [aU];exact (hG _ _ _ _).1 (Z (w5) _ pa pb pK pm pr bQ (by kernel_rfl) (k.trans k5) (au hk k5) mP (au zQ k5) gQ ⟨fun x hx e=>by have h1:=fa x hx;have h2:=lt_of_block zQ;omega,fun x hx e=>by have h1:=fb x hx;have h2:=lt_of_block zQ;omega⟩)
  ·refine dM 12 (some 9) rfl rfl (by rfl) rfl (au hk ((ah _ _).alloc _)) ?_ ?_
   ·simp only [aU];exact (hG _ _ _ _).1 (V (w'.alloc _) _ w'.heap.size bQ (by kernel_rfl) (k.alloc _) (au hk ((ah _ _).alloc _)) (heap_alloc_new _ _) (by have h1:=lt_of_block hk;omega) (au zQ ((ah _ _).alloc _)) gQ (fun e=>by have h1:=lt_of_block zQ;omega))
   ·exact AllReadyH.nil
 have a7:∀ w' ls,ls=lsH 195->Kept af W w'->w'.heap[w.heap.size]? = some (.cells s.v 26 (0,0))->G 12 ls ⟨tmH po s yo n yc bT bF w.heap.size undef undef undef undef undef undef undef undef undef undef,[]⟩ w':=by
  intro w' ls  g k hk ;subst g;refine (hG _ _ _ _).2 ?_;unfold tmH;refine wpAnyH_ready (rs:=[2,12,13]) (by kernel_rfl) (by simp) ?_;refine ei 2 (some 19) rfl rfl (by rfl) 32 _ _ [.slice s.po s.pl s.pc] rfl rfl (fun _ _=>by simp [go_sem]) (JP.o _ (O.o.trans k)) ?_ ?_
  ·rintro r w5 ⟨pa,pb,pK,pm,pr,rfl,mP,⟨fa,fb⟩,k5⟩;refine ⟨_,rfl,au hk k5,?_⟩;refine aT a 3 (some 20) (mdA pa pb nP pK pm pr) (au hk k5) ?_;refine aT a 4 (some 21) (.int .i64 0) (au hk k5) ?_;simp only [aU];exact (hG _ _ _ _).1 (ba (w5) _ pa pb pK pm pr (by kernel_rfl) (k.trans k5) (au hk k5) mP)
  ·refine dM 12 (some 9) rfl rfl (by rfl) rfl (au hk ((ah _ _).alloc _)) ?_ ?_
   ·simp only [aU];exact (hG _ _ _ _).1 (a9 (w'.alloc _) _ w'.heap.size (by kernel_rfl) (k.alloc _) (au hk ((ah _ _).alloc _)) (heap_alloc_new _ _) (by have h1:=lt_of_block hk;omega))
   ·refine dM 13 (some 10) rfl rfl (by rfl) rfl (au hk ((ah _ _).alloc _)) ?_ ?_
    ·simp only [aU];exact (hG _ _ _ _).1 (a8 (w'.alloc _) _ w'.heap.size (by kernel_rfl) (k.alloc _) (au hk ((ah _ _).alloc _)) (heap_alloc_new _ _) (by have h1:=lt_of_block hk;omega))
    ·exact AllReadyH.nil
 exact a7 _ _ (by kernel_rfl) (ah af W).drew bM

end Go.Proofs.YtpkmoamgpjcdeaaGreatDoor
