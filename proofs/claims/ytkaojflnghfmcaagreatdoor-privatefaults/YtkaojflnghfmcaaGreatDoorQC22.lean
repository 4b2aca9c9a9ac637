/- Put together of: Prw1 Pub1 Byt1 Scr1 Scr3 Scr4 Prm4 Bld1 Prv1 Cut0. -/
import Derived.Test.YtkaojflnghfmcaaGreatDoorQC21
import Derived.Laws.AppendOwn
import Derived.Laws.AppendOwnNone
import Derived.Laws.BytesArg
import Derived.Lib.Strings

namespace Go.Proofs.YtkaojflnghfmcaaGreatDoor
open _root_.Go.Proofs.Tryz
set_option maxRecDepth 100000
set_option maxHeartbeats 4000000
open Go.RowKit

theorem ts (p:Addr) (w:World) :
  CallsD prog 60 #[.pointer (some p)] .returning w fun e u' w'=>e=.returned (.tuple #[])/\u'=.returning/\w'=w:=by
 refine callsD_of_wpS func60 rfl fun c₀ cs hu=>?_
 apply wpS_seq;apply wpS_region;simp [wpOpsS,go_sem,recoverD,hu,ntmps60,Exit.thenS];apply wpS_seq;apply wpS_seq;apply wpS_region;simp [wpOpsS,go_sem,Exit.thenS];refine wpS_cond (t:=true) (by simp [Act.eval,Array.replicate]) ?_;simp only [if_true];refine wpS_of_wp (wp_ret ?_);cases c₀
 simp_all [bodyPostS,results,results60,Exit.thenS]

theorem Dq (p:Addr) (x n:Int) (a:List PanicEntry) (w:World) (hc:w.cell? p=some (.int .i64 x)) (hz:w.frozen? p=false) :
  CallsD prog 60 #[.pointer (some p)] (.panicking (refusal n :: a)) w fun e u' w'=>
   e=.returned (.tuple #[])/\u'=.panicking ({ refusal n with recovered:=true } :: a)/\w'=w.setCell p (.int .i64 n):=by
 refine callsD_of_wpS func60 rfl fun c₀ cs hu=>?_
 apply wpS_seq;apply wpS_region;simp [wpOpsS,go_sem,recoverD,hu,ntmps60,Exit.thenS];apply wpS_seq;apply wpS_seq;apply wpS_region;simp [wpOpsS,go_sem,Exit.thenS];refine wpS_cond (t:=false) (by simp [Act.eval,Array.replicate]) ?_;simp only [kZ,if_false];refine wpS_of_wp (wp_skip ?_);simp only [Exit.thenS];refine wpS_of_wp ?_;have c:∀ w:World,(Instr.typeAssert (.iface 32 (.int .i64 n)) 20 32 true).run prog w=.ok (.tuple #[.int .i64 n,.bool true]) w:=fun w=>by kernel_rfl
 have b:∀ (x:Bool) (w:World),(Op.unary .not (.bool x)).run prog w=.ok (.bool (!x)) w:=fun _ _=>rfl
 have e:(#[Value.pointer (some p)] ++ ((((Array.replicate 15 undef).setIfInBounds 3 (Value.iface 32 (Value.int IntKind.i64 n))).setIfInBounds 0 (Value.iface 32 (Value.int IntKind.i64 n))).setIfInBounds 4 (Value.iface 32 (Value.int IntKind.i64 n))).setIfInBounds 5 (Value.bool false):Array Value)=#[.pointer (some p),.iface 32 (.int .i64 n),undef,undef,.iface 32 (.int .i64 n),.iface 32 (.int .i64 n),.bool false,undef,undef,undef,undef,undef,undef,undef,undef,undef]:=rfl;rw [e];clear e;go_wp2;simp [bodyPostS,results,results60]

theorem lG (f:Nat) (b:Array Value) (w:World) (Q:Int->World->Prop) (he:∀ args w,(callFunc f args).run prog w=.ok (.enter f args) w)
  (h:Calls prog f b (w.alloc (.cells #[.int .i64 0] 32)) fun e w'=>w'.heap[w.heap.size]? = some (.cells #[.int .i64 0] 32 (0,0)) /\
   ((e=.returned (.tuple #[])/\Q 0 w')\/∃ n,e=.panicked [refusal n]/\Q n w')) :
  Calls prog 28 #[.func (.func f) #[] b] w fun e w'=>∃ n w1,e=.returned (.int .i64 n)/\(Q n w1/\w1.heap[w.heap.size]? = some (.cells #[.int .i64 0] 32 (0,0)))/\w'=w1.setCell ⟨w.heap.size,0,none⟩ (.int .i64 n):=by
 have d:=im;go_enter_defers func28,ntmps28
 go_wp2_with fail;refine h.mono ?_;rintro e w1 ⟨hb,(⟨rfl,hq⟩ | ⟨n,rfl,hq⟩)⟩
 ·have hc:w1.cell? ⟨w.heap.size,0,none⟩=some (.int .i64 0):=by simp [World.cell?,hb]
  have hz:w1.frozen? ⟨w.heap.size,0,none⟩=false:=by simp [World.frozen?,hb]
  clear h;go_wp2_with fail;refine leaves_cons (f:=60) (args:=#[.pointer (some ⟨w.heap.size,0,none⟩)]) (by simp) (by simp [go_sem]) ?_;refine (ts ⟨w.heap.size,0,none⟩ _).mono ?_;rintro e u' c ⟨rfl,rfl,rfl⟩;have a:(w1.setCell ⟨w.heap.size,0,none⟩ (.int .i64 0)).cell? ⟨w.heap.size,0,none⟩=some (.int .i64 0):=World.cell?_setCell_same' _ _ _ (by rw [hc];rfl);simp [Leaves,settle,results,results28,go_sem,a];exact ⟨_,⟨hq,hb⟩,rfl⟩
 ·have hc:w1.cell? ⟨w.heap.size,0,none⟩=some (.int .i64 0):=by simp [World.cell?,hb]
  have hz:w1.frozen? ⟨w.heap.size,0,none⟩=false:=by simp [World.frozen?,hb]
  clear h;refine leaves_cons (f:=60) (args:=#[.pointer (some ⟨w.heap.size,0,none⟩)]) (by simp) (by simp [go_sem]) ?_;refine (Dq ⟨w.heap.size,0,none⟩ 0 n [] _ hc hz).mono ?_;rintro e u' c ⟨rfl,rfl,rfl⟩;have a:(w1.setCell ⟨w.heap.size,0,none⟩ (.int .i64 n)).cell? ⟨w.heap.size,0,none⟩=some (.int .i64 n):=World.cell?_setCell_same' _ _ _ (by rw [hc];rfl);simp [Leaves,settle,results,results28,go_sem,a];exact ⟨_,⟨hq,hb⟩,rfl⟩

theorem er (n:Int) (w:World):Calls prog 42 #[.bool false,.int .i64 n] w fun e w'=>e=.returned (.tuple #[])/\w'=w:=by
 go_enter func42,ntmps42;go_wp2;go_end0
 exact ⟨rfl,rfl⟩

theorem fX (n:Int) (w:World):Calls prog 42 #[.bool true,.int .i64 n] w fun e w'=>e=.panicked [refusal n]/\w'=w:=by
 go_enter func42,ntmps42;go_wp2;exact ⟨rfl,rfl,rfl⟩

theorem gW (ao:Option Addr) (n a:Nat) (w:World):Calls prog 31 #[.slice ao n a,.int .i64 0] w fun e w'=>e=.returned (.slice ao n a)/\w'=w:=by
 have hR:=er 0 w;go_enter func31,ntmps31;go_wp2_with fail;refine hR.mono ?_;rintro e w' ⟨rfl,rfl⟩;go_wp2;go_ret;exact ⟨rfl,rfl⟩

theorem jr (ao bo:Option Addr) (n ac K l bc:Nat) (w:World):Calls prog 33 #[.agg #[.slice ao n ac,.int .u64 (K:Nat),.slice bo l bc],.int .i64 0] w fun e w'=>e=.returned (.agg #[.slice ao n ac,.int .u64 (K:Nat),.slice bo l bc])/\Kept af w w':=by
 have hR:=er 0;obtain ⟨W,hW⟩:∃ W,W=(w.alloc (.cells #[.slice ao n ac,.int .u64 (K:Nat),.slice bo l bc] 70)).alloc (.cells #[.slice none 0 0,.int .u64 0,.slice none 0 0] 70):=⟨_,rfl⟩
 have k0:Kept af w W:=by rw [hW];exact ((aj af w).alloc _).alloc _
 have b1:W.heap[w.heap.size]? = some (.cells #[.slice ao n ac,.int .u64 (K:Nat),.slice bo l bc] 70 (0,0)):=by rw [hW];exact au (heap_alloc_new _ _)
 have b2:W.heap[w.heap.size+1]? = some (.cells #[.slice none 0 0,.int .u64 0,.slice none 0 0] 70 (0,0)):=by
  rw [hW];have:=heap_alloc_new (w.alloc (.cells #[.slice ao n ac,.int .u64 (K:Nat),.slice bo l bc] 70)) (.cells #[.slice none 0 0,.int .u64 0,.slice none 0 0] 70)
  rwa [World.size_alloc] at this
 obtain ⟨c0,c1,c2⟩:=aw b1;obtain ⟨f0,f1,f2⟩:=jO b2;obtain ⟨d0,d1,d2⟩:=aw (rJ b2 (.slice ao n ac) (.int .u64 (K:Nat)) (.slice bo l bc));obtain ⟨g0,g1,g2⟩:=aw b2;have a:=aa (k0.next (lS W (w.heap.size+1) (.slice ao n ac) (.int .u64 (K:Nat)) (.slice bo l bc)) (fun x hx e=>by omega));have HW:=aa hW;clear hW k0 b1 b2;go_enter func33,ntmps33;go_wp2_with (rw [<- HW.out]);refine (hR W).mono ?_;rintro e w1 ⟨rfl,rfl⟩;clear hR;go_wp2_with fail;exact bodyPost_ret (v:=.agg #[.slice ao n ac,.int .u64 (K:Nat),.slice bo l bc]) (by simp [results,results33,go_sem,d0,d1,d2]) rfl ⟨rfl,a.out⟩

theorem xu (v:Value) (xs:List Nat) (n:Nat) (w:World) (h:Row .u64 w v xs) (hd:Digs xs) (hn:n<=1000000) :
  Calls prog 83 #[v,.int .i64 (n:Nat)] w fun e w'=>e=.returned (.slice (some ⟨w.heap.size,0,none⟩) n n)/\OwnN .u64 24 w' w.heap.size (.slice (some ⟨w.heap.size,0,none⟩) n n) n (digs (val xs) n)/\Kept af w w':=by
 obtain ⟨i0,i,r,k,s⟩:=info_parts Tryz.info24;obtain ⟨ao,q,o,rfl,hL,_,_,_,_⟩:=h.open;have HD:=aa (pf hd n);have HS:Hid (∀ W,Kept af w W->0<((xs.take n).map fun z:Nat=>Value.int .u64 (z:Int)).length->∃ ad,ao=some ad/\∀ j u,((xs.take n).map fun z:Nat=>Value.int .u64 (z:Int))[j]? = some u->W.cell? (ad.add j)=some u):=fun W hk hp=>by
  obtain ⟨ad,e,hs⟩:=h.source hk (by rw [cf,aO] at hp;rw [cf];omega);refine ⟨ad,e,fun j u hj=>hs j u ?_⟩;rw [List.map_take,dV] at hj
  split at hj
  ·exact hj
  ·cases hj
 have HO:=aa (jd .u64 (xs.take n));have b:Hid (((xs.take n).map fun z:Nat=>Value.int .u64 (z:Int)).length=Nat.min q n):=by
  unfold Hid;rw [cf,aO,hL.out];exact Nat.min_comm n q
 obtain ⟨CS,c⟩:∃ CS,CS=(xs.take n).map (fun z:Nat=>Value.int .u64 (z:Int)):=⟨_,rfl⟩
 rw [<- c] at HS HO b;have m:Hid (CS=(xs.take n).map (fun z:Nat=>Value.int .u64 (z:Int))):=c;have t:Nat.min q n<=n:=Nat.min_le_right _ _;clear c h hd;go_enter func83,ntmps83
 go_wp2_with (at_make;refine wpList_make_full _ rfl _ _ 23 rfl w.heap.size 24 i0 _ 1 underlying23 i r k _ _ _ _ n rfl rfl rfl rfl (by rw [s];omega) (by unfold maxLen;omega) (leR _) ?_;intro w1 d g;rw [bg] at d;have k1:=aV g;obtain ⟨w2,p,f,k2⟩:=dS (P:=prog) 23 23 3 24 w.heap.size 0 n n (some ⟨w.heap.size,0,none⟩) ao q o _ 24 CS underlying23 (by rw [i];simp [k]) (gV d) b.out (fun hp=>⟨rfl,HS.out _ k1 hp⟩) (by have:=b.out;simp;omega) HO.out;have l:Hid _:=f;clear f d g);go_ret;have a:=l.out;rw [m.out,fZ] at a;rw [HD.out] at a;have kk:=eZ k1 k2 (leR _)
 exact ⟨rfl,dD a (by rw [ag]) (by unfold maxLen;omega) (leR _),kk⟩

theorem zy (X k:Nat):dig X (k/8)/2^(8*(k%8))%256=dig X k 256:=by
 unfold dig;have e:(18446744073709551616:Nat)^(k/8)=256^(8*(k/8)):=by rw [bh]
 have e0:(2:Nat)^(8*(k%8))=256^(k%8):=by rw [bh]
 have e3:(256:Nat)^k=256^(8*(k/8))*256^(k%8):=by rw [<- aN];congr 1;omega
 rw [e,e0,e3,<- cK];generalize X/256^(8*(k/8))=x;have h:k%8=0\/k%8=1\/k%8=2\/k%8=3\/k%8=4\/k%8=5\/k%8=6\/k%8=7:=by omega
 rcases h with h | h | h | h | h | h | h | h <;> rw [h] <;> omega

theorem oP (V n:Nat):∀ i j,j<i->(bes V n i)[j]? = some (dig V (n-1-j) 256)
 | 0,j,h=>by omega
 | i+1,j,h=>by
  unfold bes;by_cases e:j<i
  ·rw [gD (by rw [cV];exact e)];exact oP V n i j e
  ·obtain rfl:j=i:=by omega
   rw [ig (by rw [cV];omega),cV,bJ];rfl

def byk (X z k:Nat):List Nat:=List.replicate (z-k) 0 ++ (bes X z z).drop (z-k)

theorem Cm {X z k:Nat} (h:k<z):(byk X z k).set (z-1-k) (dig X k 256)=byk X z (k+1):=by
 refine List.ext_getElem? fun j=>?_
 unfold byk;rw [List.getElem?_set,aZ,be,b9,cV];by_cases h1:z-1-k=j
 ·rw [ah h1,ah (by omega),ig (by rw [be];omega),be,et,oP _ _ _ _ (by omega),show z-1-(z-(k+1)+(j-(z-(k+1))))=k by omega]
 ·rw [ai h1];by_cases h2:j<z-(k+1)
  ·rw [gD (by rw [be];omega),gD (by rw [be];omega),ee,ee,ah (by omega),ah (by omega)]
  ·rw [ig (by rw [be];omega),ig (by rw [be];omega),be,be,et,et]
   congr 1
   omega

theorem EN {X z k:Nat} (h:k<z):(byk X z k)[z-1-k]? = some 0:=by
 unfold byk;rw [gD (by rw [be];omega),ee,ah (by omega)]

theorem Hn (xo:Option Addr) (n xc X z:Nat) (w:World) (h:Row .u64 w (.slice xo n xc) (digs X n)) (hz:z<=8*n) (hn:n<=100000) :
  Calls prog 35 #[.slice xo n xc,.int .i64 (z:Nat)] w fun e w'=>∃ vo vn vc,e=.returned (.slice vo vn vc)/\Row .u8 w' (.slice vo vn vc) (bes X z z)/\Fresh w (.slice vo vn vc)/\Kept af w w':=by
 obtain ⟨i0,o,r,s,t⟩:=info_parts Tryz.info5;have HX:=aa h;have hm:max (z:Int) 0=(z:Int):=by omega
 clear h;go_enter func35,ntmps35;go_wp2_with (at_make;refine wpList_make_full _ rfl _ _ 27 rfl w.heap.size 5 i0 _ 1 underlying27 o r s _ _ _ _ z rfl rfl rfl rfl (by rw [t];omega) (by unfold maxLen;omega) (leR _) ?_;intro w1 f l);rw [bg] at f;have k1:=aV l;go_loopw [11] (fun i wr=>∃ k:Nat,k<=z/\i=.int .i64 k/\OwnN .u8 5 wr w.heap.size (.slice (some ⟨w.heap.size,0,none⟩) z z) z (byk X z k)/\Kept af w wr) (fun i _=>z-(intOf i).toNat)
 case atStart=>exact ⟨0,aP _,rfl,by rw [show byk X z 0=List.replicate z 0 by unfold byk;rw [dK,dZ (by rw [cV];omega),dI]];exact f,k1⟩
 case round=>
  clear f l k1;obtain ⟨k,hk,rfl,ho,c⟩:=hrel;by_cases hkn:k<z
  ·have p:(k:Int)<(z:Int):=by omega
   obtain ⟨j,hj⟩:∃ j,j=z-1-k:=⟨_,rfl⟩
   have hJ:(z:Int)-1-(k:Int)=(j:Int):=by omega
   have y:j<z:=by omega
   have hc:wr.cell? ⟨w.heap.size,j,none⟩=some (.int .u8 0):=by
    rw [World.ownsRow.cellAt ho j (by omega),bu,hj,EN hkn];rfl
   have hf:=World.ownsRow.frozenAt ho j;have q:=fun u=>(World.ownsRow.stored ho j u).1
   have HF:Hid ((byk X z k).set j (dig X k 256)=byk X z (k+1)):=by unfold Hid;rw [hj];exact Cm hkn
   obtain ⟨_,_,_,e1,_,_,_,_,a⟩:=(HX.out.grew c).open;cases e1
   obtain ⟨b,off,rfl,v⟩:=eC (a (k/8) (by omega)) (by omega);have x:dig X (k/8)<18446744073709551616:=ay _ (by omega);have g:=zy X k;have g1:(k:Int)/8<(n:Int):=by omega
   have g2:(0:Int)<=(k:Int)/8:=by omega
   have g3:((k:Int)/8).toNat=k/8:=by omega
   clear a hj;generalize dig X (k/8)=d at *;have e1:(d:Int)/2^(8*(k%8))=((d/2^(8*(k%8)):Nat):Int):=by simp
   have HB:Hid ((d:Int)/2^(8*(k%8))%256=((dig X k 256:Nat):Int)):=by unfold Hid;rw [e1,<- g];omega
   clear e1 g;go_wp2_with fail;rw [HB.out];go_roundw
   case rel=>
    refine ⟨k+1,by omega,by go_num,?_,c.setCell _ (fun h=>by simp at h) _⟩;unfold OwnN;rw [<- HF.out,bZ];exact q _
   case measure=>simp [intOf];omega
  ·have p:¬ (k:Int)<(z:Int):=by omega
   have e:k=z:=by omega
   subst e;go_wp2;go_ret;have hb:byk X k k=bes X k k:=by unfold byk;simp
   refine ⟨_,_,_,rfl,Row.of_own (base:=w.heap.size) (e:=5) (by rw [cV,<- hb];exact ho),?_,c⟩;intro b m;simp [Value.ownBlock] at m;omega

structure Md (w:World) (o:Tr) (ao bo:Option Addr) (n K mcap rcap V:Nat):Prop where
 m8:Mod8 w o ao bo n n K mcap rcap (je V) (jy V)
 ev:val (je V)=V

theorem Md.did {w w':World} {o o':Tr} {m:List Ev} {ao bo:Option Addr} {n K a b V:Nat} (h:Md w o ao bo n K a b V) (d:Did w o m w' o'):Md w' o' ao bo n K a b V:=⟨h.m8.did d,h.ev⟩

theorem Md.grew {w w':World} {o:Tr} {ao bo:Option Addr} {n K a b V:Nat} (h:Md w o ao bo n K a b V) (k:Kept af w w'):Md w' o ao bo n K a b V:=⟨h.m8.grew k,h.ev⟩

def Md.off (ao bo:Option Addr) (n mcap rcap b:Nat):Prop:=(∀ x,(Value.slice ao n mcap).ownBlock=some x->¬ x=b)/\(∀ x,(Value.slice bo n rcap).ownBlock=some x->¬ x=b)

theorem Md.kept {S:Nat->Prop} {w w':World} {o:Tr} {ao bo:Option Addr} {n K a b V:Nat} (h:Md w o ao bo n K a b V) (k:Kept S w w') (h1:∀ x,(Value.slice ao n a).ownBlock=some x->¬ S x) (h2:∀ x,(Value.slice bo n b).ownBlock=some x->¬ S x):Md w' o ao bo n K a b V:=⟨⟨⟨h.m8.hm.1.kept k h1,h.m8.hm.2⟩,⟨h.m8.hr.1.kept k h2,h.m8.hr.2⟩,h.m8.hmd,h.m8.hrd,h.m8.hK,h.m8.ok⟩,h.ev⟩

theorem Md.new {w:World} {o:Tr} {ao bo:Option Addr} {n K a c V b:Nat} (h:Md w o ao bo n K a c V) (hb:w.heap.size<=b):Md.off ao bo n a c b:=by
 have hv:2<=V:=by
  obtain ⟨⟨f0,f1⟩,-,f3,f4,f5⟩:=h.m8.facts;rw [h.ev] at f4;exact f4
 obtain ⟨⟨f0,f1⟩,-⟩:=h.m8.facts;obtain ⟨_,_,_,e1,h1,_⟩:=h.m8.hm.1.open;cases e1
 obtain ⟨_,_,_,e1,h2,_⟩:=h.m8.hr.1.open;cases e1
 have n1:je V≠[]:=fun e=>by have:=h1.out;rw [e] at this;simp at this;omega
 have n2:jy V≠[]:=fun e=>by have:=h2.out;rw [e] at this;simp at this;omega
 exact ⟨fun x hx e=>by have:=h.m8.hm.1.lt n1 x hx;omega,fun x hx e=>by have:=h.m8.hr.1.lt n2 x hx;omega⟩

theorem Md.facts {w:World} {o:Tr} {ao bo:Option Addr} {n K a b V:Nat} (h:Md w o ao bo n K a b V):0<n/\n<=130/\2<=V/\V<18446744073709551616^n:=by
 obtain ⟨⟨f0,f1⟩,-,f3,f4,f5⟩:=h.m8.facts;rw [h.ev] at f4 f5;exact ⟨f0,f1,f4,f5⟩

theorem lL {w:World} {o:Tr} {v:Value} {n X:Nat} (h:U64s w v) (ht:TrIn w o) (hr:Row .u64 w v (digs X n)) (hX:X<18446744073709551616^n):NumT w o v n X:=⟨h.rowT hr ht,hX⟩

theorem xw (o:Tr) (xo:Option Addr) (L f:Nat) (xs:List Nat) (V n:Nat) (w:World) (ht:TrIn w o) (hx:Row .u64 w (.slice xo L f) xs) (hd:Digs xs) (hL:L<=1000000) (hV:V=val xs) (hE:el V=0) (hn:n=ar V) :
  Calls prog 34 #[.slice xo L f] w fun e w'=>∃ ao bo K c d,e=.returned (.tuple #[.agg #[.slice ao n c,.int .u64 (K:Nat),.slice bo n d],.int .i64 0])/\Md w' o ao bo n K c d V/\(Fresh w (.slice ao n c)/\Fresh w (.slice bo n d))/\Kept af w w':=by
 refine (oH xo L f xs V 0 hV hE.symm w hx hd hL).mono ?_;rintro e w' ⟨a,K,b,rfl,ra,rb,hK,⟨fa,fb⟩,k⟩;obtain ⟨i,j,l,m,p,q⟩:=kX hE hK;obtain ⟨ao,an,c,rfl,g,-⟩:=ra.open;obtain ⟨bo,bn,d,rfl,h,-⟩:=rb.open;obtain rfl:n=an:=by rw [<- g.out,j,hn]
 obtain rfl:n=bn:=by rw [<- h.out,l,hn]
 exact ⟨ao,bo,K,c,d,rfl,⟨⟨iS fa ht ra,iS fb ht rb,p,q,hK.1,i⟩,m⟩,⟨fa,fb⟩,k⟩

def sY (n:Nat):List Ev:=List.replicate 2 (1,(n:Int),0) ++ ku n

theorem jT {n:Nat} (h:n<=130):(sY n).length<=1000:=by
 unfold sY ku cD;simp;omega

def DK (n:Nat):List Ev:=List.replicate 2 (1,(n:Int),0) ++ List.replicate 2 (1,(n:Int),0)

theorem fL (L M:Nat):(eE L M).length<=60000:=by
 unfold eE
 split
 ·rw [kn];omega
 ·simp

theorem Bd (o:Tr) (ao bo xo yo:Option Addr) (n K a b xc yc X Y V:Nat) (w:World) (ht:TrRoom w o 5000) (hM:Md w o ao bo n K a b V) (hx:NumT w o (.slice xo n xc) n X) (hX:X<V) (hy:NumT w o (.slice yo n yc) n Y) (hY:Y<V) :
  Calls prog 90 #[aL o,.agg #[.slice ao n a,.int .u64 (K:Nat),.slice bo n b],.slice xo n xc,.slice yo n yc] w fun e w'=>∃ zo zc o',e=.returned (.tuple #[.slice zo n zc,.int .i64 0])/\NumT w' o' (.slice zo n zc) n (X*Y%V)/\Did w o (sY n) w' o':=by
 obtain ⟨f0,f1,f4,f5⟩:=hM.facts;refine (Im o ao bo xo yo n n K a b n n xc yc _ _ _ _ w ht hM.m8.hm hM.m8.hr hx.1 hy.1 hM.m8.hmd hM.m8.hrd (ak (by omega) _ _) (ak (by omega) _ _) hM.m8.hK (by omega) (by omega) (by omega)).mono ?_;rintro e w' ⟨v',c,rfl,zs,m,o',hr,hl,d,hp,-⟩;rw [hM.ev,bG hx.2,bG hy.2] at hp;obtain ⟨⟨rfl,rfl⟩,rfl⟩:=hp ⟨hM.m8.ok,⟨rfl,hX⟩,rfl,hY⟩;have hT:=(d.room (k:=0) (ht.less (by have h:=jT f1;unfold sY at h;omega))).1;have hN:NumT w' o' v' n (X*Y%V):=lL (hl rfl).2 hT hr (bk (ay _ (by omega)) f5);obtain ⟨zo,zc,rfl⟩:=hN.shape;exact ⟨zo,zc,o',rfl,hN,d⟩

theorem Hw (o:Tr) (ao bo xo yo:Option Addr) (n K a b xc yc X Y V:Nat) (w:World) (ht:TrRoom w o 10) (hM:Md w o ao bo n K a b V) (hx:NumT w o (.slice xo n xc) n X) (hX:X<V) (hy:NumT w o (.slice yo n yc) n Y) (hY:Y<V) :
  Calls prog 146 #[aL o,.agg #[.slice ao n a,.int .u64 (K:Nat),.slice bo n b],.slice xo n xc,.slice yo n yc] w fun e w'=>∃ zo zc o',e=.returned (.tuple #[.slice zo n zc,.int .i64 0])/\NumT w' o' (.slice zo n zc) n (gd X Y V)/\Did w o (DK n) w' o':=by
 obtain ⟨f0,f1,f4,f5⟩:=hM.facts;refine (Ip o ao bo xo yo n n K a b n n xc yc _ _ _ _ w ht hM.m8.hm hM.m8.hr hx.1 hy.1 hM.m8.hmd hM.m8.hrd (ak (by omega) _ _) (ak (by omega) _ _) hM.m8.hK (by omega) (by omega) (by omega)).mono ?_;rintro e w' ⟨v',c,rfl,zs,m,o',hr,hl,d,hp,-⟩;rw [hM.ev,bG hx.2,bG hy.2] at hp;obtain ⟨⟨rfl,rfl⟩,rfl⟩:=hp ⟨hM.m8.ok,⟨rfl,hX⟩,rfl,hY⟩;have hT:=(d.room (k:=0) (ht.less (by simp))).1;have hN:NumT w' o' v' n (gd X Y V):=lL (hl rfl).2 hT hr (bk (rV hX hY) f5);obtain ⟨zo,zc,rfl⟩:=hN.shape;exact ⟨zo,zc,o',rfl,hN,d⟩

theorem Bg (o:Tr) (ao bo xo:Option Addr) (n K a b N1 xc X V:Nat) (w:World) (ht:TrRoom w o 60000) (hM:Md w o ao bo n K a b V) (hx:NumT w o (.slice xo N1 xc) N1 X) (hN:N1<=300) :
  Calls prog 141 #[aL o,.agg #[.slice ao n a,.int .u64 (K:Nat),.slice bo n b],.slice xo N1 xc] w fun e w'=>∃ zo zc o',e=.returned (.tuple #[.slice zo n zc,.int .i64 0])/\NumT w' o' (.slice zo n zc) n (X%V)/\Did w o (eE N1 n) w' o':=by
 obtain ⟨f0,f1,f4,f5⟩:=hM.facts;refine (Io o ao bo xo n n K a b N1 xc _ _ _ w ht hM.m8.hm hM.m8.hr hx.1 hM.m8.hmd hM.m8.hrd (ak (by omega) _ _) hM.m8.hK (by omega)).mono ?_;rintro e w' ⟨v',c,rfl,zs,m,o',hr,hl,d,hp,-⟩;obtain ⟨g1,-,g3⟩:=gX (X:=X) (Y:=V) (L:=N1) (M:=n) ⟨hN,by omega⟩ (by omega);rw [hM.ev,bG hx.2,g1,g3] at hp;obtain ⟨⟨rfl,rfl⟩,rfl⟩:=hp hM.m8.ok;rw [eH,bw] at d;have hT:=(d.room (k:=0) (ht.less (by have h:=fL N1 n;omega))).1;have hN:NumT w' o' v' n (X%V):=lL (hl rfl).2 hT hr (bk (ay _ (by omega)) f5);obtain ⟨zo,zc,rfl⟩:=hN.shape;exact ⟨zo,zc,o',rfl,hN,d⟩

def A4 (n L:Nat):List Ev:=jk n ++ nt n L

theorem pF {n L:Nat} (h:n<=130) (hL:L<=300):(A4 n L).length<=61000000:=by
 have h1:=(gU h).2.1;have h2:=pd h hL;unfold A4;rw [aZ];omega

theorem Hq (o:Tr) (ao bo xo eo:Option Addr) (n K b f xc L a X V:Nat) (ys:List Nat) (w:World) (ht:TrRoom w o 70000000) (hM:Md w o ao bo n K b f V) (hx:NumT w o (.slice xo n xc) n X) (hX:X<V) (hy:RowT w o (.slice eo L a) ys) (g:Digs ys) (hL:L<=300) :
  Calls prog 201 #[aL o,.agg #[.slice ao n b,.int .u64 (K:Nat),.slice bo n f],.slice xo n xc,.slice eo L a] w fun e w'=>∃ zo zc o',e=.returned (.tuple #[.slice zo n zc,.int .i64 0])/\NumT w' o' (.slice zo n zc) n (X^val ys%V)/\Did w o (A4 n L) w' o':=by
 obtain ⟨f0,f1,f4,f5⟩:=hM.facts;refine (IP o ao bo xo eo n n K b f n xc L a _ _ _ ys 0 w ht hM.m8.hm hM.m8.hr hx.1 hy hM.m8.hmd hM.m8.hrd (ak (by omega) _ _) g hM.m8.hK (by omega) (by rw [hM.ev,bG hx.2];exact iff_of_true rfl ⟨hM.m8.ok,rfl,hX⟩) (by omega)).mono ?_;rintro e w' ⟨zo,zn,zc,c,rfl,(⟨-,-,rfl,⟨hr,hu⟩,o',d⟩ | ⟨h,-⟩)⟩
 ·rw [hM.ev,bG hx.2] at hr;have hT:=(d.room (k:=0) (ht.less (by have h:=pF f1 hL;unfold A4 at h;omega))).1;have hN:NumT w' o' (.slice zo zn zc) n (X^val ys%V):=lL hu hT hr (bk (ay _ (by omega)) f5);obtain ⟨yo,yc,e1⟩:=hN.shape;cases e1
  exact ⟨_,_,o',rfl,hN,d⟩
 ·omega

theorem sC (n:Nat):∀ k,(yw n k).length=12*k
 | 0=>rfl
 | k+1=>by
  unfold yw;rw [aZ,sC n k,m6];omega

theorem nG {n:Nat} (h:n<=130):(th n).length<=400000:=by
 unfold th rz;have h1:stp n<=30000:=by unfold stp;omega
 simp [sC];omega

theorem Hs (o:Tr) (ao bo xo:Option Addr) (n K a b xc X V:Nat) (w:World) (ht:TrRoom w o 400000) (hM:Md w o ao bo n K a b V) (hx:NumT w o (.slice xo n xc) n X) (hX:X<V) (hg:Nat.gcd X V=1) :
  Calls prog 82 #[aL o,.agg #[.slice ao n a,.int .u64 (K:Nat),.slice bo n b],.slice xo n xc] w fun e w'=>∃ zo zc T o',e=.returned (.tuple #[.slice zo n zc,.int .u64 1,.int .i64 0])/\(T<V/\X*T%V=1)/\NumT w' o' (.slice zo n zc) n T/\Did w o (th n) w' o':=by
 obtain ⟨f0,f1,f4,f5⟩:=hM.facts;refine (iOf o ao bo xo n n K a b n xc _ _ _ w ht hM.m8.hm hM.m8.hr hx.1 hM.m8.hmd hM.m8.hrd (ak (by omega) _ _) hM.m8.hK (by omega) (.inl hM.m8.ok)).mono ?_;rintro e w' ⟨v',is,c,rfl,zs,m,o',hr,hl,d,hp,-⟩;rw [hM.ev,bG hx.2] at hp;obtain ⟨rfl,rfl,T,rfl,hi⟩:=hp ⟨hM.m8.ok,rfl,hX⟩;obtain ⟨h1,h2,rfl⟩:=hi.1 hg;have hT:=(d.room (k:=0) (ht.less (by have h:=nG f1;omega))).1;have hN:NumT w' o' v' n T:=lL (hl rfl).2 hT hr (bk h1 f5);obtain ⟨zo,zc,rfl⟩:=hN.shape;exact ⟨zo,zc,T,o',rfl,⟨h1,h2⟩,hN,d⟩

theorem IH (ao bo xo:Option Addr) (n K a b xc X V:Nat) (w:World) (hM:Md w none ao bo n K a b V) (hx:Row .u64 w (.slice xo n xc) (digs X n)) (hX:X<V) :
  Calls prog 82 #[.pointer none,.agg #[.slice ao n a,.int .u64 (K:Nat),.slice bo n b],.slice xo n xc] w fun e w'=>∃ zo zn zc is,e=.returned (.tuple #[.slice zo zn zc,.int .u64 (is:Nat),.int .i64 0])/\(is=if Nat.gcd X V=1 then 1 else 0)/\Kept af w w':=by
 obtain ⟨f0,f1,f4,f5⟩:=hM.facts;have f:NumT w none (.slice xo n xc) n X:=⟨RowT.none hx,bk hX f5⟩
 refine (iOf none ao bo xo n n K a b n xc _ _ _ w (TrRoom.none w _ (by omega)) hM.m8.hm hM.m8.hr f.1 hM.m8.hmd hM.m8.hrd (ak (by omega) _ _) hM.m8.hK (by omega) (.inr rfl)).mono ?_;rintro e w' ⟨v',is,c,rfl,zs,m,o',hr,hl,d,hp,-⟩;rw [hM.ev,bG f.2] at hp;obtain ⟨rfl,rfl,T,rfl,hi⟩:=hp ⟨hM.m8.ok,rfl,hX⟩;obtain ⟨zo,zn,zc,rfl,-⟩:=hr.open;refine ⟨zo,zn,zc,is,rfl,?_,d.none.2⟩;by_cases hg:Nat.gcd X V=1
 ·rw [ah hg];exact (hi.1 hg).2.2
 ·rw [ai hg];exact (hi.2 hg).2

theorem xx (o:Tr) (ao bo xo:Option Addr) (n K a b xc d X V:Nat) (w:World) (ht:TrIn w o) (hM:Md w o ao bo n K a b V) (hx:NumT w o (.slice xo n xc) n X) (hX:X<V) (hd:d<18446744073709551616) :
  Calls prog 91 #[.agg #[.slice ao n a,.int .u64 (K:Nat),.slice bo n b],.slice xo n xc,.int .u64 (d:Nat)] w fun e w'=>∃ zo zc,e=.returned (.tuple #[.slice zo n zc,.int .i64 0])/\NumT w' o (.slice zo n zc) n (X^d%V)/\Kept af w w':=by
 obtain ⟨f0,f1,f4,f5⟩:=hM.facts;refine (H5 ao bo xo n n K a b n xc d _ _ _ 0 (by rw [hM.ev,bG hx.2];exact iff_of_true rfl ⟨hM.m8.ok,rfl,hX⟩) (by omega) _ rfl w hM.m8.hm.1 hM.m8.hr.1 hx.1.1 hM.m8.hmd hM.m8.hrd (ak (by omega) _ _) hd hM.m8.hK (by omega)).mono ?_;rintro e w' ⟨v',rfl,⟨hr,hu⟩,k⟩;rw [ah rfl,hM.ev,bG hx.2] at hr;have hN:NumT w' o v' n (X^d%V):=lL hu (ht.grew k) hr (bk (ay _ (by omega)) f5);obtain ⟨zo,zc,rfl⟩:=hN.shape;exact ⟨zo,zc,rfl,hN,k⟩

theorem Hp (o:Tr) (u v:Value) (n m X Y:Nat) (w:World) (ht:TrRoom w o 1) (hu:NumT w o u n X) (hv:NumT w o v m Y) (hn:n<=1000) (hm:m<=1000) :
  Calls prog 93 #[aL o,u,v] w fun e w'=>e=.returned (.int .u64 (cY (decide (X=Y)):Nat))/\∃ o',Did w o [(1,(max n m:Nat),0)] w' o':=by
 have h:=pn o u v _ _ w ht hu.1 hv.1 (ak (by omega) _ _) (ak (by omega) _ _) (by rw [ag];omega) (by rw [ag];omega);rw [ag,ag,bG hu.2,bG hv.2] at h;exact h

theorem Hv (o:Tr) (bit n X Y:Nat) (a:bit<18446744073709551616) (u v:Value) (w:World) (ht:TrRoom w o 1) (hu:NumT w o u n X) (hv:NumT w o v n Y) (hn:n<=1000) :
  Calls prog 94 #[aL o,.int .u64 (bit:Nat),u,v] w fun e w'=>∃ zo zc o',e=.returned (.slice zo n zc)/\NumT w' o' (.slice zo n zc) n (cC bit X Y)/\Did w o [(1,(n:Nat),0)] w' o':=by
 have h:=mS o bit a u v _ _ w ht hu.1 hv.1 (ak (by omega) _ _) (ak (by omega) _ _) (by rw [ag];omega) (by rw [ag];omega);rw [ag,ag,gI,bG hu.2,bG hv.2] at h;refine h.mono ?_;rintro e w' ⟨v',rfl,ho,o',d⟩;have hN:=NumT.own ho (m5 hu.2 hv.2) (d.room (k:=0) (ht.less (by simp))).1;obtain ⟨zo,zc,rfl⟩:=hN.shape;exact ⟨zo,zc,o',rfl,hN,d⟩

theorem FF (o:Tr) (bit n X:Nat) (a:bit<18446744073709551616) (u:Value) (w:World) (ht:TrRoom w o 1) (hu:NumT w o u n X) (hn:n<=1000) :
  Calls prog 94 #[aL o,.int .u64 (bit:Nat),u,.slice none 0 0] w fun e w'=>∃ zo zc o',e=.returned (.slice zo n zc)/\NumT w' o' (.slice zo n zc) n (cC bit X 0)/\Did w o [(1,(n:Nat),0)] w' o':=by
 have h:=mS o bit a u (.slice none 0 0) _ [] w ht hu.1 ⟨Row.nil _ _,fun h=>absurd rfl h⟩ (ak (by omega) _ _) (Digs.nil _) (by rw [ag];omega) (by simp);rw [ag,eS,Nat.max_zero,bG hu.2,show val []=0 from rfl] at h;refine h.mono ?_;rintro e w' ⟨v',rfl,ho,o',d⟩;have hN:=NumT.own ho (m5 hu.2 (aC (by omega))) (d.room (k:=0) (ht.less (by simp))).1;obtain ⟨zo,zc,rfl⟩:=hN.shape;exact ⟨zo,zc,o',rfl,hN,d⟩

theorem Hu (o:Tr) (xo yo:Option Addr) (n m xc yc X Y:Nat) (w:World) (ht:TrRoom w o 300) (hx:NumT w o (.slice xo n xc) n X) (hy:NumT w o (.slice yo m yc) m Y) (hn:n<=300) (hm:m<=300) :
  Calls prog 148 #[aL o,.slice xo n xc,.slice yo m yc] w fun e w'=>∃ zo zc o',e=.returned (.slice zo (n+m) zc)/\NumT w' o' (.slice zo (n+m) zc) (n+m) (X*Y)/\Did w o (jQ n m) w' o':=by
 refine (A0 o xo yo n m xc yc _ _ w ht hx.1 hy.1 (ak (by omega) _ _) (ak (by omega) _ _)).mono ?_;rintro e w' ⟨v',rfl,-,-,h,o',d⟩;obtain ⟨g,-,-,ho⟩:=h ⟨hn,hm⟩;rw [bG hx.2,bG hy.2] at ho;have hlt:X*Y<18446744073709551616^(n+m):=by
  rw [aN];exact Nat.mul_lt_mul'' hx.2 hy.2
 have hN:=NumT.own ho hlt (d.room (k:=0) (ht.less (by unfold jQ;rw [ah ⟨hn,hm⟩];simp;omega))).1;obtain ⟨zo,zc,rfl⟩:=hN.shape;exact ⟨zo,zc,o',rfl,hN,d⟩

theorem Hm (o:Tr) (u v:Value) (n m X Y:Nat) (w:World) (ht:TrRoom w o 1) (hu:NumT w o u n X) (hv:NumT w o v m Y) (hn:n<=1000) (hm:m<=n) (hlt:X+Y<18446744073709551616^n) :
  Calls prog 147 #[aL o,u,v] w fun e w'=>∃ zo zc c o',e=.returned (.tuple #[.slice zo n zc,.int .u64 ((c:Nat):Int)])/\NumT w' o' (.slice zo n zc) n (X+Y)/\Did w o [(1,(n:Nat),0)] w' o':=by
 have h:=GW o u v _ _ w ht hu.1 hv.1 (ak (by omega) _ _) (ak (by omega) _ _) (by rw [ag];omega) (by rw [ag];omega);rw [ag,ag,Nat.max_eq_left hm,bG hu.2,bG hv.2] at h;refine h.mono ?_;rintro e w' ⟨v',rfl,ho,o',d⟩;have hN:=NumT.own ho hlt (d.room (k:=0) (ht.less (by simp))).1;obtain ⟨zo,zc,rfl⟩:=hN.shape;exact ⟨zo,zc,_,o',rfl,hN,d⟩

def jq (N:Nat) (ms:List Nat):Nat:=if ms.length=fw N/\bev ms<N then 0 else 1

theorem Ae {ms:List Nat} (h:Digs ms 256):dj (bev ms)<=ms.length:=(eI _ _).2 (bd (mC h) (Nat.pow_le_pow_left (by omega) _))

theorem uf {xs:List Nat} (hd:Digs xs):dj (val xs)<=2*xs.length:=(eI _ _).2 (by
 rw [bh];exact aE (by omega) hd)

theorem ER {a b:Nat}:dR a b≥0↔b<=a:=by
 unfold dR
 split
 ·constructor <;> intro h <;> omega
 ·split <;> constructor <;> intro h <;> omega

theorem yX (u:Value) (ns:List Nat) (bo:Option Addr) (M l:Nat) (ms:List Nat) (w:World) (hu:Row .u64 w u ns) (a:Digs ns) (o:ns.length<=1000000) (hv:Row .u8 w (.slice bo M l) ms) (m:Digs ms 256) (s:M<=1000000) :
  Calls prog 36 #[u,.slice bo M l] w fun e w'=>∃ v',e=.returned (.tuple #[v',.int .i64 (jq (val ns) ms:Nat)])/\(jq (val ns) ms=0->IsBig w' v' (bev ms)/\∀ x,v'.ownBlock=some x->w.heap.size<=x)/\(∃ xo xn xc,v'=.slice xo xn xc)/\Kept af w w':=by
 obtain ⟨_,_,_,e1,hM,-,-,-,-⟩:=hv.open;cases e1
 have hF:=uT _ ms w hv m (by rw [hM.out];omega);have JS:=aa fun W (k:Kept af w W)=>Dt u ns W (hu.grew k) a (by omega)
 have JO:=aa fun W (k:Kept af w W)=>rOf u ns W (hu.grew k) a (by omega)
 obtain ⟨ao,L,p,rfl,-,-,-,-,-⟩:=hu.open;have HM:=aa hM.out;have t:fw (val ns)<=8000001:=by
  unfold fw;have:=sj a;omega
 clear hu a o hv m hM;generalize val ns=N at *;go_enter func36,ntmps36;go_wp2_with fail;refine hF.mono ?_;rintro e w1 ⟨v1,rfl,b1,f1,k1⟩;have g:=aa k1;have n:=aa f1;have hS:=JS.out w1 k1;obtain ⟨xo,xn,xc,rfl,-,-⟩:=b1.length;have b:=aa b1;clear hF k1 b1 JS f1;generalize hz:fw N=z at *;have HZ:=aa hz;clear hz;by_cases h1:M=z
 ·have g1:((M:Int) == (z:Int))=true:=by simp [h1]
  have q:(M:Int)=(z:Int):=by omega
  subst h1;go_wp2_with fail;refine hS.mono ?_;rintro e w2 ⟨rfl,k2⟩;have i:=aa (g.out.trans k2);have d:=aa (b.out.grew k2);have hO:=JO.out w2 i.out;clear hS k2 b;go_wp2_with fail;refine hO.mono ?_;rintro e w3 ⟨v3,rfl,b3,_,k3⟩;have j:=aa (i.out.trans k3);have f:=aa (d.out.grew k3);have hC:=FH _ v3 (bev ms) N w3 f.out b3;obtain ⟨yo,yn,yc,rfl,-,-⟩:=b3.length;clear hO k3 d b3;by_cases h2:bev ms<N
  ·have HE:Hid (jq N ms=0):=by unfold Hid jq;rw [ah ⟨by rw [HM.out,HZ.out],h2⟩]
   rw [gS h2] at hC;clear h2;go_wp2_with fail;refine hC.mono ?_;rintro e w4 ⟨rfl,m4,rfl⟩;have k4:Kept af w3 (w3.drewN m4):=(aj af w3).drewN m4;go_wp2_with fail;go_ret2;exact ⟨_,by rw [HE.out];rfl,fun _=>⟨f.out.grew k4,n.out⟩,⟨_,_,_,rfl⟩,j.out.trans k4⟩
  ·have HE:Hid (jq N ms=1):=by unfold Hid jq;rw [ai (fun h=>h2 h.2)]
   have g2:dR (bev ms) N≥0:=ER.2 (by omega);have r:(0:Int)<=dR (bev ms) N:=g2;generalize dR (bev ms) N=c at *;clear h2;go_wp2_with fail;refine hC.mono ?_;rintro e w4 ⟨rfl,m4,rfl⟩;have k4:Kept af w3 (w3.drewN m4):=(aj af w3).drewN m4;go_wp2_with fail;go_ret2;exact ⟨_,by rw [HE.out];rfl,fun h=>by rw [HE.out] at h;omega,⟨_,_,_,rfl⟩,j.out.trans k4⟩
 ·have HE:Hid (jq N ms=1):=by unfold Hid jq;rw [ai (fun h=>h1 (by rw [<- HM.out,<- HZ.out];exact h.1))]
  have g1:¬ (M:Int)=(z:Int):=by omega
  clear h1;go_wp2_with fail;refine hS.mono ?_;rintro e w2 ⟨rfl,k2⟩;clear hS;go_wp2_with fail;go_ret2;exact ⟨_,by rw [HE.out];rfl,fun h=>by rw [HE.out] at h;omega,⟨_,_,_,rfl⟩,g.out.trans k2⟩

def qY (ns:List Nat) (e:Nat) (ms:List Nat):Nat:=if fW ns e=0 then jq (val ns) ms else 190

def zJ (ns:List Nat) (e:Nat) (ms:List Nat):List Nat:=if qY ns e ms=0 then bes (bev ms^e%val ns) ms.length ms.length else []

theorem uR (ns:List Nat) (e:Nat):fW ns e=0\/fW ns e=190:=by unfold fW;split <;> simp

theorem Ba {ns:List Nat} {e:Nat} (h:fW ns e=0):ns.length<=1000:=by
 unfold fW at h
 split at h
 ·cases h
 ·next h1=>omega

theorem uL (N:Nat) (ms:List Nat):jq N ms=0\/jq N ms=1:=by unfold jq;split <;> simp

theorem Bh (ao:Option Addr) (L c:Nat) (ns:List Nat) (e:Nat) (he:e<18446744073709551616) (bo:Option Addr) (M j:Nat) (ms:List Nat) (w:World) (hu:Row .u64 w (.slice ao L c) ns) (d:Digs ns) (s:L<=1000000) (hv:Row .u8 w (.slice bo M j) ms) (l:Digs ms 256) (F:M<=1000000) :
  Calls prog 20 #[.slice ao L c,.int .u64 (e:Nat),.slice bo M j] w fun q w'=>∃ v',q=.returned (.tuple #[v',.int .i64 (qY ns e ms:Nat)])/\Row .u8 w' v' (zJ ns e ms)/\(∀ b,v'.ownBlock=some b->w.heap.size<=b)/\Kept af w w':=by
 obtain ⟨_,_,_,e1,hL,-,-,-,-⟩:=hu.open;cases e1
 obtain ⟨_,_,_,e1,hM,-,-,-,-⟩:=hv.open;cases e1
 have hP:=yW ao L c ns e he _ rfl w hu d s;have JN:=aa fun W (k:Kept af w W)=>yX (.slice ao L c) ns bo M j ms W (hu.grew k) d (by have:=hL.out;omega) (hv.grew k) l F
 have JO:=aa fun W (k:Kept af w W)=>rOf (.slice ao L c) ns W (hu.grew k) d (by have:=hL.out;omega)
 have HD:Hid (dj (bev ms)<=M):=by unfold Hid;rw [<- hM.out];exact Ae l
 have x:Hid (fW ns e=0->dj (val ns)<=2000):=fun h=>by
  have h1:=Ba h;have h2:=uf d;omega
 have HM:=aa hM.out;have HA:Hid (qY ns e ms=if fW ns e=0 then jq (val ns) ms else 190):=rfl;have f:Hid (zJ ns e ms=if qY ns e ms=0 then bes (bev ms^e%val ns) M M else []):=by unfold Hid;rw [<- hM.out];rfl
 have HC:=uR ns e;have C:=uL (val ns) ms;have B:Hid (jq (val ns) ms=0->bev ms<val ns):=fun h=>by
  unfold jq at h
  split at h
  ·next h1=>exact h1.2
  ·cases h
 clear hu d s hv l hL hM;generalize val ns=N at *;generalize fW ns e=pe at *;generalize qY ns e ms=ae at *;generalize zJ ns e ms=al at *;go_enter func20,ntmps20;go_wp2_with fail;refine hP.mono ?_;rintro r w1 ⟨rfl,k1⟩;have g:=aa k1;clear hP k1;rcases HC with rfl | rfl
 ·have hN:=JN.out w1 g.out;go_wp2_with fail;refine hN.mono ?_;rintro r w2 ⟨v2,rfl,b2,⟨xo,xn,xc,rfl⟩,k2⟩;have n:=aa (g.out.trans k2);clear hN k2;rcases C with h0 | h0
  ·have t:=aa (b2 h0).1;have hlt:=B.out h0;have m:Hid (ae=0):=by unfold Hid;have h9:=HA.out;simp at h9;rw [h9,h0]
   have HS:=aa (rM e he w2);rw [h0];clear b2 h0;go_wp2_with fail;refine HS.out.mono ?_;rintro r w3 ⟨v3,rfl,b3,_,k3⟩;have o:=aa (n.out.trans k3);have hO:=JO.out w3 o.out;have v:=aa (t.out.grew k3);have y:=aa b3;obtain ⟨yo,yn,yc,rfl,-,-⟩:=b3.length;clear HS k3 b3;go_wp2_with fail;refine hO.mono ?_;rintro r w4 ⟨v4,rfl,b4,_,k4⟩;have z:=aa (o.out.trans k4);have hX:=Dv _ _ v4 (bev ms) e N w4 (v.out.grew k4) (y.out.grew k4) b4 (by omega) (by have:=HD.out;omega) (by have:=x.out (by first | rfl | trivial);omega);obtain ⟨zo,zn,zc,rfl,-,-⟩:=b4.length;clear hO k4 b4;go_wp2_with fail;refine hX.mono ?_;rintro r w5 ⟨v5,rfl,b5,_,k5⟩
   have p:=aa (z.out.trans k5);have hT:=Bi v5 (bev ms^e%N) M w5 b5 (by omega);obtain ⟨tq,tn,tc,rfl,-,-⟩:=b5.length;clear hX k5 b5;go_wp2_with fail;refine hT.mono ?_;rintro r w6 ⟨v6,rfl,r6,o6,k6⟩;have A:=aa (p.out.trans k6);have E:Hid (Row .u8 w6 v6 al):=by unfold Hid;rw [f.out,ah m.out];exact r6
   have D:Hid (∀ b,v6.ownBlock=some b->w.heap.size<=b):=fun b hb=>by
    rw [o6] at hb;cases hb
    exact p.out.size
   obtain ⟨ro,rn,rc,rfl,-,-⟩:=r6.open;clear hT k6 r6 o6;go_wp2_with fail;go_ret2;exact ⟨_,by rw [m.out];rfl,E.out,D.out,A.out⟩
  ·have a:Hid (ae=1):=by unfold Hid;have h9:=HA.out;simp at h9;rw [h9,h0]
   have i:Hid (al=[]):=by unfold Hid;rw [f.out,ai (by rw [a.out];omega)]
   rw [h0];clear b2 h0;go_wp2_with fail;go_ret2;exact ⟨_,by rw [a.out];rfl,by rw [i.out];exact Row.nil _ _,(fun b hb=>by cases hb),n.out⟩
 ·have a:Hid (ae=190):=by unfold Hid;have h9:=HA.out;simp at h9;exact h9
  have i:Hid (al=[]):=by unfold Hid;rw [f.out,ai (by rw [a.out];omega)]
  go_wp2_with fail;go_ret2;exact ⟨_,by rw [a.out];rfl,by rw [i.out];exact Row.nil _ _,(fun b hb=>by cases hb),g.out⟩

theorem Tryz.info8s:(prog.info? 5).map (fun i=>(i.zero,i.size,i.bytes))=some (some (.int .u8 0),1,1):=by kernel_rfl

def OwnB (w:World) (base:Nat) (v:Value) (zs:List Nat):Prop:=OwnN .u8 5 w base v zs.length zs

theorem OwnB.row {w:World} {base:Nat} {v:Value} {zs:List Nat} (h:OwnB w base v zs):Row .u8 w v zs:=Row.of_own (base:=base) (e:=5) h

theorem OwnB.of {w:World} {base n:Nat} {v:Value} {zs:List Nat} (h:OwnN .u8 5 w base v n zs):OwnB w base v zs:=by
 have hn:zs.length=n:=by
  have:=h.1;rw [cf] at this;omega
 unfold OwnB;rw [hn];exact h

theorem OwnB.base {w:World} {base base':Nat} {v:Value} {zs:List Nat} (h:OwnB w base v zs) (hb:base'<=base):OwnB w base' v zs:=cE h fun k hk=>aR hb (h.lt k hk).1

theorem OwnB.nil (w:World) (base:Nat):OwnB w base (.slice none 0 0) []:=World.ownsRow_nil _ _ _ _

def BB:Value->Nat
 | .slice _ n _=>n
 | _=>0

theorem Bu {k:IntKind} {w:World} {b off n c s m:Nat} {zs:List Nat} (h:Row k w (.slice (some ⟨b,off,none⟩) n c) zs) (h2:s+m<=n):Row k w (.slice (some ⟨b,off+s,none⟩) m (c-s)) ((zs.drop s).take m):=by
 obtain ⟨ao,d,e',c1,c2,_,h4⟩:=h;cases e'
 have hl:((zs.drop s).take m).length=m:=by rw [aO,b9];omega
 refine ⟨_,_,by rw [hl],by omega,by omega,(fun e=>by cases e),fun i hi=>?_⟩;rw [hl] at hi;obtain ⟨b',f,e',a⟩:=h4 (s+i) (by omega);cases e'
 refine ⟨b,off+s,rfl,?_⟩;rw [iG,a,aA,aA,dV,ah hi,et]

theorem AQ {k:IntKind} {w W:World} {ad:Addr} {n d:Nat} {zs:List Nat} (h:Row k w (.slice (some ad) n d) zs) (kk:Kept af w W):∀ j u,(zs.map fun z:Nat=>Value.int k (z:Int))[j]? = some u->W.cell? (ad.add j)=some u:=fun j u hj=>by
 obtain ⟨hlt,hv⟩:=ml.1 hj;rw [cf] at hlt;obtain ⟨ao,e,e',c1,c2,_,h4⟩:=h;cases e'
 obtain ⟨b,off,e',a⟩:=h4 j hlt;cases e'
 have c:(⟨b,off,none⟩:Addr).add j=⟨b,off+j,none⟩:=by unfold Addr.add;split <;> simp_all
 rw [c,kk.cellN a,<- hv,List.getElem_map,aA,aQ hlt];rfl

theorem He (k:IntKind) (zs:List Nat):∀ u ∈ (zs.map fun z:Nat=>Value.int k (z:Int)),u.oneCell'=true:=fun u hu=>by
 obtain ⟨x,_,rfl⟩:=ll.1 hu;rfl

def rf (bs:List Nat):ByteArray:=if bs=[] then ByteArray.empty else strOfNums (bs.map fun b:Nat=>(b:Int))

theorem tD {w:World} {ao:Option Addr} {n a:Nat} {bs:List Nat} (h:Row .u8 w (.slice ao n a) bs) :
  ∀ dst,prog.underlying dst=some .string->(convert 27 dst (.slice ao n a)).run prog w=.ok (.string (rf bs)) w:=by
 obtain ⟨f,c,e,c1,c2,c3,h4⟩:=h;cases e
 cases bs with
 | nil=>
  intro dst hd;rw [run_convert_bytes_string w 27 dst 5 _ _ a underlying27 underlying5 hd];cases ao <;> simp [Conv.bytesToString,loadCells,rf]
  all_goals rfl
 | cons x t=>
  obtain ⟨b,off,rfl,_⟩:=h4 0 (by simp);have:=run_convert_bytes_arg (P:=prog) w 27 5 underlying27 underlying5 b off (x :: t).length a ((x :: t).map fun b:Nat=>(b:Int)) (by simp) (fun i hi=>by
   obtain ⟨b',d,e,hc⟩:=h4 i hi;cases e
   rw [hc,aA,aA,bu,aQ hi];rfl)
  intro dst hd;rw [this dst hd];simp [rf]

theorem qh (bs:List Nat):(rf bs).data.toList=bs.map fun b=>UInt8.ofNat b:=by
 unfold rf
 split
 ·next h=>rw [h];rfl
 ·rw [strOfNums_data,List.map_map];rfl

theorem qj:∀ {xs bs:List Nat},Digs xs 256->Digs bs 256->(xs.map fun b=>UInt8.ofNat b)=(bs.map fun b=>UInt8.ofNat b)->xs=bs
 | [],[],_,_,_=>rfl
 | [],_ :: _,_,_,h=>by simp at h
 | _ :: _,[],_,_,h=>by simp at h
 | a :: xs,b :: bs,ha,hb,h=>by
  rw [jC,jC,List.cons.injEq] at h;have e1:a=b:=by
   have:=congrArg UInt8.toNat h.1;rw [UInt8.toNat_ofNat',UInt8.toNat_ofNat'] at this;have h1:=ha a (by simp);have h2:=hb b (by simp);omega
  rw [e1,qj (fun d hd=>ha d (by simp [hd])) (fun d hd=>hb d (by simp [hd])) h.2]

theorem xz (u v:Value) (xs bs:List Nat) (w:World) (ha:Row .u8 w u xs) (hb:Row .u8 w v bs) (da:Digs xs 256) (db:Digs bs 256) :
  Calls prog 13 #[u,v] w fun e w'=>e=.returned (.bool (decide (xs=bs)))/\w'=w:=by
 obtain ⟨ao,na,ca,rfl,_⟩:=ha.open;obtain ⟨bo,nb,cb,rfl,_⟩:=hb.open;have k1:=tD ha 9 underlying9;have k2:=tD hb 9 underlying9;have hd:decide (xs=bs)=((rf xs).toList == (rf bs).toList):=by
  rw [Lib.toList_data,Lib.toList_data,qh,qh];by_cases h:xs=bs
  ·rw [h];simp
  ·rw [cP h]
   symm
   exact beq_eq_false_iff_ne.2 fun e=>h (qj da db e)
 rw [hd];generalize rf xs=s at *;generalize rf bs=t at *;clear ha hb hd;go_enter func13,ntmps13;go_wp2;go_ret;exact ⟨rfl,rfl⟩

def fY (bs:List Nat) (n:Int):Nat:=if n<0 then 1 else if (bs.length:Int)<n then 150 else 0
def iN (bs:List Nat) (n:Int):List Nat:=if fY bs n=0 then bs.take n.toNat else []
def jf (bs:List Nat) (n:Int):List Nat:=if n<0 then bs else bs.drop n.toNat

def iJ (M t z:Nat):Nat->List Nat->Nat->Nat × Nat × List Nat
 | 0,_,_=>(0,0,[])
 | f+1,bs,k=>if bs.length<z then (0,0,[]) else if 0<bev (bs.take z)%2^t/\bev (bs.take z)%2^t<M then (bev (bs.take z)%2^t,k,bs.drop z) else iJ M t z f (bs.drop z) (k+1)

def sd (M:Nat) (bs:List Nat):Nat × Nat × List Nat:=iJ M (aM M) ((aM M+7)/8) (bs.length+1) bs 1

theorem vx (M t z:Nat) (hM:0<M):∀ f bs k,(iJ M t z f bs k).1<M
 | 0,_,_=>hM
 | f+1,bs,k=>by
  unfold iJ
  split
  ·exact hM
  ·split
   ·next h=>exact h.2
   ·exact vx M t z hM f _ _

theorem p8 (M t z:Nat):∀ f bs k,∃ n,(iJ M t z f bs k).2.2=bs.drop n
 | 0,bs,_=>⟨bs.length,by rw [List.drop_length];rfl⟩
 | f+1,bs,k=>by
  unfold iJ
  split
  ·exact ⟨bs.length,by rw [List.drop_length]⟩
  ·split
   ·exact ⟨z,rfl⟩
   ·obtain ⟨n,hn⟩:=p8 M t z f (bs.drop z) (k+1);exact ⟨z+n,by rw [hn,iY]⟩

def eY (xs bs:List Nat):Nat:=if 300<xs.length then 2 else if val xs<2 then 1 else if (sd (val xs) bs).1=0 then 150 else 0
def jh (xs bs:List Nat):List Nat:=if eY xs bs=0 then digs (sd (val xs) bs).1 xs.length else []
def kj (xs bs:List Nat):Nat:=if eY xs bs=0 then (sd (val xs) bs).2.1 else 0
def jg (xs bs:List Nat):List Nat:=if 300<xs.length\/val xs<2 then bs else (sd (val xs) bs).2.2

theorem p9 {M t z f k:Nat} {bs:List Nat} (hf:bs.length<f) (hz:0<z):(bs.length<z/\iJ M t z f bs k=(0,0,[])) \/
  (¬ bs.length<z/\(0<bev (bs.take z)%2^t/\bev (bs.take z)%2^t<M)/\iJ M t z f bs k=(bev (bs.take z)%2^t,k,bs.drop z)) \/
  (¬ bs.length<z/\¬ (0<bev (bs.take z)%2^t/\bev (bs.take z)%2^t<M)/\∃ g,(bs.drop z).length<g/\iJ M t z f bs k=iJ M t z g (bs.drop z) (k+1)):=by
 obtain ⟨g,rfl⟩:∃ g,f=g+1:=⟨f-1,by omega⟩
 by_cases h1:bs.length<z
 ·exact .inl ⟨h1,by rw [iJ,ah h1]⟩
 ·by_cases h2:0<bev (bs.take z)%2^t/\bev (bs.take z)%2^t<M
  ·exact .inr (.inl ⟨h1,h2,by rw [iJ,ai h1,ah h2]⟩)
  ·exact .inr (.inr ⟨h1,h2,g,by rw [b9];omega,by rw [iJ,ai h1,ai h2]⟩)

theorem pZ (M t z:Nat) (hz:0<z):∀ f bs k,(iJ M t z f bs k).1≠0->(iJ M t z f bs k).2.2.length<bs.length
 | 0,_,_,h=>absurd rfl h
 | f+1,bs,k,h=>by
  unfold iJ at *
  split at h
  ·exact absurd rfl h
  ·next h1=>
   rw [ai h1]
   split at h
   ·next h2=>rw [ah h2];simp only [b9];omega
   ·next h2=>
    rw [ai h2];have:=pZ M t z hz f (bs.drop z) (k+1) h;rw [b9] at this;omega

theorem zV {M:Nat} (h:0<M):0<aM M:=by
 rcases cF (aM M) with e | e
 ·have:=(aX M 0).1 (by omega);simp at this;omega
 ·exact e

theorem zK {xs bs:List Nat} (h:eY xs bs=0):(jg xs bs).length<bs.length:=by
 unfold eY at h;unfold jg
 split at h
 ·omega
 ·next h1=>
  split at h
  ·omega
  ·next h2=>
   split at h
   ·omega
   ·next h3=>
    rw [ai (by omega)];exact pZ _ _ _ (by have:=zV (show 0<val xs by omega);omega) _ _ _ h3

theorem zL (xs bs:List Nat):∃ n,jg xs bs=bs.drop n:=by
 unfold jg
 split
 ·exact ⟨0,by simp⟩
 ·exact p8 _ _ _ _ _ _

theorem Cf {xs bs:List Nat} (h:eY xs bs=0):(jh xs bs).length=xs.length:=by
 unfold jh;rw [ah h,ag]

theorem vy {xs bs:List Nat} (hd:Digs xs) (h:eY xs bs=0):0<val (jh xs bs)/\val (jh xs bs)<val xs:=by
 have hb:=h;unfold eY at h
 split at h
 ·omega
 ·split at h
  ·omega
  ·next h2=>
   split at h
   ·omega
   ·next h3=>
    have hlt:=vx (val xs) (aM (val xs)) ((aM (val xs)+7)/8) (by omega) (bs.length+1) bs 1;have a:(sd (val xs) bs).1<val xs:=hlt;unfold jh;rw [ah hb,aB,ax (bk a (aE (by omega) hd))];exact ⟨by omega,a⟩

def mE (ns:List Nat):Prop:=ns.length<=300/\(aM (val ns)+63)/64<=130/\2<=val ns/\val ns%2=1

instance (ns:List Nat):Decidable (mE ns):=by unfold mE;infer_instance

def lW (ns:List Nat):Nat->List Nat->Nat->List Nat × Nat × Nat × List Nat
 | 0,_,_=>([],0,150,[])
 | f+1,bs,a=>if eY ns bs≠0 then ([],0,eY ns bs,jg ns bs) else if Nat.gcd (val (jh ns bs)) (val ns)=1 then (jh ns bs,a+kj ns bs,0,jg ns bs) else lW ns f (jg ns bs) (a+kj ns bs)

def nh (ns bs:List Nat):List Nat × Nat × Nat × List Nat:=if mE ns then lW ns (bs.length+1) bs 0 else ([],0,1,bs)

theorem oO (M t z:Nat) (hz:0<z):∀ f bs k,(iJ M t z f bs k).1≠0->(iJ M t z f bs k).2.1+(iJ M t z f bs k).2.2.length<k+bs.length
 | 0,_,_,h=>absurd rfl h
 | f+1,bs,k,h=>by
  unfold iJ at *
  split at h
  ·exact absurd rfl h
  ·next h1=>
   rw [ai h1]
   split at h
   ·next h2=>
    rw [ah h2];show k+(bs.drop z).length<_
    rw [b9];omega
   ·next h2=>
    rw [ai h2];have:=oO M t z hz f (bs.drop z) (k+1) h;rw [b9] at this;omega

theorem ya {xs bs:List Nat} (h:eY xs bs=0):kj xs bs+(jg xs bs).length<=bs.length:=by
 have h0:=h;unfold eY at h;unfold kj jg;rw [ah h0]
 split at h
 ·omega
 ·next h1=>
  split at h
  ·omega
  ·next h2=>
   split at h
   ·omega
   ·next h3=>
    rw [ai (by omega)];have hb:2<=aM (val xs):=by
     have:=(aX (val xs) 1).1;by_cases h4:aM (val xs)<=1
     ·have:=this h4;omega
     ·omega
    have:=oO (val xs) (aM (val xs)) ((aM (val xs)+7)/8) (by omega) (bs.length+1) bs 1 h3;unfold sd;omega

def tF (at_ k:Int) (fs:List Nat) (X n M:Nat):Nat:=if at_=k then val (fs.take n)%M else X

theorem KeyGood.facts {a j b c f g i:List Nat} {e:Nat} (h:KeyGood a j b c f g i e):val a=val b*val c/\eO (val b)/\eO (val c)/\fW a e=0/\dj (val a)<=512/\3<=val a:=by
 obtain ⟨⟨_,hP,hQ,_,hp,_⟩,d,u,_,_,_,_,hn,_⟩:=h;generalize val b=P at *;generalize val c=Q at *;have h1:val a=P*Q:=by rw [hn,di,aB,ax ((aG _ _).1 (by omega))]
 have h2:dj (P*Q)<=512:=by
  have:=oW P Q;have:=mJ (n:=256) hP.2.2;have:=mJ (n:=256) hQ.2.2;omega
 refine ⟨h1,hP,hQ,by rw [hn];exact hp,by rw [h1];exact h2,?_⟩;rw [h1];have:=fh hP.1 hQ.1;omega

theorem lJ {k:IntKind} {w:World} {ao:Option Addr} {a:Nat} (h:ao=none->a=0) (hc:a<=maxLen):Row k w (.slice ao 0 a) []:=
 ⟨ao,a,rfl,aP _,hc,h,fun i hi=>absurd hi (by simp)⟩

theorem Dy {k:IntKind} {w:World} {ao:Option Addr} {L a s m:Nat} {zs:List Nat} (h:Row k w (.slice ao L a) zs) (h2:s+m<=L) :
  (ao=none->Row k w (.slice none 0 0) ((zs.drop s).take m))/\(∀ ad,ao=some ad->a=s->Row k w (.slice (some ad) 0 0) ((zs.drop s).take m))/\(∀ ad,ao=some ad->a≠s->Row k w (.slice (some (ad.add s)) m (a-s)) ((zs.drop s).take m)):=by
 obtain ⟨_,_,_,e,hL,f,g,d,c⟩:=h.open;cases e
 have hz:m=0->(zs.drop s).take m=[]:=fun e=>by rw [e];rfl
 refine ⟨fun e=>?_,fun ad e ec=>?_,fun ad e ec=>?_⟩
 ·have:=d e;rw [hz (by omega)];exact Row.nil _ _
 ·rw [hz (by omega)];exact lJ (fun e=>by cases e) (aP _)
 ·subst e;by_cases hm:m=0
  ·rw [hz hm,hm];exact lJ (fun e=>by cases e) (by unfold maxLen at *;omega)
  ·obtain ⟨b,off,e,_⟩:=c 0 (by omega);cases e
   have ea:(⟨b,off,none⟩:Addr).add s=⟨b,off+s,none⟩:=by unfold Addr.add;split <;> simp_all
   rw [ea];exact Bu h h2

end Go.Proofs.YtkaojflnghfmcaaGreatDoor
