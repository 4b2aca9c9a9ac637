/- Put together of: Prw1 Pub1 Byt1 Scr1 Scr3 Scr4 Prm4 Bld1 Prv1 Cut0 Prv2 WKeyChecks Src1 Seq2. -/
import Derived.Test.YtkaojflnghfmcaaGreatDoorQB19
import Derived.Laws.AppendOwn
import Derived.Laws.AppendOwnNone
import Derived.Laws.BytesArg
import Derived.Lib.Strings

namespace Go.Proofs.YtkaojflnghfmcaaGreatDoor
set_option maxRecDepth 100000
set_option maxHeartbeats 4000000
open Go.RowKit

theorem oB (p:Addr) (w:World) :
  CallsD Tryz.prog 60 #[.pointer (some p)] .returning w fun e u' w'=>e=.returned (.tuple #[])∧u'=.returning∧w'=w:=by
 refine callsD_of_wpS Tryz.func60 rfl fun c₀ cs hu=>?_
 apply wpS_seq;apply wpS_region;simp [wpOpsS,go_sem,recoverD,hu,Tryz.ntmps60,Exit.thenS];apply wpS_seq;apply wpS_seq;apply wpS_region;simp [wpOpsS,go_sem,Exit.thenS];refine wpS_cond (t:=true) (by simp [Act.eval,Array.replicate]) ?_;simp only [if_true];refine wpS_of_wp (wp_ret ?_);cases c₀
 simp_all [bodyPostS,results,Tryz.results60,Exit.thenS]

theorem ym (p:Addr) (x n:Int) (a:List PanicEntry) (w:World) (hc:w.cell? p=some (.int .i64 x)) (hz:w.frozen? p=false) :
  CallsD Tryz.prog 60 #[.pointer (some p)] (.panicking (refusal n :: a)) w fun e u' w'=>
   e=.returned (.tuple #[])∧u'=.panicking ({ refusal n with recovered:=true } :: a)∧w'=w.setCell p (.int .i64 n):=by
 refine callsD_of_wpS Tryz.func60 rfl fun c₀ cs hu=>?_
 apply wpS_seq;apply wpS_region;simp [wpOpsS,go_sem,recoverD,hu,Tryz.ntmps60,Exit.thenS];apply wpS_seq;apply wpS_seq;apply wpS_region;simp [wpOpsS,go_sem,Exit.thenS];refine wpS_cond (t:=false) (by simp [Act.eval,Array.replicate]) ?_;simp only [Bool.false_eq_true,if_false];refine wpS_of_wp (wp_skip ?_);simp only [Exit.thenS];refine wpS_of_wp ?_;have c:∀ w:World,(Instr.typeAssert (.iface 32 (.int .i64 n)) 20 32 true).run Tryz.prog w=.ok (.tuple #[.int .i64 n,.bool true]) w:=fun w=>by kernel_rfl
 have b:∀ (x:Bool) (w:World),(Op.unary .not (.bool x)).run Tryz.prog w=.ok (.bool (!x)) w:=fun _ _=>rfl
 have e:(#[Value.pointer (some p)] ++ ((((Array.replicate 15 undef).setIfInBounds 3 (Value.iface 32 (Value.int IntKind.i64 n))).setIfInBounds 0 (Value.iface 32 (Value.int IntKind.i64 n))).setIfInBounds 4 (Value.iface 32 (Value.int IntKind.i64 n))).setIfInBounds 5 (Value.bool false):Array Value)=#[.pointer (some p),.iface 32 (.int .i64 n),undef,undef,.iface 32 (.int .i64 n),.iface 32 (.int .i64 n),.bool false,undef,undef,undef,undef,undef,undef,undef,undef,undef]:=rfl;rw [e];clear e;go_wp2;simp [bodyPostS,results,Tryz.results60]

theorem ia (f:Nat) (b:Array Value) (w:World) (Q:Int→World→Prop) (he:∀ args w,(callFunc f args).run Tryz.prog w=.ok (.enter f args) w)
  (h:Calls Tryz.prog f b (w.alloc (.cells #[.int .i64 0] 32)) fun e w'=>w'.heap[w.heap.size]? = some (.cells #[.int .i64 0] 32 (0,0)) ∧
   ((e=.returned (.tuple #[])∧Q 0 w')∨∃ n,e=.panicked [refusal n]∧Q n w')) :
  Calls Tryz.prog 28 #[.func (.func f) #[] b] w fun e w'=>∃ n w1,e=.returned (.int .i64 n)∧(Q n w1∧w1.heap[w.heap.size]? = some (.cells #[.int .i64 0] 32 (0,0)))∧w'=w1.setCell ⟨w.heap.size,0,none⟩ (.int .i64 n):=by
 have d:=dM;go_enter_defers Tryz.func28,Tryz.ntmps28
 go_wp2_with fail;refine h.mono ?_;rintro e w1 ⟨hb,(⟨rfl,hq⟩ | ⟨n,rfl,hq⟩)⟩
 ·have hc:w1.cell? ⟨w.heap.size,0,none⟩=some (.int .i64 0):=by simp [World.cell?,hb]
  have hz:w1.frozen? ⟨w.heap.size,0,none⟩=false:=by simp [World.frozen?,hb]
  clear h;go_wp2_with fail;refine leaves_cons (f:=60) (args:=#[.pointer (some ⟨w.heap.size,0,none⟩)]) (by simp) (by simp [go_sem]) ?_;refine (oB ⟨w.heap.size,0,none⟩ _).mono ?_;rintro e u' c ⟨rfl,rfl,rfl⟩;have a:(w1.setCell ⟨w.heap.size,0,none⟩ (.int .i64 0)).cell? ⟨w.heap.size,0,none⟩=some (.int .i64 0):=World.cell?_setCell_same' _ _ _ (by rw [hc];rfl);simp [Leaves,settle,results,Tryz.results28,go_sem,a];exact ⟨_,⟨hq,hb⟩,rfl⟩
 ·have hc:w1.cell? ⟨w.heap.size,0,none⟩=some (.int .i64 0):=by simp [World.cell?,hb]
  have hz:w1.frozen? ⟨w.heap.size,0,none⟩=false:=by simp [World.frozen?,hb]
  clear h;refine leaves_cons (f:=60) (args:=#[.pointer (some ⟨w.heap.size,0,none⟩)]) (by simp) (by simp [go_sem]) ?_;refine (ym ⟨w.heap.size,0,none⟩ 0 n [] _ hc hz).mono ?_;rintro e u' c ⟨rfl,rfl,rfl⟩;have a:(w1.setCell ⟨w.heap.size,0,none⟩ (.int .i64 n)).cell? ⟨w.heap.size,0,none⟩=some (.int .i64 n):=World.cell?_setCell_same' _ _ _ (by rw [hc];rfl);simp [Leaves,settle,results,Tryz.results28,go_sem,a];exact ⟨_,⟨hq,hb⟩,rfl⟩

theorem bZ (n:Int) (w:World):Calls Tryz.prog 42 #[.bool false,.int .i64 n] w fun e w'=>e=.returned (.tuple #[])∧w'=w:=by
 go_enter Tryz.func42,Tryz.ntmps42;go_wp2;go_end0
 exact ⟨rfl,rfl⟩

theorem dt (n:Int) (w:World):Calls Tryz.prog 42 #[.bool true,.int .i64 n] w fun e w'=>e=.panicked [refusal n]∧w'=w:=by
 go_enter Tryz.func42,Tryz.ntmps42;go_wp2;exact ⟨rfl,rfl,rfl⟩

theorem dH (ao:Option Addr) (n a:Nat) (w:World):Calls Tryz.prog 31 #[.slice ao n a,.int .i64 0] w fun e w'=>e=.returned (.slice ao n a)∧w'=w:=by
 have hR:=bZ 0 w;go_enter Tryz.func31,Tryz.ntmps31;go_wp2_with fail;refine hR.mono ?_;rintro e w' ⟨rfl,rfl⟩;go_wp2;go_ret;exact ⟨rfl,rfl⟩

theorem eZ (ao bo:Option Addr) (n ac K l bc:Nat) (w:World):Calls Tryz.prog 33 #[.agg #[.slice ao n ac,.int .u64 (K:Nat),.slice bo l bc],.int .i64 0] w fun e w'=>e=.returned (.agg #[.slice ao n ac,.int .u64 (K:Nat),.slice bo l bc])∧Kept ae w w':=by
 have hR:=bZ 0;obtain ⟨W,hW⟩:∃ W,W=(w.alloc (.cells #[.slice ao n ac,.int .u64 (K:Nat),.slice bo l bc] 70)).alloc (.cells #[.slice none 0 0,.int .u64 0,.slice none 0 0] 70):=⟨_,rfl⟩
 have k0:Kept ae w W:=by rw [hW];exact ((ag ae w).alloc _).alloc _
 have b1:W.heap[w.heap.size]? = some (.cells #[.slice ao n ac,.int .u64 (K:Nat),.slice bo l bc] 70 (0,0)):=by rw [hW];exact ak (heap_alloc_new _ _)
 have b2:W.heap[w.heap.size+1]? = some (.cells #[.slice none 0 0,.int .u64 0,.slice none 0 0] 70 (0,0)):=by
  rw [hW];have:=heap_alloc_new (w.alloc (.cells #[.slice ao n ac,.int .u64 (K:Nat),.slice bo l bc] 70)) (.cells #[.slice none 0 0,.int .u64 0,.slice none 0 0] 70)
  rwa [World.size_alloc] at this
 obtain ⟨c0,c1,c2⟩:=am b1;obtain ⟨f0,f1,f2⟩:=fH b2;obtain ⟨d0,d1,d2⟩:=am (mK b2 (.slice ao n ac) (.int .u64 (K:Nat)) (.slice bo l bc));obtain ⟨g0,g1,g2⟩:=am b2;have a:=aa (k0.next (iq W (w.heap.size+1) (.slice ao n ac) (.int .u64 (K:Nat)) (.slice bo l bc)) (fun x hx e=>by omega));have HW:=aa hW;clear hW k0 b1 b2;go_enter Tryz.func33,Tryz.ntmps33;go_wp2_with (rw [← HW.out]);refine (hR W).mono ?_;rintro e w1 ⟨rfl,rfl⟩;clear hR;go_wp2_with fail;exact bodyPost_ret (v:=.agg #[.slice ao n ac,.int .u64 (K:Nat),.slice bo l bc]) (by simp [results,Tryz.results33,go_sem,d0,d1,d2]) rfl ⟨rfl,a.out⟩

theorem qM (v:Value) (xs:List Nat) (n:Nat) (w:World) (h:Row .u64 w v xs) (hd:Digs xs) (hn:n≤1000000) :
  Calls Tryz.prog 83 #[v,.int .i64 (n:Nat)] w fun e w'=>e=.returned (.slice (some ⟨w.heap.size,0,none⟩) n n)∧OwnN .u64 24 w' w.heap.size (.slice (some ⟨w.heap.size,0,none⟩) n n) n (digs (val xs) n)∧Kept ae w w':=by
 obtain ⟨i0,i,r,k,s⟩:=info_parts Tryz.info24;obtain ⟨ao,q,o,rfl,hL,_,_,_,_⟩:=h.open;have HD:=aa (j9 hd n);have HS:Hid (∀ W,Kept ae w W→0<((xs.take n).map fun z:Nat=>Value.int .u64 (z:Int)).length→∃ ad,ao=some ad∧∀ j u,((xs.take n).map fun z:Nat=>Value.int .u64 (z:Int))[j]? = some u→W.cell? (ad.add j)=some u):=fun W hk hp=>by
  obtain ⟨ad,e,hs⟩:=h.source hk (by rw [List.length_map,List.length_take] at hp;rw [List.length_map];omega);refine ⟨ad,e,fun j u hj=>hs j u ?_⟩;rw [List.map_take,List.getElem?_take] at hj
  split at hj
  ·exact hj
  ·cases hj
 have HO:=aa (eI .u64 (xs.take n));have b:Hid (((xs.take n).map fun z:Nat=>Value.int .u64 (z:Int)).length=Nat.min q n):=by
  unfold Hid;rw [List.length_map,List.length_take,hL.out];exact Nat.min_comm n q
 obtain ⟨CS,c⟩:∃ CS,CS=(xs.take n).map (fun z:Nat=>Value.int .u64 (z:Int)):=⟨_,rfl⟩
 rw [← c] at HS HO b;have m:Hid (CS=(xs.take n).map (fun z:Nat=>Value.int .u64 (z:Int))):=c;have t:Nat.min q n≤n:=Nat.min_le_right _ _;clear c h hd;go_enter Tryz.func83,Tryz.ntmps83
 go_wp2_with (at_make;refine wpList_make_full _ rfl _ _ 23 rfl w.heap.size 24 i0 _ 1 Tryz.underlying23 i r k _ _ _ _ n rfl rfl rfl rfl (by rw [s];omega) (by unfold maxLen;omega) (leR _) ?_;intro w1 d g;rw [aM] at d;have k1:=aK g;obtain ⟨w2,p,f,k2⟩:=bD (P:=Tryz.prog) 23 23 3 24 w.heap.size 0 n n (some ⟨w.heap.size,0,none⟩) ao q o _ 24 CS Tryz.underlying23 (by rw [i];simp [k]) (dG d) b.out (fun hp=>⟨rfl,HS.out _ k1 hp⟩) (by have:=b.out;simp;omega) HO.out;have l:Hid _:=f;clear f d g);go_ret;have a:=l.out;rw [m.out,dv] at a;rw [HD.out] at a;have kk:=cH k1 k2 (leR _)
 exact ⟨rfl,bg a (by rw [af]) (by unfold maxLen;omega) (leR _),kk⟩

theorem sq (X k:Nat):dig X (k/8)/2^(8*(k%8))%256=dig X k 256:=by
 unfold dig;have e:(18446744073709551616:Nat)^(k/8)=256^(8*(k/8)):=by rw [Nat.pow_mul]
 have e0:(2:Nat)^(8*(k%8))=256^(k%8):=by rw [Nat.pow_mul]
 have e3:(256:Nat)^k=256^(8*(k/8))*256^(k%8):=by rw [← Nat.pow_add];congr 1;omega
 rw [e,e0,e3,← Nat.div_div_eq_div_mul];generalize X/256^(8*(k/8))=x;have h:k%8=0∨k%8=1∨k%8=2∨k%8=3∨k%8=4∨k%8=5∨k%8=6∨k%8=7:=by omega
 rcases h with h | h | h | h | h | h | h | h <;> rw [h] <;> omega

theorem jX (V n:Nat):∀ i j,j<i→(bes V n i)[j]? = some (dig V (n-1-j) 256)
 | 0,j,h=>by omega
 | i+1,j,h=>by
  unfold bes;by_cases e:j<i
  ·rw [List.getElem?_append_left (by rw [cZ];exact e)];exact jX V n i j e
  ·obtain rfl:j=i:=by omega
   rw [List.getElem?_append_right (by rw [cZ];omega),cZ,Nat.sub_self];rfl

def byk (X z k:Nat):List Nat:=List.replicate (z-k) 0 ++ (bes X z z).drop (z-k)

theorem vV {X z k:Nat} (h:k<z):(byk X z k).set (z-1-k) (dig X k 256)=byk X z (k+1):=by
 refine List.ext_getElem? fun j=>?_
 unfold byk;rw [List.getElem?_set,List.length_append,List.length_replicate,List.length_drop,cZ];by_cases h1:z-1-k=j
 ·rw [if_pos h1,if_pos (by omega),List.getElem?_append_right (by rw [List.length_replicate];omega),List.length_replicate,List.getElem?_drop,jX _ _ _ _ (by omega),show z-1-(z-(k+1)+(j-(z-(k+1))))=k by omega]
 ·rw [if_neg h1];by_cases h2:j<z-(k+1)
  ·rw [List.getElem?_append_left (by rw [List.length_replicate];omega),List.getElem?_append_left (by rw [List.length_replicate];omega),List.getElem?_replicate,List.getElem?_replicate,if_pos (by omega),if_pos (by omega)]
  ·rw [List.getElem?_append_right (by rw [List.length_replicate];omega),List.getElem?_append_right (by rw [List.length_replicate];omega),List.length_replicate,List.length_replicate,List.getElem?_drop,List.getElem?_drop]
   congr 1
   omega

theorem zX {X z k:Nat} (h:k<z):(byk X z k)[z-1-k]? = some 0:=by
 unfold byk;rw [List.getElem?_append_left (by rw [List.length_replicate];omega),List.getElem?_replicate,if_pos (by omega)]

theorem Cs (xo:Option Addr) (n xc X z:Nat) (w:World) (h:Row .u64 w (.slice xo n xc) (digs X n)) (hz:z≤8*n) (hn:n≤100000) :
  Calls Tryz.prog 35 #[.slice xo n xc,.int .i64 (z:Nat)] w fun e w'=>∃ vo vn vc,e=.returned (.slice vo vn vc)∧Row .u8 w' (.slice vo vn vc) (bes X z z)∧Fresh w (.slice vo vn vc)∧Kept ae w w':=by
 obtain ⟨i0,o,r,s,t⟩:=info_parts Tryz.info5;have HX:=aa h;have hm:max (z:Int) 0=(z:Int):=by omega
 clear h;go_enter Tryz.func35,Tryz.ntmps35;go_wp2_with (at_make;refine wpList_make_full _ rfl _ _ 27 rfl w.heap.size 5 i0 _ 1 Tryz.underlying27 o r s _ _ _ _ z rfl rfl rfl rfl (by rw [t];omega) (by unfold maxLen;omega) (leR _) ?_;intro w1 f l);rw [aM] at f;have k1:=aK l;go_loopw [11] (fun i wr=>∃ k:Nat,k≤z∧i=.int .i64 k∧OwnN .u8 5 wr w.heap.size (.slice (some ⟨w.heap.size,0,none⟩) z z) z (byk X z k)∧Kept ae w wr) (fun i _=>z-(intOf i).toNat)
 case atStart=>exact ⟨0,Nat.zero_le _,rfl,by rw [show byk X z 0=List.replicate z 0 by unfold byk;rw [Nat.sub_zero,List.drop_of_length_le (by rw [cZ];omega),List.append_nil]];exact f,k1⟩
 case round=>
  clear f l k1;obtain ⟨k,hk,rfl,ho,c⟩:=hrel;by_cases hkn:k<z
  ·have p:(k:Int)<(z:Int):=by omega
   obtain ⟨j,hj⟩:∃ j,j=z-1-k:=⟨_,rfl⟩
   have hJ:(z:Int)-1-(k:Int)=(j:Int):=by omega
   have y:j<z:=by omega
   have hc:wr.cell? ⟨w.heap.size,j,none⟩=some (.int .u8 0):=by
    rw [World.ownsRow.cellAt ho j (by omega),List.getElem?_map,hj,zX hkn];rfl
   have hf:=World.ownsRow.frozenAt ho j;have q:=fun u=>(World.ownsRow.stored ho j u).1
   have HF:Hid ((byk X z k).set j (dig X k 256)=byk X z (k+1)):=by unfold Hid;rw [hj];exact vV hkn
   obtain ⟨_,_,_,e1,_,_,_,_,a⟩:=(HX.out.grew c).open;cases e1
   obtain ⟨b,off,rfl,v⟩:=b8 (a (k/8) (by omega)) (by omega);have x:dig X (k/8)<18446744073709551616:=Nat.mod_lt _ (by omega);have g:=sq X k;have g1:(k:Int)/8<(n:Int):=by omega
   have g2:(0:Int)≤(k:Int)/8:=by omega
   have g3:((k:Int)/8).toNat=k/8:=by omega
   clear a hj;generalize dig X (k/8)=d at *;have e1:(d:Int)/2^(8*(k%8))=((d/2^(8*(k%8)):Nat):Int):=by simp
   have HB:Hid ((d:Int)/2^(8*(k%8))%256=((dig X k 256:Nat):Int)):=by unfold Hid;rw [e1,← g];omega
   clear e1 g;go_wp2_with fail;rw [HB.out];go_roundw
   case rel=>
    refine ⟨k+1,by omega,by go_num,?_,c.setCell _ (fun h=>by simp at h) _⟩;unfold OwnN;rw [← HF.out,List.map_set];exact q _
   case measure=>simp [intOf];omega
  ·have p:¬ (k:Int)<(z:Int):=by omega
   have e:k=z:=by omega
   subst e;go_wp2;go_ret;have hb:byk X k k=bes X k k:=by unfold byk;simp
   refine ⟨_,_,_,rfl,Row.of_own (base:=w.heap.size) (e:=5) (by rw [cZ,← hb];exact ho),?_,c⟩;intro b m;simp [Value.ownBlock] at m;omega

structure Md (w:World) (o:Tr) (ao bo:Option Addr) (n K mcap rcap V:Nat):Prop where
 m8:Mod8 w o ao bo n n K mcap rcap (eJ V) (fj V)
 ev:val (eJ V)=V

theorem Md.did {w w':World} {o o':Tr} {m:List Ev} {ao bo:Option Addr} {n K a b V:Nat} (h:Md w o ao bo n K a b V) (d:Did w o m w' o'):Md w' o' ao bo n K a b V:=⟨h.m8.did d,h.ev⟩

theorem Md.grew {w w':World} {o:Tr} {ao bo:Option Addr} {n K a b V:Nat} (h:Md w o ao bo n K a b V) (k:Kept ae w w'):Md w' o ao bo n K a b V:=⟨h.m8.grew k,h.ev⟩

def Md.off (ao bo:Option Addr) (n mcap rcap b:Nat):Prop:=(∀ x,(Value.slice ao n mcap).ownBlock=some x→¬ x=b)∧(∀ x,(Value.slice bo n rcap).ownBlock=some x→¬ x=b)

theorem Md.kept {S:Nat→Prop} {w w':World} {o:Tr} {ao bo:Option Addr} {n K a b V:Nat} (h:Md w o ao bo n K a b V) (k:Kept S w w') (h1:∀ x,(Value.slice ao n a).ownBlock=some x→¬ S x) (h2:∀ x,(Value.slice bo n b).ownBlock=some x→¬ S x):Md w' o ao bo n K a b V:=⟨⟨⟨h.m8.hm.1.kept k h1,h.m8.hm.2⟩,⟨h.m8.hr.1.kept k h2,h.m8.hr.2⟩,h.m8.hmd,h.m8.hrd,h.m8.hK,h.m8.ok⟩,h.ev⟩

theorem Md.new {w:World} {o:Tr} {ao bo:Option Addr} {n K a c V b:Nat} (h:Md w o ao bo n K a c V) (hb:w.heap.size≤b):Md.off ao bo n a c b:=by
 have hv:2≤V:=by
  obtain ⟨⟨f0,f1⟩,-,f3,f4,f5⟩:=h.m8.facts;rw [h.ev] at f4;exact f4
 obtain ⟨⟨f0,f1⟩,-⟩:=h.m8.facts;obtain ⟨_,_,_,e1,h1,_⟩:=h.m8.hm.1.open;cases e1
 obtain ⟨_,_,_,e1,h2,_⟩:=h.m8.hr.1.open;cases e1
 have n1:eJ V≠[]:=fun e=>by have:=h1.out;rw [e] at this;simp at this;omega
 have n2:fj V≠[]:=fun e=>by have:=h2.out;rw [e] at this;simp at this;omega
 exact ⟨fun x hx e=>by have:=h.m8.hm.1.lt n1 x hx;omega,fun x hx e=>by have:=h.m8.hr.1.lt n2 x hx;omega⟩

theorem Md.facts {w:World} {o:Tr} {ao bo:Option Addr} {n K a b V:Nat} (h:Md w o ao bo n K a b V):0<n∧n≤130∧2≤V∧V<18446744073709551616^n:=by
 obtain ⟨⟨f0,f1⟩,-,f3,f4,f5⟩:=h.m8.facts;rw [h.ev] at f4 f5;exact ⟨f0,f1,f4,f5⟩

theorem ik {w:World} {o:Tr} {v:Value} {n X:Nat} (h:U64s w v) (ht:TrIn w o) (hr:Row .u64 w v (digs X n)) (hX:X<18446744073709551616^n):NumT w o v n X:=⟨h.rowT hr ht,hX⟩

theorem qN (o:Tr) (xo:Option Addr) (L f:Nat) (xs:List Nat) (V n:Nat) (w:World) (ht:TrIn w o) (hx:Row .u64 w (.slice xo L f) xs) (hd:Digs xs) (hL:L≤1000000) (hV:V=val xs) (hE:bJ V=0) (hn:n=ah V) :
  Calls Tryz.prog 34 #[.slice xo L f] w fun e w'=>∃ ao bo K c d,e=.returned (.tuple #[.agg #[.slice ao n c,.int .u64 (K:Nat),.slice bo n d],.int .i64 0])∧Md w' o ao bo n K c d V∧(Fresh w (.slice ao n c)∧Fresh w (.slice bo n d))∧Kept ae w w':=by
 refine (jO xo L f xs V 0 hV hE.symm w hx hd hL).mono ?_;rintro e w' ⟨a,K,b,rfl,ra,rb,hK,⟨fa,fb⟩,k⟩;obtain ⟨i,j,l,m,p,q⟩:=gZ hE hK;obtain ⟨ao,an,c,rfl,g,-⟩:=ra.open;obtain ⟨bo,bn,d,rfl,h,-⟩:=rb.open;obtain rfl:n=an:=by rw [← g.out,j,hn]
 obtain rfl:n=bn:=by rw [← h.out,l,hn]
 exact ⟨ao,bo,K,c,d,rfl,⟨⟨eu fa ht ra,eu fb ht rb,p,q,hK.1,i⟩,m⟩,⟨fa,fb⟩,k⟩

def oq (n:Nat):List Ev:=List.replicate 2 (1,(n:Int),0) ++ gh n

theorem fL {n:Nat} (h:n≤130):(oq n).length≤1000:=by
 unfold oq gh aS;simp;omega

def yG (n:Nat):List Ev:=List.replicate 2 (1,(n:Int),0) ++ List.replicate 2 (1,(n:Int),0)

theorem dh (L M:Nat):(b9 L M).length≤60000:=by
 unfold b9
 split
 ·rw [fY];omega
 ·simp

theorem uu (o:Tr) (ao bo xo yo:Option Addr) (n K a b xc yc X Y V:Nat) (w:World) (ht:TrRoom w o 5000) (hM:Md w o ao bo n K a b V) (hx:NumT w o (.slice xo n xc) n X) (hX:X<V) (hy:NumT w o (.slice yo n yc) n Y) (hY:Y<V) :
  Calls Tryz.prog 90 #[aC o,.agg #[.slice ao n a,.int .u64 (K:Nat),.slice bo n b],.slice xo n xc,.slice yo n yc] w fun e w'=>∃ zo zc o',e=.returned (.tuple #[.slice zo n zc,.int .i64 0])∧NumT w' o' (.slice zo n zc) n (X*Y%V)∧Did w o (oq n) w' o':=by
 obtain ⟨f0,f1,f4,f5⟩:=hM.facts;refine (De o ao bo xo yo n n K a b n n xc yc _ _ _ _ w ht hM.m8.hm hM.m8.hr hx.1 hy.1 hM.m8.hmd hM.m8.hrd (ai (by omega) _ _) (ai (by omega) _ _) hM.m8.hK (by omega) (by omega) (by omega)).mono ?_;rintro e w' ⟨v',c,rfl,zs,m,o',hr,hl,d,hp,-⟩;rw [hM.ev,aL hx.2,aL hy.2] at hp;obtain ⟨⟨rfl,rfl⟩,rfl⟩:=hp ⟨hM.m8.ok,⟨rfl,hX⟩,rfl,hY⟩;have hT:=(d.room (k:=0) (ht.less (by have h:=fL f1;unfold oq at h;omega))).1;have hN:NumT w' o' v' n (X*Y%V):=ik (hl rfl).2 hT hr (Nat.lt_trans (Nat.mod_lt _ (by omega)) f5);obtain ⟨zo,zc,rfl⟩:=hN.shape;exact ⟨zo,zc,o',rfl,hN,d⟩

theorem CD (o:Tr) (ao bo xo yo:Option Addr) (n K a b xc yc X Y V:Nat) (w:World) (ht:TrRoom w o 10) (hM:Md w o ao bo n K a b V) (hx:NumT w o (.slice xo n xc) n X) (hX:X<V) (hy:NumT w o (.slice yo n yc) n Y) (hY:Y<V) :
  Calls Tryz.prog 146 #[aC o,.agg #[.slice ao n a,.int .u64 (K:Nat),.slice bo n b],.slice xo n xc,.slice yo n yc] w fun e w'=>∃ zo zc o',e=.returned (.tuple #[.slice zo n zc,.int .i64 0])∧NumT w' o' (.slice zo n zc) n (dz X Y V)∧Did w o (yG n) w' o':=by
 obtain ⟨f0,f1,f4,f5⟩:=hM.facts;refine (Dh o ao bo xo yo n n K a b n n xc yc _ _ _ _ w ht hM.m8.hm hM.m8.hr hx.1 hy.1 hM.m8.hmd hM.m8.hrd (ai (by omega) _ _) (ai (by omega) _ _) hM.m8.hK (by omega) (by omega) (by omega)).mono ?_;rintro e w' ⟨v',c,rfl,zs,m,o',hr,hl,d,hp,-⟩;rw [hM.ev,aL hx.2,aL hy.2] at hp;obtain ⟨⟨rfl,rfl⟩,rfl⟩:=hp ⟨hM.m8.ok,⟨rfl,hX⟩,rfl,hY⟩;have hT:=(d.room (k:=0) (ht.less (by simp))).1;have hN:NumT w' o' v' n (dz X Y V):=ik (hl rfl).2 hT hr (Nat.lt_trans (mY hX hY) f5);obtain ⟨zo,zc,rfl⟩:=hN.shape;exact ⟨zo,zc,o',rfl,hN,d⟩

theorem ux (o:Tr) (ao bo xo:Option Addr) (n K a b N1 xc X V:Nat) (w:World) (ht:TrRoom w o 60000) (hM:Md w o ao bo n K a b V) (hx:NumT w o (.slice xo N1 xc) N1 X) (hN:N1≤300) :
  Calls Tryz.prog 141 #[aC o,.agg #[.slice ao n a,.int .u64 (K:Nat),.slice bo n b],.slice xo N1 xc] w fun e w'=>∃ zo zc o',e=.returned (.tuple #[.slice zo n zc,.int .i64 0])∧NumT w' o' (.slice zo n zc) n (X%V)∧Did w o (b9 N1 n) w' o':=by
 obtain ⟨f0,f1,f4,f5⟩:=hM.facts;refine (Dg o ao bo xo n n K a b N1 xc _ _ _ w ht hM.m8.hm hM.m8.hr hx.1 hM.m8.hmd hM.m8.hrd (ai (by omega) _ _) hM.m8.hK (by omega)).mono ?_;rintro e w' ⟨v',c,rfl,zs,m,o',hr,hl,d,hp,-⟩;obtain ⟨g1,-,g3⟩:=dI (X:=X) (Y:=V) (L:=N1) (M:=n) ⟨hN,by omega⟩ (by omega);rw [hM.ev,aL hx.2,g1,g3] at hp;obtain ⟨⟨rfl,rfl⟩,rfl⟩:=hp hM.m8.ok;rw [List.replicate_zero,List.nil_append] at d;have hT:=(d.room (k:=0) (ht.less (by have h:=dh N1 n;omega))).1;have hN:NumT w' o' v' n (X%V):=ik (hl rfl).2 hT hr (Nat.lt_trans (Nat.mod_lt _ (by omega)) f5);obtain ⟨zo,zc,rfl⟩:=hN.shape;exact ⟨zo,zc,o',rfl,hN,d⟩

def tY (n L:Nat):List Ev:=eR n ++ jh n L

theorem kJ {n L:Nat} (h:n≤130) (hL:L≤300):(tY n L).length≤61000000:=by
 have h1:=(dF h).2.1;have h2:=j8 h hL;unfold tY;rw [List.length_append];omega

theorem Cv (o:Tr) (ao bo xo eo:Option Addr) (n K b f xc L a X V:Nat) (ys:List Nat) (w:World) (ht:TrRoom w o 70000000) (hM:Md w o ao bo n K b f V) (hx:NumT w o (.slice xo n xc) n X) (hX:X<V) (hy:RowT w o (.slice eo L a) ys) (g:Digs ys) (hL:L≤300) :
  Calls Tryz.prog 201 #[aC o,.agg #[.slice ao n b,.int .u64 (K:Nat),.slice bo n f],.slice xo n xc,.slice eo L a] w fun e w'=>∃ zo zc o',e=.returned (.tuple #[.slice zo n zc,.int .i64 0])∧NumT w' o' (.slice zo n zc) n (X^val ys%V)∧Did w o (tY n L) w' o':=by
 obtain ⟨f0,f1,f4,f5⟩:=hM.facts;refine (DD o ao bo xo eo n n K b f n xc L a _ _ _ ys 0 w ht hM.m8.hm hM.m8.hr hx.1 hy hM.m8.hmd hM.m8.hrd (ai (by omega) _ _) g hM.m8.hK (by omega) (by rw [hM.ev,aL hx.2];exact iff_of_true rfl ⟨hM.m8.ok,rfl,hX⟩) (by omega)).mono ?_;rintro e w' ⟨zo,zn,zc,c,rfl,(⟨-,-,rfl,⟨hr,hu⟩,o',d⟩ | ⟨h,-⟩)⟩
 ·rw [hM.ev,aL hx.2] at hr;have hT:=(d.room (k:=0) (ht.less (by have h:=kJ f1 hL;unfold tY at h;omega))).1;have hN:NumT w' o' (.slice zo zn zc) n (X^val ys%V):=ik hu hT hr (Nat.lt_trans (Nat.mod_lt _ (by omega)) f5);obtain ⟨yo,yc,e1⟩:=hN.shape;cases e1
  exact ⟨_,_,o',rfl,hN,d⟩
 ·omega

theorem nL (n:Nat):∀ k,(rH n k).length=12*k
 | 0=>rfl
 | k+1=>by
  unfold rH;rw [List.length_append,nL n k,jb];omega

theorem jr {n:Nat} (h:n≤130):(oy n).length≤400000:=by
 unfold oy mD;have h1:stp n≤30000:=by unfold stp;omega
 simp [nL];omega

theorem Cx (o:Tr) (ao bo xo:Option Addr) (n K a b xc X V:Nat) (w:World) (ht:TrRoom w o 400000) (hM:Md w o ao bo n K a b V) (hx:NumT w o (.slice xo n xc) n X) (hX:X<V) (hg:Nat.gcd X V=1) :
  Calls Tryz.prog 82 #[aC o,.agg #[.slice ao n a,.int .u64 (K:Nat),.slice bo n b],.slice xo n xc] w fun e w'=>∃ zo zc T o',e=.returned (.tuple #[.slice zo n zc,.int .u64 1,.int .i64 0])∧(T<V∧X*T%V=1)∧NumT w' o' (.slice zo n zc) n T∧Did w o (oy n) w' o':=by
 obtain ⟨f0,f1,f4,f5⟩:=hM.facts;refine (iOf o ao bo xo n n K a b n xc _ _ _ w ht hM.m8.hm hM.m8.hr hx.1 hM.m8.hmd hM.m8.hrd (ai (by omega) _ _) hM.m8.hK (by omega) (.inl hM.m8.ok)).mono ?_;rintro e w' ⟨v',is,c,rfl,zs,m,o',hr,hl,d,hp,-⟩;rw [hM.ev,aL hx.2] at hp;obtain ⟨rfl,rfl,T,rfl,hi⟩:=hp ⟨hM.m8.ok,rfl,hX⟩;obtain ⟨h1,h2,rfl⟩:=hi.1 hg;have hT:=(d.room (k:=0) (ht.less (by have h:=jr f1;omega))).1;have hN:NumT w' o' v' n T:=ik (hl rfl).2 hT hr (Nat.lt_trans h1 f5);obtain ⟨zo,zc,rfl⟩:=hN.shape;exact ⟨zo,zc,T,o',rfl,⟨h1,h2⟩,hN,d⟩

theorem Dz (ao bo xo:Option Addr) (n K a b xc X V:Nat) (w:World) (hM:Md w none ao bo n K a b V) (hx:Row .u64 w (.slice xo n xc) (digs X n)) (hX:X<V) :
  Calls Tryz.prog 82 #[.pointer none,.agg #[.slice ao n a,.int .u64 (K:Nat),.slice bo n b],.slice xo n xc] w fun e w'=>∃ zo zn zc is,e=.returned (.tuple #[.slice zo zn zc,.int .u64 (is:Nat),.int .i64 0])∧(is=if Nat.gcd X V=1 then 1 else 0)∧Kept ae w w':=by
 obtain ⟨f0,f1,f4,f5⟩:=hM.facts;have f:NumT w none (.slice xo n xc) n X:=⟨RowT.none hx,Nat.lt_trans hX f5⟩
 refine (iOf none ao bo xo n n K a b n xc _ _ _ w (TrRoom.none w _ (by omega)) hM.m8.hm hM.m8.hr f.1 hM.m8.hmd hM.m8.hrd (ai (by omega) _ _) hM.m8.hK (by omega) (.inr rfl)).mono ?_;rintro e w' ⟨v',is,c,rfl,zs,m,o',hr,hl,d,hp,-⟩;rw [hM.ev,aL f.2] at hp;obtain ⟨rfl,rfl,T,rfl,hi⟩:=hp ⟨hM.m8.ok,rfl,hX⟩;obtain ⟨zo,zn,zc,rfl,-⟩:=hr.open;refine ⟨zo,zn,zc,is,rfl,?_,d.none.2⟩;by_cases hg:Nat.gcd X V=1
 ·rw [if_pos hg];exact (hi.1 hg).2.2
 ·rw [if_neg hg];exact (hi.2 hg).2

theorem qO (o:Tr) (ao bo xo:Option Addr) (n K a b xc d X V:Nat) (w:World) (ht:TrIn w o) (hM:Md w o ao bo n K a b V) (hx:NumT w o (.slice xo n xc) n X) (hX:X<V) (hd:d<18446744073709551616) :
  Calls Tryz.prog 91 #[.agg #[.slice ao n a,.int .u64 (K:Nat),.slice bo n b],.slice xo n xc,.int .u64 (d:Nat)] w fun e w'=>∃ zo zc,e=.returned (.tuple #[.slice zo n zc,.int .i64 0])∧NumT w' o (.slice zo n zc) n (X^d%V)∧Kept ae w w':=by
 obtain ⟨f0,f1,f4,f5⟩:=hM.facts;refine (CH ao bo xo n n K a b n xc d _ _ _ 0 (by rw [hM.ev,aL hx.2];exact iff_of_true rfl ⟨hM.m8.ok,rfl,hX⟩) (by omega) _ rfl w hM.m8.hm.1 hM.m8.hr.1 hx.1.1 hM.m8.hmd hM.m8.hrd (ai (by omega) _ _) hd hM.m8.hK (by omega)).mono ?_;rintro e w' ⟨v',rfl,⟨hr,hu⟩,k⟩;rw [if_pos rfl,hM.ev,aL hx.2] at hr;have hN:NumT w' o v' n (X^d%V):=ik hu (ht.grew k) hr (Nat.lt_trans (Nat.mod_lt _ (by omega)) f5);obtain ⟨zo,zc,rfl⟩:=hN.shape;exact ⟨zo,zc,rfl,hN,k⟩

theorem Cu (o:Tr) (u v:Value) (n m X Y:Nat) (w:World) (ht:TrRoom w o 1) (hu:NumT w o u n X) (hv:NumT w o v m Y) (hn:n≤1000) (hm:m≤1000) :
  Calls Tryz.prog 93 #[aC o,u,v] w fun e w'=>e=.returned (.int .u64 (aX (decide (X=Y)):Nat))∧∃ o',Did w o [(1,(max n m:Nat),0)] w' o':=by
 have h:=ko o u v _ _ w ht hu.1 hv.1 (ai (by omega) _ _) (ai (by omega) _ _) (by rw [af];omega) (by rw [af];omega);rw [af,af,aL hu.2,aL hv.2] at h;exact h

theorem CC (o:Tr) (bit n X Y:Nat) (a:bit<18446744073709551616) (u v:Value) (w:World) (ht:TrRoom w o 1) (hu:NumT w o u n X) (hv:NumT w o v n Y) (hn:n≤1000) :
  Calls Tryz.prog 94 #[aC o,.int .u64 (bit:Nat),u,v] w fun e w'=>∃ zo zc o',e=.returned (.slice zo n zc)∧NumT w' o' (.slice zo n zc) n (aQ bit X Y)∧Did w o [(1,(n:Nat),0)] w' o':=by
 have h:=iS o bit a u v _ _ w ht hu.1 hv.1 (ai (by omega) _ _) (ai (by omega) _ _) (by rw [af];omega) (by rw [af];omega);rw [af,af,Nat.max_self,aL hu.2,aL hv.2] at h;refine h.mono ?_;rintro e w' ⟨v',rfl,ho,o',d⟩;have hN:=NumT.own ho (ja hu.2 hv.2) (d.room (k:=0) (ht.less (by simp))).1;obtain ⟨zo,zc,rfl⟩:=hN.shape;exact ⟨zo,zc,o',rfl,hN,d⟩

theorem AQ (o:Tr) (bit n X:Nat) (a:bit<18446744073709551616) (u:Value) (w:World) (ht:TrRoom w o 1) (hu:NumT w o u n X) (hn:n≤1000) :
  Calls Tryz.prog 94 #[aC o,.int .u64 (bit:Nat),u,.slice none 0 0] w fun e w'=>∃ zo zc o',e=.returned (.slice zo n zc)∧NumT w' o' (.slice zo n zc) n (aQ bit X 0)∧Did w o [(1,(n:Nat),0)] w' o':=by
 have h:=iS o bit a u (.slice none 0 0) _ [] w ht hu.1 ⟨Row.nil _ _,fun h=>absurd rfl h⟩ (ai (by omega) _ _) (Digs.nil _) (by rw [af];omega) (by simp);rw [af,List.length_nil,Nat.max_zero,aL hu.2,show val []=0 from rfl] at h;refine h.mono ?_;rintro e w' ⟨v',rfl,ho,o',d⟩;have hN:=NumT.own ho (ja hu.2 (Nat.pow_pos (by omega))) (d.room (k:=0) (ht.less (by simp))).1;obtain ⟨zo,zc,rfl⟩:=hN.shape;exact ⟨zo,zc,o',rfl,hN,d⟩

theorem Cz (o:Tr) (xo yo:Option Addr) (n m xc yc X Y:Nat) (w:World) (ht:TrRoom w o 300) (hx:NumT w o (.slice xo n xc) n X) (hy:NumT w o (.slice yo m yc) m Y) (hn:n≤300) (hm:m≤300) :
  Calls Tryz.prog 148 #[aC o,.slice xo n xc,.slice yo m yc] w fun e w'=>∃ zo zc o',e=.returned (.slice zo (n+m) zc)∧NumT w' o' (.slice zo (n+m) zc) (n+m) (X*Y)∧Did w o (fJ n m) w' o':=by
 refine (tW o xo yo n m xc yc _ _ w ht hx.1 hy.1 (ai (by omega) _ _) (ai (by omega) _ _)).mono ?_;rintro e w' ⟨v',rfl,-,-,h,o',d⟩;obtain ⟨g,-,-,ho⟩:=h ⟨hn,hm⟩;rw [aL hx.2,aL hy.2] at ho;have hlt:X*Y<18446744073709551616^(n+m):=by
  rw [Nat.pow_add];exact Nat.mul_lt_mul'' hx.2 hy.2
 have hN:=NumT.own ho hlt (d.room (k:=0) (ht.less (by unfold fJ;rw [if_pos ⟨hn,hm⟩];simp;omega))).1;obtain ⟨zo,zc,rfl⟩:=hN.shape;exact ⟨zo,zc,o',rfl,hN,d⟩

theorem Cr (o:Tr) (u v:Value) (n m X Y:Nat) (w:World) (ht:TrRoom w o 1) (hu:NumT w o u n X) (hv:NumT w o v m Y) (hn:n≤1000) (hm:m≤n) (hlt:X+Y<18446744073709551616^n) :
  Calls Tryz.prog 147 #[aC o,u,v] w fun e w'=>∃ zo zc c o',e=.returned (.tuple #[.slice zo n zc,.int .u64 ((c:Nat):Int)])∧NumT w' o' (.slice zo n zc) n (X+Y)∧Did w o [(1,(n:Nat),0)] w' o':=by
 have h:=BY o u v _ _ w ht hu.1 hv.1 (ai (by omega) _ _) (ai (by omega) _ _) (by rw [af];omega) (by rw [af];omega);rw [af,af,Nat.max_eq_left hm,aL hu.2,aL hv.2] at h;refine h.mono ?_;rintro e w' ⟨v',rfl,ho,o',d⟩;have hN:=NumT.own ho hlt (d.room (k:=0) (ht.less (by simp))).1;obtain ⟨zo,zc,rfl⟩:=hN.shape;exact ⟨zo,zc,_,o',rfl,hN,d⟩

def pG (N:Nat) (ms:List Nat):Nat:=if ms.length=fB N∧bev ms<N then 0 else 1

theorem Tryz.info8s:(Tryz.prog.info? 5).map (fun i=>(i.zero,i.size,i.bytes))=some (some (.int .u8 0),1,1):=by kernel_rfl

def OwnB (w:World) (base:Nat) (v:Value) (zs:List Nat):Prop:=OwnN .u8 5 w base v zs.length zs

theorem OwnB.row {w:World} {base:Nat} {v:Value} {zs:List Nat} (h:OwnB w base v zs):Row .u8 w v zs:=Row.of_own (base:=base) (e:=5) h

theorem OwnB.of {w:World} {base n:Nat} {v:Value} {zs:List Nat} (h:OwnN .u8 5 w base v n zs):OwnB w base v zs:=by
 have hn:zs.length=n:=by
  have:=h.1;rw [List.length_map] at this;omega
 unfold OwnB;rw [hn];exact h

theorem OwnB.base {w:World} {base base':Nat} {v:Value} {zs:List Nat} (h:OwnB w base v zs) (hb:base'≤base):OwnB w base' v zs:=aR h fun k hk=>Nat.le_trans hb (h.lt k hk).1

theorem OwnB.nil (w:World) (base:Nat):OwnB w base (.slice none 0 0) []:=World.ownsRow_nil _ _ _ _

def uL:Value→Nat
 | .slice _ n _=>n
 | _=>0

theorem uI {k:IntKind} {w:World} {b off n c s m:Nat} {zs:List Nat} (h:Row k w (.slice (some ⟨b,off,none⟩) n c) zs) (h2:s+m≤n):Row k w (.slice (some ⟨b,off+s,none⟩) m (c-s)) ((zs.drop s).take m):=by
 obtain ⟨ao,d,e',c1,c2,_,h4⟩:=h;cases e'
 have hl:((zs.drop s).take m).length=m:=by rw [List.length_take,List.length_drop];omega
 refine ⟨_,_,by rw [hl],by omega,by omega,(fun e=>by cases e),fun i hi=>?_⟩;rw [hl] at hi;obtain ⟨b',f,e',a⟩:=h4 (s+i) (by omega);cases e'
 refine ⟨b,off+s,rfl,?_⟩;rw [Nat.add_assoc,a,List.getD_eq_getElem?_getD,List.getD_eq_getElem?_getD,List.getElem?_take,if_pos hi,List.getElem?_drop]

theorem tO {k:IntKind} {w W:World} {ad:Addr} {n d:Nat} {zs:List Nat} (h:Row k w (.slice (some ad) n d) zs) (kk:Kept ae w W):∀ j u,(zs.map fun z:Nat=>Value.int k (z:Int))[j]? = some u→W.cell? (ad.add j)=some u:=fun j u hj=>by
 obtain ⟨hlt,hv⟩:=List.getElem?_eq_some_iff.1 hj;rw [List.length_map] at hlt;obtain ⟨ao,e,e',c1,c2,_,h4⟩:=h;cases e'
 obtain ⟨b,off,e',a⟩:=h4 j hlt;cases e'
 have c:(⟨b,off,none⟩:Addr).add j=⟨b,off+j,none⟩:=by unfold Addr.add;split <;> simp_all
 rw [c,kk.cellN a,← hv,List.getElem_map,List.getD_eq_getElem?_getD,List.getElem?_eq_getElem hlt];rfl

theorem Ch (k:IntKind) (zs:List Nat):∀ u ∈ (zs.map fun z:Nat=>Value.int k (z:Int)),u.oneCell'=true:=fun u hu=>by
 obtain ⟨x,_,rfl⟩:=List.mem_map.1 hu;rfl

def du (bs:List Nat) (n:Int):Nat:=if n<0 then 1 else if (bs.length:Int)<n then 150 else 0
def ek (bs:List Nat) (n:Int):List Nat:=if du bs n=0 then bs.take n.toNat else []
def eK (bs:List Nat) (n:Int):List Nat:=if n<0 then bs else bs.drop n.toNat

def eh (M t z:Nat):Nat→List Nat→Nat→Nat × Nat × List Nat
 | 0,_,_=>(0,0,[])
 | f+1,bs,k=>if bs.length<z then (0,0,[]) else if 0<bev (bs.take z)%2^t∧bev (bs.take z)%2^t<M then (bev (bs.take z)%2^t,k,bs.drop z) else eh M t z f (bs.drop z) (k+1)

def nj (M:Nat) (bs:List Nat):Nat × Nat × List Nat:=eh M (aF M) ((aF M+7)/8) (bs.length+1) bs 1

theorem qd (M t z:Nat) (hM:0<M):∀ f bs k,(eh M t z f bs k).1<M
 | 0,_,_=>hM
 | f+1,bs,k=>by
  unfold eh
  split
  ·exact hM
  ·split
   ·next h=>exact h.2
   ·exact qd M t z hM f _ _

theorem lw (M t z:Nat):∀ f bs k,∃ n,(eh M t z f bs k).2.2=bs.drop n
 | 0,bs,_=>⟨bs.length,by rw [List.drop_length];rfl⟩
 | f+1,bs,k=>by
  unfold eh
  split
  ·exact ⟨bs.length,by rw [List.drop_length]⟩
  ·split
   ·exact ⟨z,rfl⟩
   ·obtain ⟨n,hn⟩:=lw M t z f (bs.drop z) (k+1);exact ⟨z+n,by rw [hn,List.drop_drop]⟩

def cG (xs bs:List Nat):Nat:=if 300<xs.length then 2 else if val xs<2 then 1 else if (nj (val xs) bs).1=0 then 150 else 0
def eO (xs bs:List Nat):List Nat:=if cG xs bs=0 then digs (nj (val xs) bs).1 xs.length else []
def fW (xs bs:List Nat):Nat:=if cG xs bs=0 then (nj (val xs) bs).2.1 else 0
def eN (xs bs:List Nat):List Nat:=if 300<xs.length∨val xs<2 then bs else (nj (val xs) bs).2.2

theorem lC {M t z f k:Nat} {bs:List Nat} (hf:bs.length<f) (hz:0<z):(bs.length<z∧eh M t z f bs k=(0,0,[])) ∨
  (¬ bs.length<z∧(0<bev (bs.take z)%2^t∧bev (bs.take z)%2^t<M)∧eh M t z f bs k=(bev (bs.take z)%2^t,k,bs.drop z)) ∨
  (¬ bs.length<z∧¬ (0<bev (bs.take z)%2^t∧bev (bs.take z)%2^t<M)∧∃ g,(bs.drop z).length<g∧eh M t z f bs k=eh M t z g (bs.drop z) (k+1)):=by
 obtain ⟨g,rfl⟩:∃ g,f=g+1:=⟨f-1,by omega⟩
 by_cases h1:bs.length<z
 ·exact .inl ⟨h1,by rw [eh,if_pos h1]⟩
 ·by_cases h2:0<bev (bs.take z)%2^t∧bev (bs.take z)%2^t<M
  ·exact .inr (.inl ⟨h1,h2,by rw [eh,if_neg h1,if_pos h2]⟩)
  ·exact .inr (.inr ⟨h1,h2,g,by rw [List.length_drop];omega,by rw [eh,if_neg h1,if_neg h2]⟩)

theorem lu (M t z:Nat) (hz:0<z):∀ f bs k,(eh M t z f bs k).1≠0→(eh M t z f bs k).2.2.length<bs.length
 | 0,_,_,h=>absurd rfl h
 | f+1,bs,k,h=>by
  unfold eh at *
  split at h
  ·exact absurd rfl h
  ·next h1=>
   rw [if_neg h1]
   split at h
   ·next h2=>rw [if_pos h2];simp only [List.length_drop];omega
   ·next h2=>
    rw [if_neg h2];have:=lu M t z hz f (bs.drop z) (k+1) h;rw [List.length_drop] at this;omega

theorem sJ {M:Nat} (h:0<M):0<aF M:=by
 rcases Nat.eq_zero_or_pos (aF M) with e | e
 ·have:=(aI M 0).1 (by omega);simp at this;omega
 ·exact e

theorem sC {xs bs:List Nat} (h:cG xs bs=0):(eN xs bs).length<bs.length:=by
 unfold cG at h;unfold eN
 split at h
 ·omega
 ·next h1=>
  split at h
  ·omega
  ·next h2=>
   split at h
   ·omega
   ·next h3=>
    rw [if_neg (by omega)];exact lu _ _ _ (by have:=sJ (show 0<val xs by omega);omega) _ _ _ h3

theorem sD (xs bs:List Nat):∃ n,eN xs bs=bs.drop n:=by
 unfold eN
 split
 ·exact ⟨0,by simp⟩
 ·exact lw _ _ _ _ _ _

theorem vO {xs bs:List Nat} (h:cG xs bs=0):(eO xs bs).length=xs.length:=by
 unfold eO;rw [if_pos h,af]

theorem qe {xs bs:List Nat} (hd:Digs xs) (h:cG xs bs=0):0<val (eO xs bs)∧val (eO xs bs)<val xs:=by
 have hb:=h;unfold cG at h
 split at h
 ·omega
 ·split at h
  ·omega
  ·next h2=>
   split at h
   ·omega
   ·next h3=>
    have hlt:=qd (val xs) (aF (val xs)) ((aF (val xs)+7)/8) (by omega) (bs.length+1) bs 1;have a:(nj (val xs) bs).1<val xs:=hlt;unfold eO;rw [if_pos hb,au,ar (Nat.lt_trans a (aD (by omega) hd))];exact ⟨by omega,a⟩

def iG (ns:List Nat):Prop:=ns.length≤300∧(aF (val ns)+63)/64≤130∧2≤val ns∧val ns%2=1

instance (ns:List Nat):Decidable (iG ns):=by unfold iG;infer_instance

def iw (ns:List Nat):Nat→List Nat→Nat→List Nat × Nat × Nat × List Nat
 | 0,_,_=>([],0,150,[])
 | f+1,bs,a=>if cG ns bs≠0 then ([],0,cG ns bs,eN ns bs) else if Nat.gcd (val (eO ns bs)) (val ns)=1 then (eO ns bs,a+fW ns bs,0,eN ns bs) else iw ns f (eN ns bs) (a+fW ns bs)

def jf (ns bs:List Nat):List Nat × Nat × Nat × List Nat:=if iG ns then iw ns (bs.length+1) bs 0 else ([],0,1,bs)

theorem jW (M t z:Nat) (hz:0<z):∀ f bs k,(eh M t z f bs k).1≠0→(eh M t z f bs k).2.1+(eh M t z f bs k).2.2.length<k+bs.length
 | 0,_,_,h=>absurd rfl h
 | f+1,bs,k,h=>by
  unfold eh at *
  split at h
  ·exact absurd rfl h
  ·next h1=>
   rw [if_neg h1]
   split at h
   ·next h2=>
    rw [if_pos h2];show k+(bs.drop z).length<_
    rw [List.length_drop];omega
   ·next h2=>
    rw [if_neg h2];have:=jW M t z hz f (bs.drop z) (k+1) h;rw [List.length_drop] at this;omega

theorem rk {xs bs:List Nat} (h:cG xs bs=0):fW xs bs+(eN xs bs).length≤bs.length:=by
 have h0:=h;unfold cG at h;unfold fW eN;rw [if_pos h0]
 split at h
 ·omega
 ·next h1=>
  split at h
  ·omega
  ·next h2=>
   split at h
   ·omega
   ·next h3=>
    rw [if_neg (by omega)];have hb:2≤aF (val xs):=by
     have:=(aI (val xs) 1).1;by_cases h4:aF (val xs)≤1
     ·have:=this h4;omega
     ·omega
    have:=jW (val xs) (aF (val xs)) ((aF (val xs)+7)/8) (by omega) (bs.length+1) bs 1 h3;unfold nj;omega

def r9 (at_ k:Int) (fs:List Nat) (X n M:Nat):Nat:=if at_=k then val (fs.take n)%M else X

theorem KeyGood.facts {a j b c f g i:List Nat} {e:Nat} (h:KeyGood a j b c f g i e):val a=val b*val c∧cE (val b)∧cE (val c)∧fu a e=0∧j4 (val a)≤512∧3≤val a:=by
 obtain ⟨⟨_,hP,hQ,_,hp,_⟩,d,u,_,_,_,_,hn,_⟩:=h;generalize val b=P at *;generalize val c=Q at *;have h1:val a=P*Q:=by rw [hn,bd,au,ar ((aA _ _).1 (by omega))]
 have h2:j4 (P*Q)≤512:=by
  have:=sR P Q;have:=iM (n:=256) hP.2.2;have:=iM (n:=256) hQ.2.2;omega
 refine ⟨h1,hP,hQ,by rw [hn];exact hp,by rw [h1];exact h2,?_⟩;rw [h1];have:=Nat.mul_le_mul hP.1 hQ.1;omega

theorem ie {k:IntKind} {w:World} {ao:Option Addr} {a:Nat} (h:ao=none→a=0) (hc:a≤maxLen):Row k w (.slice ao 0 a) []:=
 ⟨ao,a,rfl,Nat.zero_le _,hc,h,fun i hi=>absurd hi (by simp)⟩

theorem yu {k:IntKind} {w:World} {ao:Option Addr} {L a s m:Nat} {zs:List Nat} (h:Row k w (.slice ao L a) zs) (h2:s+m≤L) :
  (ao=none→Row k w (.slice none 0 0) ((zs.drop s).take m))∧(∀ ad,ao=some ad→a=s→Row k w (.slice (some ad) 0 0) ((zs.drop s).take m))∧(∀ ad,ao=some ad→a≠s→Row k w (.slice (some (ad.add s)) m (a-s)) ((zs.drop s).take m)):=by
 obtain ⟨_,_,_,e,hL,f,g,d,c⟩:=h.open;cases e
 have hz:m=0→(zs.drop s).take m=[]:=fun e=>by rw [e];rfl
 refine ⟨fun e=>?_,fun ad e ec=>?_,fun ad e ec=>?_⟩
 ·have:=d e;rw [hz (by omega)];exact Row.nil _ _
 ·rw [hz (by omega)];exact ie (fun e=>by cases e) (Nat.zero_le _)
 ·subst e;by_cases hm:m=0
  ·rw [hz hm,hm];exact ie (fun e=>by cases e) (by unfold maxLen at *;omega)
  ·obtain ⟨b,off,e,_⟩:=c 0 (by omega);cases e
   have ea:(⟨b,off,none⟩:Addr).add s=⟨b,off+s,none⟩:=by unfold Addr.add;split <;> simp_all
   rw [ea];exact uI h h2

def DB (u v P:Nat):Nat:=if v≤u then u-v else u+P-v

def ug (at_:Int) (fs:List Nat) (b P DP pl:Nat):Nat:=r9 at_ 1 fs (b^DP%P) pl P
def pO (at_:Int) (fs:List Nat) (b Q DQ ql:Nat):Nat:=r9 at_ 2 fs (b^DQ%Q) ql Q
def yj (u v P QI:Nat):Nat:=QI*DB u (v%P) P%P
def Cq (at_:Int) (fs:List Nat) (v h Q N nl:Nat):Nat:=r9 at_ 3 fs ((v+Q*h)%N) nl N
def Cp (at_:Int) (fs:List Nat) (z T N nl:Nat):Nat:=r9 at_ 4 fs (z*T%N) nl N
def pN (at_:Int) (fs:List Nat) (b T N P Q DP DQ QI nl pl ql:Nat):Nat:=
 Cp at_ fs (Cq at_ fs (pO at_ fs b Q DQ ql) (yj (ug at_ fs b P DP pl) (pO at_ fs b Q DQ ql) P QI) Q N nl) T N nl

theorem lF {ns:List Nat}:∀ {f:Nat} {bs:List Nat} {a:Nat} {r1:List Nat} {k:Nat} {r4:List Nat},iw ns f bs a=(r1,k,0,r4)→Digs ns→Digs r1∧r1.length=ns.length∧Nat.gcd (val r1) (val ns)=1∧val r1<val ns
 | 0,_,_,_,_,_,h,_=>by simp [iw] at h
 | f+1,bs,a,r1,k,r4,h,hd=>by
  unfold iw at h;by_cases h1:cG ns bs=0
  ·rw [if_neg (by omega)] at h
   split at h
   ·next h2=>
    simp only [Prod.mk.injEq] at h;obtain ⟨rfl,_⟩:=h;exact ⟨by unfold eO;rw [if_pos h1];exact ai (by omega) _ _,vO h1,h2,(qe hd h1).2⟩
   ·exact lF h hd
  ·rw [if_pos h1] at h;simp only [Prod.mk.injEq] at h;exact absurd h.2.2.1 h1

theorem rt {ns bs r1 r4:List Nat} {k:Nat} (h:jf ns bs=(r1,k,0,r4)) (hd:Digs ns):Digs r1∧r1.length=ns.length∧Nat.gcd (val r1) (val ns)=1∧val r1<val ns:=by
 unfold jf at h
 split at h
 ·exact lF h hd
 ·simp only [Prod.mk.injEq] at h;exact absurd h.2.2.1 (by omega)

def KS.few (t:KS):Prop:=fewL t.nl∧fewL t.dl∧fewL t.pl∧fewL t.ql∧fewL t.dpl∧fewL t.dql∧fewL t.qil

theorem sV (t:KS) (R:Bool) (hR:R=true↔t.few) (w:World) :
  Calls Tryz.prog 27 #[.agg t.v] w fun r w'=>r=.returned (.bool R)∧Kept ae w w':=by
 obtain ⟨W1,a⟩:∃ W1,W1=w.alloc (.cells t.v 26):=⟨_,rfl⟩
 have k1:Kept ae w W1:=by rw [a];exact (ag ae w).alloc _
 have c:W1.heap[w.heap.size]? = some (.cells t.v 26 (0,0)):=by rw [a];exact heap_alloc_new _ _
 obtain ⟨c0,c1,c2,c3,c4,c5,c6,c7⟩:=aJ c;have J1:Calls Tryz.prog 59 #[.slice (some ⟨W1.heap.size,0,none⟩) 7 7] (W1.alloc (.cells #[.slice t.no t.nl t.nc,.slice t.dO t.dl t.dc,.slice t.po t.pl t.pc,.slice t.qo t.ql t.qc,.slice t.dpo t.dpl t.dpc,.slice t.dqo t.dql t.dqc,.slice t.qio t.qil t.qic] 23)) fun r w'=>r=.returned (.bool R)∧w'=W1.alloc (.cells #[.slice t.no t.nl t.nc,.slice t.dO t.dl t.dc,.slice t.po t.pl t.pc,.slice t.qo t.ql t.qc,.slice t.dpo t.dpl t.dpc,.slice t.dqo t.dql t.dqc,.slice t.qio t.qil t.qic] 23):=by
  refine Ac (some ⟨W1.heap.size,0,none⟩) 7 7 (fun i=>[t.no,t.dO,t.po,t.qo,t.dpo,t.dqo,t.qio].getD i none) (fun i=>[t.nl,t.dl,t.pl,t.ql,t.dpl,t.dql,t.qil].getD i 0) (fun i=>[t.nc,t.dc,t.pc,t.qc,t.dpc,t.dqc,t.qic].getD i 0) _ (by omega) R ?_ ?_
  ·rw [hR];refine ⟨fun h i hi=>?_,fun h=>⟨h 0 (by omega),h 1 (by omega),h 2 (by omega),h 3 (by omega),h 4 (by omega),h 5 (by omega),h 6 (by omega)⟩⟩;obtain ⟨h0,h1,h2,h3,h4,h5,h6⟩:=h;have:i=0∨i=1∨i=2∨i=3∨i=4∨i=5∨i=6:=by omega
   rcases this with rfl | rfl | rfl | rfl | rfl | rfl | rfl
   ·exact h0
   ·exact h1
   ·exact h2
   ·exact h3
   ·exact h4
   ·exact h5
   ·exact h6
  ·intro i hi;refine ⟨_,_,rfl,?_⟩;have:i=0∨i=1∨i=2∨i=3∨i=4∨i=5∨i=6:=by omega
   rcases this with rfl | rfl | rfl | rfl | rfl | rfl | rfl <;> exact (cell_of_row _ _ _ _ _ _ (heap_alloc_new W1 _)).trans rfl
 have d:=aa (k1.alloc (.cells #[.slice t.no t.nl t.nc,.slice t.dO t.dl t.dc,.slice t.po t.pl t.pc,.slice t.qo t.ql t.qc,.slice t.dpo t.dpl t.dpc,.slice t.dqo t.dql t.dqc,.slice t.qio t.qil t.qic] 23));have b:=aa a;clear hR c k1 a;unfold KS.v at b ⊢;go_enter Tryz.func27,Tryz.ntmps27;go_wp2_with (rw [← b.out]);refine J1.mono ?_;rintro r w3 ⟨rfl,rfl⟩;clear J1 c0 c1 c2 c3 c4 c5 c6 c7;go_wp2_with fail;go_ret;exact ⟨rfl,d.out⟩

theorem yv {k:IntKind} {w W:World} {ao:Option Addr} {n a:Nat} {zs:List Nat} (h:Row k w (.slice ao n a) zs) (kk:Kept ae w W) (hp:0<(zs.map fun z:Nat=>Value.int k (z:Int)).length):∃ ad,ao=some ad∧∀ j u,(zs.map fun z:Nat=>Value.int k (z:Int))[j]? = some u→W.cell? (ad.add j)=some u:=by
 rw [List.length_map] at hp;obtain ⟨d,n',c,e,hL,_,_,_,hn⟩:=h.open;cases e
 obtain ⟨b,off,rfl,_⟩:=hn 0 (by have:=hL.out;omega);exact ⟨_,rfl,tO h kk⟩

open Go.RowKit Go.Shelf

def B8 {α:Type} (Sb:Nat→Prop) (I:List α→World→Prop) (Ix:Code→List α→World→Prop) (s:List α) (W:World):Exit→Act→World→Prop
 | .normal,_,W'=>Kept Sb W W'∧I s W'
 | .ret,_,W'=>Kept Sb W W'∧Ix .ret s W'
 | .exit i,_,W'=>Kept Sb W W'∧Ix (.exit i) s W'
 | .goto t,_,W'=>Kept Sb W W'∧Ix (.goto t) s W'
 | .panic _,_,_=>False
 | .outgrown,_,_=>False

theorem mG {W:World} {B l:Nat} (o:Obj) (h:B≤l):Below B W (W.putObj l o):=
 ⟨rfl,rfl,rfl,by simp,fun _ hk=>World.putObj_heap_other (by omega)⟩

theorem km (W:World) (l:Nat) (o:Obj):Kept (fun b=>b=l) W (W.putObj l o):=
 ⟨rfl,rfl,rfl,by simp,fun _ _ hk=>World.putObj_heap_other hk⟩

theorem mU {k:IntKind} {W:World} {l:Nat} {o:Obj} {v:Value} {zs:List Nat} (o':Obj) (h:Row k W v zs) (hl:W.heap[l]? = some o) (ho:o.isCells=false):Row k (W.putObj l o') v zs:=by
 obtain ⟨ao,a,rfl,h1,h2,h3,h4⟩:=h;refine ⟨ao,a,rfl,h1,h2,h3,fun i hi=>?_⟩;obtain ⟨b,off,rfl,hc⟩:=h4 i hi;exact ⟨b,off,rfl,cell_kept hc (grownBy_putObj' W l o') (fun r e=>by cases e;exact ⟨o,hl,ho⟩)⟩

theorem fX {w w':World} {b:Nat} {t:TypeId} {v:Value} (h:Boxed w b t v) (k:Kept ae w w'):Boxed w' b t v:=(k.block _ h.lt (fun f=>f)).trans h

theorem cf {S:Nat→Prop} {w w':World} {b:Nat} {t:TypeId} {v:Value} (h:Boxed w b t v) (k:Kept S w w') (hs:¬ S b):Boxed w' b t v:=(k.block _ h.lt hs).trans h

def Books (d:Nat) (r:Loop) (W:World):Prop:=W.heap[d+1]? = some (.loop r)∧W.heap[d]? = some (.deferred (some []))

theorem Books.lt {d:Nat} {r:Loop} {A:World} (h:Books d r A):d+1<A.heap.size:=(Array.getElem?_eq_some_iff.1 h.1).1

theorem Books.put {d:Nat} {r:Loop} {A:World} (h:Books d r A) (r':Loop):Books d r' (A.putObj (d+1) (.loop r')):=
 ⟨World.putObj_heap_same h.lt,(World.putObj_heap_other (by omega)).trans h.2⟩

theorem Books.kept {d:Nat} {r:Loop} {A C:World} {Sb:Nat→Prop} (h:Books d r A) (k:Kept Sb A C) (hs:∀ b,Sb b→b<d):Books d r C:=by
 have hl:=h.lt;exact ⟨(k.block _ hl (fun e=>by have:=hs _ e;omega)).trans h.1,(k.block _ (by omega) (fun e=>by have:=hs _ e;omega)).trans h.2⟩

end Go.Proofs.YtkaojflnghfmcaaGreatDoor
