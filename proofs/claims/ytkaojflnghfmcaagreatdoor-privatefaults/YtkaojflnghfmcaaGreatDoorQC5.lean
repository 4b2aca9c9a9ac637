/- Put together of: Seq0 Seq1 Base4 NatB Sho1 Wor1 Lim1. -/
import Derived.Test.YtkaojflnghfmcaaGreatDoorQC4
import Derived.Shelf.Strconv.Itoa0
import Derived.Lib.ItoaNum
import Derived.Shelf.Spec.BitsCarry
import Derived.Shelf.Bits.Mul64

namespace Go.Proofs.YtkaojflnghfmcaaGreatDoor
open _root_.Go.Proofs.Tryz
set_option maxRecDepth 100000
set_option maxHeartbeats 4000000
open Go.RowKit Go.Shelf

def KeepB (S:Nat->Prop) (W W':World):Prop:=∀ k,S k->W'.heap[k]? = W.heap[k]?

theorem KeepB.refl (S:Nat->Prop) (W:World):KeepB S W W:=fun _ _=>rfl

theorem KeepB.trans {S:Nat->Prop} {A B C:World} (h:KeepB S A B) (k:KeepB S B C):KeepB S A C:=fun i hi=>(k i hi).trans (h i hi)

theorem KeepB.put {S:Nat->Prop} {w:World} (hS:∀ k,S k->k<w.heap.size) (W:World) (l:Nat) (o o':Obj) (hl:w.heap.size<=l) (_:W.heap[l]? = some o) (_:o.isCells=false) (_:o.isWalk=false):KeepB S W (W.putObj l o'):=fun k hk=>
 World.putObj_heap_other (fun e=>by have:=hS k hk;omega)

theorem KeepB.cell {S:Nat->Prop} {W W':World} (h:KeepB S W W') {p:Addr} (hp:S p.block):W'.cell? p=W.cell? p:=World.cell?_of_block (h p.block hp)

theorem KeepB.row {S:Nat->Prop} {k:IntKind} {W W':World} {v:Value} {zs:List Nat} (h:KeepB S W W') (hs:∀ b,v.ownBlock=some b->0<zs.length->S b) (hr:Row k W v zs):Row k W' v zs:=by
 obtain ⟨ao,a,rfl,h1,h2,h3,h4⟩:=hr;refine ⟨ao,a,rfl,h1,h2,h3,fun i hi=>?_⟩;obtain ⟨b,off,rfl,hc⟩:=h4 i hi;exact ⟨b,off,rfl,(h.cell (p:=⟨b,off+i,none⟩) (hs b rfl (by omega))).trans hc⟩

theorem Ed {W:World} {a:Addr} {v:Value} (o:Obj) (h:W.cell? a=some v):(W.alloc o).cell? a=some v:=cell_kept h (World.grownBy_alloc W o none) (fun r e=>by cases e)

theorem Cz {W:World} {a:Addr} {v:Value} (o:Obj) (h:W.cell? a=some v) (hf:W.frozen? a=false):(W.alloc o).frozen? a=false:=(frozen_kept h (World.grownBy_alloc W o none) (fun r e=>by cases e)).trans hf

def Turn (B:Nat) (W W':World):Prop:=∃ row,W.grownBy W' row/\∀ r,row=some r->B<=r/\∃ o:Obj,W.heap[r]? = some o/\o.isCells=false

theorem pD {W W':World} {a:Option Nat} {base size n:Nat} {e:TypeId} {v:Value} {xs:List Value} (h:W.ownsRow base e size v n xs) (hg:W.grownBy W' a) (hr:∀ r,a=some r->∃ o:Obj,W.heap[r]? = some o/\o.isCells=false):W'.ownsRow base e size v n xs:=by
 refine ⟨h.1,?_⟩;rcases h.2 with h1 | ⟨g,cap,cur,e1,hb,hblk,h4⟩
 ·exact .inl h1
 ·refine .inr ⟨g,cap,cur,e1,hb,?_,h4⟩;rw [hg.block g (kY.1 hblk).1 ?_]
  ·exact hblk
  ·intro e;obtain ⟨o,ho,hc⟩:=hr g e.symm;rw [hblk] at ho;cases ho
   cases hc

theorem tU {W W':World} {a:Option Nat} {B:Nat} {t:TypeId} {v:Value} (h:Boxed W B t v) (hg:W.grownBy W' a) (hr:∀ r,a=some r->∃ o:Obj,W.heap[r]? = some o/\o.isCells=false):Boxed W' B t v:=h.kept hg (fun e=>by
 obtain ⟨o,ho,hc⟩:=hr B e.symm;have hb:W.heap[B]? = some _:=h;rw [hb] at ho;cases ho
 cases hc)

theorem Turn.cells {B:Nat} {W W':World} (t:Turn B W W') {b:Nat} {c:Array Value} {ty:TypeId} {f:Nat × Nat} (h:W.heap[b]? = some (.cells c ty f)):W'.heap[b]? = some (.cells c ty f):=by
 obtain ⟨a,hg,hr⟩:=t;rw [hg.block b (kY.1 h).1 ?_]
 ·exact h
 ·intro e;obtain ⟨_,o,ho,hc⟩:=hr b e.symm;rw [h] at ho;cases ho
  cases hc

theorem Turn.kept {B:Nat} {S:Nat->Prop} {w W W':World} (t:Turn B W W') (k:Kept S w W) (hB:w.heap.size<=B):Kept S w W':=by
 obtain ⟨a,hg,hr⟩:=t;exact k.grown hg (fun b e hb=>by have:=(hr b e).1;omega)

theorem Turn.own {B:Nat} {W W':World} (t:Turn B W W') {base size n:Nat} {e:TypeId} {v:Value} {xs:List Value} (h:W.ownsRow base e size v n xs):W'.ownsRow base e size v n xs:=by
 obtain ⟨a,hg,hr⟩:=t;exact pD h hg (fun r e=>(hr r e).2)

theorem Turn.cell {B:Nat} {W W':World} (t:Turn B W W') {a:Addr} {v:Value} (h:W.cell? a=some v):W'.cell? a=some v:=by
 obtain ⟨b,hg,hr⟩:=t;exact cell_kept h hg (fun r e=>(hr r e).2)

theorem Turn.row {B:Nat} {W W':World} (t:Turn B W W') {k:IntKind} {v:Value} {zs:List Nat} (h:Row k W v zs):Row k W' v zs:=by
 obtain ⟨ao,a,rfl,h1,h2,h3,h4⟩:=h;refine ⟨ao,a,rfl,h1,h2,h3,fun i hi=>?_⟩;obtain ⟨b,off,rfl,hc⟩:=h4 i hi;exact ⟨b,off,rfl,t.cell hc⟩

theorem tI {B D:Nat} {W:World} {o:Obj} (hD:B<=D) (hK:W.heap[D]? = some o) (ho:o.isCells=false) (o':Obj):Turn B W (W.putObj D o'):=
 ⟨some D,grownBy_putObj' W D o',fun r e=>by cases e;exact ⟨hD,o,hK,ho⟩⟩

theorem mV {β:Type} {B:Nat} {I:β->World->Prop} (h:∀ s W W',I s W->Turn B W W'->I s W'):OwnFrom B I:=fun s W W' a hs hg hr=>h s W W' hs ⟨a,hg,hr⟩

theorem kU {B:Nat} {S:Nat->Prop} {W W':World} (k:Kept S W W') (hS:∀ b,S b->B<=b->∃ c ty f,W.heap[b]? = some (.cells c ty f)):KeepsFrom B W W':=
 ⟨k.size,fun b o hb hk ho=>by
  rw [<- hk];refine k.block b (kY.1 hk).1 (fun hs=>?_);obtain ⟨c,ty,f,h⟩:=hS b hs hb;rw [h] at hk;cases hk
  cases ho⟩

theorem Turn.u64s {B:Nat} {W W':World} (t:Turn B W W') {v:Value} (h:U64s W v):U64s W' v:=by
 intro b hb;obtain ⟨cs,fr,hg⟩:=h b hb;exact ⟨cs,fr,t.cells hg⟩

theorem Turn.isTr {B:Nat} {W W':World} (t:Turn B W W') {p:Nat} {g:Option Nat} {l:List Ev} (h:IsTr W p g l):IsTr W' p g l:=by
 obtain ⟨v,s,h1,h2,h3,h4⟩:=h;exact ⟨v,s,t.cells h1,h2,t.own h3,h4⟩

theorem Turn.did {B:Nat} {w W W':World} (t:Turn B W W') {o o':Tr} {m:List Ev} (d:Did w o m W o') (hB:w.heap.size<=B):Did w o m W' o':=by
 refine ⟨t.kept d.1 hB,?_⟩;rcases d.2 with h1 | ⟨p,g,l,g',e1,e2,ht,hg⟩
 ·exact .inl h1
 ·exact .inr ⟨p,g,l,g',e1,e2,t.isTr ht,hg⟩

open Go.Shelf

def Ax:Go.Shelf.Ren:=⟨fun | 129=>165 | n=>n,fun | 53=>24 | 3=>3 | 4=>4 | 46=>120 | 5=>5 | 9=>9 | n=>n,fun n=>n⟩

theorem Ff:Lays.n129 prog Ax:={
 mixed:=by kernel_rfl,
 f129:=func165.trans (congrArg some (by kernel_rfl)),
 t3:=underlying3,
 a3:=Tryz.isAgg3,
 z3:=Tryz.sizeOf3,
 v3:=Tryz.zeroValue3,
 t4:=underlying4,
 a4:=Tryz.isAgg4,
 z4:=Tryz.sizeOf4,
 v4:=Tryz.zeroValue4,
 t5:=underlying5,
 a5:=Tryz.isAgg5,
 z5:=Tryz.sizeOf5,
 v5:=Tryz.zeroValue5,
 t9:=underlying9,
 a9:=Tryz.isAgg9,
 z9:=Tryz.sizeOf9,
 v9:=Tryz.zeroValue9,
 t46:=underlying120,
 a46:=Tryz.isAgg120,
 z46:=Tryz.sizeOf120,
 v46:=Tryz.zeroValue120,
 t53:=underlying24,
 a53:=Tryz.isAgg24,
 z53:=Tryz.sizeOf24,
 v53:=Tryz.zeroValue24 }

open Go.RowKit

theorem xi (v:Value) (zs:List Nat) (w:World) (h:Row .u64 w v zs) :
  Calls prog 114 #[v] w fun r w'=>∃ m v',r=.returned v'/\m<=zs.length/\Row .u64 w v' (zs.take m)/\(∀ i,m<=i->zs.getD i 0=0)/\(m=0\/zs.getD (m-1) 0≠0)/\v'.ownBlock=v.ownBlock/\(∃ ao n c,v=.slice ao n c/\v'=.slice ao m c)/\w'=w:=by
 have hcut:=fun ao n c (e:v=.slice ao n c) m (hm:m<=zs.length)=>(show Row .u64 w (.slice ao n c) zs from e ▸ h).cut hm
 obtain ⟨ao,n,c,rfl,hN,h1,h2,h3,h4⟩:=h.open;have HC:Hid (∀ m,m<=n->Row .u64 w (.slice ao m c) (zs.take m)):=fun m hm=>hcut ao n c rfl m (by have:=hN.out;omega)
 have HL:Hid (∀ i,n<=i->zs.getD i 0=0):=fun i hi=>by have:=hN.out;rw [aA,gF (by omega)];rfl
 clear hcut h h3;go_enter func114,ntmps114;go_wp2_with fail;go_loop [0] (fun a=>∃ m:Nat,m<=n/\a=.slice ao m c/\Hid (∀ i,m<=i->zs.getD i 0=0)) (fun a=>uF a)
 case atStart=>exact ⟨n,leR _,rfl,HL⟩
 case round=>
  obtain ⟨m,hm,rfl,hz⟩:=hrel;cases m with
  | zero=>
   clear h4;go_wp2;go_ret;exact ⟨0,_,rfl,aP _,HC.out 0 (aP _),hz.out,.inl rfl,oJ ao 0 n c,⟨ao,n,c,⟨rfl,rfl,rfl⟩,rfl⟩,rfl⟩
  | succ j=>
   obtain ⟨b,off,rfl,hc⟩:=h4 j (by omega);obtain ⟨z,d⟩:∃ z,z=zs.getD j 0:=⟨_,rfl⟩
   rw [<- d] at hc;have HZ:Hid (z=zs.getD j 0):=d;clear d h4;by_cases h0:z=0
   ·have g:((z:Int) == 0)=true:=by simp [h0]
    subst h0;go_wp2;go_round
    case rel=>exact ⟨j,by omega,rfl,fun i hi=>by
     by_cases e:i=j
     ·subst e;exact HZ.out.symm
     ·exact hz.out i (by omega)⟩
    case measure=>simp [uF]
   ·have f:Hid (zs.getD (j+1-1) 0≠0):=by
     unfold Hid;rw [ij,<- HZ.out];exact h0
    have g:((z:Int) == 0)=false:=by simp;omega
    have k:¬ ((z:Int)=0):=by omega
    go_wp2;go_ret;exact ⟨j+1,_,rfl,by have:=hN.out;omega,HC.out _ hm,hz.out,.inr f.out,oJ _ _ _ _,⟨_,_,_,⟨rfl,rfl,rfl⟩,rfl⟩,rfl⟩

theorem nD {ds:List Nat} (hd:Digs ds) (ht:iA ds):ds.length=ar (val ds):=by
 have h1:=(jw (by omega) hd ht (ar (val ds))).2 ((aG _ _).1 (leR _));have h2:=(aG (val ds) ds.length).2 ((jw (by omega) hd ht _).1 (leR _));omega

theorem Ep (v:Value) (xs:List Nat) (w:World) (h:Row .u64 w v xs) (hd:Digs xs) :
  Calls prog 114 #[v] w fun r w'=>∃ v' ys,r=.returned v'/\Row .u64 w v' ys/\Digs ys/\iA ys/\val ys=val xs/\Hid (ys.length=ar (val xs))/\ys.length<=xs.length/\v'.ownBlock=v.ownBlock/\w'=w:=by
 refine (xi v xs w h).mono ?_;rintro e w' ⟨m,v',rfl,hm,hr,hz,ht,ho,_,rfl⟩;have e1:=iW (B:=18446744073709551616) hm hz;have t1:=iM hm ht;refine ⟨v',xs.take m,rfl,hr,hd.take m,t1,e1,?_,by rw [aO];omega,ho,rfl⟩;have:=nD (hd.take m) t1;rw [e1] at this;exact this

theorem xh (n:Int) (w:World):Calls prog 111 #[.int .i64 n] w fun r w'=>r=.returned (.int .i64 (if 300<n then 2 else if n<0 then 1 else 0))/\w'=w:=by
 by_cases h1:300<n
 ·rw [ah h1];go_enter func111,ntmps111;go_wp2;go_ret;exact ⟨rfl,rfl⟩
 ·rw [ai h1];by_cases h2:n<0
  ·rw [ah h2];go_enter func111,ntmps111;go_wp2;go_ret;exact ⟨rfl,rfl⟩
  ·rw [ai h2];go_enter func111,ntmps111;go_wp2;go_ret;exact ⟨rfl,rfl⟩

theorem kK (x:Nat) (h:x<18446744073709551616):Lib.bitLen x=aM x:=by
 by_cases h0:x=0
 ·subst h0;rfl
 ·obtain ⟨a,b,c⟩:=Lib.bitLenAux_bounds 64 x h h0;unfold Lib.bitLen;have h1:=(aX x _).2 c;have h2:¬ aM x<=Lib.bitLenAux 64 x-1:=fun k=>by have:=(aX x _).1 k;omega
  omega

theorem zW {ys:List Nat} (hd:Digs ys) (ht:iA ys) (hn:0<ys.length):aM (val ys)=64*(ys.length-1)+aM (ys.getD (ys.length-1) 0):=by
 have e:=aW 18446744073709551616 ys (ys.length-1) (by omega);have a:ys.drop (ys.length-1)=[ys.getD (ys.length-1) 0]:=by
  rw [dU (by omega),mj (by omega),aA,aQ (by omega)];rfl
 rw [a] at e;have b:val (ys.take (ys.length-1))<18446744073709551616^(ys.length-1):=by
  have:=aE (by omega) (hd.take (ys.length-1))
  rwa [aO,cL (by omega)] at this
 have d:ys.getD (ys.length-1) 0≠0:=by
  rcases ht with h | h
  ·omega
  ·exact h
 simp only [val,cG,aU] at e;generalize ys.getD (ys.length-1) 0=y at *;generalize ys.length-1=k at *;generalize val (ys.take k)=L at *;generalize val ys=V at *;have hB:(18446744073709551616:Nat)^k=2^(64*k):=by rw [bh]
 rw [hB] at e b;generalize hM:aM y=M;have h1:y<2^M:=(aX _ _).1 (by omega);have h2:2^(M-1)<=y:=by
  have:¬ aM y<=M-1:=by
   have:0<aM y:=by
    rcases cF (aM y) with z | z
    ·have:=(aX y 0).1 (by omega);omega
    ·exact z
   omega
  have:=mt (aX y (M-1)).2 this;omega
 have f:1<=M:=by
  rcases cF M with z | z
  ·rw [z] at h1;omega
  ·exact z
 have u1:V<2^(64*k+M):=by
  rw [aN];have:2^(64*k)*(y+1)<=2^(64*k)*2^M:=bi _ h1;rw [aJ,bD] at this;omega
 have u2:2^(64*k+(M-1))<=V:=by
  rw [aN];have:2^(64*k)*2^(M-1)<=2^(64*k)*y:=bi _ h2;omega
 have h3:=(aX V _).2 u1;have h4:¬ aM V<=64*k+(M-1):=fun c=>by have:=(aX V _).1 c;omega
 omega

theorem iw (v:Value) (xs:List Nat) (w:World) (h:Row .u64 w v xs) (hd:Digs xs) (hl:xs.length<=100000000) :
  Calls prog 110 #[v] w fun r w'=>r=.returned (.int .i64 (aM (val xs):Nat))/\w'=w:=by
 have hN:=Ep v xs w h hd;obtain ⟨R,hR⟩:∃ R,R=aM (val xs):=⟨_,rfl⟩
 rw [<- hR];have HR:Hid (R=aM (val xs)):=hR;clear hR;go_enter func110,ntmps110;go_wp2_with fail;refine hN.mono ?_;rintro e w' ⟨v',ys,rfl,hr,c,d,hv,_,k,_,rfl⟩;rw [<- hv] at HR;obtain ⟨ao,n,g,rfl,hL,h1,h2,h3,h4⟩:=hr.open;cases n with
 | zero=>
  obtain rfl:ys=[]:=jZ hL.out;clear h4 hL;go_wp2;go_ret;exact ⟨by rw [HR.out];rfl,rfl⟩
 | succ j=>
  have hb:=zW c d (by have:=hL.out;omega);have hj:ys.length-1=j:=by have:=hL.out;omega
  rw [hj] at hb;have i:j<100000000:=by have:=hL.out;omega
  obtain ⟨b,off,rfl,hc⟩:=h4 j (by omega);have hy:ys.getD j 0<18446744073709551616:=c.getD (by omega) j;rw [hb] at HR;generalize ys.getD j 0=y at *;have f:aM y<=64:=(aX y 64).2 hy;have a:=Any.bits_Len64 Ff (y:Int) w' (by omega) (by omega);rw [show ((y:Int).toNat)=y from rfl,kK y hy] at a;clear h4 hb hv hr c d hN h hd;have l:wrap64 ((j:Int)+1-1)=j:=by simp [wrap64];omega
  have m:wrap64 (64*(j:Int))=64*j:=by simp [wrap64];omega
  have o:wrap64 (64*(j:Int)+(aM y:Nat))=64*j+(aM y:Nat):=by simp [wrap64];omega
  generalize aM y=M at *;go_wp2_with fail;refine a.mono ?_;rintro e w' ⟨rfl,rfl⟩;go_wp2;go_ret;exact ⟨by rw [HR.out];simp,rfl⟩

theorem iX (x m:Nat) (hx:x<18446744073709551616):digs x (m+1)=x :: List.replicate m 0:=by
 refine (b8 (by omega) (B:=18446744073709551616) (l:=x :: List.replicate m 0) (V:=x) (n:=m+1) ?_ (by simp) ?_).symm
 ·intro d hd;rcases fC.1 hd with rfl | hd
  ·exact hx
  ·rw [eu] at hd;omega
 ·have hz:val (List.replicate m 0)=0:=ep _ (fun d hd=>(eu.1 hd).2);rw [ax (bd hx (by rw [aH];exact Nat.le_mul_of_pos_left _ (aC (by omega))))];simp only [val,hz];omega

theorem Er (x:Nat) (hx:x<18446744073709551616) (n:Int) (w:World) :
  Calls prog 144 #[.int .u64 x,.int .i64 n] w fun r w'=>∃ v',r=.returned v'/\Row .u64 w' v' (digs x (ji n))/\Kept af w w':=by
 obtain ⟨i0,c,f,g,i⟩:=info_parts Tryz.info24;obtain ⟨m,hm⟩:∃ m,ji n=m+1:=⟨ji n-1,by unfold ji;omega⟩
 have hb:m+1<=300:=by rw [<- hm];unfold ji;omega
 have hc:min (max n 1) 300=((m+1:Nat):Int):=by rw [<- hm];unfold ji;omega
 rw [hm,iX x m hx];clear hm;go_enter func144,ntmps144;go_wp2_with (at_make;refine wpList_make_full _ rfl _ _ 23 rfl w.heap.size 24 i0 _ 1 underlying23 c f g _ _ _ _ (m+1) rfl rfl (by first | exact hc | rfl) (by first | exact hc | rfl) (by rw [i];omega) (by unfold maxLen;omega) (leR _) ?_;intro w1 a b;rw [bg] at a;have k1:=aV b;have j:w1.cell? ⟨w.heap.size,0,none⟩=some (.int .u64 0):=(by rw [World.ownsRow.cellAt a 0 (by omega)];rfl);have hf:=World.ownsRow.frozenAt a 0;have d:=(World.ownsRow.stored a 0 (.int .u64 (x:Nat))).1);go_ret;refine ⟨_,rfl,Row.of_own (base:=w.heap.size) (e:=24) ?_,k1.setCell _ (fun h=>by simp at h) _⟩
 simpa [iZ] using d

theorem Ha (v:Value) (xs:List Nat) (i:Int) (w:World) (h:Row .u64 w v xs) (hd:Digs xs) (hi:i<=9223372036854775807) :
  Calls prog 180 #[v,.int .i64 i] w fun r w'=>r=.returned (.int .u64 (si (val xs) i:Nat))/\w'=w:=by
 obtain ⟨ao,n,c,rfl,hL,h1,h2,h3,h4⟩:=h.open;by_cases hi0:i<0
 ·rw [show si (val xs) i=0 from ah hi0];clear h4 h hd;go_enter func180,ntmps180;go_wp2;go_ret;exact ⟨rfl,rfl⟩
 ·obtain ⟨j,rfl⟩:=dY (show 0<=i by omega);rw [jS,<- nd,cS (by omega) hd];by_cases hlt:j/64<n
  ·obtain ⟨b,off,rfl,hc⟩:=h4 (j/64) hlt;have hx:xs.getD (j/64) 0<18446744073709551616:=hd.getD (by omega) _;clear h4 h hd;generalize xs.getD (j/64) 0=x at *;have g1:(j:Int)/64<(n:Int):=by omega
   have g2:(0:Int)<=(j:Int)/64:=by omega
   have g3:((j:Int)/64).toNat=j/64:=by omega
   have hy:=ew x (2^(j%64));have a:Hid (bits .and .u64 ((x:Int)/2^(j%64)) 1=((x/2^(j%64)%2:Nat):Int)):=by
    unfold Hid;have e:(x:Int)/2^(j%64)=((x/2^(j%64):Nat):Int):=by simp
    rw [e];generalize x/2^(j%64)=Y at *;rw [and_one_u64 (Y:Int) (by omega) (by omega)];omega
   clear hy;generalize x/2^(j%64)%2=R at *;go_enter func180,ntmps180;go_wp2;go_ret;refine ⟨?_,rfl⟩;show Ending.returned (Value.int .u64 (bits .and .u64 ((x:Int)/2^(j%64)) 1))=_
   rw [a.out]
  ·have hz:xs.getD (j/64) 0=0:=by have:=hL.out;rw [aA,gF (by omega)];rfl
   rw [hz,Nat.zero_div];have g1:¬ (j:Int)/64<(n:Int):=by omega
   clear h4 h hd;go_enter func180,ntmps180;go_wp2;go_ret;exact ⟨rfl,rfl⟩

theorem sZ (v:Value) (xs:List Nat) (n:Int) (w:World) (h:Row .u64 w v xs) (hd:Digs xs) :
  Calls prog 219 #[v,.int .i64 n] w fun r w'=>∃ v',r=.returned (.tuple #[v',.int .i64 (dF (val xs) n)])/\Row .u64 w' v' (ei (val xs) n)/\(∀ b,v'.ownBlock=some b->w.heap.size<=b)/\Kept af w w':=by
 obtain ⟨i0,x,G,y,H⟩:=info_parts Tryz.info24;have hE:=xh n w;have hN:=Ep v xs w h hd;by_cases h1:300<n
 ·obtain ⟨e1,e2⟩:=tz (V:=val xs) h1;rw [e1,e2];rw [ah h1] at hE;go_enter func219,ntmps219;go_wp2_with fail;refine hE.mono ?_;rintro e w' ⟨rfl,rfl⟩;go_wp2;go_ret2;exact ⟨_,rfl,Row.nil _ _,(fun b hb=>by cases hb),aj _ _⟩
 ·rw [ai h1] at hE;by_cases h2:n<0
  ·obtain ⟨e1,e2⟩:=lH (V:=val xs) h1 (.inl h2);rw [e1,e2];rw [ah h2] at hE;go_enter func219,ntmps219;go_wp2_with fail;refine hE.mono ?_;rintro e w' ⟨rfl,rfl⟩;go_wp2;go_ret2;exact ⟨_,rfl,Row.nil _ _,(fun b hb=>by cases hb),aj _ _⟩
  ·rw [ai h2] at hE;obtain ⟨m,rfl⟩:=dY (show 0<=n by omega);obtain ⟨RC,g⟩:∃ RC,RC=dF (val xs) (m:Int):=⟨_,rfl⟩
   obtain ⟨RL,i⟩:∃ RL,RL=ei (val xs) (m:Int):=⟨_,rfl⟩
   rw [<- g,<- i];have HC:Hid (RC=dF (val xs) (m:Int)):=g;have HL:Hid (RL=ei (val xs) (m:Int)):=i;clear g i;go_enter func219,ntmps219;go_wp2_with fail;refine hE.mono ?_;rintro e w' ⟨rfl,rfl⟩;go_wp2_with fail;refine hN.mono ?_;rintro e w' ⟨v',ys,rfl,hr,E,J,hv,k,_,_,rfl⟩;obtain ⟨ao,q,C,rfl,hL,g1,g2,g3,g4⟩:=hr.open;have hq:q=ar (val xs):=by rw [<- hL.out];exact k.out
   by_cases h3:q<=m
   ·obtain ⟨e1,e2⟩:=rP (V:=val xs) (n:=m) (by omega) (by omega);have D:¬ (q:Int) > (m:Int):=by omega
    rw [e1] at HC;rw [e2,ir E hv (by rw [hL.out];exact h3)] at HL;obtain ⟨CS,a⟩:∃ CS,CS=ys.map (fun z:Nat=>Value.int .u64 (z:Int)):=⟨_,rfl⟩
    have s:CS.length=q:=by rw [a,cf];exact hL.out
    have B:Hid (CS=ys.map (fun z:Nat=>Value.int .u64 (z:Int))):=a;have d:∀ u ∈ CS,u.oneCell'=true:=by
     intro u hu;rw [a] at hu;obtain ⟨z,_,rfl⟩:=ll.1 hu;rfl
    have f:∀ W,Kept af w' W->0<CS.length->∃ ad,ao=some ad/\∀ j u,CS[j]? = some u->W.cell? (ad.add j)=some u:=by
     intro W hk hp;obtain ⟨b,off,rfl,_⟩:=g4 0 (by omega);refine ⟨_,rfl,fun j u hu=>?_⟩;have hj:j<q:=by
      have:=(ml.1 hu).1;omega
     obtain ⟨b',I,e,hc⟩:=(g4 j hj).grew hk;simp only [ik,Addr.mk.injEq] at e;obtain ⟨rfl,rfl,_⟩:=e;rw [a,bu,aQ (by rw [hL.out];exact hj)] at hu;rw [show (⟨b,off,none⟩:Addr).add j=⟨b,off+j,none⟩ by simp [Addr.add],hc,<- hu,aA,aQ (by rw [hL.out];exact hj)];rfl
    have HP:Hid (∀ W,Kept af w' W->0<CS.length->∃ ad,ao=some ad/\∀ j u,CS[j]? = some u->W.cell? (ad.add j)=some u):=f;have HO:Hid (∀ u ∈ CS,u.oneCell'=true):=d;have o:Hid (CS.length=q):=s;clear a g4 hr hN h hE f d s hq hv e1 e2
    go_wp2_with (at_make;refine wpList_make_full _ rfl _ _ 23 rfl w'.heap.size 24 i0 _ 1 underlying23 x G y _ _ _ _ m rfl rfl rfl rfl (by rw [H];omega) (by unfold maxLen;omega) (leR _) ?_;intro w1 l t;rw [bg] at l;have k1:=aV t;obtain ⟨w2,F,p,k2⟩:=dS (P:=prog) 23 23 3 24 w'.heap.size 0 m m (some ⟨w'.heap.size,0,none⟩) ao q C _ 24 CS underlying23 (by rw [x];simp [y]) (gV l) (by rw [o.out];exact (cL h3).symm) (fun hp=>⟨rfl,HP.out _ k1 hp⟩) (by have:=o.out;simp;omega) HO.out;have A:Hid _:=p;clear p l t);go_ret2;have c:=A.out;rw [B.out,fZ] at c;rw [HC.out,HL.out]
    exact ⟨_,rfl,Row.of_block c (by simp [hL.out];omega) (by unfold maxLen;omega),(fun b hb=>by simp [Value.ownBlock] at hb;omega),eZ k1 k2 (leR _)⟩
   ·obtain ⟨e1,e2⟩:=lH (V:=val xs) (n:=(m:Int)) (by omega) (.inr (by simp;omega));have D:(q:Int) > (m:Int):=by omega
    rw [e1] at HC;rw [e2] at HL;clear g4 hr hN h hE hq hv;go_wp2;go_ret2;rw [HC.out,HL.out];exact ⟨_,rfl,Row.nil _ _,(fun b hb=>by cases hb),aj _ _⟩

theorem Dg (v:Value) (xs:List Nat) (n:Int) (w:World) (h:Row .u64 w v xs) (hd:Digs xs) :
  Calls prog 219 #[v,.int .i64 n] w fun r w'=>∃ v',r=.returned (.tuple #[v',.int .i64 (dF (val xs) n)])/\Row .u64 w' v' (ei (val xs) n)/\Kept af w w':=
 (sZ v xs n w h hd).mono fun _ _ ⟨v',e,hr,_,k⟩=>⟨v',e,hr,k⟩

attribute [local go_sem] Oper.semAt_some

theorem Ci {ys:List Nat} {L:Nat} (hd:Digs ys) (hL:ys.length=L):aM (val ys)<=64*L:=by
 rw [aX];have:=aE (B:=18446744073709551616) (by omega) hd;rw [hL,show (18446744073709551616:Nat)=2^64 from rfl,<- bh] at this;exact this

def tT (l:List Nat):Nat:=l.foldl (fun a d=>2*a+d) 0

theorem qg (l:List Nat) (d:Nat):tT (l ++ [d])=2*tT l+d:=by simp [tT]

theorem sl {E N:Nat} (hE:E<2^N):∀ j,j<=N->tT ((List.range j).map fun i=>E/2^(N-1-i)%2)=E/2^(N-j)
 | 0,_=>by
  rw [List.range_zero,j4,dK,bj hE];rfl
 | j+1,hj=>by
  rw [j5,dt,jC,j4,qg,sl hE j (by omega)];have e:N-j=(N-1-j)+1:=by omega
  rw [e,aH,<- cK,show N-(j+1)=N-1-j by omega];omega

theorem Cl {E N:Nat} (hE:aM E=N):tT ((List.range N).map fun i=>E/2^(N-1-i)%2)=E:=by
 have h:=sl ((aX E N).1 (Nat.le_of_eq hE)) N (leR _);rw [bJ,cw,eX] at h;exact h

theorem IL (n:Nat) (hn:1<=n) (l Bs L N:Nat) (g:Nat->Nat) (v:Value) (ys:List Nat) (hd:Digs ys) (hL:Hid (ys.length=L)) (hN:Hid (aM (val ys)=N)) (hb:L<=1000000) (hg:Hid (∀ j,val ys/2^(N-1-j)%2=g j)) (S:Nat->Prop) (hS:S Bs) (E:∀ b,v.ownBlock=some b->0<L->S b)
  (J Jx:List (Fin N)->World->Prop)
  (hY:∀ a (x:Fin N) W,J a W->a.length<N->YieldAt Fence.wide (n-1) prog l #[.int .u64 (g x.val:Nat)] W fun e W'=>
   (e=.returned (.bool true)/\J (a ++ [x]) W'/\KeepB S W W')\/(e=.returned (.bool false)/\Jx (a ++ [x]) W'))
  (W:World) (C:W.cell? ⟨Bs,0,none⟩=some v) (hr:Row .u64 W v ys) (h0:J [] W) :
  CallsIn Fence.wide n prog 179 #[.func (.yield l) #[] #[],.pointer (some ⟨Bs,0,none⟩)] W fun e W'=>(∃ v,e=.returned v) /\
   ((∃ zs,zs.map Fin.val=List.range N/\J zs W')\/(∃ a,True/\Jx a W')):=by
 obtain ⟨ao,m,A,rfl,h,c1,c2,c3,y⟩:=hr.open;obtain rfl:m=L:=by rw [<- h.out];exact hL.out
 have s:Hid (N<=64000000):=by have:=Ci hd hL.out;have:=hN.out;unfold Hid;omega
 have c:=iw _ ys W hr hd (by have:=hL.out;omega);rw [hN.out] at c;have q:Hid (∀ (i j:Nat) (W':World),KeepB S W W'->i=N-1-j->i<=64000000->Calls prog 180 #[.slice ao m A,.int .i64 (i:Int)] W' fun r w'=>r=.returned (.int .u64 (g j:Nat))/\w'=W'):=fun i j W' k hi hb=>by
  have:=Ha _ ys (i:Int) W' (k.row (fun b hb hp=>E b hb (by have:=hL.out;omega)) hr) hd (by omega);rw [jS,hi,hg.out] at this;rw [hi];exact this
 clear y hr hL h hd hN hg;refine callsIn_of_wp func179 rfl trivial ?_ rfl;simp only [ntmps179,iF,cI,eS,Nat.reduceAdd,Nat.reduceSub,iB,iC,iE,iD,bw,fd]
 gi_wp2_with fail
 refine ⟨trivial,?_⟩;refine (callsIn_wide.2 c).mono ?_;rintro e w' ⟨rfl,rfl⟩;have gN:IntKind.i64.wrap ((N:Int)-1)=(N:Int)-1:=by rw [IntKind.wrap_i64];have:=s.out;omega
 clear c
 gi_wp2_with fail
 gi_loopw [3] (fun i wr=>∃ (k:Nat) (I:Int),k<=N/\i=.int .i64 I/\Hid (I=(N:Int)-1-(k:Int))/\(∃ a:List (Fin N),Hid (a.map Fin.val=List.range k)/\J a wr)/\KeepB S w' wr)
  (fun i _=>(intOf i+1).toNat)
 case atStart=>exact ⟨0,_,aP _,rfl,by unfold Hid;omega,⟨[],by simp [Hid],h0⟩,KeepB.refl _ _⟩
 case round=>
  obtain ⟨k,I,hk,rfl,HI,⟨a,d,z⟩,w⟩:=hrel;by_cases hkm:k<N
  ·obtain ⟨i,hi⟩:∃ i:Nat,i=N-1-k:=⟨_,rfl⟩
   obtain rfl:I=(i:Int):=by have:=HI.out;omega
   have M:(0:Int)<=(i:Int):=by omega
   have B:IntKind.i64.wrap ((i:Int)-1)=(i:Int)-1:=by rw [IntKind.wrap_i64];have:=s.out;omega
   have F:=(w.cell (p:=⟨Bs,0,none⟩) hS).trans C;have f:=q.out i k wr w hi (by have:=s.out;omega);have o:a.length<N:=by
    have:=congrArg List.length d.out;rw [cf,mo] at this;omega
   obtain ⟨fn,tmps,assign,body,hy,hR⟩:=hY a ⟨k,hkm⟩ wr z o;dsimp only at hy;have H:=aa hi;clear hi
   gi_wp2_with fail
   refine ⟨trivial,?_⟩;refine (callsIn_wide.2 f).mono ?_;rintro e w2 ⟨rfl,rfl⟩;clear f
   gi_wp2_with fail
   refine hR.mono ?_;rintro e W3 (⟨rfl,D,G⟩ | ⟨rfl,t⟩)
   ·gi_wp2_with fail
    go_roundw
    case rel=>exact ⟨k+1,(i:Int)-1,hkm,by first | rfl | (rw [B]),by have:=HI.out;unfold Hid;omega,⟨a ++ [⟨k,hkm⟩],by unfold Hid;rw [dt,d.out,j5];rfl,D⟩,w.trans G⟩
    case measure=>simp [intOf]
   ·gi_wp2_with fail
    refine bodyPost_ret (results_none rfl _ _ _) rfl ?_;exact ⟨⟨_,rfl⟩,.inr ⟨_,trivial,t⟩⟩
  ·obtain rfl:k=N:=by omega
   obtain rfl:I=-1:=by have:=HI.out;omega
   gi_wp2_with fail
   go_end0
   exact ⟨⟨_,rfl⟩,.inl ⟨a,d.out,z⟩⟩

theorem FR (ao:Option Addr) (b a:Nat) (w:World) :
  Calls prog 125 #[.slice ao b a] w fun e w'=>e=.returned (.func (.func 179) #[] #[.pointer (some ⟨w.heap.size,0,none⟩)])/\w'=w.alloc (.cells #[.slice ao b a] 23):=by
 go_enter func125,ntmps125;go_wp2;go_ret;exact ⟨rfl,rfl⟩

theorem Bz (n:Nat) (hn:1<=n) (Bs L N:Nat) (g:Nat->Nat) (v:Value) (ys:List Nat) (hd:Digs ys) (hL:ys.length=L) (hN:aM (val ys)=N) (hb:L<=1000000) (hg:∀ j,val ys/2^(N-1-j)%2=g j) (S:Nat->Prop) (hS:S Bs) (a:∀ b,v.ownBlock=some b->0<L->S b)
  (w:World) (d:∀ k,S k->k<w.heap.size) (c:w.cell? ⟨Bs,0,none⟩=some v) (hr:Row .u64 w v ys) :
  SeqStopsK Fence.wide n prog 179 #[.pointer (some ⟨Bs,0,none⟩)] (fun x:Fin N=>#[Value.int .u64 (g x.val:Nat)]) (KeepB S) (fun zs=>zs.map Fin.val=List.range N) (fun _=>True) N w:=fun l J Jx W hW _ _ hY h0=>by
 have hk:KeepB S w W:=fun k hk=>hW.block k (d k hk)
 exact IL n hn l Bs L N g v ys hd hL hN hb hg S hS a J Jx hY W ((hk.cell (p:=⟨Bs,0,none⟩) hS).trans c) (hk.row (fun b hb hp=>a b hb (by omega)) hr) h0

def bor (x y:Int):Int:=if x<y then 1 else 0

theorem Ec (x y c:Int) (hx:0<=x) (hy:0<=y) (a:0<=c) (hc:c<=1) (w:World) :
  (callFunc 253 #[.int .u64 x,.int .u64 y,.int .u64 c]).run prog w =
   .ok (.value (.tuple #[.int .u64 ((x+y+c)%18446744073709551616),.int .u64 ((x+y+c)/18446744073709551616)])) w:=by
 rw [run_callFunc_extern func253 (by kernel_rfl) (by kernel_rfl) (by kernel_rfl) (e:=add64Entry) (by kernel_rfl),run_add64 x y c hx hy a hc];simp only [Result.andThen]

theorem vv (x y:Int) (hx:0<=x) (hy:0<=y) (w:World) :
  (callFunc 253 #[.int .u64 x,.int .u64 y,.int .u64 0]).run prog w =
   .ok (.value (.tuple #[.int .u64 ((x+y)%18446744073709551616),.int .u64 ((x+y)/18446744073709551616)])) w:=by
 have h:=Ec x y 0 hx hy (Int.le_refl 0) (by decide) w;rw [Int.add_zero] at h;exact h
theorem Ex (x y c:Int) (hx:0<=x) (hy:0<=y) (hy1:y<18446744073709551616) (hc0:0<=c) (hc:c<=1) (w:World) :
  (callFunc 230 #[.int .u64 x,.int .u64 y,.int .u64 c]).run prog w =
   .ok (.value (.tuple #[.int .u64 ((x-y-c)%18446744073709551616),.int .u64 (bor x (y+c))])) w:=by
 obtain ⟨X,rfl⟩:=dY hx;obtain ⟨Y,rfl⟩:=dY hy;obtain ⟨C,rfl⟩:=dY hc0;rw [run_callFunc_extern func230 (by kernel_rfl) (by kernel_rfl) (by kernel_rfl) (e:=sub64Entry) (by kernel_rfl),run_sub64 X Y C (by omega)];simp only [Result.andThen];have e1:(((X+18446744073709551616-Y-C)%18446744073709551616:Nat):Int)=((X:Int)-Y-C)%18446744073709551616:=by omega
 have e2:((if X<Y+C then 1 else 0:Nat):Int)=bor (X:Int) ((Y:Int)+C):=by
  unfold bor;split <;> split <;> omega
 rw [e1,e2]

theorem Ig (x y:Int) (hx:0<=x) (hy:0<=y) (e:y<18446744073709551616) (w:World) :
  (callFunc 230 #[.int .u64 x,.int .u64 y,.int .u64 0]).run prog w =
   .ok (.value (.tuple #[.int .u64 ((x-y)%18446744073709551616),.int .u64 (bor x y)])) w:=by
 have h:=Ex x y 0 hx hy e (Int.le_refl 0) (by decide) w;rw [Int.add_zero,Int.sub_zero] at h;exact h
theorem lI {a b c d:Int} (h:a=c) (k:b=d):Ending.returned (.tuple #[.int .u64 a,.int .u64 b])=Ending.returned (.tuple #[.int .u64 c,.int .u64 d]):=by rw [h,k]
theorem xD {a c:Int} (h:a=c):Ending.returned (.int .u64 a)=Ending.returned (.int .u64 c):=by rw [h]

theorem FL (x y:Int) (hx:0<=x) (c:x<18446744073709551616) (hy:0<=y) (d:y<18446744073709551616) :
  ∃ x0 x1 y0 y1 p q r s:Int,bits .and .u64 x 4294967295=x0/\x/4294967296=x1/\bits .and .u64 y 4294967295=y0/\y/4294967296=y1 /\
   x0*y0=p/\x1*y0=q/\x0*y1=r/\x1*y1=s /\
   (0<=p/\p<=18446744065119617025)/\(0<=q/\q<=18446744065119617025)/\(0<=r/\r<=18446744065119617025)/\(0<=s/\s<=18446744065119617025) /\
   x*y=s*18446744073709551616+(q+r)*4294967296+p:=by
 obtain ⟨X,rfl⟩:=dY hx;obtain ⟨Y,rfl⟩:=dY hy;have bp:=Lib.half_mul_le (a:=X%4294967296) (b:=Y%4294967296) (by omega) (by omega);have bq:=Lib.half_mul_le (a:=X/4294967296) (b:=Y%4294967296) (by omega) (by omega);have br:=Lib.half_mul_le (a:=X%4294967296) (b:=Y/4294967296) (by omega) (by omega);have bs:=Lib.half_mul_le (a:=X/4294967296) (b:=Y/4294967296) (by omega) (by omega);have e:X*Y=(X/4294967296)*(Y/4294967296)*(4294967296*4294967296)+((X/4294967296)*(Y%4294967296)+(X%4294967296)*(Y/4294967296))*4294967296+(X%4294967296)*(Y%4294967296):=by
  rw [<- Lib.split_mul,Nat.div_add_mod' X 4294967296,Nat.div_add_mod' Y 4294967296]
 refine ⟨((X%4294967296:Nat):Int),((X/4294967296:Nat):Int),((Y%4294967296:Nat):Int),((Y/4294967296:Nat):Int),
  (((X%4294967296)*(Y%4294967296):Nat):Int),(((X/4294967296)*(Y%4294967296):Nat):Int),(((X%4294967296)*(Y/4294967296):Nat):Int),(((X/4294967296)*(Y/4294967296):Nat):Int),
  Mul64.maskN X (by omega),Mul64.divN X,Mul64.maskN Y (by omega),Mul64.divN Y,Mul64.mulN _ _,Mul64.mulN _ _,Mul64.mulN _ _,Mul64.mulN _ _,?_⟩
 rw [Mul64.mulN,e];generalize (X%4294967296)*(Y%4294967296)=p at *;generalize (X/4294967296)*(Y%4294967296)=q at *;generalize (X%4294967296)*(Y/4294967296)=r at *;generalize (X/4294967296)*(Y/4294967296)=s at *;omega

theorem Fk (a:Int) (h0:0<=a) (h1:a<18446744073709551616):bits .and .u64 a 4294967295=a%4294967296:=by
 obtain ⟨A,rfl⟩:=dY h0;rw [Mul64.maskN A (by omega)];omega

theorem qH (x y:Int) (hx:0<=x) (c:x<18446744073709551616) (hy:0<=y) (d:y<18446744073709551616) (w:World) :
  Calls prog 268 #[.int .u64 x,.int .u64 y] w fun e w'=>e=.returned (.tuple #[.int .u64 (x*y/18446744073709551616),.int .u64 (x*y%18446744073709551616)])/\w'=w:=by
 obtain ⟨x0,x1,y0,y1,p,q,r,s,h1,h2,h3,h4,h5,h6,h7,h8,⟨p0,p1⟩,⟨q0,q1⟩,⟨r0,r1⟩,⟨s0,s1⟩,b⟩:=FL x y hx c hy d;have hm:=Fk (q+p/4294967296) (by omega) (by omega);have a:Hid (x*y=s*18446744073709551616+(q+r)*4294967296+p):=b;clear b;go_enter func268,ntmps268;go_wp2;go_ret2;refine ⟨lI ?_ ?_,rfl⟩
 ·rw [a.out];omega
 ·rw [a.out,IntKind.wrap_u64]

theorem and_one (x:Int) (h0:0<=x) (h1:x<18446744073709551616):bits .and .u64 x 1=x%2:=and_one_u64 x h0 (by omega)

theorem IN (a b c:Int) (a0:0<=a) (b0:0<=b) (c0:0<=c) (c1:c<18446744073709551616) (w:World) :
  Calls prog 225 #[.int .u64 a,.int .u64 b,.int .u64 c] w fun e w'=>
   e=.returned (.tuple #[.int .u64 ((a+b+c%2)%18446744073709551616),.int .u64 ((a+b+c%2)/18446744073709551616)])/\w'=w:=by
 have hb:=and_one c c0 c1;have k0:0<=c%2:=by omega
 have k1:c%2<=1:=by omega
 go_enter func225,ntmps225;go_wp2_with (simp only [Ec a b (c%2) a0 b0 k0 k1]);go_ret2;exact ⟨rfl,rfl⟩

theorem IR (a b c:Int) (a0:0<=a) (b0:0<=b) (b1:b<18446744073709551616) (c0:0<=c) (c1:c<18446744073709551616) (w:World) :
  Calls prog 188 #[.int .u64 a,.int .u64 b,.int .u64 c] w fun e w'=>
   e=.returned (.tuple #[.int .u64 ((a-b-c%2)%18446744073709551616),.int .u64 (bor a (b+c%2))])/\w'=w:=by
 have hb:=and_one c c0 c1;have k0:0<=c%2:=by omega
 have k1:c%2<=1:=by omega
 go_enter func188,ntmps188;go_wp2_with (simp only [Ex a b (c%2) a0 b0 b1 k0 k1]);go_ret2;exact ⟨rfl,rfl⟩

theorem Dl (a b:Int) (a0:0<=a) (a1:a<18446744073709551616) (b0:0<=b) (b1:b<18446744073709551616) :
  0<=a*b/\a*b<=340282366920938463426481119284349108225:=
 ⟨lf a0 b0,(Int.mul_le_mul (c:=18446744073709551615) (d:=18446744073709551615) (by omega) (by omega) b0 (by decide):a*b<=18446744073709551615*18446744073709551615)⟩

theorem sX (a b p:Int) (a0:0<=a) (a1:a<18446744073709551616) (b0:0<=b) (b1:b<18446744073709551616) (h:Hid (a*b=p)) (w:World) :
  Calls prog 268 #[.int .u64 a,.int .u64 b] w fun e w'=>e=.returned (.tuple #[.int .u64 (p/18446744073709551616),.int .u64 (p%18446744073709551616)])/\w'=w:=by
 rw [<- h.out];exact qH a b a0 a1 b0 b1 w

theorem IQ (a b c d:Int) (a0:0<=a) (a1:a<18446744073709551616) (b0:0<=b) (b1:b<18446744073709551616) (c0:0<=c) (c1:c<18446744073709551616) (d0:0<=d) (d1:d<18446744073709551616) (w:World) :
  Calls prog 252 #[.int .u64 a,.int .u64 b,.int .u64 c,.int .u64 d] w fun e w'=>
   e=.returned (.tuple #[.int .u64 ((a*b+c+d)/18446744073709551616),.int .u64 ((a*b+c+d)%18446744073709551616)])/\w'=w:=by
 have hp:=Dl a b a0 a1 b0 b1;obtain ⟨p,f⟩:∃ p,a*b=p:=⟨_,rfl⟩
 rw [f] at hp ⊢;have HM:Hid (a*b=p):=f;clear f;obtain ⟨p0,p1⟩:=hp;go_enter func252,ntmps252;go_wp2_with (first | (go_at_call 268;refine (sX a b p a0 a1 b0 b1 HM _).mono ?_;rintro e w' ⟨rfl,rfl⟩) | simp only [vv (p%18446744073709551616) c (by omega) c0] | simp only [vv ((p+c)%18446744073709551616) d (by omega) d0]);go_ret2;refine ⟨lI ?_ ?_,rfl⟩ <;> omega

def msk (x:Int):Int:=x%2*18446744073709551615

theorem qQ (a:Int) (a0:0<=a) (a1:a<18446744073709551616) (w:World) :
  Calls prog 182 #[.int .u64 a] w fun e w'=>e=.returned (.int .u64 (msk a))/\w'=w:=by
 have hb:=and_one a a0 a1;go_enter func182,ntmps182;go_wp2;go_ret;refine ⟨xD ?_,rfl⟩;unfold msk;rw [IntKind.wrap_u64];omega

def sel (k a b:Int):Int:=if k%2=1 then a else b

theorem FM (k a b:Int) (a0:0<=a) (a1:a<18446744073709551616) (b0:0<=b) (b1:b<18446744073709551616) :
  bits .xor .u64 b (bits .and .u64 (msk k) (bits .xor .u64 a b))=sel k a b:=by
 obtain ⟨A,rfl⟩:=dY a0;obtain ⟨B,rfl⟩:=dY b0;have hx:A ^^^ B<2^64:=Nat.xor_lt_two_pow (by omega) (by omega);rw [u64_xor_nat A B (by omega) (by omega)];unfold sel msk;have:k%2=0\/k%2=1:=by omega
 rcases this with h | h
 ·rw [h];have e:=u64_and_nat 0 (A ^^^ B) (by omega) (by omega);rw [Nat.zero_and] at e;have e':bits .and .u64 (0*18446744073709551615) ((A ^^^ B:Nat):Int)=((0:Nat):Int):=e;rw [e',u64_xor_nat B 0 (by omega) (by omega),Nat.xor_zero];simp
 ·rw [h];have e:=u64_and_nat 18446744073709551615 (A ^^^ B) (by omega) (by omega);rw [Nat.and_comm,show (18446744073709551615:Nat)=2^64-1 from rfl,qX hx] at e;have e':bits .and .u64 (1*18446744073709551615) ((A ^^^ B:Nat):Int)=((A ^^^ B:Nat):Int):=e;rw [e',u64_xor_nat B (A ^^^ B) (by omega) (by omega),Nat.xor_comm A B,<- Nat.xor_assoc,Nat.xor_self,Nat.zero_xor];simp

theorem DY (k a b:Int) (k0:0<=k) (k1:k<18446744073709551616) (a0:0<=a) (a1:a<18446744073709551616) (b0:0<=b) (b1:b<18446744073709551616) (w:World) :
  Calls prog 152 #[.int .u64 k,.int .u64 a,.int .u64 b] w fun e w'=>e=.returned (.int .u64 (sel k a b))/\w'=w:=by
 have hs:=FM k a b a0 a1 b0 b1;go_enter func152,ntmps152;go_wp2_with (go_at_call 182;refine (qQ k k0 k1 _).mono ?_;rintro e w' ⟨rfl,rfl⟩);go_ret;exact ⟨rfl,rfl⟩

def zer (a:Int):Int:=if a=0 then 1 else 0

theorem Gj (a:Int) (a0:0<=a) (a1:a<18446744073709551616) :
  bits .xor .u64 (bits .or .u64 a (IntKind.u64.wrap (-a))/9223372036854775808) 1=zer a:=by
 obtain ⟨A,rfl⟩:=dY a0;unfold zer;by_cases h:A=0
 ·subst h;decide +kernel
 ·have e:IntKind.u64.wrap (-(A:Int))=((18446744073709551616-A:Nat):Int):=by rw [IntKind.wrap_u64];omega
  rw [e,u64_or_nat A _ (by omega) (by omega)];have hl:A<=A ||| (18446744073709551616-A):=Nat.left_le_or;have hr:18446744073709551616-A<=A ||| (18446744073709551616-A):=Nat.right_le_or;have hu:A ||| (18446744073709551616-A)<2^64:=Nat.or_lt_two_pow (by omega) (by omega);generalize A ||| (18446744073709551616-A)=B at *;have hq:(B:Int)/9223372036854775808=1:=by omega
  rw [hq,ai (by omega)];decide +kernel

theorem BV (a:Int) (a0:0<=a) (a1:a<18446744073709551616) (w:World) :
  Calls prog 151 #[.int .u64 a] w fun e w'=>e=.returned (.int .u64 (zer a))/\w'=w:=by
 have hz:=Gj a a0 a1;go_enter func151,ntmps151;go_wp2;go_ret;exact ⟨rfl,rfl⟩

def eqw (a b:Int):Int:=if a=b then 1 else 0

theorem D6 (a b:Int) (a0:0<=a) (a1:a<18446744073709551616) (b0:0<=b) (b1:b<18446744073709551616) :
  0<=bits .xor .u64 a b/\bits .xor .u64 a b<18446744073709551616/\zer (bits .xor .u64 a b)=eqw a b:=by
 obtain ⟨A,rfl⟩:=dY a0;obtain ⟨B,rfl⟩:=dY b0;have hx:A ^^^ B<2^64:=Nat.xor_lt_two_pow (by omega) (by omega);rw [u64_xor_nat A B (by omega) (by omega)];refine ⟨by omega,by omega,?_⟩;unfold zer eqw;by_cases h:A=B
 ·subst h;simp
 ·have:A ^^^ B≠0:=fun e=>h (by
   have e2:A ^^^ (A ^^^ B)=A ^^^ 0:=by rw [e]
   rw [<- Nat.xor_assoc,Nat.xor_self,Nat.zero_xor,Nat.xor_zero] at e2;exact e2.symm)
  rw [ai (by omega),ai (by omega)]

theorem Ga (a b:Int) (a0:0<=a) (a1:a<18446744073709551616) (b0:0<=b) (b1:b<18446744073709551616) (w:World) :
  Calls prog 273 #[.int .u64 a,.int .u64 b] w fun e w'=>e=.returned (.int .u64 (eqw a b))/\w'=w:=by
 obtain ⟨x0,x1,hx⟩:=D6 a b a0 a1 b0 b1;go_enter func273,ntmps273;go_wp2_with (go_at_call 151;refine (BV _ x0 x1 _).mono ?_;rintro e w' ⟨rfl,rfl⟩);go_ret;exact ⟨rfl,rfl⟩

def fJ (L:Nat->Nat):Nat->Nat
 | 0=>0
 | n+1=>max (fJ L n) (L n)

theorem sN (L:Nat->Nat):∀ n i,i<n->L i<=fJ L n
 | n+1,i,h=>by
  by_cases e:i=n
  ·subst e;simp only [fJ];omega
  ·have:=sN L n i (by omega);simp only [fJ];omega

theorem sU (L:Nat->Nat) (B:Nat):∀ n,(∀ i,i<n->L i<=B)->fJ L n<=B
 | 0,_=>aP _
 | n+1,h=>by
  have h1:=sU L B n (fun i hi=>h i (by omega));have h2:=h n (by omega);simp only [fJ];omega

def Slots (w:World) (ao:Option Addr) (n:Nat) (A:Nat->Option Addr) (L C:Nat->Nat):Prop:=
 ∀ i,i<n->∃ b off,ao=some ⟨b,off,none⟩/\w.cell? ⟨b,off+i,none⟩=some (.slice (A i) (L i) (C i))

theorem vW (ao:Option Addr) (n h:Nat) (A:Nat->Option Addr) (L C:Nat->Nat) (w:World) (hn:n<=1000000000) (hc:Slots w ao n A L C) :
  Calls prog 149 #[.slice ao n h] w fun e w'=>e=.returned (.tuple #[.int .i64 (fJ L n:Nat),.func (.func 209) #[] #[.pointer (some ⟨w.heap.size,0,none⟩)]])/\w'=w.alloc (.cells #[.int .i64 (fJ L n:Nat)] 3):=by
 have p:=im;have HC:Hid (Slots w ao n A L C):=hc;clear hc;go_enter func149,ntmps149;go_wp2_with fail;go_loopw [9] (fun i wr=>∃ (k m:Nat),k<=n/\i=.int .i64 (k:Int)/\wr=w.alloc (.cells #[.int .i64 (m:Int)] 3)/\Hid (m=fJ L k)) (fun i _=>((n:Int)-intOf i).toNat)
 case atStart=>exact ⟨0,0,aP _,rfl,rfl,rfl⟩
 case round=>
  obtain ⟨k,m,hk,rfl,rfl,hm⟩:=hrel;by_cases hkn:k<n
  ·have o:(k:Int)<(n:Int):=by omega
   obtain ⟨b,off,rfl,a⟩:=HC.out k hkn;obtain ⟨ao,l⟩:∃ ao,ao=A k:=⟨_,rfl⟩
   obtain ⟨d,c⟩:∃ d,d=L k:=⟨_,rfl⟩
   obtain ⟨cp,f⟩:∃ h,h=C k:=⟨_,rfl⟩
   rw [<- l,<- c,<- f] at a;have g:Hid (d=L k):=c;have j:=((aj af w).alloc (.cells #[.int .i64 (m:Int)] 3)).cellN a;clear l c f HC;go_wp2_with fail;go_roundw
   case rel=>exact ⟨k+1,max m d,by omega,by go_num,by rw [show ((max m d:Nat):Int)=max (m:Int) (d:Int) by omega],by unfold Hid;rw [fJ,<- hm.out,<- g.out]⟩
   case measure=>simp [intOf];omega
  ·have o:¬ (k:Int)<(n:Int):=by omega
   have e:k=n:=by omega
   subst e;go_wp2_with fail;go_ret2;rw [hm.out];exact ⟨rfl,rfl⟩

theorem Row.source {k:IntKind} {w:World} {ao:Option Addr} {L a:Nat} {xs:List Nat} (h:Row k w (.slice ao L a) xs) {W:World} (hk:Kept af w W) (hp:0<(xs.map fun z:Nat=>Value.int k (z:Int)).length) :
  ∃ ad,ao=some ad/\∀ j u,(xs.map fun z:Nat=>Value.int k (z:Int))[j]? = some u->W.cell? (ad.add j)=some u:=by
 obtain ⟨f,n,c,e,hL,_,_,_,g4⟩:=h.open;simp only [Value.slice.injEq] at e;obtain ⟨rfl,rfl,rfl⟩:=e;rw [cf] at hp;have hl:=hL.out;obtain ⟨b,off,rfl,_⟩:=g4 0 (by omega);refine ⟨_,rfl,fun j u hu=>?_⟩;have hj:j<xs.length:=by
  have:=(ml.1 hu).1;simpa using this
 obtain ⟨b',d,e,hc⟩:=(g4 j (by omega)).grew hk;simp only [ik,Addr.mk.injEq] at e;obtain ⟨rfl,rfl,_⟩:=e;rw [bu,aQ hj] at hu;rw [show (⟨b,off,none⟩:Addr).add j=⟨b,off+j,none⟩ by simp [Addr.add],hc,<- hu,aA,aQ hj];rfl

theorem jd (k:IntKind) (xs:List Nat):∀ u ∈ xs.map (fun z:Nat=>Value.int k (z:Int)),u.oneCell'=true:=by
 intro u hu;obtain ⟨z,_,rfl⟩:=ll.1 hu;rfl

theorem El (o:Tr) (v:Value) (xs:List Nat) (n g:Nat) (w:World) (ht:TrIn w o) (h:RowT w o v xs) (hd:Digs xs) (hl:xs.length<=n) (hn:n<=1000000000) (hg:w.heap[g]? = some (.cells #[.int .i64 (n:Nat)] 3 (0,0))) :
  Calls prog 209 #[v,.pointer (some ⟨g,0,none⟩)] w fun e w'=>∃ v',e=.returned v'/\RowT w' o v' (digs (val xs) n)/\Kept af w w'/\(v'=v\/∀ b,v'.ownBlock=some b->w.heap.size<=b):=by
 obtain ⟨i0,m,y,p,A⟩:=info_parts Tryz.info24;have hb:w.cell? ⟨g,0,none⟩=some (.int .i64 (n:Nat)):=(cell_of_row w g 0 _ _ _ hg).trans rfl;rw [ir hd rfl hl];obtain ⟨ao,q,i,rfl,hL,_,_,_,_⟩:=h.1.open;by_cases he:q=n
 ·have t:(q:Int)=(n:Int):=by omega
  rw [show n-xs.length=0 by rw [hL.out];omega,eH,dI];have H:Hid (RowT w o (.slice ao q i) xs):=h;clear h hg hd;go_enter func209,ntmps209;go_wp2;go_ret;exact ⟨_,rfl,H.out,aj _ _,.inl rfl⟩
 ·have t:¬ (q:Int)=(n:Int):=by omega
  have HS:Hid (∀ W,Kept af w W->0<(xs.map fun z:Nat=>Value.int .u64 (z:Int)).length->∃ ad,ao=some ad/\∀ j u,(xs.map fun z:Nat=>Value.int .u64 (z:Int))[j]? = some u->W.cell? (ad.add j)=some u):=fun W hk hp=>h.1.source hk hp
  have HO:=aa (jd .u64 xs);have c:Hid ((xs.map fun z:Nat=>Value.int .u64 (z:Int)).length=q):=by unfold Hid;rw [cf];exact hL.out
  obtain ⟨CS,d⟩:∃ CS,CS=xs.map (fun z:Nat=>Value.int .u64 (z:Int)):=⟨_,rfl⟩
  rw [<- d] at HS HO c;have s:Hid (CS=xs.map (fun z:Nat=>Value.int .u64 (z:Int))):=d;have hq:q<=n:=by rw [<- hL.out];exact hl
  have HT:Hid (TrIn w o):=ht;clear d h hg hd ht hl;go_enter func209,ntmps209;go_wp2_with (at_make;refine wpList_make_full _ rfl _ _ 23 rfl w.heap.size 24 i0 _ 1 underlying23 m y p _ _ _ _ n rfl rfl rfl rfl (by rw [A];omega) (by unfold maxLen;omega) (leR _) ?_;intro w1 f l;rw [bg] at f;have k1:=aV l;obtain ⟨w2,x,k,k2⟩:=dS (P:=prog) 23 23 3 24 w.heap.size 0 n n (some ⟨w.heap.size,0,none⟩) ao q i _ 24 CS underlying23 (by rw [m];simp [p]) (gV f) (by rw [c.out];exact (cL hq).symm) (fun hp=>⟨rfl,HS.out _ k1 hp⟩) (by have:=c.out;simp;omega) HO.out;have r:Hid _:=k;clear k f l);go_ret
  have a:=r.out;rw [s.out,fZ] at a;have kk:=eZ k1 k2 (leR _);exact ⟨_,rfl,fU (base:=w.heap.size) (dD a (by simp [hL.out];omega) (by unfold maxLen;omega) (leR _)) (by simp [hL.out];omega) (HT.out.grew kk),kk,.inr (fun b hb=>by simp [Value.ownBlock] at hb;omega)⟩

theorem pW (o:Tr) (v:Value) (xs:List Nat) (n g:Nat) (w:World) (ht:TrIn w o) (h:RowT w o v xs) (hd:Digs xs) (hl:xs.length<=n) (hn:n<=1000000000) (hg:w.heap[g]? = some (.cells #[.int .i64 (n:Nat)] 3 (0,0))) :
  Calls prog 209 #[v,.pointer (some ⟨g,0,none⟩)] w fun e w'=>∃ v',e=.returned v'/\RowT w' o v' (digs (val xs) n)/\Kept af w w':=by
 refine (El o v xs n g w ht h hd hl hn hg).mono ?_;rintro e w' ⟨v',rfl,hr,hk,_⟩;exact ⟨v',rfl,hr,hk⟩

def cY (b:Bool):Nat:=if b=true then 1 else 0

def fK (A B n:Nat):Nat:=if A<B then A+2^(64*n)-B else A-B

def cC (bit A B:Nat):Nat:=if bit%2=1 then A else B

theorem mH (ao bo:Option Addr) (L M a b:Nat) (w:World) :
  Calls prog 149 #[.slice (some ⟨w.heap.size,0,none⟩) 2 2] (w.alloc (.cells #[.slice ao L a,.slice bo M b] 23)) fun e w'=>∃ g,e=.returned (.tuple #[.int .i64 (max L M:Nat),.func (.func 209) #[] #[.pointer (some ⟨g,0,none⟩)]])/\w'.heap[g]? = some (.cells #[.int .i64 (max L M:Nat)] 3 (0,0))/\w.heap.size<=g/\Kept af w w':=by
 have hn:=Hc w (.slice ao L a) (.slice bo M b) 23;refine (vW (some ⟨w.heap.size,0,none⟩) 2 2 (fun i=>if i=0 then ao else bo) (fun i=>if i=0 then L else M) (fun i=>if i=0 then a else b) _ (by omega) ?_).mono ?_
 ·intro i hi;refine ⟨_,_,rfl,?_⟩;rw [dz,World.ownsRow.cellAt hn i (by omega)];have:i=0\/i=1:=by omega
  rcases this with rfl | rfl <;> rfl
 ·rintro e w' ⟨rfl,rfl⟩;have hm:fJ (fun i=>if i=0 then L else M) 2=max L M:=by simp [fJ]
  rw [hm];exact ⟨_,rfl,heap_alloc_new _ _,by simp,((aj af w).alloc _).alloc _⟩

theorem BQ (x y c:Nat) (hx:x<18446744073709551616) (hy:y<18446744073709551616) (hc:c<=1) (w:World) :
  Calls prog 225 #[.int .u64 (x:Nat),.int .u64 (y:Nat),.int .u64 (c:Nat)] w fun e w'=>∃ z c':Nat,e=.returned (.tuple #[.int .u64 (z:Nat),.int .u64 (c':Nat)])/\z<18446744073709551616/\c'<=1/\z+18446744073709551616*c'=x+y+c/\w'=w:=by
 refine (IN (x:Int) (y:Int) (c:Int) (by omega) (by omega) (by omega) (by omega) w).mono ?_;rintro e w' ⟨rfl,rfl⟩;refine ⟨(x+y+c)%18446744073709551616,(x+y+c)/18446744073709551616,lI ?_ ?_,ay _ (by omega),by omega,by omega,rfl⟩ <;> omega

theorem xW (x y c:Nat) (hx:x<18446744073709551616) (hy:y<18446744073709551616) (hc:c<=1) (w:World) :
  Calls prog 188 #[.int .u64 (x:Nat),.int .u64 (y:Nat),.int .u64 (c:Nat)] w fun e w'=>∃ z c':Nat,e=.returned (.tuple #[.int .u64 (z:Nat),.int .u64 (c':Nat)])/\z<18446744073709551616/\c'<=1/\z+y+c=x+18446744073709551616*c'/\w'=w:=by
 refine (IR (x:Int) (y:Int) (c:Int) (by omega) (by omega) (by omega) (by omega) (by omega) w).mono ?_;rintro e w' ⟨rfl,rfl⟩;unfold bor;by_cases h:(x:Int)<(y:Int)+(c:Int)%2
 ·rw [ah h];refine ⟨x+18446744073709551616-(y+c),1,lI ?_ ?_,by omega,by omega,by omega,rfl⟩ <;> omega
 ·rw [ai h];refine ⟨x-(y+c),0,lI ?_ ?_,by omega,by omega,by omega,rfl⟩ <;> omega

theorem oD (y bit:Nat) (hy:y<18446744073709551616):bits .and .u64 (y:Int) (msk (bit:Int))=((y*(bit%2):Nat):Int):=by
 unfold msk;have:bit%2=0\/bit%2=1:=by omega
 rcases this with h | h
 ·rw [show (bit:Int)%2=0 by omega,h];have e:=u64_and_nat y 0 (by omega) (by omega);rw [Nat.and_zero] at e;exact e
 ·rw [show (bit:Int)%2=1 by omega,h];have e:=u64_and_nat y 18446744073709551615 (by omega) (by omega);rw [show (18446744073709551615:Nat)=2^64-1 from rfl,qX (by omega)] at e;rw [bD];exact e

theorem eK (B X k:Nat):X%B^(k+1)=X%B^k+B^k*dig X k B:=by rw [dig,aH,j7]

theorem vI (B Y bit k:Nat):dig (Y*(bit%2)) k B=dig Y k B*(bit%2):=by
 have:bit%2=0\/bit%2=1:=by omega
 rcases this with h | h <;> rw [h] <;> simp [dig]

theorem x8 {B X Y k c z c':Nat} {os:List Nat} (hl:os.length=k) (h:val os B+B^k*c=X%B^k+Y%B^k) (hz:z+B*c'=dig X k B+dig Y k B+c) :
  val (os ++ [z]) B+B^(k+1)*c'=X%B^(k+1)+Y%B^(k+1):=by
 rw [cZ,hl,eK,eK,aH,bf];have e:B^k*(z+B*c')=B^k*(dig X k B+dig Y k B+c):=by rw [hz]
 rw [aJ,aJ,aJ] at e;omega

theorem zr {B X Y k c z c':Nat} {os:List Nat} (hl:os.length=k) (h:val os B+Y%B^k=X%B^k+B^k*c) (hz:z+dig Y k B+c=dig X k B+B*c') :
  val (os ++ [z]) B+Y%B^(k+1)=X%B^(k+1)+B^(k+1)*c':=by
 rw [cZ,hl,eK,eK,aH,bf];have e:B^k*(z+dig Y k B+c)=B^k*(dig X k B+B*c'):=by rw [hz]
 rw [aJ,aJ,aJ] at e;omega

theorem jV (os:List Nat) (n k z:Nat) (hl:os.length=k) (h:k<n):(os ++ List.replicate (n-k) 0).set k z=(os ++ [z]) ++ List.replicate (n-(k+1)) 0:=by
 rw [gH _ _ (by omega),hl,bJ,show n-k=(n-(k+1))+1 by omega,iZ];simp

theorem B64 (n:Nat):(18446744073709551616:Nat)^n=2^(64*n):=by rw [bh]

theorem iR {w:World} {base g n k:Nat} {t:TypeId} {os:List Nat} (h:OwnN .u64 t w base (.slice (some ⟨g,0,none⟩) n n) n (os ++ List.replicate (n-k) 0)) (hl:os.length=k) (hk:k<n):w.cell? ⟨g,k,none⟩=some (.int .u64 0):=by
 rw [World.ownsRow.cellAt h k (by omega),bu,ig (by omega),hl,bJ,ee,ah (by omega)];rfl

theorem Slots.grew {w w':World} {ao:Option Addr} {n:Nat} {A:Nat->Option Addr} {L C:Nat->Nat} (h:Slots w ao n A L C) (k:Kept af w w'):Slots w' ao n A L C:=by
 intro i hi;obtain ⟨b,off,rfl,hc⟩:=h i hi;exact ⟨b,off,rfl,k.cellN hc⟩

end Go.Proofs.YtkaojflnghfmcaaGreatDoor
