/- Put together of: Seq3 Base4 Lays NatB Seq0 NatC NatD. -/
import Derived.Test.YtcemlfokmjjiaaaGreatDoorPf7
import Derived.Shelf.Strconv.Itoa0
import Derived.Lib.ItoaNum
import Derived.Shelf.Strings.BuilderK
import Derived.Shelf.Strings.Repeat
import Derived.Shelf.Small.Wraps

namespace Go.Proofs.YtcemlfokmjjiaaaGreatDoor
set_option maxRecDepth 100000
set_option maxHeartbeats 4000000
open Go.RowKit Go.Shelf

def LowT {β:Type} (B:Nat) (T:Nat→Prop) (J:β→World→Prop):Prop:=∀ s A C,J s A→Kept (fun x=>T x∨B≤x) A C→J s C

theorem gG {A C:World} {B:Nat} {T:Nat→Prop} (h:Below B A C):Kept (fun x=>T x∨B≤x) A C:=
 ⟨h.os,h.tape,h.output,h.size,fun i _ hs=>h.block i (Nat.lt_of_not_le fun e=>hs (.inr e))⟩

theorem LowT.below {β:Type} {B:Nat} {T:Nat→Prop} {J:β→World→Prop} (h:LowT B T J) {s:β} {A C:World} (j:J s A) (k:Below B A C):J s C:=h s A C j (gG k)

def m9 {β:Type} (B:Nat) (J:β→World→Prop):Prop:=∀ s A l o o',J s A→B≤l→A.heap[l]? = some o→o.isCells=false→J s (A.putObj l o')

def BB {α:Type} (n:Nat) (P:Program) (g:Nat) (lb:Array Value) (encs:α→Array Value) (X:List α→α→World→Prop) (Sb T:Nat→Prop) (S:List α→World→Prop) (w:World):Prop:=
 ∀ (l:Nat) (J Jx:List α→World→Prop) (W:World),Kept af w W→l=w.heap.size+1→W.heap.size=w.heap.size+2 →
  LowT W.heap.size T J →
  (∀ pre x A,J pre A→X pre x A→YieldAt Fence.wide (n-1) P l (encs x) A fun e C=>
   (e=.returned (.bool true)∧J (pre ++ [x]) C∧Kept (fun b=>Sb b∨b=l∨b+1=l) A C)∨(e=.returned (.bool false)∧Jx (pre ++ [x]) C)) →
  J [] W →
  CallsIn Fence.wide n P g (#[.func (.yield l) #[] #[]] ++ lb) W fun e C=>(∃ v,e=.returned v)∧((∃ s,S s C∧J s C)∨∃ s,Jx s C)

theorem jV {α:Type} {P:Program} {n:Nat} {g:Operand} {ps:Array Tmp} {assign body:Code} {Q:Exit→Act→World→Prop} {a:Act} {w:World} (h1:1≤n) {gf:Nat} {lb:Array Value}
  (hg:a.eval g=.func (.func gf) #[] lb) (eg:∀ args w,(callFunc gf args).run P w=.ok (.enter gf args) w)
  {y:α→Array Value} {X:List α→α→World→Prop} {Sb T:Nat→Prop} {S:List α→World→Prop} (H:BB (n-1) P gf lb y X Sb T S w) (ad:∀ x,(y x).size=ps.size) (hSb:∀ b,Sb b→b<w.heap.size) (hT:∀ b,T b→b<w.heap.size)
  (hX:∀ m x A l o o',X m x A→A.heap[l]? = some o→o.isCells=false→X m x (A.putObj l o'))
  (I:List α→World→Prop) (Ix:Code→List α→World→Prop) (hI:LowT w.heap.size T I) (M:∀ c,m9 w.heap.size (Ix c)) (hS:m9 w.heap.size S) (h0:I [] w) (a₁:α→Act)
  (q:∀ (l:Nat) (x:α) (W:World) (K:Act→World→Prop),K (a₁ x) W→assign.wpIn (Fence.wide.inRound l) (n-1-1) P (Exit.then K (fun _ _ _=>False)) { tmps:=(ps.zip (y x)).foldl (fun t (p,v)=>t.setIfInBounds p v) a.tmps,defers:=[] } W)
  (hbody:∀ (l:Nat) (m:List α) (x:α) (W:World),I m W→X m x W→body.wpIn (Fence.wide.inRound l) (n-1-1) P (zd Sb I Ix (m ++ [x]) W) (a₁ x) W)
  (hdone:∀ (D:Nat) (s:List α) (W:World),w.heap.size≤D→S s W→I s W→W.heap[D]? = some (.deferred (some []))→Q .normal { a with defers:={ target:=.collected D,args:=#[] } :: a.defers } W)
  (hstop:∀ (D:Nat) (c:Code) (s:List α) (W:World),w.heap.size≤D→Ix c s W→W.heap[D]? = some (.deferred (some []))→c.wpIn Fence.wide n P Q { a with defers:={ target:=.collected D,args:=#[] } :: a.defers } W) :
  (Code.rangeFunc g ps assign body).wpIn Fence.wide n P Q a w:=by
 refine wpIn_rangeFunc fun fn aa=>?_
 obtain ⟨f,d⟩:∃ f:LoopState→Option Code→Loop,f=fun st pe=>{ state:=st,pending:=pe,fn,tmps:=a.tmps,params:=ps,assign,body,defers:=w.heap.size }:=⟨_,rfl⟩
 obtain ⟨W1,B⟩:∃ W1,W1=(w.alloc (.deferred (some []))).alloc (.loop (f .ready none)):=⟨_,rfl⟩
 have N:W1.heap.size=w.heap.size+2:=by rw [B];simp
 have O:Kept af w W1:=by rw [B];exact ((ai _ w).alloc _).alloc _
 have ae:Books w.heap.size (f .ready none) W1:=by
  rw [B];refine ⟨?_,(Below.heap_alloc _ _ _ (by simp)).trans (World.alloc_heap_new w _)⟩;have:=World.alloc_heap_new (w.alloc (.deferred (some []))) (.loop (f .ready none))
  rwa [World.size_alloc] at this
 refine ⟨w.heap.size+1,[{ target:=.collected w.heap.size,args:=#[] }],W1,{ target:=.fn (.func gf) lb,args:=#[.func (.yield (w.heap.size+1)) #[] #[]] },W1,gf,#[.func (.yield (w.heap.size+1)) #[] #[]] ++ lb,W1,?_,?_,fun _ _=>trivial,?_,fun _=>h1,?_⟩
 ·rw [B,d];exact run_enterLoop_outer _ _ _ _ _
 ·simp only [resolve,hg];simp [go_sem]
 ·simp [invoke,go_sem,eg]
 ·have z:∀ (j:Option Code) (A:World),Books w.heap.size (f .busy none) A→∃ C,(Instr.endRound (w.heap.size+1) j).run P A=.ok (.bool j.isNone) C∧Books w.heap.size (f (if j.isNone then .ready else .done) j) C∧Below w.heap.size A C∧Kept (fun b=>b=w.heap.size+1) A C∧∃ o',C=A.putObj (w.heap.size+1) o':=fun j A hb=>by
   refine ⟨_,run_endRound (P:=P) j hb.1,?_,gV _ (by omega),dF _ _ _,_,rfl⟩;have:=hb.put { f .busy none with state:=if j.isNone then .ready else .done,pending:=j };rw [d] at this ⊢;exact this
  have F:∀ {β:Type} {J:β→World→Prop} {r:Loop},LowT w.heap.size T J→LowT W1.heap.size T (fun s A=>J s A∧Books w.heap.size r A):=fun hJ s A C h k=>by
   rw [N] at k;refine ⟨hJ s A C h.1 (k.mono (fun x _ e=>?_)),?_⟩
   ·rcases e with e | e
    ·exact .inl e
    ·exact .inr (by omega)
   ·have hl:=h.2.lt;refine ⟨(k.block _ (by omega) ?_).trans h.2.1,(k.block _ (by omega) ?_).trans h.2.2⟩
    all_goals
     rintro (e | e)
     ·have:=hT _ e;omega
     ·omega
  refine (H (w.heap.size+1) (fun s A=>I s A∧Books w.heap.size (f .ready none) A) (fun s A=>∃ c,Ix c s A∧Books w.heap.size (f .done (some c)) A) W1 O rfl N (F hI) ?_ ⟨hI.below h0 (fi O (leR _)),ae⟩).mono ?_
  ·rintro m x A ⟨hi,hb⟩ hx;have hy:=run_yield (P:=P) (args:=y x) hb.1 (by rw [d];exact ad x);rw [d] at hy;refine ⟨fn,_,assign,body,hy,roundIn_of_wpIn aa (q _ x A _ ⟨_,run_beginRound hb.1 (by rw [d]),?_⟩)⟩;have Y:=hb.put { f .ready none with state:=.busy };have ag:=hX m x A _ _ (.loop { f .ready none with state:=.busy }) hx hb.1 rfl;have Z:=hI.below hi (gV (l:=w.heap.size+1) (.loop { f .ready none with state:=.busy }) (by omega));have R:=dF A (w.heap.size+1) (.loop { f .ready none with state:=.busy })
   have G:∀ C,Kept Sb (A.putObj (w.heap.size+1) (.loop { f .ready none with state:=.busy })) C→Books w.heap.size (f .busy none) C:=fun C k=>by
    have:=Y.kept k hSb;rw [d] at this ⊢;exact this
   refine wpIn_mono (hbody _ m x _ Z ag) ?_;generalize A.putObj (w.heap.size+1) (.loop { f .ready none with state:=.busy })=A2 at *;have E:∀ (c:Code) (C:World),Kept Sb A2 C→Ix c (m ++ [x]) C→∃ v C',(Instr.endRound (w.heap.size+1) (some c)).run P C=.ok v C'∧((Ending.returned v=.returned (.bool true)∧(I (m ++ [x]) C'∧Books w.heap.size (f .ready none) C')∧Kept (fun b=>Sb b∨b=w.heap.size+1∨b+1=w.heap.size+1) A C')∨(Ending.returned v=.returned (.bool false)∧∃ c,Ix c (m ++ [x]) C'∧Books w.heap.size (f .done (some c)) C')):=fun c C k hc=>by
    obtain ⟨C',hr,L,_,_,o',rfl⟩:=z (some c) C (G C k);exact ⟨_,_,hr,.inr ⟨rfl,c,M c _ _ _ _ o' hc (by omega) (G C k).1 rfl,L⟩⟩
   rintro e a3 C hp;cases e with
   | normal=>
    obtain ⟨k,V⟩:=hp;obtain ⟨C',hr,L,ac,U,_⟩:=z none C (G C k);exact ⟨_,_,hr,.inl ⟨rfl,⟨hI.below V ac,L⟩,((R.mono (fun _ _ e=>.inr (.inl e))).next k (fun _ _ e=>.inl e)).next U (fun _ _ e=>.inr (.inl e))⟩⟩
   | ret=>exact E _ C hp.1 hp.2
   | exit i=>exact E _ C hp.1 hp.2
   | goto t=>exact E _ C hp.1 hp.2
   | panic c=>exact hp.elim
   | outgrown=>exact hp.elim
  ·rintro e C ⟨⟨v,rfl⟩,(⟨s,ab,hi,hb⟩ | ⟨s,c,hi,hb⟩)⟩
   ·refine ⟨_,_,run_endLoop (P:=P) hb.1 (by rw [d];simp),?_⟩;rw [d] at hb ⊢;exact hdone _ s _ (leR _) (hS _ _ _ _ _ ab (by omega) hb.1 rfl) (hI.below hi (gV _ (by omega))) ((World.putObj_heap_other (by omega)).trans hb.2)
   ·refine ⟨_,_,run_endLoop (P:=P) hb.1 (by rw [d];simp),?_⟩;rw [d] at hb ⊢;exact hstop _ c s _ (leR _) (M c _ _ _ _ _ hi (by omega) hb.1 rfl) ((World.putObj_heap_other (by omega)).trans hb.2)

open Go.Shelf

def sI:Go.Shelf.Ren:=⟨fun | 129=>132 | n=>n,fun | 53=>23 | 3=>3 | 4=>4 | 46=>68 | 5=>5 | 9=>9 | n=>n,fun n=>n⟩

theorem Ak:Lays.n129 Tryz.prog sI:={
 mixed:=by kernel_rfl,
 f129:=Tryz.func132.trans (congrArg some (by kernel_rfl)),
 t3:=Tryz.underlying3,
 a3:=Tryz.isAgg3,
 z3:=Tryz.sizeOf3,
 v3:=Tryz.zeroValue3,
 t4:=Tryz.underlying4,
 a4:=Tryz.isAgg4,
 z4:=Tryz.sizeOf4,
 v4:=Tryz.zeroValue4,
 t5:=Tryz.underlying5,
 a5:=Tryz.isAgg5,
 z5:=Tryz.sizeOf5,
 v5:=Tryz.zeroValue5,
 t9:=Tryz.underlying9,
 a9:=Tryz.isAgg9,
 z9:=Tryz.sizeOf9,
 v9:=Tryz.zeroValue9,
 t46:=Tryz.underlying68,
 a46:=Tryz.isAgg68,
 z46:=Tryz.sizeOf68,
 v46:=Tryz.zeroValue68,
 t53:=Tryz.underlying23,
 a53:=Tryz.isAgg23,
 z53:=Tryz.sizeOf23,
 v53:=Tryz.zeroValue23 }

open Go.RowKit

theorem pA (v:Value) (zs:List Nat) (w:World) (h:Row .u64 w v zs) :
  Calls Tryz.prog 131 #[v] w fun r w'=>∃ m v',r=.returned v'∧m≤zs.length∧Row .u64 w v' (zs.take m)∧(∀ i,m≤i→zs.getD i 0=0)∧(m=0∨zs.getD (m-1) 0≠0)∧v'.ownBlock=v.ownBlock∧(∃ ao n cap,v=.slice ao n cap∧v'=.slice ao m cap)∧w'=w:=by
 have hcut:=fun ao n cap (e:v=.slice ao n cap) m (hm:m≤zs.length)=>(show Row .u64 w (.slice ao n cap) zs from e ▸ h).cut hm
 obtain ⟨ao,n,cap,rfl,hN,h1,h2,h3,h4⟩:=h.open;have HC:Hid (∀ m,m≤n→Row .u64 w (.slice ao m cap) (zs.take m)):=fun m hm=>hcut ao n cap rfl m (by have:=hN.out;omega)
 have HL:Hid (∀ i,n≤i→zs.getD i 0=0):=fun i hi=>by have:=hN.out;rw [List.getD_eq_getElem?_getD,List.getElem?_eq_none (by omega)];rfl
 clear hcut h h3;go_enter Tryz.func131,Tryz.ntmps131;go_wp2_with fail;go_loop [0] (fun a=>∃ m:Nat,m≤n∧a=.slice ao m cap∧Hid (∀ i,m≤i→zs.getD i 0=0)) (fun a=>ow a)
 case atStart=>exact ⟨n,leR _,rfl,HL⟩
 case round=>
  obtain ⟨m,hm,rfl,hz⟩:=hrel;cases m with
  | zero=>
   clear h4;go_wp2;go_ret;exact ⟨0,_,rfl,Nat.zero_le _,HC.out 0 (Nat.zero_le _),hz.out,.inl rfl,jC ao 0 n cap,⟨ao,n,cap,⟨rfl,rfl,rfl⟩,rfl⟩,rfl⟩
  | succ j=>
   obtain ⟨b,off,rfl,hc⟩:=h4 j (by omega);obtain ⟨z,c⟩:∃ z,z=zs.getD j 0:=⟨_,rfl⟩
   rw [← c] at hc;have HZ:Hid (z=zs.getD j 0):=c;clear c h4;by_cases h0:z=0
   ·have d:((z:Int) == 0)=true:=by simp [h0]
    subst h0;go_wp2;go_round
    case rel=>exact ⟨j,by omega,rfl,fun i hi=>by
     by_cases e:i=j
     ·subst e;exact HZ.out.symm
     ·exact hz.out i (by omega)⟩
    case measure=>simp [ow]
   ·have f:Hid (zs.getD (j+1-1) 0≠0):=by
     unfold Hid;rw [Nat.add_sub_cancel,← HZ.out];exact h0
    have d:((z:Int) == 0)=false:=by simp;omega
    have g:¬ ((z:Int)=0):=by omega
    go_wp2;go_ret;exact ⟨j+1,_,rfl,by have:=hN.out;omega,HC.out _ hm,hz.out,.inr f.out,jC _ _ _ _,⟨_,_,_,⟨rfl,rfl,rfl⟩,rfl⟩,rfl⟩

theorem jd {ds:List Nat} (hd:Digs ds) (ht:dI ds):ds.length=aj (val ds):=by
 have h1:=(ei (by omega) hd ht (aj (val ds))).2 ((am _ _).1 (leR _));have h2:=(am (val ds) ds.length).2 ((ei (by omega) hd ht _).1 (leR _));omega

theorem yY (v:Value) (xs:List Nat) (w:World) (h:Row .u64 w v xs) (hd:Digs xs) :
  Calls Tryz.prog 131 #[v] w fun r w'=>∃ v' ys,r=.returned v'∧Row .u64 w v' ys∧Digs ys∧dI ys∧val ys=val xs∧Hid (ys.length=aj (val xs))∧ys.length≤xs.length∧v'.ownBlock=v.ownBlock∧w'=w:=by
 refine (pA v xs w h).mono ?_;rintro e w' ⟨m,v',rfl,hm,hr,hz,ht,ho,_,rfl⟩;have e1:=eh (B:=18446744073709551616) hm hz;have t1:=dY hm ht;refine ⟨v',xs.take m,rfl,hr,hd.take m,t1,e1,?_,by rw [List.length_take];omega,ho,rfl⟩;have:=jd (hd.take m) t1;rw [e1] at this;exact this

theorem qh (n:Int) (w:World):Calls Tryz.prog 150 #[.int .i64 n] w fun r w'=>r=.returned (.int .i64 (if 300<n then 2 else if n<0 then 1 else 0))∧w'=w:=by
 by_cases h1:300<n
 ·rw [if_pos h1];go_enter Tryz.func150,Tryz.ntmps150;go_wp2;go_ret;exact ⟨rfl,rfl⟩
 ·rw [if_neg h1];by_cases h2:n<0
  ·rw [if_pos h2];go_enter Tryz.func150,Tryz.ntmps150;go_wp2;go_ret;exact ⟨rfl,rfl⟩
  ·rw [if_neg h2];go_enter Tryz.func150,Tryz.ntmps150;go_wp2;go_ret;exact ⟨rfl,rfl⟩

theorem gU (x:Nat) (h:x<18446744073709551616):Lib.bitLen x=au x:=by
 by_cases h0:x=0
 ·subst h0;rfl
 ·obtain ⟨a,b,c⟩:=Lib.bitLenAux_bounds 64 x h h0;unfold Lib.bitLen;have h1:=(aA x _).2 c;have h2:¬ au x≤Lib.bitLenAux 64 x-1:=fun k=>by have:=(aA x _).1 k;omega
  omega

theorem tr {ys:List Nat} (hd:Digs ys) (ht:dI ys) (hn:0<ys.length):au (val ys)=64*(ys.length-1)+au (ys.getD (ys.length-1) 0):=by
 have e:=aw 18446744073709551616 ys (ys.length-1) (by omega);have a:ys.drop (ys.length-1)=[ys.getD (ys.length-1) 0]:=by
  rw [List.drop_eq_getElem_cons (by omega),List.drop_eq_nil_of_le (by omega),List.getD_eq_getElem?_getD,List.getElem?_eq_getElem (by omega)];rfl
 rw [a] at e;have b:val (ys.take (ys.length-1))<18446744073709551616^(ys.length-1):=by
  have:=aq (by omega) (hd.take (ys.length-1))
  rwa [List.length_take,Nat.min_eq_left (by omega)] at this
 have d:ys.getD (ys.length-1) 0≠0:=by
  rcases ht with h | h
  ·omega
  ·exact h
 simp only [val,Nat.mul_zero,Nat.add_zero] at e;generalize ys.getD (ys.length-1) 0=y at *;generalize ys.length-1=k at *;generalize val (ys.take k)=L at *;generalize val ys=V at *;have hB:(18446744073709551616:Nat)^k=2^(64*k):=by rw [Nat.pow_mul]
 rw [hB] at e b;generalize hM:au y=M;have h1:y<2^M:=(aA _ _).1 (by omega);have h2:2^(M-1)≤y:=by
  have:¬ au y≤M-1:=by
   have:0<au y:=by
    rcases Nat.eq_zero_or_pos (au y) with z | z
    ·have:=(aA y 0).1 (by omega);omega
    ·exact z
   omega
  have:=mt (aA y (M-1)).2 this;omega
 have f:1≤M:=by
  rcases Nat.eq_zero_or_pos M with z | z
  ·rw [z] at h1;omega
  ·exact z
 have u1:V<2^(64*k+M):=by
  rw [Nat.pow_add];have:2^(64*k)*(y+1)≤2^(64*k)*2^M:=Nat.mul_le_mul_left _ h1;rw [Nat.mul_add,Nat.mul_one] at this;omega
 have u2:2^(64*k+(M-1))≤V:=by
  rw [Nat.pow_add];have:2^(64*k)*2^(M-1)≤2^(64*k)*y:=Nat.mul_le_mul_left _ h2;omega
 have h3:=(aA V _).2 u1;have h4:¬ au V≤64*k+(M-1):=fun c=>by have:=(aA V _).1 c;omega
 omega

theorem dG (v:Value) (xs:List Nat) (w:World) (h:Row .u64 w v xs) (hd:Digs xs) (hl:xs.length≤100000000) :
  Calls Tryz.prog 91 #[v] w fun r w'=>r=.returned (.int .i64 (au (val xs):Nat))∧w'=w:=by
 have hN:=yY v xs w h hd;obtain ⟨R,hR⟩:∃ R,R=au (val xs):=⟨_,rfl⟩
 rw [← hR];have HR:Hid (R=au (val xs)):=hR;clear hR;go_enter Tryz.func91,Tryz.ntmps91;go_wp2_with fail;refine hN.mono ?_;rintro e w' ⟨v',ys,rfl,hr,c,d,hv,_,l,_,rfl⟩;rw [← hv] at HR;obtain ⟨ao,n,cap,rfl,hL,h1,h2,h3,h4⟩:=hr.open;cases n with
 | zero=>
  obtain rfl:ys=[]:=List.eq_nil_of_length_eq_zero hL.out;clear h4 hL;go_wp2;go_ret;exact ⟨by rw [HR.out];rfl,rfl⟩
 | succ j=>
  have hb:=tr c d (by have:=hL.out;omega);have hj:ys.length-1=j:=by have:=hL.out;omega
  rw [hj] at hb;have m:j<100000000:=by have:=hL.out;omega
  obtain ⟨b,off,rfl,hc⟩:=h4 j (by omega);have hy:ys.getD j 0<18446744073709551616:=c.getD (by omega) j;rw [hb] at HR;generalize ys.getD j 0=y at *;have f:au y≤64:=(aA y 64).2 hy;have a:=Any.bits_Len64 Ak (y:Int) w' (by omega) (by omega);rw [show ((y:Int).toNat)=y from rfl,gU y hy] at a;clear h4 hb hv hr c d hN h hd;have g:wrap64 ((j:Int)+1-1)=j:=by simp [wrap64];omega
  have k:wrap64 (64*(j:Int))=64*j:=by simp [wrap64];omega
  have i:wrap64 (64*(j:Int)+(au y:Nat))=64*j+(au y:Nat):=by simp [wrap64];omega
  generalize au y=M at *;go_wp2_with fail;refine a.mono ?_;rintro e w' ⟨rfl,rfl⟩;go_wp2;go_ret;exact ⟨by rw [HR.out];simp,rfl⟩

theorem fL (x m:Nat) (hx:x<18446744073709551616):digs x (m+1)=x :: List.replicate m 0:=by
 refine (aW (by omega) (B:=18446744073709551616) (l:=x :: List.replicate m 0) (V:=x) (n:=m+1) ?_ (by simp) ?_).symm
 ·intro d hd;rcases List.mem_cons.1 hd with rfl | hd
  ·exact hx
  ·rw [List.mem_replicate] at hd;omega
 ·have hz:val (List.replicate m 0)=0:=cN _ (fun d hd=>(List.mem_replicate.1 hd).2);rw [al (Nat.lt_of_lt_of_le hx (by rw [Nat.pow_succ];exact Nat.le_mul_of_pos_left _ (Nat.pow_pos (by omega))))];simp only [val,hz];omega

def tU:Go.Shelf.Ren:=⟨fun | 122=>158 | 215=>203 | n=>n,fun | 3=>3 | 4=>4 | n=>n,fun n=>n⟩

theorem Ck:Lays.n122 Tryz.prog tU:={
 mixed:=by kernel_rfl,
 f122:=Tryz.func158.trans (congrArg some (by kernel_rfl)),
 f215:=Tryz.func203.trans (congrArg some (by kernel_rfl)),
 t3:=Tryz.underlying3,
 a3:=Tryz.isAgg3,
 z3:=Tryz.sizeOf3,
 v3:=Tryz.zeroValue3,
 t4:=Tryz.underlying4,
 a4:=Tryz.isAgg4,
 z4:=Tryz.sizeOf4,
 v4:=Tryz.zeroValue4 }

theorem ll (x:Nat) (hx:x<18446744073709551616) (n:Int) (w:World) :
  Calls Tryz.prog 79 #[.int .u64 x,.int .i64 n] w fun r w'=>∃ v',r=.returned v'∧Row .u64 w' v' (digs x (dg n))∧Kept af w w':=by
 obtain ⟨i0,i,f,g,b⟩:=info_parts Tryz.info23;obtain ⟨m,hm⟩:∃ m,dg n=m+1:=⟨dg n-1,by unfold dg;omega⟩
 have hb:m+1≤300:=by rw [← hm];unfold dg;omega
 have hc:min (max n 1) 300=((m+1:Nat):Int):=by rw [← hm];unfold dg;omega
 rw [hm,fL x m hx];clear hm;go_enter Tryz.func79,Tryz.ntmps79;go_wp2_with (at_make;refine wpList_make_full _ rfl _ _ 32 rfl w.heap.size 23 i0 _ 1 Tryz.underlying32 i f g _ _ _ _ (m+1) rfl rfl (by first | exact hc | rfl) (by first | exact hc | rfl) (by rw [b];omega) (by unfold maxLen;omega) (leR _) ?_;intro w1 a c;rw [aG] at a;have k1:=aD c;have j:w1.cell? ⟨w.heap.size,0,none⟩=some (.int .u64 0):=(by rw [World.ownsRow.cellAt a 0 (by omega)];rfl);have hf:=World.ownsRow.frozenAt a 0;have d:=(World.ownsRow.stored a 0 (.int .u64 (x:Nat))).1);go_ret;refine ⟨_,rfl,Row.of_own (base:=w.heap.size) (e:=23) ?_,k1.setCell _ (fun h=>by simp at h) _⟩
 simpa [List.replicate_succ] using d

theorem Ah (v:Value) (xs:List Nat) (i:Int) (w:World) (h:Row .u64 w v xs) (hd:Digs xs) (hi:i≤9223372036854775807) :
  Calls Tryz.prog 133 #[v,.int .i64 i] w fun r w'=>r=.returned (.int .u64 (nj (val xs) i:Nat))∧w'=w:=by
 obtain ⟨ao,n,cap,rfl,hL,h1,h2,h3,h4⟩:=h.open;by_cases hi0:i<0
 ·rw [show nj (val xs) i=0 from if_pos hi0];clear h4 h hd;go_enter Tryz.func133,Tryz.ntmps133;go_wp2;go_ret;exact ⟨rfl,rfl⟩
 ·obtain ⟨j,rfl⟩:=Int.eq_ofNat_of_zero_le (show 0≤i by omega);rw [fg,← kL,aR (by omega) hd];by_cases hlt:j/64<n
  ·obtain ⟨b,off,rfl,hc⟩:=h4 (j/64) hlt;have hx:xs.getD (j/64) 0<18446744073709551616:=hd.getD (by omega) _;clear h4 h hd;generalize xs.getD (j/64) 0=x at *;have g1:(j:Int)/64<(n:Int):=by omega
   have g2:(0:Int)≤(j:Int)/64:=by omega
   have g3:((j:Int)/64).toNat=j/64:=by omega
   have hy:=Nat.div_le_self x (2^(j%64));have a:Hid (bits .and .u64 ((x:Int)/2^(j%64)) 1=((x/2^(j%64)%2:Nat):Int)):=by
    unfold Hid;have e:(x:Int)/2^(j%64)=((x/2^(j%64):Nat):Int):=by simp
    rw [e];generalize x/2^(j%64)=Y at *;rw [and_one_u64 (Y:Int) (by omega) (by omega)];omega
   clear hy;generalize x/2^(j%64)%2=R at *;go_enter Tryz.func133,Tryz.ntmps133;go_wp2;go_ret;refine ⟨?_,rfl⟩;show Ending.returned (Value.int .u64 (bits .and .u64 ((x:Int)/2^(j%64)) 1))=_
   rw [a.out]
  ·have hz:xs.getD (j/64) 0=0:=by have:=hL.out;rw [List.getD_eq_getElem?_getD,List.getElem?_eq_none (by omega)];rfl
   rw [hz,Nat.zero_div];have g1:¬ (j:Int)/64<(n:Int):=by omega
   clear h4 h hd;go_enter Tryz.func133,Tryz.ntmps133;go_wp2;go_ret;exact ⟨rfl,rfl⟩

theorem nF (v:Value) (xs:List Nat) (n:Int) (w:World) (h:Row .u64 w v xs) (hd:Digs xs) :
  Calls Tryz.prog 107 #[v,.int .i64 n] w fun r w'=>∃ v',r=.returned (.tuple #[v',.int .i64 (aU (val xs) n)])∧Row .u64 w' v' (bj (val xs) n)∧(∀ b,v'.ownBlock=some b→w.heap.size≤b)∧Kept af w w':=by
 obtain ⟨i0,x,D,y,F⟩:=info_parts Tryz.info23;have hE:=qh n w;have hN:=yY v xs w h hd;by_cases h1:300<n
 ·obtain ⟨e1,e2⟩:=nG (V:=val xs) h1;rw [e1,e2];rw [if_pos h1] at hE;go_enter Tryz.func107,Tryz.ntmps107;go_wp2_with fail;refine hE.mono ?_;rintro e w' ⟨rfl,rfl⟩;go_wp2;go_ret2;exact ⟨_,rfl,Row.nil _ _,(fun b hb=>by cases hb),ai _ _⟩
 ·rw [if_neg h1] at hE;by_cases h2:n<0
  ·obtain ⟨e1,e2⟩:=gW (V:=val xs) h1 (.inl h2);rw [e1,e2];rw [if_pos h2] at hE;go_enter Tryz.func107,Tryz.ntmps107;go_wp2_with fail;refine hE.mono ?_;rintro e w' ⟨rfl,rfl⟩;go_wp2;go_ret2;exact ⟨_,rfl,Row.nil _ _,(fun b hb=>by cases hb),ai _ _⟩
  ·rw [if_neg h2] at hE;obtain ⟨m,rfl⟩:=Int.eq_ofNat_of_zero_le (show 0≤n by omega);obtain ⟨RC,g⟩:∃ RC,RC=aU (val xs) (m:Int):=⟨_,rfl⟩
   obtain ⟨RL,l⟩:∃ RL,RL=bj (val xs) (m:Int):=⟨_,rfl⟩
   rw [← g,← l];have HC:Hid (RC=aU (val xs) (m:Int)):=g;have HL:Hid (RL=bj (val xs) (m:Int)):=l;clear g l;go_enter Tryz.func107,Tryz.ntmps107;go_wp2_with fail;refine hE.mono ?_;rintro e w' ⟨rfl,rfl⟩;go_wp2_with fail;refine hN.mono ?_;rintro e w' ⟨v',ys,rfl,hr,B,I,hv,i,_,_,rfl⟩;obtain ⟨ao,q,cap,rfl,hL,g1,g2,g3,g4⟩:=hr.open;have hq:q=aj (val xs):=by rw [← hL.out];exact i.out
   by_cases h3:q≤m
   ·obtain ⟨e1,e2⟩:=i8 (V:=val xs) (n:=m) (by omega) (by omega);have A:¬ (q:Int) > (m:Int):=by omega
    rw [e1] at HC;rw [e2,ef B hv (by rw [hL.out];exact h3)] at HL;obtain ⟨CS,d⟩:∃ CS,CS=ys.map (fun z:Nat=>Value.int .u64 (z:Int)):=⟨_,rfl⟩
    have o:CS.length=q:=by rw [d,List.length_map];exact hL.out
    have E:Hid (CS=ys.map (fun z:Nat=>Value.int .u64 (z:Int))):=d;have a:∀ u ∈ CS,u.oneCell'=true:=by
     intro u hu;rw [d] at hu;obtain ⟨z,_,rfl⟩:=List.mem_map.1 hu;rfl
    have c:∀ W,Kept af w' W→0<CS.length→∃ ad,ao=some ad∧∀ j u,CS[j]? = some u→W.cell? (ad.add j)=some u:=by
     intro W hk hp;obtain ⟨b,off,rfl,_⟩:=g4 0 (by omega);refine ⟨_,rfl,fun j u hu=>?_⟩;have hj:j<q:=by
      have:=(List.getElem?_eq_some_iff.1 hu).1;omega
     obtain ⟨b',G,e,hc⟩:=(g4 j hj).grew hk;simp only [Option.some.injEq,Addr.mk.injEq] at e;obtain ⟨rfl,rfl,_⟩:=e;rw [d,List.getElem?_map,List.getElem?_eq_getElem (by rw [hL.out];exact hj)] at hu;rw [show (⟨b,off,none⟩:Addr).add j=⟨b,off+j,none⟩ by simp [Addr.add],hc,← hu,List.getD_eq_getElem?_getD,List.getElem?_eq_getElem (by rw [hL.out];exact hj)];rfl
    have HP:Hid (∀ W,Kept af w' W→0<CS.length→∃ ad,ao=some ad∧∀ j u,CS[j]? = some u→W.cell? (ad.add j)=some u):=c;have HO:Hid (∀ u ∈ CS,u.oneCell'=true):=a;have s:Hid (CS.length=q):=o;clear d g4 hr hN h hE c a o hq hv e1 e2
    go_wp2_with (at_make;refine wpList_make_full _ rfl _ _ 32 rfl w'.heap.size 23 i0 _ 1 Tryz.underlying32 x D y _ _ _ _ m rfl rfl rfl rfl (by rw [F];omega) (by unfold maxLen;omega) (leR _) ?_;intro w1 k p;rw [aG] at k;have k1:=aD p;obtain ⟨w2,C,t,k2⟩:=df (P:=Tryz.prog) 32 32 3 23 w'.heap.size 0 m m (some ⟨w'.heap.size,0,none⟩) ao q cap _ 23 CS Tryz.underlying32 (by rw [x];simp [y]) (et k) (by rw [s.out];exact (Nat.min_eq_left h3).symm) (fun hp=>⟨rfl,HP.out _ k1 hp⟩) (by have:=s.out;simp;omega) HO.out;have H:Hid _:=t;clear t k p);go_ret2;have f:=H.out;rw [E.out,dU] at f;rw [HC.out,HL.out]
    exact ⟨_,rfl,Row.of_block f (by simp [hL.out];omega) (by unfold maxLen;omega),(fun b hb=>by simp [Value.ownBlock] at hb;omega),cP k1 k2 (leR _)⟩
   ·obtain ⟨e1,e2⟩:=gW (V:=val xs) (n:=(m:Int)) (by omega) (.inr (by simp;omega));have A:(q:Int) > (m:Int):=by omega
    rw [e1] at HC;rw [e2] at HL;clear g4 hr hN h hE hq hv;go_wp2;go_ret2;rw [HC.out,HL.out];exact ⟨_,rfl,Row.nil _ _,(fun b hb=>by cases hb),ai _ _⟩

theorem qg (v:Value) (xs:List Nat) (n:Int) (w:World) (h:Row .u64 w v xs) (hd:Digs xs) :
  Calls Tryz.prog 107 #[v,.int .i64 n] w fun r w'=>∃ v',r=.returned (.tuple #[v',.int .i64 (aU (val xs) n)])∧Row .u64 w' v' (bj (val xs) n)∧Kept af w w':=
 (nF v xs n w h hd).mono fun _ _ ⟨v',e,hr,_,k⟩=>⟨v',e,hr,k⟩

def KeepB (S:Nat→Prop) (W W':World):Prop:=∀ k,S k→W'.heap[k]? = W.heap[k]?

theorem KeepB.refl (S:Nat→Prop) (W:World):KeepB S W W:=fun _ _=>rfl

theorem KeepB.trans {S:Nat→Prop} {A B C:World} (h:KeepB S A B) (k:KeepB S B C):KeepB S A C:=fun i hi=>(k i hi).trans (h i hi)

theorem KeepB.put {S:Nat→Prop} {w:World} (hS:∀ k,S k→k<w.heap.size) (W:World) (l:Nat) (o o':Obj) (hl:w.heap.size≤l) (_:W.heap[l]? = some o) (_:o.isCells=false) (_:o.isWalk=false):KeepB S W (W.putObj l o'):=fun k hk=>
 World.putObj_heap_other (fun e=>by have:=hS k hk;omega)

theorem KeepB.cell {S:Nat→Prop} {W W':World} (h:KeepB S W W') {p:Addr} (hp:S p.block):W'.cell? p=W.cell? p:=World.cell?_of_block (h p.block hp)

theorem KeepB.row {S:Nat→Prop} {k:IntKind} {W W':World} {v:Value} {zs:List Nat} (h:KeepB S W W') (hs:∀ b,v.ownBlock=some b→0<zs.length→S b) (hr:Row k W v zs):Row k W' v zs:=by
 obtain ⟨ao,cap,rfl,h1,h2,h3,h4⟩:=hr;refine ⟨ao,cap,rfl,h1,h2,h3,fun i hi=>?_⟩;obtain ⟨b,off,rfl,hc⟩:=h4 i hi;exact ⟨b,off,rfl,(h.cell (p:=⟨b,off+i,none⟩) (hs b rfl (by omega))).trans hc⟩

theorem zf {W:World} {a:Addr} {v:Value} (o:Obj) (h:W.cell? a=some v):(W.alloc o).cell? a=some v:=cell_kept h (World.grownBy_alloc W o none) (fun r e=>by cases e)

theorem xg {W:World} {a:Addr} {v:Value} (o:Obj) (h:W.cell? a=some v) (hf:W.frozen? a=false):(W.alloc o).frozen? a=false:=(frozen_kept h (World.grownBy_alloc W o none) (fun r e=>by cases e)).trans hf

def Turn (B:Nat) (W W':World):Prop:=∃ row,W.grownBy W' row∧∀ r,row=some r→B≤r∧∃ o:Obj,W.heap[r]? = some o∧o.isCells=false

theorem mK {W W':World} {b:Option Nat} {base a n:Nat} {e:TypeId} {v:Value} {xs:List Value} (h:W.ownsRow base e a v n xs) (hg:W.grownBy W' b) (hr:∀ r,b=some r→∃ o:Obj,W.heap[r]? = some o∧o.isCells=false):W'.ownsRow base e a v n xs:=by
 refine ⟨h.1,?_⟩;rcases h.2 with h1 | ⟨g,cap,cur,e1,hb,hblk,h4⟩
 ·exact .inl h1
 ·refine .inr ⟨g,cap,cur,e1,hb,?_,h4⟩;rw [hg.block g (Array.getElem?_eq_some_iff.1 hblk).1 ?_]
  ·exact hblk
  ·intro e;obtain ⟨o,ho,hc⟩:=hr g e.symm;rw [hblk] at ho;cases ho
   cases hc

theorem oG {W W':World} {a:Option Nat} {B:Nat} {t:TypeId} {v:Value} (h:Boxed W B t v) (hg:W.grownBy W' a) (hr:∀ r,a=some r→∃ o:Obj,W.heap[r]? = some o∧o.isCells=false):Boxed W' B t v:=h.kept hg (fun e=>by
 obtain ⟨o,ho,hc⟩:=hr B e.symm;have hb:W.heap[B]? = some _:=h;rw [hb] at ho;cases ho
 cases hc)

theorem Turn.cells {B:Nat} {W W':World} (t:Turn B W W') {b:Nat} {c:Array Value} {ty:TypeId} {f:Nat × Nat} (h:W.heap[b]? = some (.cells c ty f)):W'.heap[b]? = some (.cells c ty f):=by
 obtain ⟨a,hg,hr⟩:=t;rw [hg.block b (Array.getElem?_eq_some_iff.1 h).1 ?_]
 ·exact h
 ·intro e;obtain ⟨_,o,ho,hc⟩:=hr b e.symm;rw [h] at ho;cases ho
  cases hc

theorem Turn.kept {B:Nat} {S:Nat→Prop} {w W W':World} (t:Turn B W W') (k:Kept S w W) (hB:w.heap.size≤B):Kept S w W':=by
 obtain ⟨a,hg,hr⟩:=t;exact k.grown hg (fun b e hb=>by have:=(hr b e).1;omega)

theorem Turn.cell {B:Nat} {W W':World} (t:Turn B W W') {a:Addr} {v:Value} (h:W.cell? a=some v):W'.cell? a=some v:=by
 obtain ⟨b,hg,hr⟩:=t;exact cell_kept h hg (fun r e=>(hr r e).2)

theorem Turn.row {B:Nat} {W W':World} (t:Turn B W W') {k:IntKind} {v:Value} {zs:List Nat} (h:Row k W v zs):Row k W' v zs:=by
 obtain ⟨ao,cap,rfl,h1,h2,h3,h4⟩:=h;refine ⟨ao,cap,rfl,h1,h2,h3,fun i hi=>?_⟩;obtain ⟨b,off,rfl,hc⟩:=h4 i hi;exact ⟨b,off,rfl,t.cell hc⟩

theorem sX {B D:Nat} {W:World} {o:Obj} (hD:B≤D) (hK:W.heap[D]? = some o) (ho:o.isCells=false) (o':Obj):Turn B W (W.putObj D o'):=
 ⟨some D,grownBy_putObj' W D o',fun r e=>by cases e;exact ⟨hD,o,hK,ho⟩⟩

theorem lL {β:Type} {B:Nat} {I:β→World→Prop} (h:∀ s W W',I s W→Turn B W W'→I s W'):OwnFrom B I:=fun s W W' a hs hg hr=>h s W W' hs ⟨a,hg,hr⟩

theorem jQ {B:Nat} {S:Nat→Prop} {W W':World} (k:Kept S W W') (hS:∀ b,S b→B≤b→∃ c ty f,W.heap[b]? = some (.cells c ty f)):KeepsFrom B W W':=
 ⟨k.size,fun b o hb hk ho=>by
  rw [← hk];refine k.block b (Array.getElem?_eq_some_iff.1 hk).1 (fun hs=>?_);obtain ⟨c,ty,f,h⟩:=hS b hs hb;rw [h] at hk;cases hk
  cases ho⟩

attribute [local go_sem] Oper.semAt_some

def cE (L:Nat) (r:Nat):List Nat:=(List.range (L-r)).map fun j=>L-1-j

theorem nJ (L:Nat):cE L L=[]:=by simp [cE]

theorem fX {L j:Nat} (h:j<L):cE L j=cE L (j+1) ++ [j]:=by
 unfold cE;rw [show L-j=(L-(j+1))+1 by omega,List.range_succ,List.map_append,List.map_singleton,show L-1-(L-(j+1))=j by omega]

theorem km (L r:Nat):(cE L r).length=L-r:=by simp [cE]

theorem Bd (F:Fence) (n:Nat) (hf:F.fn 204) (y:F.round=none) (hn:1≤n) (l Bs L:Nat) (g:Nat→Nat) (v:Value) (zs:List Nat) (hL:Hid (zs.length=L)) (hg:Hid (∀ j,zs.getD j 0=g j)) (S:Nat→Prop) (hS:S Bs) (w:∀ b,v.ownBlock=some b→0<L→S b)
  (J Jx:List (Fin L)→World→Prop)
  (hY:∀ a (x:Fin L) W,J a W→a.length<L→YieldAt F (n-1) Tryz.prog l #[.int .i64 (x.val:Nat),.int .u64 (g x.val:Nat)] W fun e W'=>
   (e=.returned (.bool true)∧J (a ++ [x]) W'∧KeepB S W W')∨(e=.returned (.bool false)∧Jx (a ++ [x]) W'))
  (W:World) (A:W.cell? ⟨Bs,0,none⟩=some v) (hr:Row .u64 W v zs) (h0:J [] W) :
  CallsIn F n Tryz.prog 204 #[.func (.yield l) #[] #[],.pointer (some ⟨Bs,0,none⟩)] W fun e W'=>(∃ v,e=.returned v) ∧
   ((∃ ys,ys.map Fin.val=cE L 0∧J ys W')∨(∃ a,(∃ r,r<L∧a.map Fin.val=cE L r)∧Jx a W')):=by
 obtain ⟨ao,m,cap,rfl,hN,c1,c2,c3,f⟩:=hr.open;obtain rfl:m=L:=by rw [← hN.out];exact hL.out
 have d:Hid (∀ i,i<m→NumAt .u64 W ao zs i):=f;clear f hr;refine callsIn_of_wp Tryz.func204 rfl hf ?_ y;simp only [Tryz.ntmps204,List.size_toArray,List.length_cons,List.length_nil,Nat.reduceAdd,Nat.reduceSub,Array.replicate_succ,Array.replicate_zero,List.push_toArray,List.append_toArray,List.nil_append,List.cons_append]
 gi_wp2
 gi_loopw [3] (fun i wr=>∃ r:Nat,r≤m∧i=.int .i64 ((r:Int)-1)∧(∃ a:List (Fin m),Hid (a.map Fin.val=cE m r)∧J a wr)∧KeepB S W wr)
  (fun i _=>(intOf i+1).toNat)
 case atStart=>exact ⟨m,leR _,by simp,⟨[],by simp [Hid,nJ],h0⟩,KeepB.refl _ _⟩
 case round=>
  obtain ⟨r,hr,rfl,⟨a,c,q⟩,k⟩:=hrel;cases r with
  | zero=>
   gi_wp2
   go_end0
   exact ⟨⟨_,rfl⟩,.inl ⟨a,c.out,q⟩⟩
  | succ j=>
   rw [show (((j+1:Nat):Int)-1)=(j:Int) by omega];obtain ⟨b,off,rfl,hc⟩:=d.out j (by omega);have B:wr.cell? ⟨b,off+j,none⟩=some (.int .u64 (g j:Nat)):=by
    rw [k.cell (p:=⟨b,off+j,none⟩) (w b rfl (by omega)),hc,hg.out]
   have t:=(k.cell (p:=⟨Bs,0,none⟩) hS).trans A;have o:a.length<m:=by
    have:=congrArg List.length c.out;rw [List.length_map,km] at this;omega
   obtain ⟨fn,tmps,assign,body,hy,hR⟩:=hY a ⟨j,by omega⟩ wr q o;dsimp only at hy;clear hc d
   gi_wp2
   refine hR.mono ?_;rintro e W3 (⟨rfl,z,s⟩ | ⟨rfl,h⟩)
   ·gi_wp2
    go_roundw
    case rel=>exact ⟨j,by omega,by simp,⟨a ++ [⟨j,by omega⟩],by unfold Hid;rw [List.map_append,c.out,fX (show j<m by omega)];rfl,z⟩,k.trans s⟩
    case measure=>simp [intOf]
   ·gi_wp2
    refine bodyPost_ret (results_none rfl _ _ _) rfl ?_;exact ⟨⟨_,rfl⟩,.inr ⟨_,⟨j,by omega,by rw [List.map_append,c.out,fX (show j<m by omega)];rfl⟩,h⟩⟩

theorem yf (F:Fence) (n:Nat) (h5:F.fn 159) (b:F.round=none) (ao:Option Addr) (a cap:Nat) (w:World) :
  CallsIn F n Tryz.prog 159 #[.slice ao a cap] w fun e w'=>e=.returned (.func (.func 204) #[] #[.pointer (some ⟨w.heap.size,0,none⟩)])∧w'=w.alloc (.cells #[.slice ao a cap] 32):=by
 refine callsIn_of_wp Tryz.func159 rfl h5 ?_ b;simp only [Tryz.ntmps159,List.size_toArray,List.length_cons,List.length_nil,Nat.reduceAdd,Nat.reduceSub,Array.replicate_succ,Array.replicate_zero,List.push_toArray,List.append_toArray,List.nil_append,List.cons_append]
 gi_wp2
 go_ret;exact ⟨rfl,rfl⟩

theorem qU (F:Fence) (n:Nat) (hf:F.fn 204) (d:F.round=none) (hn:1≤n) (Bs L:Nat) (g:Nat→Nat) (v:Value) (zs:List Nat) (hL:zs.length=L) (hg:∀ j,zs.getD j 0=g j) (S:Nat→Prop) (hS:S Bs) (a:∀ b,v.ownBlock=some b→0<L→S b)
  (w:World) (e:∀ k,S k→k<w.heap.size) (f:w.cell? ⟨Bs,0,none⟩=some v) (hr:Row .u64 w v zs) :
  SeqStopsK F n Tryz.prog 204 #[.pointer (some ⟨Bs,0,none⟩)] (fun x:Fin L=>#[Value.int .i64 (x.val:Nat),Value.int .u64 (g x.val:Nat)]) (KeepB S) (fun ys=>ys.map Fin.val=cE L 0) (fun c=>∃ r,r<L∧c.map Fin.val=cE L r) L w:=fun l J Jx W hW _ _ hY h0=>by
 have hk:KeepB S w W:=fun k hk=>hW.block k (e k hk)
 exact Bd F n hf d hn l Bs L g v zs hL hg S hS a J Jx hY W ((hk.cell (p:=⟨Bs,0,none⟩) hS).trans f) (hk.row (fun b hb hp=>a b hb (by omega)) hr) h0

attribute [local go_sem] Oper.semAt_some

theorem uZ (ao:Option Addr) (n cap:Nat) (xs:List Nat) (w:World) (h:Row .u64 w (.slice ao n cap) xs) (hd:Digs xs) :
  Calls Tryz.prog 131 #[.slice ao n cap] w fun r w'=>r=.returned (.slice ao (aj (val xs)) cap)∧w'=w:=by
 refine (pA _ xs w h).mono ?_;rintro e w' ⟨m,v',rfl,hm,hr,hz,ht,ho,⟨b,n',a,e1,rfl⟩,rfl⟩;have e2:=jd (hd.take m) (dY hm ht);rw [eh (B:=18446744073709551616) hm hz,List.length_take,Nat.min_eq_left hm] at e2;cases e1
 rw [e2];exact ⟨rfl,rfl⟩

theorem fH {xs:List Nat} (hd:Digs xs):aj (val xs)≤xs.length:=(am _ _).2 (aq (by omega) hd)

theorem kO {xs:List Nat} (hd:Digs xs):∃ ys,ys=xs.take (aj (val xs))∧ys.length=aj (val xs)∧Digs ys∧val ys=val xs∧(∀ j,j<aj (val xs)→ys.getD j 0=xs.getD j 0):=by
 have hl:=fH hd;refine ⟨_,rfl,by rw [List.length_take];omega,hd.take _,?_,fun j hj=>?_⟩
 ·refine eh hl (fun i hi=>?_);rw [← aR (by omega) hd i];unfold dig;rw [Nat.div_eq_of_lt,Nat.zero_mod];exact (am _ _).1 hi
 ·rw [List.getD_eq_getElem?_getD,List.getD_eq_getElem?_getD,List.getElem?_take,if_pos hj]

theorem zC (x y:Nat) (w:World):Calls Tryz.prog 160 #[.int .u64 x,.int .u64 y] w fun r w'=>r=.returned (.int .i64 (aK x y))∧w'=w:=by
 rcases Nat.lt_trichotomy x y with h | h | h
 ·rw [cj h];have h':(x:Int)<(y:Int):=by omega
  go_enter Tryz.func160,Tryz.ntmps160;go_wp2;go_ret;exact ⟨rfl,rfl⟩
 ·rw [eC h];subst h;go_enter Tryz.func160,Tryz.ntmps160;go_wp2;go_ret;exact ⟨rfl,rfl⟩
 ·rw [eu h];have h':¬ (x:Int)<(y:Int):=by omega
  have a:(x:Int) > (y:Int):=by omega
  go_enter Tryz.func160,Tryz.ntmps160;go_wp2;go_ret;exact ⟨rfl,rfl⟩

theorem AK (x y:Nat):Lib.compareInt (x:Int) (y:Int)=aK x y:=by
 unfold Lib.compareInt aK;by_cases h:x<y
 ·rw [if_pos h,if_pos (by omega)]
 ·rw [if_neg h,if_neg (by omega)];by_cases h2:x=y
  ·rw [if_pos h2,if_neg (by omega)]
  ·rw [if_neg h2,if_pos (by omega)]

theorem qH {A B:Nat} (h:aj A≠aj B):aK (aj A) (aj B)=aK A B:=by
 rcases Nat.lt_or_gt_of_ne h with k | k
 ·rw [cj k,cj];have h1:=(am A _).1 (leR _);have h2:¬ aj B≤aj A:=by omega
  have h3:=mt (am B (aj A)).2 h2;omega
 ·rw [eu k,eu];have h1:=(am B _).1 (leR _);have h2:¬ aj A≤aj B:=by omega
  have h3:=mt (am A (aj B)).2 h2;omega

theorem zY {a b:List Nat} {k:Nat} (ha:Digs a) (hb:Digs b) (hl:a.length=b.length) (hk:k<a.length) (he:∀ j,k<j→j<a.length→a.getD j 0=b.getD j 0) :
  a.getD k 0≠b.getD k 0→aK (a.getD k 0) (b.getD k 0)=aK (val a) (val b):=by
 intro d;have ea:=aw 18446744073709551616 a (k+1) (by omega);have eb:=aw 18446744073709551616 b (k+1) (by omega);have c:a.drop (k+1)=b.drop (k+1):=by
  apply List.ext_getElem?;intro i;rw [List.getElem?_drop,List.getElem?_drop];by_cases hi:k+1+i<a.length
  ·have:=he (k+1+i) (by omega) hi;rw [List.getD_eq_getElem?_getD,List.getD_eq_getElem?_getD,List.getElem?_eq_getElem hi,List.getElem?_eq_getElem (show k+1+i<b.length by omega)] at this;rw [List.getElem?_eq_getElem hi,List.getElem?_eq_getElem (show k+1+i<b.length by omega)];exact congrArg some this
  ·rw [List.getElem?_eq_none (by omega),List.getElem?_eq_none (by omega)]
 have ta:a.take (k+1)=a.take k ++ [a.getD k 0]:=by rw [List.take_add_one,List.getD_eq_getElem?_getD,List.getElem?_eq_getElem hk];rfl
 have tb:b.take (k+1)=b.take k ++ [b.getD k 0]:=by rw [List.take_add_one,List.getD_eq_getElem?_getD,List.getElem?_eq_getElem (show k<b.length by omega)];rfl
 rw [ta,aS,List.length_take,Nat.min_eq_left (by omega)] at ea;rw [tb,aS,List.length_take,Nat.min_eq_left (by omega),← c] at eb;have la:val (a.take k)<18446744073709551616^k:=by
  have:=aq (by omega) (ha.take k)
  rwa [List.length_take,Nat.min_eq_left (by omega)] at this
 have lb:val (b.take k)<18446744073709551616^k:=by
  have:=aq (by omega) (hb.take k)
  rwa [List.length_take,Nat.min_eq_left (by omega)] at this
 generalize a.getD k 0=x at *;generalize b.getD k 0=y at *;generalize 18446744073709551616^(k+1)*val (a.drop (k+1))=H at *;generalize val (a.take k)=p at *;generalize val (b.take k)=q at *;generalize 18446744073709551616^k=M at *;rcases Nat.lt_or_gt_of_ne d with h | h
 ·have:M*(x+1)≤M*y:=Nat.mul_le_mul_left _ h;rw [Nat.mul_add,Nat.mul_one] at this;rw [cj h,cj (by omega)]
 ·have:M*(y+1)≤M*x:=Nat.mul_le_mul_left _ h;rw [Nat.mul_add,Nat.mul_one] at this;rw [eu h,eu (by omega)]

theorem iC {x y:Nat}:aK x y=0↔x=y:=by
 unfold aK;by_cases h:x<y
 ·rw [if_pos h];constructor <;> intro h2 <;> omega
 ·rw [if_neg h];by_cases h2:x=y
  ·simp [h2]
  ·rw [if_neg h2];constructor <;> intro h3 <;> omega

end Go.Proofs.YtcemlfokmjjiaaaGreatDoor
