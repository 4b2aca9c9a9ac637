/- Put together of: NatC NatD NatE NatF NatG NatH NatI. -/
import Derived.Test.YtcemlfokmjjiaaaGreatDoorPp7

namespace Go.Proofs.YtcemlfokmjjiaaaGreatDoor
set_option maxRecDepth 100000
set_option maxHeartbeats 4000000
open Go.RowKit Go.Shelf

attribute [local go_sem] Oper.semAt_some

def cl (L:Nat) (r:Nat):List Nat:=(List.range (L-r)).map fun j=>L-1-j

theorem mR (L:Nat):cl L L=[]:=by simp [cl]

theorem fM {L j:Nat} (h:j<L):cl L j=cl L (j+1) ++ [j]:=by
 unfold cl;rw [show L-j=(L-(j+1))+1 by omega,List.range_succ,List.map_append,List.map_singleton,show L-1-(L-(j+1))=j by omega]

theorem jA (L r:Nat):(cl L r).length=L-r:=by simp [cl]

theorem A9 (F:Fence) (n:Nat) (hf:F.fn 204) (z:F.round=none) (hn:1≤n) (l Bs L:Nat) (g:Nat→Nat) (v:Value) (zs:List Nat) (hL:Hid (zs.length=L)) (hg:Hid (∀ j,zs.getD j 0=g j)) (S:Nat→Prop) (hS:S Bs) (t:∀ b,v.ownBlock=some b→0<L→S b)
  (J Jx:List (Fin L)→World→Prop)
  (hY:∀ a (x:Fin L) W,J a W→a.length<L→YieldAt F (n-1) Tryz.prog l #[.int .i64 (x.val:Nat),.int .u64 (g x.val:Nat)] W fun e W'=>
   (e=.returned (.bool true)∧J (a ++ [x]) W'∧KeepB S W W')∨(e=.returned (.bool false)∧Jx (a ++ [x]) W'))
  (W:World) (y:W.cell? ⟨Bs,0,none⟩=some v) (hr:Row .u64 W v zs) (h0:J [] W) :
  CallsIn F n Tryz.prog 204 #[.func (.yield l) #[] #[],.pointer (some ⟨Bs,0,none⟩)] W fun e W'=>(∃ v,e=.returned v) ∧
   ((∃ ys,ys.map Fin.val=cl L 0∧J ys W')∨(∃ a,(∃ r,r<L∧a.map Fin.val=cl L r)∧Jx a W')):=by
 obtain ⟨ao,m,cap,rfl,hN,c1,c2,c3,f⟩:=hr.open;obtain rfl:m=L:=by rw [← hN.out];exact hL.out
 have d:Hid (∀ i,i<m→NumAt .u64 W ao zs i):=f;clear f hr;refine callsIn_of_wp Tryz.func204 rfl hf ?_ z;simp only [Tryz.ntmps204,List.size_toArray,List.length_cons,List.length_nil,Nat.reduceAdd,Nat.reduceSub,Array.replicate_succ,Array.replicate_zero,List.push_toArray,List.append_toArray,List.nil_append,List.cons_append]
 gi_wp2
 gi_loopw [3] (fun i wr=>∃ r:Nat,r≤m∧i=.int .i64 ((r:Int)-1)∧(∃ a:List (Fin m),Hid (a.map Fin.val=cl m r)∧J a wr)∧KeepB S W wr)
  (fun i _=>(intOf i+1).toNat)
 case atStart=>exact ⟨m,leR _,by simp,⟨[],by simp [Hid,mR],h0⟩,KeepB.refl _ _⟩
 case round=>
  obtain ⟨r,hr,rfl,⟨a,c,q⟩,h⟩:=hrel;cases r with
  | zero=>
   gi_wp2
   go_end0
   exact ⟨⟨_,rfl⟩,.inl ⟨a,c.out,q⟩⟩
  | succ j=>
   rw [show (((j+1:Nat):Int)-1)=(j:Int) by omega];obtain ⟨b,off,rfl,hc⟩:=d.out j (by omega);have B:wr.cell? ⟨b,off+j,none⟩=some (.int .u64 (g j:Nat)):=by
    rw [h.cell (p:=⟨b,off+j,none⟩) (t b rfl (by omega)),hc,hg.out]
   have w:=(h.cell (p:=⟨Bs,0,none⟩) hS).trans y;have k:a.length<m:=by
    have:=congrArg List.length c.out;rw [List.length_map,jA] at this;omega
   obtain ⟨fn,tmps,assign,body,hy,hR⟩:=hY a ⟨j,by omega⟩ wr q k;dsimp only at hy;clear hc d
   gi_wp2
   refine hR.mono ?_;rintro e W3 (⟨rfl,A,s⟩ | ⟨rfl,o⟩)
   ·gi_wp2
    go_roundw
    case rel=>exact ⟨j,by omega,by simp,⟨a ++ [⟨j,by omega⟩],by unfold Hid;rw [List.map_append,c.out,fM (show j<m by omega)];rfl,A⟩,h.trans s⟩
    case measure=>simp [intOf]
   ·gi_wp2
    refine bodyPost_ret (results_none rfl _ _ _) rfl ?_;exact ⟨⟨_,rfl⟩,.inr ⟨_,⟨j,by omega,by rw [List.map_append,c.out,fM (show j<m by omega)];rfl⟩,o⟩⟩

theorem xf (F:Fence) (n:Nat) (h5:F.fn 159) (b:F.round=none) (ao:Option Addr) (a cap:Nat) (w:World) :
  CallsIn F n Tryz.prog 159 #[.slice ao a cap] w fun e w'=>e=.returned (.func (.func 204) #[] #[.pointer (some ⟨w.heap.size,0,none⟩)])∧w'=w.alloc (.cells #[.slice ao a cap] 32):=by
 refine callsIn_of_wp Tryz.func159 rfl h5 ?_ b;simp only [Tryz.ntmps159,List.size_toArray,List.length_cons,List.length_nil,Nat.reduceAdd,Nat.reduceSub,Array.replicate_succ,Array.replicate_zero,List.push_toArray,List.append_toArray,List.nil_append,List.cons_append]
 gi_wp2
 go_ret;exact ⟨rfl,rfl⟩

theorem ri (F:Fence) (n:Nat) (hf:F.fn 204) (f:F.round=none) (hn:1≤n) (Bs L:Nat) (g:Nat→Nat) (v:Value) (zs:List Nat) (hL:zs.length=L) (hg:∀ j,zs.getD j 0=g j) (S:Nat→Prop) (hS:S Bs) (a:∀ b,v.ownBlock=some b→0<L→S b)
  (w:World) (d:∀ k,S k→k<w.heap.size) (e:w.cell? ⟨Bs,0,none⟩=some v) (hr:Row .u64 w v zs) :
  SeqStopsK F n Tryz.prog 204 #[.pointer (some ⟨Bs,0,none⟩)] (fun x:Fin L=>#[Value.int .i64 (x.val:Nat),Value.int .u64 (g x.val:Nat)]) (KeepB S) (fun ys=>ys.map Fin.val=cl L 0) (fun c=>∃ r,r<L∧c.map Fin.val=cl L r) L w:=fun l J Jx W hW _ _ hY h0=>by
 have hk:KeepB S w W:=fun k hk=>hW.block k (d k hk)
 exact A9 F n hf f hn l Bs L g v zs hL hg S hS a J Jx hY W ((hk.cell (p:=⟨Bs,0,none⟩) hS).trans e) (hk.row (fun b hb hp=>a b hb (by omega)) hr) h0

attribute [local go_sem] Oper.semAt_some

theorem su (ao:Option Addr) (n cap:Nat) (xs:List Nat) (w:World) (h:Row .u64 w (.slice ao n cap) xs) (hd:Digs xs) :
  Calls Tryz.prog 131 #[.slice ao n cap] w fun r w'=>r=.returned (.slice ao (aj (val xs)) cap)∧w'=w:=by
 refine (pE _ xs w h).mono ?_;rintro e w' ⟨m,v',rfl,hm,hr,hz,ht,ho,⟨b,n',a,e1,rfl⟩,rfl⟩;have e2:=iS (hd.take m) (dm hm ht);rw [dj (B:=18446744073709551616) hm hz,List.length_take,Nat.min_eq_left hm] at e2;cases e1
 rw [e2];exact ⟨rfl,rfl⟩

theorem fC {xs:List Nat} (hd:Digs xs):aj (val xs)≤xs.length:=(ap _ _).2 (aq (by omega) hd)

theorem kG {xs:List Nat} (hd:Digs xs):∃ ys,ys=xs.take (aj (val xs))∧ys.length=aj (val xs)∧Digs ys∧val ys=val xs∧(∀ j,j<aj (val xs)→ys.getD j 0=xs.getD j 0):=by
 have hl:=fC hd;refine ⟨_,rfl,by rw [List.length_take];omega,hd.take _,?_,fun j hj=>?_⟩
 ·refine dj hl (fun i hi=>?_);rw [← aN (by omega) hd i];unfold dig;rw [Nat.div_eq_of_lt,Nat.zero_mod];exact (ap _ _).1 hi
 ·rw [List.getD_eq_getElem?_getD,List.getD_eq_getElem?_getD,List.getElem?_take,if_pos hj]

theorem zt (x y:Nat) (w:World):Calls Tryz.prog 160 #[.int .u64 x,.int .u64 y] w fun r w'=>r=.returned (.int .i64 (aJ x y))∧w'=w:=by
 rcases Nat.lt_trichotomy x y with h | h | h
 ·rw [cf h];have h':(x:Int)<(y:Int):=by omega
  go_enter Tryz.func160,Tryz.ntmps160;go_wp2;go_ret;exact ⟨rfl,rfl⟩
 ·rw [dn h];subst h;go_enter Tryz.func160,Tryz.ntmps160;go_wp2;go_ret;exact ⟨rfl,rfl⟩
 ·rw [c9 h];have h':¬ (x:Int)<(y:Int):=by omega
  have a:(x:Int) > (y:Int):=by omega
  go_enter Tryz.func160,Tryz.ntmps160;go_wp2;go_ret;exact ⟨rfl,rfl⟩

theorem AB (x y:Nat):Lib.compareInt (x:Int) (y:Int)=aJ x y:=by
 unfold Lib.compareInt aJ;by_cases h:x<y
 ·rw [if_pos h,if_pos (by omega)]
 ·rw [if_neg h,if_neg (by omega)];by_cases h2:x=y
  ·rw [if_pos h2,if_neg (by omega)]
  ·rw [if_neg h2,if_pos (by omega)]

theorem rk {A B:Nat} (h:aj A≠aj B):aJ (aj A) (aj B)=aJ A B:=by
 rcases Nat.lt_or_gt_of_ne h with k | k
 ·rw [cf k,cf];have h1:=(ap A _).1 (leR _);have h2:¬ aj B≤aj A:=by omega
  have h3:=mt (ap B (aj A)).2 h2;omega
 ·rw [c9 k,c9];have h1:=(ap B _).1 (leR _);have h2:¬ aj A≤aj B:=by omega
  have h3:=mt (ap A (aj B)).2 h2;omega

theorem Ar {a b:List Nat} {k:Nat} (ha:Digs a) (hb:Digs b) (hl:a.length=b.length) (hk:k<a.length) (he:∀ j,k<j→j<a.length→a.getD j 0=b.getD j 0) :
  a.getD k 0≠b.getD k 0→aJ (a.getD k 0) (b.getD k 0)=aJ (val a) (val b):=by
 intro d;have ea:=aw 18446744073709551616 a (k+1) (by omega);have eb:=aw 18446744073709551616 b (k+1) (by omega);have c:a.drop (k+1)=b.drop (k+1):=by
  apply List.ext_getElem?;intro i;rw [List.getElem?_drop,List.getElem?_drop];by_cases hi:k+1+i<a.length
  ·have:=he (k+1+i) (by omega) hi;rw [List.getD_eq_getElem?_getD,List.getD_eq_getElem?_getD,List.getElem?_eq_getElem hi,List.getElem?_eq_getElem (show k+1+i<b.length by omega)] at this;rw [List.getElem?_eq_getElem hi,List.getElem?_eq_getElem (show k+1+i<b.length by omega)];exact congrArg some this
  ·rw [List.getElem?_eq_none (by omega),List.getElem?_eq_none (by omega)]
 have ta:a.take (k+1)=a.take k ++ [a.getD k 0]:=by rw [List.take_add_one,List.getD_eq_getElem?_getD,List.getElem?_eq_getElem hk];rfl
 have tb:b.take (k+1)=b.take k ++ [b.getD k 0]:=by rw [List.take_add_one,List.getD_eq_getElem?_getD,List.getElem?_eq_getElem (show k<b.length by omega)];rfl
 rw [ta,aO,List.length_take,Nat.min_eq_left (by omega)] at ea;rw [tb,aO,List.length_take,Nat.min_eq_left (by omega),← c] at eb;have la:val (a.take k)<18446744073709551616^k:=by
  have:=aq (by omega) (ha.take k)
  rwa [List.length_take,Nat.min_eq_left (by omega)] at this
 have lb:val (b.take k)<18446744073709551616^k:=by
  have:=aq (by omega) (hb.take k)
  rwa [List.length_take,Nat.min_eq_left (by omega)] at this
 generalize a.getD k 0=x at *;generalize b.getD k 0=y at *;generalize 18446744073709551616^(k+1)*val (a.drop (k+1))=H at *;generalize val (a.take k)=p at *;generalize val (b.take k)=q at *;generalize 18446744073709551616^k=M at *;rcases Nat.lt_or_gt_of_ne d with h | h
 ·have:M*(x+1)≤M*y:=Nat.mul_le_mul_left _ h;rw [Nat.mul_add,Nat.mul_one] at this;rw [cf h,cf (by omega)]
 ·have:M*(y+1)≤M*x:=Nat.mul_le_mul_left _ h;rw [Nat.mul_add,Nat.mul_one] at this;rw [c9 h,c9 (by omega)]

theorem iM {x y:Nat}:aJ x y=0↔x=y:=by
 unfold aJ;by_cases h:x<y
 ·rw [if_pos h];constructor <;> intro h2 <;> omega
 ·rw [if_neg h];by_cases h2:x=y
  ·simp [h2]
  ·rw [if_neg h2];constructor <;> intro h3 <;> omega

attribute [local go_sem] Oper.semAt_some

theorem ny {L r j:Nat}:j ∈ cl L r↔r≤j∧j<L:=by
 unfold cl;simp only [List.mem_map,List.mem_range];constructor
 ·rintro ⟨i,hi,rfl⟩;omega
 ·rintro ⟨h1,h2⟩;exact ⟨L-1-j,by omega,by omega⟩

theorem nP {L r:Nat} {a:List (Fin L)} (h:a.map Fin.val=cl L r) {j:Nat} (h1:r≤j) (h2:j<L):∃ x ∈ a,x.val=j:=by
 have:j ∈ a.map Fin.val:=by rw [h];exact ny.2 ⟨h1,h2⟩
 simpa using this

theorem pZ {L r:Nat} {a:List (Fin L)} {x:Fin L} (hr:r<L) (h:(a ++ [x]).map Fin.val=cl L r):x.val=r∧a.map Fin.val=cl L (r+1):=by
 rw [fM hr,List.map_append] at h;obtain ⟨h1,h2⟩:=List.append_inj' h (by simp);exact ⟨by simpa using h2,h1⟩

theorem gC (u v:Value) (xs ys:List Nat) (w:World) (hu:Row .u64 w u xs) (hv:Row .u64 w v ys) (O:Digs xs) (N:Digs ys) :
  Calls Tryz.prog 116 #[u,v] w fun r w'=>r=.returned (.int .i64 (aJ (val xs) (val ys)))∧Kept ae w w':=by
 obtain ⟨R,hR⟩:∃ R,R=aJ (val xs) (val ys):=⟨_,rfl⟩
 rw [← hR];have HR:Hid (R=aJ (val xs) (val ys)):=hR;clear hR;have V:=fun ao n cap (e:u=.slice ao n cap) W (hk:Kept ae w W)=>su ao n cap xs W (e ▸ hu.grew hk) O
 have Y:=fun ao n cap (e:v=.slice ao n cap) W (hk:Kept ae w W)=>su ao n cap ys W (e ▸ hv.grew hk) N
 obtain ⟨ao,n,cap,rfl,aq,c1,c2,c3,aC⟩:=hu.open;obtain ⟨bo,m,a,rfl,af,d1,d2,d3,az⟩:=hv.open;have V:=V ao n cap rfl;have Y:=Y bo m a rfl;obtain ⟨A,hA,lA,dA,vA,gA⟩:=kG O;obtain ⟨B,hB,lB,dB,vB,gB⟩:=kG N;have rA:Row .u64 w (.slice ao (aj (val xs)) cap) A:=hA ▸ hu.cut (fC O);have rB:Row .u64 w (.slice bo (aj (val ys)) a) B:=hB ▸ hv.cut (fC N);have HW:Hid (aJ (aj (val xs)) (aj (val ys))=0∨aJ (aj (val xs)) (aj (val ys))=R):=by
  unfold Hid;rw [HR.out];by_cases e:aj (val xs)=aj (val ys)
  ·exact .inl (iM.2 e)
  ·exact .inr (rk e)
 rw [← vA,← vB] at HR;clear hA hB gA gB vA vB hu hv aC az;have w1:aj (val xs)≤n:=by have:=fC O;have:=aq.out;omega
 have w2:aj (val ys)≤m:=by have:=fC N;have:=af.out;omega
 clear O N aq af;generalize aj (val xs)=p at *;generalize aj (val ys)=q at *;refine (callsIn_wide (n:=9)).1 ?_;refine callsIn_of_wp_marks Tryz.func116 rfl trivial ?_ rfl;simp only [Tryz.ntmps116,List.size_toArray,List.length_cons,List.length_nil,Nat.reduceAdd,Nat.reduceSub,Array.replicate_succ,Array.replicate_zero,List.push_toArray,List.append_toArray,List.nil_append,List.cons_append];refine wpIn_wide.2 ?_;go_wp2_with fail;have E:Kept ae w ((w.alloc (.cells #[.slice bo m a] 32)).alloc (.cells #[.int .i64 0] 3)):=((ah ae w).alloc _).alloc _
 have ai:((w.alloc (.cells #[.slice bo m a] 32)).alloc (.cells #[.int .i64 0] 3)).cell? ⟨w.heap.size,0,none⟩=some (.slice bo m a):=((Boxed.new w 32 (.slice bo m a)).alloc _).cell;have av:((w.alloc (.cells #[.slice bo m a] 32)).alloc (.cells #[.int .i64 0] 3)).frozen? ⟨w.heap.size,0,none⟩=false:=((Boxed.new w 32 (.slice bo m a)).alloc _).frozen;have am:((w.alloc (.cells #[.slice bo m a] 32)).alloc (.cells #[.int .i64 0] 3)).cell? ⟨w.heap.size+1,0,none⟩=some (.int .i64 0):=by have:=(Boxed.new (w.alloc (.cells #[.slice bo m a] 32)) 3 (.int .i64 0)).cell;rwa [World.size_alloc] at this
 have ag:((w.alloc (.cells #[.slice bo m a] 32)).alloc (.cells #[.int .i64 0] 3)).frozen? ⟨w.heap.size+1,0,none⟩=false:=by have:=(Boxed.new (w.alloc (.cells #[.slice bo m a] 32)) 3 (.int .i64 0)).frozen;rwa [World.size_alloc] at this
 have ap:((w.alloc (.cells #[.slice bo m a] 32)).alloc (.cells #[.int .i64 0] 3)).heap.size=w.heap.size+2:=by simp
 generalize hw1:(w.alloc (.cells #[.slice bo m a] 32)).alloc (.cells #[.int .i64 0] 3)=W1 at *;clear hw1
 refine Code.wp_mono (Q:=Exit.then (fun a' w'=>a'={ tmps:=#[.slice ao p cap,.slice bo m a,undef,.pointer (some ⟨w.heap.size,0,none⟩),.pointer (some ⟨w.heap.size+1,0,none⟩),undef,undef,undef,undef,.slice ao n cap,.slice ao p cap,.slice bo m a,.slice bo q a,undef,undef,undef,undef,undef,undef,undef,undef,undef,undef,undef,undef,undef,undef,undef,undef,undef,undef,undef,undef,undef],defers:=[] }∧w'.cell? ⟨w.heap.size,0,none⟩=some (.slice bo q a)∧w'.cell? ⟨w.heap.size+1,0,none⟩=some (.int .i64 0)∧w'.frozen? ⟨w.heap.size+1,0,none⟩=false∧w'.heap.size=w.heap.size+2∧Kept ae w w') (fun _ _ _=>False)) ?_ ?_
 ·rintro e a' w' h;cases e with
  | normal=>
   obtain ⟨rfl,aA,aa,aF,H,ac⟩:=h;have hC:=Any.cmp_Compare_int Ck (p:Int) (q:Int) w';rw [AB] at hC;clear V Y E ai av am ag ap;by_cases hpq:p=q
   ·subst hpq;rw [dn rfl] at hC;clear HW;have hD:=callsIn_wide.1 (xf Fence.wide 0 trivial rfl ao p cap w');go_wp2_with fail;refine hC.mono ?_;rintro e w3 ⟨rfl,rfl⟩;go_wp2_with fail;refine hD.mono ?_;rintro e w4 ⟨rfl,rfl⟩;clear hC hD;have bN:=Boxed.new w3 32 (.slice ao p cap);rw [H] at bN;have t:∀ b,(Value.slice ao p cap).ownBlock=some b→0<p→b<w.heap.size:=by
     intro b hb hp;obtain ⟨aI,n',ay,e1,ax,_,_,_,h4⟩:=rA.open;cases e1
     obtain ⟨b',off,rfl,hc⟩:=h4 0 hp;cases hb
     exact World.block_lt_of_cell? w _ hc
    have aD:Below w.heap.size w (w3.alloc (.cells #[.slice ao p cap] 32)):=(ac.alloc _).below (leR _) (fun _ f=>f.elim);have X:=rA.grew (ac.alloc (.cells #[.slice ao p cap] 32));have Z:Hid (∀ W,Below w.heap.size w W→Row .u64 W (.slice bo p a) B):=fun W hb=>rB.kept (S:=ae) ⟨hb.os,hb.tape,hb.output,hb.size,fun k hk _=>hb.block k hk⟩ (fun _ _ f=>f)
    go_wp2_with fail;obtain ⟨g,hg⟩:∃ g:Nat→Nat,∀ j,A.getD j 0=g j:=⟨_,fun _=>rfl⟩
    refine (wpIn_wide (n:=9)).1 ?_;refine wpIn_rangeFunc_ownG (F:=Fence.wide) (n:=9) rfl (by omega) (gf:=204) (lb:=#[.pointer (some ⟨w.heap.size+2,0,none⟩)]) rfl trivial (enters_of Tryz.func204 (by kernel_rfl) rfl)
     (ri Fence.wide 8 trivial rfl (by omega) (w.heap.size+2) p g (.slice ao p cap) A lA hg (fun k=>k=w.heap.size+2∨((Value.slice ao p cap).ownBlock=some k∧0<p)) (.inl rfl) (fun b hb hp=>.inr ⟨hb,hp⟩) _ ?hsw bN.cell X) KeepB.trans (KeepB.put ?hsw2) (Below.refl _ _) (fun _=>rfl)
     (fun J W=>((∀ x ∈ J,g x.val=B.getD x.val 0)∧W.cell? ⟨w.heap.size,0,none⟩=some (.slice bo p a)∧W.cell? ⟨w.heap.size+1,0,none⟩=some (.int .i64 0)∧W.frozen? ⟨w.heap.size+1,0,none⟩=false)∧Below w.heap.size w W)
     (fun c J W=>(c=.ret∧∃ T d,J=T ++ [d]∧(∀ x ∈ T,g x.val=B.getD x.val 0)∧g d.val≠B.getD d.val 0∧W.cell? ⟨w.heap.size+1,0,none⟩=some (.int .i64 (aJ (g d.val) (B.getD d.val 0))))∧Below w.heap.size w W)
     (OwnFrom.and (Own.from (fun s A B aB hs hg hr=>⟨hs.1,cell_kept hs.2.1 hg hr,cell_kept hs.2.2.1 hg hr,(frozen_kept hs.2.2.1 hg hr).trans hs.2.2.2⟩) _) (ownFrom_below (leR _) (by simp;omega)))
     (fun c=>OwnFrom.and (Own.from (fun s A B aB hs hg hr=>by obtain ⟨hc,T,d,e1,e2,e3,e4⟩:=hs;exact ⟨hc,T,d,e1,e2,e3,cell_kept e4 hg hr⟩) _) (ownFrom_below (leR _) (by simp;omega)))
     ⟨⟨by simp,yS _ aA,yS _ aa,vI _ aa aF⟩,aD⟩
     ?act ?assign ?body ?done ?stop
    case hsw=>
     rintro k (rfl | ⟨hk,hp⟩)
     ·simp [H]
     ·have:=t k hk hp;simp [H];omega
    case hsw2=>
     rintro k (rfl | ⟨hk,hp⟩)
     ·simp [H]
     ·have:=t k hk hp;simp [H];omega
    case assign=>
     intro l x W K hK
     gi_wp2
     exact hK
    case body=>
     rintro l J x W ⟨⟨hp,an,z,al⟩,hB⟩ _;obtain ⟨aH,q',aE,e1,ax,_,_,_,h4⟩:=(Z.out W hB).open;cases e1
     have hx:=x.isLt;obtain ⟨b,off,rfl,hc⟩:=h4 x.val hx;have hN:=zt (g x.val) (B.getD x.val 0) W;have HP:Hid (∀ x ∈ J,g x.val=B.getD x.val 0):=hp;have HX:Hid (∃ y,y=x):=⟨_,rfl⟩
     obtain ⟨yb,I⟩:∃ yb,yb=B.getD x.val 0:=⟨_,rfl⟩
     rw [← I] at hN;rw [← I] at hc;clear h4 hp rA rB Z X;by_cases he:g x.val=yb
     ·rw [dn he] at hN;have HE:Hid (g x.val=B.getD x.val 0):=by rw [← I];exact he
      clear I he hg
      gi_wp2_with (refine ⟨trivial,?_⟩;gi_at_call 160;refine (CallsIn.inRound l (callsIn_wide.2 hN)).mono ?_;rintro e w' ⟨rfl,rfl⟩)
      refine ⟨KeepsFrom.refl _ _,KeepB.refl _ _,⟨fun y hy=>?_,an,z,al⟩,hB⟩;rcases List.mem_append.1 hy with h | h
      ·exact HP.out y h
      ·rw [List.mem_singleton.1 h];exact HE.out
     ·have h0:aJ (g x.val) yb≠0:=fun h=>he (iM.1 h)
      have HC:Hid (aJ (g x.val) yb=aJ (g x.val) (B.getD x.val 0)):=by rw [I];rfl
      have HE:Hid (g x.val≠B.getD x.val 0):=by rw [← I];exact he
      generalize aJ (g x.val) yb=C at *;clear I he hg
      gi_wp2_with (refine ⟨trivial,?_⟩;gi_at_call 160;refine (CallsIn.inRound l (callsIn_wide.2 hN)).mono ?_;rintro e w' ⟨rfl,rfl⟩)
      exact ⟨(KeepsOthers.setCell _ _ _).from _,⟨rfl,J,x,rfl,HP.out,HE.out,by rw [← HC.out];exact World.cell?_setCell_same _ _ _ z⟩,hB.setCell (p:=⟨w.heap.size+1,0,none⟩) (by simp) _⟩
    case done=>
     rintro D ys W hD ak ⟨⟨L,an,z,al⟩,hB⟩ hK;have aw:A=B:=by
      apply List.ext_getElem
      ·rw [lA,lB]
      ·intro i h1 h2;obtain ⟨x,hx,ar⟩:=nP ak (Nat.zero_le i) (show i<p by omega);have:=L x hx;rw [ar,← hg,List.getD_eq_getElem?_getD,List.getD_eq_getElem?_getD,List.getElem?_eq_getElem h1,List.getElem?_eq_getElem h2] at this;simpa using this
     rw [aw,dn rfl] at HR;clear L ak rA rB Z X t hg;go_wp2;have ad:=(KeepsOthers.setCell W ⟨w.heap.size+1,0,none⟩ (.int .i64 0)).same D _ hK rfl;refine ⟨by simp,.inl ⟨_,_,rfl,run_takeDeferred ad,?_⟩⟩;have P:=cell_kept (World.cell?_setCell_same W ⟨w.heap.size+1,0,none⟩ (.int .i64 0) z) (grownBy_putObj' _ D (.deferred none)) (fun r e=>by cases e;exact ⟨_,ad,rfl⟩);have o:=(hB.setCell (p:=⟨w.heap.size+1,0,none⟩) (by simp) (.int .i64 0)).trans (belowK_b (w:=w) (leR _) _ D _ (.deferred none) (by simp [H] at hD;omega) ad rfl rfl);refine ⟨.int .i64 0,?_,by rw [HR.out],⟨o.os,o.tape,o.output,o.size,fun k hk _=>o.block k hk⟩⟩;simp [results,Tryz.f116,go_sem,P]
    case stop=>
     rintro D c J W hD ⟨r,hr,U⟩ ⟨⟨rfl,T,d,rfl,e2,e3,z⟩,hB⟩ hK;obtain ⟨G,M⟩:=pZ hr U;rw [G,← hg] at e3 z;have ab:=Ar dA dB (by rw [lA,lB]) (show r<A.length by omega) (fun j h1 h2=>by
      obtain ⟨x,hx,au⟩:=nP M h1 (show j<p by omega);have:=e2 x hx
      rwa [au,← hg] at this) e3
     rw [ab,← HR.out] at z;clear e2 e3 U M G rA rB Z X t hg
     gi_wp2
     refine ⟨by simp,.inl ⟨_,_,rfl,run_takeDeferred hK,?_⟩⟩;have P:=cell_kept z (grownBy_putObj' _ D (.deferred none)) (fun r e=>by cases e;exact ⟨_,hK,rfl⟩);have o:=hB.trans (belowK_b (w:=w) (leR _) W D _ (.deferred none) (by simp [H] at hD;omega) hK rfl rfl);refine ⟨.int .i64 R,?_,rfl,⟨o.os,o.tape,o.output,o.size,fun k hk _=>o.block k hk⟩⟩;simp [results,Tryz.f116,go_sem,P]
   ·rw [show aJ p q=R from HW.out.resolve_left (fun h=>hpq (iM.1 h))] at hC;have aG:R≠0:=by
     rw [← HW.out.resolve_left (fun h=>hpq (iM.1 h))];exact fun h=>hpq (iM.1 h)
    go_wp2_with fail;refine hC.mono ?_;rintro e w3 ⟨rfl,rfl⟩;go_wp2;have P:=World.cell?_setCell_same w3 ⟨w.heap.size+1,0,none⟩ (.int .i64 R) aa;refine ⟨.int .i64 R,?_,rfl,ac.setCell ⟨w.heap.size+1,0,none⟩ (fun h=>absurd h (by simp)) _⟩;simp [results,Tryz.f116,go_sem,P]
  | _=>exact h.elim
 ·go_region_with (first
   | (go_at_call_of 131 ao;refine (V _ ?_).mono ?_;(first | exact E | exact E.drew | exact E.drewN _);rintro e w' ⟨rfl,rfl⟩)
   | (go_at_call_of 131 bo;refine (Y _ ?_).mono ?_;(first | exact E | exact E.drew | exact E.drewN _);rintro e w' ⟨rfl,rfl⟩))
  all_goals exact ⟨rfl,World.cell?_setCell_same _ _ _ ai,(World.cell?_setCell_other _ _ _ _ (by simp)).trans am,(World.frozen?_setCell _ _ _ _).trans ag,by simpa using ap,(E.setCell ⟨w.heap.size,0,none⟩ (fun h=>absurd h (by simp)) _).drew⟩

attribute [local go_sem] Oper.semAt_some

theorem uF (x y:Nat) (hx:x<72057594037927936) (hy:y<256):bits .or .u64 ((x:Int)*256) (y:Int)=((x*256+y:Nat):Int):=by
 have h:=u64_or_nat (x*256) y (by omega) (by omega);rw [nat_join 8 (x*256) y (by omega) (by omega)] at h;rw [show (x:Int)*256=((x*256:Nat):Int) by omega,h]

theorem rY (m:List Nat):∀ a,m.foldl (fun a b=>a*256+b) a=a*256^m.length+bev m:=by
 unfold bev
 induction m with
 | nil=>intro a;simp
 | cons x m ih=>
  intro a;rw [List.foldl_cons,ih,List.foldl_cons,ih (0*256+x),List.length_cons,Nat.pow_succ];simp only [Nat.zero_mul,Nat.zero_add,Nat.add_mul,Nat.mul_assoc,Nat.add_assoc,Nat.mul_comm 256]

theorem ef (l m:List Nat):bev (l ++ m)=bev l*256^m.length+bev m:=by
 show (l ++ m).foldl _ 0=_
 rw [List.foldl_append,rY];rfl

theorem lv {l:List Nat} (h:Digs l 256):bev l<256^l.length:=by
 induction l with
 | nil=>simp [bev]
 | cons x m ih=>
  have e:=ef [x] m;rw [List.singleton_append] at e;have hx:=h.head;have hm:=ih h.tail;rw [e,List.length_cons,Nat.pow_succ];have:(x+1)*256^m.length≤256*256^m.length:=Nat.mul_le_mul_right _ hx;rw [Nat.add_mul,Nat.one_mul] at this;have e2:bev [x]=x:=by simp [bev]
  rw [e2,Nat.mul_comm (256^m.length)];omega

theorem Cf (ao:Option Addr) (a cap:Nat) (bs:List Nat) (w:World) (h:Row .u8 w (.slice ao a cap) bs) (hd:Digs bs 256) (hl:a≤8) :
  Calls Tryz.prog 202 #[.slice ao a cap] w fun e w'=>e=.returned (.int .u64 (bev bs:Nat))∧w'=w:=by
 obtain ⟨m,l,g,e,hL,_,_,_,d⟩:=h.open;cases e
 have HR:Hid (∀ i,i<a→NumAt .u8 w ao bs i):=d;clear d h;have n:min (a:Int) 8=(a:Int):=by omega
 have c:bs.take a=bs:=by rw [List.take_of_length_le];have:=hL.out;omega
 have HA:Hid (bev (bs.take a)=bev bs):=congrArg bev c;clear c;go_enter Tryz.func202,Tryz.ntmps202;go_wp2_with fail;go_loop [3,8] (fun x i=>∃ k:Nat,k≤a∧i=.int .i64 (k:Int)∧∃ t:Nat,Hid (t=bev (bs.take k))∧x=.int .u64 (t:Int)) (fun _ i=>((a:Int)-intOf i).toNat)
 case atStart=>exact ⟨0,by omega,rfl,0,by simp [Hid,bev],rfl⟩
 case round=>
  obtain ⟨k,hk,rfl,t,ht,rfl⟩:=hrel;by_cases hp:k<a
  ·obtain ⟨b,off,rfl,hc⟩:=HR.out k hp;have hz:bs.getD k 0<256:=hd.getD (by omega) k;have j:t<72057594037927936:=by
    rw [ht.out];have h1:=lv (hd.take k);have h2:(256:Nat)^(bs.take k).length≤256^7:=Nat.pow_le_pow_right (by omega) (by rw [List.length_take];omega);omega
   have hs:Hid (bev (bs.take (k+1))=t*256+bs.getD k 0):=by
    unfold Hid;rw [ht.out];exact ia (by have:=hL.out;omega)
   generalize bs.getD k 0=z at *;have o:=uF t z j hz;go_wp2_with fail;go_round
   case rel=>exact ⟨k+1,by omega,by go_num,t*256+z,hs.out.symm,rfl⟩
   case measure=>simp [intOf];omega
  ·obtain rfl:k=a:=by omega
   go_wp2_with fail;go_ret;have f:=ht.out.trans HA.out;exact ⟨by rw [f];rfl,rfl⟩

theorem Row.tail {k:IntKind} {w:World} {b off m cap:Nat} {z:Nat} {zs:List Nat} (h:Row k w (.slice (some ⟨b,off,none⟩) (m+1) cap) (z :: zs)) (hc:1<cap):Row k w (.slice (some ⟨b,off+1,none⟩) m (cap-1)) zs:=by
 obtain ⟨ao,c,e,h1,h2,_,h4⟩:=h;cases e
 refine ⟨_,_,rfl,by simp at h1;omega,by omega,(fun e=>by cases e),fun i hi=>?_⟩;obtain ⟨b',d,e,a⟩:=h4 (i+1) (by simp;omega);cases e
 exact ⟨b,off+1,rfl,by rw [show off+1+i=off+(i+1) by omega,a];rfl⟩

theorem Row.none0 (k:IntKind) (w:World) (ao:Option Addr) (cap:Nat) (hc:cap≤maxLen) (hn:ao=none→cap=0):Row k w (.slice ao 0 cap) []:=⟨ao,cap,rfl,Nat.zero_le _,hc,hn,fun i hi=>absurd hi (by simp)⟩

theorem zr (v:Value) (bs:List Nat) (w:World) (h:Row .u8 w v bs) :
  Calls Tryz.prog 197 #[v,.int .u8 0] w fun r w'=>∃ v',r=.returned v'∧∃ k,Row .u8 w v' (bs.drop k)∧k≤bs.length∧(∀ i,i<k→bs.getD i 0=0)∧(k=bs.length∨bs.getD k 0≠0)∧(v'.ownBlock=v.ownBlock∨v'.ownBlock=none)∧w'=w:=by
 obtain ⟨ob,s⟩:∃ ob,ob=v.ownBlock:=⟨_,rfl⟩
 rw [← s];have E:Hid (v.ownBlock=ob):=s.symm;clear s;obtain ⟨ao,n,cap,rfl,hL,h1,h2,h3,_⟩:=h.open;have hr:=h;clear h;go_enter Tryz.func197,Tryz.ntmps197;go_wp2_with fail;go_loop [0] (fun a=>∃ k,Hid (k≤bs.length∧Row .u8 w a (bs.drop k)∧(∀ i,i<k→bs.getD i 0=0)∧a.ownBlock=ob)) (fun a=>nZ a)
 case atStart=>exact ⟨0,Nat.zero_le _,by simpa using hr,fun i hi=>by omega,E.out⟩
 case round=>
  obtain ⟨k,hk⟩:=hrel;obtain ⟨p,c,hz,f⟩:=hk.out;obtain ⟨G,m,d,rfl,hM,g1,g2,g3,g4⟩:=c.open;have HM:Hid (m=bs.length-k):=by have:=hM.out;rw [List.length_drop] at this;exact this.symm
  cases m with
  | zero=>
   have C:Hid (k=bs.length):=by have:=HM.out;show k=bs.length;omega
   clear g4 c hr f hz h1 h2 h3 hL hM p;go_wp2;go_ret;obtain ⟨p,c,hz,f⟩:=hk.out;exact ⟨_,rfl,k,by rw [List.drop_eq_nil_of_le (by have:=C.out;omega)];exact Row.nil _ _,p,hz,.inl C.out,.inr rfl,rfl⟩
  | succ j=>
   obtain ⟨b,off,rfl,hc⟩:=g4 0 (by omega);rw [Nat.add_zero] at hc;have A:(bs.drop k).getD 0 0=bs.getD k 0:=by rw [List.getD_eq_getElem?_getD,List.getElem?_drop,List.getD_eq_getElem?_getD];rfl
   rw [A] at hc;have l:k<bs.length:=by have:=HM.out;omega
   have g:bs.drop k=bs.getD k 0 :: bs.drop (k+1):=by rw [List.drop_eq_getElem_cons l,List.getD_eq_getElem?_getD,List.getElem?_eq_getElem l];rfl
   obtain ⟨z,x⟩:∃ z,z=bs.getD k 0:=⟨_,rfl⟩
   rw [← x] at hc g;rw [g] at c;have HZ:Hid (z=bs.getD k 0):=x;have t:Hid (Row .u8 w (.slice (some ⟨b,off,none⟩) (j+1) d) (z :: bs.drop (k+1))):=c;have B:Hid (k<bs.length):=l;clear x g4 c hr f hz h1 h2 h3 hL hM p A g l;by_cases h0:z=0
   ·subst h0;have o:∀ i,i<k+1→bs.getD i 0=0:=fun i hi=>by
     by_cases e:i=k
     ·subst e;exact HZ.out.symm
     ·exact hk.out.2.2.1 i (by omega)
    have y:Hid (∀ i,i<k+1→bs.getD i 0=0):=o;clear o;by_cases hcap:d=1
    ·obtain rfl:j=0:=by omega
     subst hcap;have q:Hid (bs.drop (k+1)=[]):=by
      show bs.drop (k+1)=[]
      rw [List.drop_eq_nil_of_le];have:=HM.out;omega
     go_wp2;go_round
     case rel=>exact ⟨k+1,B.out,by rw [q.out];exact Row.none0 _ _ _ _ (by unfold maxLen;omega) (fun e=>by cases e),y.out,hk.out.2.2.2⟩
     case measure=>simp [nZ]
    ·have F:1<d:=by omega
     have M:(1:Int)≤(d:Int):=by omega
     have L:¬ (1:Nat)=d:=by omega
     have I:¬ (1:Int)=(d:Int):=by omega
     go_wp2;go_round
     case rel=>exact ⟨k+1,B.out,t.out.tail F,y.out,hk.out.2.2.2⟩
     case measure=>simp [nZ]
   ·have H:((z:Int) == 0)=false:=by simp;omega
    have J:¬ ((z:Int)=0):=by omega
    have D:Hid (bs.getD k 0≠0):=by rw [← HZ.out];exact h0
    go_wp2;go_ret;obtain ⟨p,c,hz,f⟩:=hk.out;exact ⟨_,rfl,k,c,p,hz,.inr D.out,.inl f,rfl⟩

theorem AY (v:Value) (bs:List Nat) (w:World) (h:Row .u8 w v bs) :
  Calls Tryz.prog 156 #[v,.string { data:=#[0] }] w fun r w'=>∃ v',r=.returned v'∧∃ k,Row .u8 w v' (bs.drop k)∧k≤bs.length∧(∀ i,i<k→bs.getD i 0=0)∧(k=bs.length∨bs.getD k 0≠0)∧(v'.ownBlock=v.ownBlock∨v'.ownBlock=none)∧w'=w:=by
 have hT:=zr v bs w h;obtain ⟨ao,n,cap,rfl,hL,h1,h2,h3,_⟩:=h.open;cases n with
 | zero=>
  have b:bs=[]:=List.eq_nil_of_length_eq_zero hL.out;subst b;clear hT hL h;go_enter Tryz.func156,Tryz.ntmps156;go_wp2_with fail;go_ret;exact ⟨_,rfl,0,Row.nil _ _,leR _,fun i hi=>by omega,.inl rfl,.inr rfl,rfl⟩
 | succ j=>
  clear h;go_enter Tryz.func156,Tryz.ntmps156;go_wp2_with fail;refine hT.mono ?_;rintro e w' ⟨v',rfl,a⟩;go_wp2_with fail;go_ret;exact ⟨v',rfl,a⟩

attribute [local go_sem] Oper.semAt_some

theorem j9 {bs:List Nat} (hd:Digs bs 256) (i:Nat) (h:8*i<bs.length) :
  bev ((bs.drop (bs.length-8*(i+1))).take (bs.length-8*i-(bs.length-8*(i+1))))=dig (bev bs) i:=by
 obtain ⟨s,hs⟩:∃ s,s=bs.length-8*(i+1):=⟨_,rfl⟩
 obtain ⟨e,he⟩:∃ e,e=bs.length-8*i:=⟨_,rfl⟩
 rw [← hs,← he];have d:s<e:=by omega
 have f:e≤bs.length:=by omega
 have a:bs=(bs.take s ++ (bs.drop s).take (e-s)) ++ bs.drop e:=by
  rw [List.append_assoc];have h2:(bs.drop s).take (e-s) ++ bs.drop e=bs.drop s:=by
   have:=List.take_append_drop (e-s) (bs.drop s);rw [List.drop_drop,show s+(e-s)=e by omega] at this;exact this
  rw [h2,List.take_append_drop]
 have b:bev bs=(bev (bs.take s)*256^(e-s)+bev ((bs.drop s).take (e-s)))*256^(8*i)+bev (bs.drop e):=by
  conv=>lhs;rw [a]
  rw [ef,ef,List.length_take,List.length_drop,List.length_drop,Nat.min_eq_left (by omega),show bs.length-e=8*i by omega]
 have h1:bev (bs.drop e)<256^(8*i):=by
  have:=lv (hd.drop e)
  rwa [List.length_drop,show bs.length-e=8*i by omega] at this
 have h2:bev ((bs.drop s).take (e-s))<256^(e-s):=by
  have:=lv ((hd.drop s).take (e-s))
  rwa [List.length_take,List.length_drop,Nat.min_eq_left (by omega)] at this
 have h3:e-s=8∨s=0:=by omega
 have c:e-s≤8:=by omega
 generalize bev ((bs.drop s).take (e-s))=M at *;have hp:(18446744073709551616:Nat)^i=256^(8*i):=by rw [Nat.pow_mul]
 unfold dig;rw [hp,b,Nat.mul_comm _ (256^(8*i)),Nat.mul_add_div (Nat.pow_pos (by omega)),Nat.div_eq_of_lt h1,Nat.add_zero];rcases h3 with h8 | h0
 ·rw [h8] at h2 ⊢;rw [show (256:Nat)^8=18446744073709551616 from rfl] at h2 ⊢;omega
 ·subst h0;have h4:M<18446744073709551616:=Nat.lt_of_lt_of_le h2 (Nat.le_trans (Nat.pow_le_pow_right (by omega) c) (leR (256^8)));rw [List.take_zero,show bev []=0 from rfl,Nat.zero_mul,Nat.zero_add,al h4]

theorem Row.part {k:IntKind} {w:World} {b off n cap s e:Nat} {zs:List Nat} (h:Row k w (.slice (some ⟨b,off,none⟩) n cap) zs) (h1:s<e) (h2:e≤n):Row k w (.slice (some ⟨b,off+s,none⟩) (e-s) (cap-s)) ((zs.drop s).take (e-s)):=by
 obtain ⟨ao,c,e',c1,c2,_,h4⟩:=h;cases e'
 have hl:((zs.drop s).take (e-s)).length=e-s:=by rw [List.length_take,List.length_drop];omega
 refine ⟨_,_,by rw [hl],by omega,by omega,(fun e=>by cases e),fun i hi=>?_⟩;rw [hl] at hi;obtain ⟨b',d,e',a⟩:=h4 (s+i) (by omega);cases e'
 refine ⟨b,off+s,rfl,?_⟩;rw [Nat.add_assoc,a,List.getD_eq_getElem?_getD,List.getD_eq_getElem?_getD,List.getElem?_take,if_pos hi,List.getElem?_drop]

theorem Cq (n:Nat) (hn:1≤n) (l Bs L:Nat) (g:Nat→Nat) (v:Value) (bs:List Nat) (hd:Digs bs 256) (hL:Hid ((bs.length+7)/8=L)) (hg:Hid (∀ j,dig (bev bs) j=g j)) (S:Nat→Prop) (hS:S Bs) (M:∀ b,v.ownBlock=some b→0<L→S b)
  (J Jx:List (Fin L)→World→Prop)
  (hY:∀ a (x:Fin L) W,J a W→a.length<L→YieldAt Fence.wide (n-1) Tryz.prog l #[.int .i64 (x.val:Nat),.int .u64 (g x.val:Nat)] W fun e W'=>
   (e=.returned (.bool true)∧J (a ++ [x]) W'∧KeepB S W W')∨(e=.returned (.bool false)∧Jx (a ++ [x]) W'))
  (W:World) (E:W.cell? ⟨Bs,0,none⟩=some v) (hr:Row .u8 W v bs) (h0:J [] W) :
  CallsIn Fence.wide n Tryz.prog 201 #[.func (.yield l) #[] #[],.pointer (some ⟨Bs,0,none⟩)] W fun e W'=>(∃ v,e=.returned v) ∧
   ((∃ ys,ys.map Fin.val=List.range L∧J ys W')∨(∃ a,True∧Jx a W')):=by
 obtain ⟨ao,m,cap,rfl,hN,c1,c2,c3,h⟩:=hr.open;have HL:Hid ((m+7)/8=L):=by rw [← hN.out];exact hL
 have t:Hid (Row .u8 W (.slice ao m cap) bs):=hr;have d:Hid (∀ i,i<m→NumAt .u8 W ao bs i):=h;clear h hr hL;refine callsIn_of_wp Tryz.func201 rfl trivial ?_ rfl;simp only [Tryz.ntmps201,List.size_toArray,List.length_cons,List.length_nil,Nat.reduceAdd,Nat.reduceSub,Array.replicate_succ,Array.replicate_zero,List.push_toArray,List.append_toArray,List.nil_append,List.cons_append]
 gi_wp2
 gi_loopw [3,4] (fun e i wr=>∃ k r:Nat,Hid (k≤L∧r=m-8*k)∧r≤m∧e=.int .i64 (r:Int)∧i=.int .i64 (k:Int)∧(∃ a:List (Fin L),Hid (a.map Fin.val=List.range k)∧J a wr)∧KeepB S W wr)
  (fun e _ _=>(intOf e).toNat)
 case atStart=>exact ⟨0,m,⟨Nat.zero_le _,by omega⟩,leR _,rfl,rfl,⟨[],by simp [Hid],h0⟩,KeepB.refl _ _⟩
 case round=>
  obtain ⟨k,r,w,F,rfl,rfl,⟨a,c,B⟩,o⟩:=hrel;cases r with
  | zero=>
   have HK:Hid (k=L):=by have h1:=w.out;have h2:=HL.out;show k=L;omega
   gi_wp2
   go_end0
   exact ⟨⟨_,rfl⟩,.inl ⟨a,by rw [c.out,HK.out],B⟩⟩
  | succ q=>
   have z:k<L:=by have h1:=w.out;have h2:=HL.out;omega
   have hq:8*k+(q+1)=m:=by have h1:=w.out;omega
   have N:k<4611686018427387904:=by omega
   obtain ⟨s,hs⟩:∃ s:Nat,s=m-8*(k+1):=⟨_,rfl⟩
   have O:max ((q:Int)+1-8) 0=(s:Int):=by omega
   have H:s<q+1:=by omega
   have I:q+1-s≤8:=by omega
   have HS:Hid (s=m-8*(k+1)):=hs;clear hs;obtain ⟨b,off,rfl,_⟩:=d.out 0 (by omega);have f:=t.out.part H F;have hG:=Cf (some ⟨b,off+s,none⟩) (q+1-s) (cap-s) _ wr (o.row (fun b' hb hp=>by cases hb;exact M b rfl (by omega)) f) ((hd.drop s).take _) I;have hw:bev ((bs.drop s).take (q+1-s))=g k:=by
    rw [← hg.out,← j9 hd k (by have:=hN.out;omega),hN.out,← HS.out,show m-8*k=q+1 by omega]
   rw [hw] at hG;have D:=(o.cell (p:=⟨Bs,0,none⟩) hS).trans E;have A:a.length<L:=by
    have:=congrArg List.length c.out;rw [List.length_map,List.length_range] at this;omega
   obtain ⟨fn,tmps,assign,body,hy,hR⟩:=hY a ⟨k,z⟩ wr B A;dsimp only at hy;clear hw f d hq
   gi_wp2_with fail
   refine ⟨trivial,?_⟩;refine (callsIn_wide.2 hG).mono ?_;rintro e w' ⟨rfl,rfl⟩
   gi_wp2
   refine hR.mono ?_;rintro e W3 (⟨rfl,G,C⟩ | ⟨rfl,y⟩)
   ·gi_wp2
    go_roundw
    case rel=>exact ⟨k+1,s,⟨z,HS.out⟩,by have:=HS.out;omega,rfl,by go_num,⟨a ++ [⟨k,z⟩],by unfold Hid;rw [List.map_append,c.out,List.range_succ];rfl,G⟩,o.trans C⟩
    case measure=>simp [intOf];omega
   ·gi_wp2
    refine bodyPost_ret (results_none rfl _ _ _) rfl ?_;exact ⟨⟨_,rfl⟩,.inr ⟨_,trivial,y⟩⟩

theorem yU (ao:Option Addr) (a cap:Nat) (w:World) :
  Calls Tryz.prog 157 #[.slice ao a cap] w fun e w'=>e=.returned (.func (.func 201) #[] #[.pointer (some ⟨w.heap.size,0,none⟩)])∧w'=w.alloc (.cells #[.slice ao a cap] 22):=by
 go_enter Tryz.func157,Tryz.ntmps157;go_wp2;go_ret;exact ⟨rfl,rfl⟩

theorem uu (n:Nat) (hn:1≤n) (Bs L:Nat) (g:Nat→Nat) (v:Value) (bs:List Nat) (hd:Digs bs 256) (hL:(bs.length+7)/8=L) (hg:∀ j,dig (bev bs) j=g j) (S:Nat→Prop) (hS:S Bs) (a:∀ b,v.ownBlock=some b→0<L→S b)
  (w:World) (c:∀ k,S k→k<w.heap.size) (d:w.cell? ⟨Bs,0,none⟩=some v) (hr:Row .u8 w v bs) :
  SeqStopsK Fence.wide n Tryz.prog 201 #[.pointer (some ⟨Bs,0,none⟩)] (fun x:Fin L=>#[Value.int .i64 (x.val:Nat),Value.int .u64 (g x.val:Nat)]) (KeepB S) (fun ys=>ys.map Fin.val=List.range L) (fun _=>True) L w:=fun l J Jx W hW _ _ hY h0=>by
 have hk:KeepB S w W:=fun k hk=>hW.block k (c k hk)
 exact Cq n hn l Bs L g v bs hd hL hg S hS a J Jx hY W ((hk.cell (p:=⟨Bs,0,none⟩) hS).trans d) (hk.row (fun b hb hp=>a b hb (by omega)) hr) h0

attribute [local go_sem] Oper.semAt_some

theorem tP {bs:List Nat} {k:Nat} (hk:k≤bs.length) (hz:∀ i,i<k→bs.getD i 0=0):bev (bs.drop k)=bev bs:=by
 have h:bev (bs.take k)=0:=by
  have a:∀ d ∈ bs.take k,d=0:=by
   intro d hd;obtain ⟨i,hi,rfl⟩:=List.mem_iff_getElem.1 hd;have b:i<k:=by rw [List.length_take] at hi;omega
   have:=hz i b;rw [List.getD_eq_getElem?_getD,List.getElem?_eq_getElem (by omega)] at this;simpa using this
  have:∀ l:List Nat,(∀ d ∈ l,d=0)→bev l=0:=by
   intro l
   induction l with
   | nil=>intro _;rfl
   | cons x m ih=>
    intro h;have e:=ef [x] m;rw [List.singleton_append] at e;rw [e,ih (fun d hd=>h d (by simp [hd])),show bev [x]=x by simp [bev],h x (by simp),Nat.zero_mul]
  exact this _ a
 have e:=ef (bs.take k) (bs.drop k);rw [List.take_append_drop,h,Nat.zero_mul,Nat.zero_add] at e;exact e.symm

theorem ji {bs:List Nat} (hd:Digs bs 256) (a:bs.length=0∨bs.getD 0 0≠0) (m:Nat):aj (bev bs)≤m↔bs.length≤8*m:=by
 rw [ap];have hp:(18446744073709551616:Nat)^m=256^(8*m):=by rw [Nat.pow_mul]
 rw [hp];constructor
 ·intro h;rcases a with h0 | h0
  ·omega
  ·cases bs with
   | nil=>simp
   | cons x t=>
    have hx:x≠0:=by simpa using h0
    have e:=ef [x] t;rw [List.singleton_append,show bev [x]=x by simp [bev]] at e;have h1:1*256^t.length≤x*256^t.length:=Nat.mul_le_mul_right _ (by omega);have h2:(256:Nat)^t.length<256^(8*m):=by omega
    have:=(Nat.pow_lt_pow_iff_right (by omega:1<256)).1 h2;simp only [List.length_cons];omega
 ·intro h;exact Nat.lt_of_lt_of_le (lv hd) (Nat.pow_le_pow_right (by omega) h)

def Put (g:Nat→Nat) (L n:Nat) (pre:List (Fin L)) (zs:List Nat):Prop:=zs.length=n∧∀ j,zs.getD j 0=if j ∈ pre.map Fin.val then g j else 0

theorem Put.step {g:Nat→Nat} {L n:Nat} {a:List (Fin L)} {zs:List Nat} (h:Put g L n a zs) (x:Fin L) (hx:x.val<n):Put g L n (a ++ [x]) (zs.set x.val (g x.val)):=by
 refine ⟨by rw [List.length_set];exact h.1,fun j=>?_⟩;rw [List.getD_eq_getElem?_getD,List.getElem?_set,List.map_append];by_cases e:x.val=j
 ·subst e;simp [h.1,hx]
 ·rw [if_neg e,← List.getD_eq_getElem?_getD,h.2 j];have:¬ j=x.val:=fun h=>e h.symm
  simp [this]

theorem Put.all {g:Nat→Nat} {L n V:Nat} {a:List (Fin L)} {zs:List Nat} (h:Put g L n a zs) (hp:a.map Fin.val=List.range L) (hg:∀ j,dig V j=g j) (hV:aj V≤L):zs=ag V n:=by
 apply List.ext_getElem
 ·rw [h.1,af]
 ·intro i h1 h2;have e:=h.2 i;rw [hp,List.getD_eq_getElem?_getD,List.getElem?_eq_getElem h1,Option.getD_some] at e;have e2:=cY 18446744073709551616 V n i (by rw [← h.1];exact h1);rw [List.getD_eq_getElem?_getD,List.getElem?_eq_getElem h2,Option.getD_some] at e2;rw [e,e2];by_cases hi:i<L
  ·rw [if_pos (by simpa using hi),hg]
  ·rw [if_neg (by simpa using hi)];unfold dig;rw [Nat.div_eq_of_lt ((ap V i).1 (by omega)),Nat.zero_mod]

attribute [local go_sem] Oper.semAt_some

theorem A8 (v:Value) (bs:List Nat) (n:Int) (w:World) (h:Row .u8 w v bs) (hd:Digs bs 256) :
  Calls Tryz.prog 115 #[v,.int .i64 n] w fun r w'=>∃ v',r=.returned (.tuple #[v',.int .i64 (aP (bev bs) n)])∧OwnN .u64 23 w' w.heap.size v' (bh (bev bs) n).length (bh (bev bs) n)∧Kept ae w w':=by
 obtain ⟨i0,an,ak,ac,Y⟩:=info_parts Tryz.info23;have hE:=pK n w;have hT:=AY v bs w h;refine (callsIn_wide (n:=9)).1 ?_;refine callsIn_of_wp_marks Tryz.func115 rfl trivial ?_ rfl;simp only [Tryz.ntmps115,List.size_toArray,List.length_cons,List.length_nil,Nat.reduceAdd,Nat.reduceSub,Array.replicate_succ,Array.replicate_zero,List.push_toArray,List.append_toArray,List.nil_append,List.cons_append];refine wpIn_wide.2 ?_;obtain ⟨RC,M⟩:∃ RC,RC=aP (bev bs) n:=⟨_,rfl⟩
 obtain ⟨RL,N⟩:∃ RL,RL=bh (bev bs) n:=⟨_,rfl⟩
 rw [← M,← N];have HC:Hid (RC=aP (bev bs) n):=M;have HL:Hid (RL=bh (bev bs) n):=N;clear M N;by_cases h1:300<n
 ·obtain ⟨e1,e2⟩:=mw (V:=bev bs) h1;rw [e1] at HC;rw [e2] at HL;rw [if_pos h1] at hE;clear e1 e2 hT;go_wp2_with fail;refine hE.mono ?_;rintro e w' ⟨rfl,rfl⟩;go_wp2;exact ⟨_,results_tmp2 rfl _ _ _,_,by rw [HC.out];rfl,by rw [HL.out];exact World.ownsRow_nil _ _ _ _,ah _ _⟩
 ·rw [if_neg h1] at hE;by_cases h2:n<0
  ·obtain ⟨e1,e2⟩:=gJ (V:=bev bs) h1 (.inl h2);rw [e1] at HC;rw [e2] at HL;rw [if_pos h2] at hE;clear e1 e2 hT;go_wp2_with fail;refine hE.mono ?_;rintro e w' ⟨rfl,rfl⟩;go_wp2;exact ⟨_,results_tmp2 rfl _ _ _,_,by rw [HC.out];rfl,by rw [HL.out];exact World.ownsRow_nil _ _ _ _,ah _ _⟩
  ·rw [if_neg h2] at hE;obtain ⟨m,rfl⟩:=Int.eq_ofNat_of_zero_le (show 0≤n by omega);go_wp2_with fail;refine hE.mono ?_;rintro e w' ⟨rfl,rfl⟩;go_wp2_with fail;refine hT.mono ?_;rintro e w' ⟨v',rfl,k,hr,hk,hz,X,ab,rfl⟩;have E:=tP hk hz;have O:=hd.drop k;have i:(bs.drop k).length=0∨(bs.drop k).getD 0 0≠0:=by
    rcases X with e | e
    ·left;rw [List.length_drop];omega
    ·right;rw [List.getD_eq_getElem?_getD,List.getElem?_drop,← List.getD_eq_getElem?_getD];exact e
   have a:=ji O i m;have T:=(ji O i (((bs.drop k).length+7)/8)).2 (by omega);rw [← E] at HC HL;clear hT hE hz X i E hd h hk;generalize bs.drop k=cs at *;clear ab;obtain ⟨ao,q,cap,rfl,Q,g1,g2,g3,g4⟩:=hr.open;rw [Q.out] at a;have h8:wrap64 (8*(m:Int))=8*m:=by simp [wrap64];omega
   by_cases h3:q≤8*m
   ·obtain ⟨e1,e2⟩:=i9 (V:=bev cs) (n:=m) (by omega) (a.2 h3);rw [e1] at HC;rw [e2] at HL;have al:¬ (q:Int) > 8*(m:Int):=by omega
    have HW:Hid (aj (bev cs)≤(cs.length+7)/8):=T;have aq:(cs.length+7)/8≤m:=by have:=Q.out;omega
    clear e1 e2 a T;have J:Hid (Row .u8 w' (.slice ao q cap) cs):=hr;clear hr;go_wp2_with (at_make;refine wpList_make_full _ rfl _ _ 32 rfl w'.heap.size 23 i0 _ 1 Tryz.underlying32 an ak ac _ _ _ _ m rfl rfl rfl rfl (by rw [Y];omega) (by unfold maxLen;omega) (leR _) ?_;intro w1 I R;rw [aE] at I;have k1:=aC R);have ag:=lt_of_block (ei I);have aa:Hid _:=I;clear I R;have hD:=yU ao q cap (w1.alloc (.cells #[.slice (some ⟨w'.heap.size,0,none⟩) m m] 32));refine hD.mono ?_;rintro e w2 ⟨rfl,rfl⟩;clear hD;have bX:=Boxed.new w1 32 (.slice (some ⟨w'.heap.size,0,none⟩) m m)
    have bN:=Boxed.new (w1.alloc (.cells #[.slice (some ⟨w'.heap.size,0,none⟩) m m] 32)) 22 (.slice ao q cap);rw [World.size_alloc] at bN;have kA:=(k1.alloc (.cells #[.slice (some ⟨w'.heap.size,0,none⟩) m m] 32)).alloc (.cells #[.slice ao q cap] 22);have am:=kA.below (leR _) (fun _ f=>f.elim);have t:=J.out.grew kA;have o:∀ b,(Value.slice ao q cap).ownBlock=some b→0<(cs.length+7)/8→b<w'.heap.size:=by
     intro b hb hp;obtain ⟨b',off,rfl,hc⟩:=g4 0 (by have:=Q.out;omega);cases hb
     exact World.block_lt_of_cell? w' _ hc
    clear g4;obtain ⟨g,hg⟩:∃ g:Nat→Nat,∀ j,dig (bev cs) j=g j:=⟨_,fun _=>rfl⟩
    have HG:Hid (∀ j,dig (bev cs) j=g j):=hg;go_wp2_with fail;refine (wpIn_wide (n:=9)).1 ?_;refine wpIn_rangeFunc_ownG (F:=Fence.wide) (n:=9) rfl (by omega) (gf:=201) (lb:=#[.pointer (some ⟨w1.heap.size+1,0,none⟩)]) rfl trivial (enters_of Tryz.func201 (by kernel_rfl) rfl)
     (uu 8 (by omega) (w1.heap.size+1) ((cs.length+7)/8) g (.slice ao q cap) cs O rfl hg (fun k=>k=w1.heap.size+1∨((Value.slice ao q cap).ownBlock=some k∧0<(cs.length+7)/8)) (.inl rfl) (fun b hb hp=>.inr ⟨hb,hp⟩) _ ?hsw bN.cell t) KeepB.trans (KeepB.put ?hsw2) (Below.refl _ _) (fun _=>rfl)
     (fun H W=>((∃ zs:List Nat,W.ownsRow w'.heap.size 23 1 (.slice (some ⟨w'.heap.size,0,none⟩) m m) m (zs.map fun z=>.int .u64 (z:Nat))∧Put g ((cs.length+7)/8) m H zs)∧Boxed W w1.heap.size 32 (.slice (some ⟨w'.heap.size,0,none⟩) m m))∧Below w'.heap.size w' W)
     (fun _ _ _=>False)
     (OwnFrom.and (Own.from (fun s A B ap hs hg hr=>⟨by obtain ⟨zs,h1,h2⟩:=hs.1;exact ⟨zs,mY h1 hg hr,h2⟩,oN hs.2 hg hr⟩) _) (ownFrom_below (leR _) (by simp;omega)))
     (fun _ _ _ _ _ hs _ _=>hs)
     ⟨⟨⟨List.replicate m 0,World.ownsRow.alloc (World.ownsRow.alloc aa.out _) _,by simp,fun j=>by rw [List.getD_eq_getElem?_getD,List.getElem?_replicate];split <;> simp⟩,bX.alloc _⟩,am⟩
     ?act ?assign ?body ?done ?stop
    case hsw=>
     rintro k (rfl | ⟨hk,hp⟩)
     ·simp
     ·have:=o k hk hp;simp;omega
    case hsw2=>
     rintro k (rfl | ⟨hk,hp⟩)
     ·simp
     ·have:=o k hk hp;simp;omega
    case assign=>
     intro l x W K hK
     gi_wp2
     exact hK
    case body=>
     rintro l H x W ⟨⟨⟨zs,y,d⟩,G⟩,hB⟩ _;have hx:=x.isLt;have L:x.val<m:=by omega
     have hc:W.cell? ⟨w'.heap.size,x.val,none⟩=some (.int .u64 (zs.getD x.val 0:Nat)):=by
      rw [World.ownsRow.cellAt y x.val (by omega),List.getElem?_map,List.getElem?_eq_getElem (by rw [d.1];exact L),List.getD_eq_getElem?_getD,List.getElem?_eq_getElem (by rw [d.1];exact L)];rfl
     have hf:=World.ownsRow.frozenAt y x.val;have S:=(World.ownsRow.stored y x.val (.int .u64 (g x.val:Nat))).1;have ai:=G.cell;have P:Hid (Put g ((cs.length+7)/8) m (H ++ [x]) (zs.set x.val (g x.val))):=d.step x L;have Z:Hid (World.ownsRow (W.setCell ⟨w'.heap.size,x.val,none⟩ (.int .u64 (g x.val:Nat))) w'.heap.size 23 1 (.slice (some ⟨w'.heap.size,0,none⟩) m m) m ((zs.map fun z=>.int .u64 (z:Nat)).set x.val (.int .u64 (g x.val:Nat)))):=S;generalize zs.getD x.val 0=old at *;clear S d hg t
     gi_wp2
     refine ⟨(KeepsOthers.setCell _ _ _).from _,?_,⟨⟨zs.set x.val (g x.val),by rw [List.map_set];exact Z.out,P.out⟩,di G (show w1.heap.size≠w'.heap.size by omega) _⟩,hB.setCell (p:=⟨w'.heap.size,x.val,none⟩) (leR _) _⟩;rintro k (rfl | ⟨hk,hp⟩)
     ·exact Below.heap_setCell W _ _ _ (show w1.heap.size+1≠w'.heap.size by omega)
     ·have:=o k hk hp;exact Below.heap_setCell W _ _ _ (show k≠w'.heap.size by omega)
    case done=>
     rintro D ys W hD U ⟨⟨⟨zs,y,d⟩,G⟩,hB⟩ hK;have ad:=d.all U HG.out HW.out;subst ad;have ai:=G.cell;clear d hg t U;go_wp2;refine ⟨by simp,.inl ⟨_,_,rfl,run_takeDeferred hK,?_⟩⟩;have C:=hB.trans (belowK_b (w:=w') (leR _) W D _ (.deferred none) (by simp at hD;omega) hK rfl rfl);refine ⟨_,results_tmp2 rfl _ _ _,_,by rw [HC.out];rfl,?_,⟨C.os,C.tape,C.output,C.size,fun k hk _=>C.block k hk⟩⟩;rw [HL.out];rw [af];exact mY y (grownBy_putObj' _ D (.deferred none)) (fun r e=>by cases e;exact ⟨_,hK,rfl⟩)
    case stop=>
     rintro D c H W _ _ h _;exact h.elim
   ·obtain ⟨e1,e2⟩:=gJ (V:=bev cs) (n:=(m:Int)) (by omega) (.inr (by simp;omega));rw [e1] at HC;rw [e2] at HL;have al:(q:Int) > 8*(m:Int):=by omega
    clear e1 e2 a g4 hr;go_wp2;exact ⟨_,results_tmp2 rfl _ _ _,_,by rw [HC.out];rfl,by rw [HL.out];exact World.ownsRow_nil _ _ _ _,ah _ _⟩

theorem Ce (v:Value) (bs:List Nat) (n:Int) (w:World) (h:Row .u8 w v bs) (hd:Digs bs 256) :
  Calls Tryz.prog 115 #[v,.int .i64 n] w fun r w'=>∃ v',r=.returned (.tuple #[v',.int .i64 (aP (bev bs) n)])∧Row .u64 w' v' (bh (bev bs) n)∧(∀ b,v'.ownBlock=some b→w.heap.size≤b)∧Kept ae w w':=by
 refine (A8 v bs n w h hd).mono ?_;rintro e w' ⟨v',he,h1,h2⟩;exact ⟨v',he,Row.of_own h1,fun b hb=>(World.ownsRow.lt h1 b hb).1,h2⟩

end Go.Proofs.YtcemlfokmjjiaaaGreatDoor
