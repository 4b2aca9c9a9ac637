/- Put together of: RinE Law6 Pow3 Iva1. -/
import Derived.Test.YtkaojflnghfmcaaGreatDoorQA16

namespace Go.Proofs.YtkaojflnghfmcaaGreatDoor
set_option maxRecDepth 100000
set_option maxHeartbeats 4000000
open Go.RowKit

theorem As (o:Tr) (ao bo xo:Option Addr) (n l K a b N1 xc bT bM bA:Nat) (ms xs:List Nat) (w:World)
  (ht:TrRoom w o 60000) (hm:RowT w o (.slice ao n a) ms) (hx:RowT w o (.slice xo N1 xc) xs) (f:Digs ms) (d:Digs xs)
  (hT:Box w bT (aB o) 53) (hM:w.heap[bM]? = some (.cells #[.slice ao n a,.int .u64 (K:Nat),.slice bo l b] 70 (0,0))) (hA:Box w bA (.slice xo N1 xc) 23) :
  Calls Tryz.prog 198 #[.pointer (some ⟨bT,0,none⟩),.pointer (some ⟨bA,0,none⟩),.pointer (some ⟨bM,0,none⟩)] w fun e w'=>∃ v' c,e=.returned (.tuple #[v',.int .i64 ((c:Nat):Int)])∧∃ zs m' o2,Row .u64 w' v' zs∧Lies true w w' v'∧Did w o m' w' o2 ∧
   ((zs=fK (val xs) (val ms) N1 n∧c=fg (val ms) N1 n)∧m'=cP N1 n):=by
 obtain ⟨po,g⟩:=aF o;obtain ⟨E,hE⟩:∃ E,E=fg (val ms) N1 n:=⟨_,rfl⟩
 have hD:=sY o xo ao N1 n xc a xs ms E hE w ht hx hm d f;rw [← hE];have cT:=hT.cell;have cA:=hA.cell;obtain ⟨p0,p1,p2⟩:=aw hM;rw [g] at hD cT;clear hm hx f d hT hM hA g ht hE;generalize fK (val xs) (val ms) N1 n=RL at *;generalize cP N1 n=DS at *;go_enter Tryz.func198,Tryz.ntmps198;go_wp2_with fail;refine hD.mono ?_;rintro e w1 ⟨v1,v2,rfl,_,h2,h3,o1,h4⟩;clear hD cT cA p0 p1 p2;go_wp2_with fail;go_ret2;exact ⟨_,E,rfl,_,_,o1,h2,fun _=>h3,h4,⟨rfl,rfl⟩,rfl⟩

theorem Bu (o:Tr) (ao bo xo:Option Addr) (n l K a b N1 xc:Nat) (ms rs xs:List Nat) (w:World)
  (ht:TrRoom w o 60000) (hm:RowT w o (.slice ao n a) ms) (hr:RowT w o (.slice bo l b) rs) (hx:RowT w o (.slice xo N1 xc) xs) (q:Digs ms) (x:Digs rs) (v:Digs xs) (hK:K<18446744073709551616) (z:n≤1000000) :
  Calls Tryz.prog 141 #[aB o,.agg #[.slice ao n a,.int .u64 (K:Nat),.slice bo l b],.slice xo N1 xc] w fun e w'=>∃ v' c,e=.returned (.tuple #[v',.int .i64 ((c:Nat):Int)])∧Asked w o true (okMod ms K rs) (fun zs c=>zs=fK (val xs) (val ms) N1 n∧c=fg (val ms) N1 n) (List.replicate 0 (1,(n:Int),0) ++ cP N1 n) w' v' c:=by
 have A:=eP;have he:∀ args w,(callFunc 198 args).run Tryz.prog w=.ok (.enter 198 args) w:=fun _ _=>by simp [go_sem]
 obtain ⟨po,r⟩:=aF o;obtain ⟨W,hW⟩:∃ W,W=((w.alloc (.cells #[.pointer po] 53)).alloc (.cells #[.slice ao n a,.int .u64 (K:Nat),.slice bo l b] 70)).alloc (.cells #[.slice xo N1 xc] 23):=⟨_,rfl⟩
 have k0:Kept af w W:=by rw [hW];exact (((ah af w).alloc _).alloc _).alloc _
 have p:Box W w.heap.size (.pointer po) 53:=by rw [hW];exact ((Box.new w _ _).alloc _).alloc _
 have g:W.heap[w.heap.size+1]? = some (.cells #[.slice ao n a,.int .u64 (K:Nat),.slice bo l b] 70 (0,0)):=by
  rw [hW];refine am ?_;have:=heap_alloc_new (w.alloc (.cells #[.pointer po] 53)) (.cells #[.slice ao n a,.int .u64 (K:Nat),.slice bo l b] 70)
  rwa [show (w.alloc (.cells #[.pointer po] 53)).heap.size=w.heap.size+1 by simp] at this
 have t:Box W (w.heap.size+1+1) (.slice xo N1 xc) 23:=by
  rw [hW];have:=Box.new ((w.alloc (.cells #[.pointer po] 53)).alloc (.cells #[.slice ao n a,.int .u64 (K:Nat),.slice bo l b] 70)) (.slice xo N1 xc) 23
  rwa [show ((w.alloc (.cells #[.pointer po] 53)).alloc (.cells #[.slice ao n a,.int .u64 (K:Nat),.slice bo l b] 70)).heap.size=w.heap.size+1+1 by simp] at this
 have f:=r8 o ao bo none n l K a b 0 0 198 #[.pointer (some ⟨w.heap.size,0,none⟩),.pointer (some ⟨w.heap.size+1+1,0,none⟩),.pointer (some ⟨w.heap.size+1,0,none⟩)]
  (fun _=>none) (fun _=>0) (fun _=>0) (fun _=>[]) ms rs 60000 (cP N1 n) true (fun zs c=>zs=fK (val xs) (val ms) N1 n∧c=fg (val ms) N1 n) W
  ((ht.grew k0).less (by omega)) (hm.grew k0) (hr.grew k0) q x hK (by omega) (by omega)
  (fun i hi=>absurd hi (by omega)) (fun W' m o' d i hi=>absurd hi (by omega)) (fun i hi=>absurd hi (by omega)) (fun i hi=>absurd hi (by omega))
  he
  (fun hn y W' m o' d k=>by
   have s:=(ht.grew k0).1;refine (As o' ao bo xo n l K a b N1 xc w.heap.size (w.heap.size+1) (w.heap.size+1+1) ms xs W' k ((hm.grew k0).did d) ((hx.grew k0).did d) q v (by rw [d.ptr,r];exact p.did d s (by decide) (by decide)) ((d.kept.block _ (lt_of_block g) (ay g s (by decide) (by decide))).trans g) (t.did d s (by decide) (by decide))).mono ?_;rintro e w' ⟨v',c,rfl,zs,m',o2,h1,h2,h3,h4⟩;exact ⟨v',c,rfl,zs,m',o2,h1,h2,h3,fun _ _=>h4⟩)
 have j:(okMod ms K rs∧e8 0 n (val ms) (fun _=>0) (fun _=>[]))↔okMod ms K rs:=⟨fun h=>h.1,fun h=>⟨h,fun i hi=>absurd hi (by omega)⟩⟩
 rw [j] at f;have HB:Hid (∀ w' v' c,Asked W o true (okMod ms K rs) (fun zs c=>zs=fK (val xs) (val ms) N1 n∧c=fg (val ms) N1 n) (List.replicate 0 (1,(n:Int),0) ++ cP N1 n) w' v' c→Asked w o true (okMod ms K rs) (fun zs c=>zs=fK (val xs) (val ms) N1 n∧c=fg (val ms) N1 n) (List.replicate 0 (1,(n:Int),0) ++ cP N1 n) w' v' c):=fun w' v' c h=>h.after k0
 have HW:=aa hW;obtain ⟨c3,c4,c5⟩:=aw g;have c0:=p.cell;rw [r] at f ⊢;clear ht hm hr hx q x v hK z r k0 p g t hW he j;generalize (okMod ms K rs)=PP at *;generalize (fun zs c=>zs=fK (val xs) (val ms) N1 n∧c=fg (val ms) N1 n)=RR at *;generalize List.replicate 0 (1,(n:Int),0) ++ cP N1 n=EE at *;go_enter Tryz.func141,Tryz.ntmps141;go_wp2_with fail;rw [← HW.out];refine f.mono ?_;rintro e w1 ⟨v1,c,rfl,h1⟩;have H1:=aa (HB.out _ _ _ h1);clear f h1 c0 c3 c4 c5;go_wp2_with fail;go_ret2;exact ⟨_,c,rfl,H1.out⟩

theorem jS {V K:Nat} (h:cZ V=0) (hK:mS V K):okMod (fu V) K (fW V)∧(fu V).length=aj V∧(fW V).length=aj V∧val (fu V)=V∧Digs (fu V)∧Digs (fW V):=by
 have hM:fu V=digs V (aj V):=by unfold fu;rw [if_pos h]
 have hR:fW V=digs (2^(128*aj V)%V) (aj V):=by unfold fW;rw [if_pos h]
 have hv:val (fu V)=V:=by rw [hM,al,ak ((aq V _).1 (leR _))]
 refine ⟨?_,by rw [hM,ag],by rw [hR,ag],hv,by rw [hM];exact ai (by omega) _ _,by rw [hR];exact ai (by omega) _ _⟩;unfold okMod;rw [hv];exact ⟨h,rfl,hK,rfl⟩

theorem jB {W w':World} {o:Tr} {v:Value} {zs:List Nat} (hF:Fresh W v) (ht:TrIn W o) (hr:Row .u64 w' v zs):RowT w' o v zs:=
 ⟨hr,fun _ b hb f=>by have h1:=hF b hb;have h2:=ht.foot b f;omega⟩

def nrm:List (Int × Int):=[(-30,-22),(-23,-34),(-5,-62),(9,-76),(14,-79),(29,-85),(32,-74),(35,-56),(41,-12),(41,0),(30,22),(23,34),(5,62),(-9,76),(-14,79),(-29,85),(-32,74),(-35,56),(-41,12),(-41,0)]

def crs (a b:Int × Int):Int:=a.1*b.2-a.2*b.1

def dom (t:Int × Int) (B:Int):Bool:=(nrm.zip (nrm.drop 1 ++ nrm.take 1)).any fun p=>decide (0<crs p.1 p.2) && decide (0≤crs t p.2) && decide (0≤crs p.1 t) && decide (crs t p.2+crs p.1 t≤crs p.1 p.2*B)

def InK (T F G:Int):Prop:=∀ n ∈ nrm,n.1*F+n.2*G≤T

theorem gh {t:Int × Int} {B T F G:Int} (hT:0≤T) (h:dom t B=true) (hk:InK T F G):t.1*F+t.2*G≤B*T:=by
 unfold dom at h;rw [List.any_eq_true] at h;obtain ⟨⟨n1,n2⟩,hm,hp⟩:=h;simp only [Bool.and_eq_true,decide_eq_true_eq] at hp;obtain ⟨⟨⟨h1,h2⟩,h3⟩,h4⟩:=hp;have m1:n1 ∈ nrm:=(List.of_mem_zip hm).1;have m2:n2 ∈ nrm:=by
  have:=(List.of_mem_zip hm).2;rw [List.mem_append] at this;rcases this with h | h
  ·exact List.mem_of_mem_drop h
  ·exact List.mem_of_mem_take h
 have e:crs n1 n2*(t.1*F+t.2*G)=crs t n2*(n1.1*F+n1.2*G)+crs n1 t*(n2.1*F+n2.2*G):=by
  unfold crs
  grind
 have a1:=Int.mul_le_mul_of_nonneg_left (hk n1 m1) h2;have a2:=Int.mul_le_mul_of_nonneg_left (hk n2 m2) h3;have a3:=Int.mul_le_mul_of_nonneg_right h4 hT;rw [Int.add_mul] at a3;have:crs n1 n2*(t.1*F+t.2*G)≤crs n1 n2*(B*T):=by
  rw [e,← Int.mul_assoc];omega
 exact Int.le_of_mul_le_mul_left this h1

theorem kB:dom (41,0) 1=true∧dom (-41,0) 1=true∧dom (0,67) 1=true∧dom (0,-67) 1=true:=by decide +kernel

def zI (e:Nat) (q:Int) (n:Int × Int):Int × Int:=(17^e*(-(2^(e-1))*n.2),17^e*(n.1*2^(e+1)+n.2*q))

theorem qN:∀ e ∈ [1,2,3,4,5,6,7],∀ n ∈ nrm,dom (zI e 1 n) (42^e)=true∧dom (zI e (2^(e+1)-1) n) (42^e)=true:=by decide +kernel

theorem qD:∀ n ∈ nrm,(-85≤n.2∧n.2≤85)∧(n.1+n.2≤114∧n.1-n.2≤114∧-n.1+n.2≤114∧-n.1-n.2≤114):=by decide +kernel

theorem sL {x y X Y:Int} (h1:-X≤x) (h2:x≤X) (h3:-Y≤y) (h4:y≤Y):x*y≤X*Y:=by
 have e1:x.natAbs≤X.toNat:=by omega
 have e2:y.natAbs≤Y.toNat:=by omega
 have h:=Nat.mul_le_mul e1 e2;rw [← Int.natAbs_mul] at h;have hX:(X.toNat:Int)=X:=by omega
 have hY:(Y.toNat:Int)=Y:=by omega
 have:((x*y).natAbs:Int)≤((X.toNat*Y.toNat:Nat):Int):=by exact_mod_cast h
 rw [Int.natCast_mul,hX,hY] at this;have:=Int.le_natAbs (a:=x*y);omega

theorem uD (k:Nat):(24391:Int)*17^(8+k)≤5494*21^(8+k):=by
 induction k with
 | zero=>decide
 | succ k ih=>
  rw [← Nat.add_assoc,Int.pow_succ,Int.pow_succ];have:(0:Int)<17^(8+k):=Int.pow_pos (by omega);have:(0:Int)<21^(8+k):=Int.pow_pos (by omega);omega

theorem yW {e:Nat} {q T F G:Int} (he:1≤e) (j:1≤q) (i:q≤2^(e+1)-1) (hT:0≤T) (hk:InK T F G) {n:Int × Int} (hn:n ∈ nrm):17^e*(-(2^(e-1))*n.2*F+(n.1*2^(e+1)+n.2*q)*G)≤42^e*T:=by
 by_cases h7:e≤7
 ·have hm:e ∈ [1,2,3,4,5,6,7]:=by
   have:e=1∨e=2∨e=3∨e=4∨e=5∨e=6∨e=7:=by omega
   simpa using this
  obtain ⟨d1,d2⟩:=qN e hm n hn;have a1:=gh hT d1 hk;have a2:=gh hT d2 hk;unfold zI at a1 a2;dsimp only at a1 a2;generalize (2:Int)^(e+1)=Q at *;generalize (2:Int)^(e-1)=P at *;generalize (17:Int)^e=A at *;generalize (42:Int)^e*T=Z at *;obtain ⟨a,b⟩:=n;dsimp only at *;rcases Int.lt_or_le 2 Q with h | h
  ·have b1:=Int.mul_le_mul_of_nonneg_left a1 (show 0≤Q-1-q by omega);have b2:=Int.mul_le_mul_of_nonneg_left a2 (show 0≤q-1 by omega);have e1:(Q-2)*(A*(-P*b*F+(a*Q+b*q)*G))=(Q-1-q)*(A*(-P*b)*F+A*(a*Q+b*1)*G)+(q-1)*(A*(-P*b)*F+A*(a*Q+b*(Q-1))*G):=by grind
   have e2:(Q-2)*Z=(Q-1-q)*Z+(q-1)*Z:=by grind
   refine Int.le_of_mul_le_mul_left (a:=Q-2) ?_ (by omega);rw [e1,e2];exact Int.add_le_add b1 b2
  ·obtain rfl:q=1:=by omega
   have e1:A*(-P*b*F+(a*Q+b*1)*G)=A*(-P*b)*F+A*(a*Q+b*1)*G:=by grind
   rw [e1];exact a1
 ·obtain ⟨k,rfl⟩:∃ k,e=8+k:=⟨e-8,by omega⟩
  have c1:=gh hT kB.1 hk;have c2:=gh hT kB.2.1 hk;have c3:=gh hT kB.2.2.1 hk;have c4:=gh hT kB.2.2.2 hk;dsimp only at c1 c2 c3 c4;obtain ⟨⟨n1,n2⟩,n3,n4,n5,n6⟩:=qD n hn;obtain ⟨a,b⟩:=n;dsimp only at n1 n2 n3 n4 n5 n6 ⊢;have hl:=uD k;have d:(42:Int)^(8+k)=2*(2^(8+k-1))*21^(8+k):=by
   rw [show (42:Int)=2*21 by rfl,Int.mul_pow,← Int.pow_succ',show 8+k-1+1=8+k by omega]
  have eQ:(2:Int)^(8+k+1)=4*2^(8+k-1):=by
   rw [show 8+k+1=(8+k-1)+2 by omega,Int.pow_add];omega
  rw [eQ] at i ⊢;rw [d];have hP:(0:Int)<2^(8+k-1):=Int.pow_pos (by omega);have hA:(0:Int)<17^(8+k):=Int.pow_pos (by omega);generalize (2:Int)^(8+k-1)=P at *;generalize (17:Int)^(8+k)=A at *;generalize (21:Int)^(8+k)=C at *;have d1:-b*(41*F)≤85*T:=sL (by omega) (by omega) (by omega) (by omega)
  -- the second coefficient
  have f:a*(4*P)+b*q≤456*P:=by
   rcases Int.le_total 0 b with h | h
   ·have:=Int.mul_le_mul_of_nonneg_left (show q≤4*P by omega) h;have h2:=Int.mul_le_mul_of_nonneg_right n3 (show 0≤4*P by omega);rw [Int.add_mul] at h2;omega
   ·have:=Int.mul_le_mul_of_nonneg_left (show 0≤q by omega) (show 0≤-b by omega);have h2:=Int.mul_le_mul_of_nonneg_right (show a≤114 by omega) (show 0≤4*P by omega);rw [Int.mul_zero,Int.neg_mul] at this;omega
  have g:-(456*P)≤a*(4*P)+b*q:=by
   rcases Int.le_total 0 b with h | h
   ·have:=Int.mul_le_mul_of_nonneg_left (show 0≤q by omega) h;have h2:=Int.mul_le_mul_of_nonneg_right (show -114≤a by omega) (show 0≤4*P by omega);rw [Int.mul_zero] at this;omega
   ·have:=Int.mul_le_mul_of_nonneg_left (show q≤4*P by omega) (show 0≤-b by omega);have h2:=Int.mul_le_mul_of_nonneg_right n6 (show 0≤4*P by omega);rw [Int.sub_mul,Int.neg_mul] at h2;rw [Int.neg_mul,Int.neg_mul] at this;omega
  have d2:(a*(4*P)+b*q)*(67*G)≤456*P*T:=sL g f (by omega) (by omega);generalize a*(4*P)+b*q=c at *
  -- 41*67 times what is asked
  have d3:2747*(-P*b*F+c*G)≤24391*(P*T):=by
   have h1:=Int.mul_le_mul_of_nonneg_left d1 (show 0≤67*P by omega);have e1:2747*(-P*b*F+c*G)=67*P*(-b*(41*F))+41*(c*(67*G)):=by grind
   have e2:67*P*(85*T)=5695*(P*T):=by grind
   have e3:41*(456*P*T)=18696*(P*T):=by grind
   rw [e1];omega
  have h1:=Int.mul_le_mul_of_nonneg_left d3 (show 0≤A by omega);have h2:=Int.mul_le_mul_of_nonneg_right hl (show 0≤P*T from Int.mul_nonneg (by omega) hT);refine Int.le_of_mul_le_mul_left (a:=2747) ?_ (by omega);have e1:2747*(A*(-P*b*F+c*G))=A*(2747*(-P*b*F+c*G)):=by grind
  have e2:A*(24391*(P*T))=24391*A*(P*T):=by grind
  have e3:5494*C*(P*T)=2747*(2*P*C*T):=by grind
  rw [e1];omega

theorem tF {e:Nat} {q T F G f g:Int} (he:1≤e) (i:1≤q) (j:q≤2^(e+1)-1) (hT:0≤T) (hk:InK T F G) (h1:G=2^(e-1)*f) (h2:2^(e+1)*g=q*f-F):InK (21^e*T) (34^e*f) (34^e*g):=by
 intro n hn;have c:=yW he i j hT hk hn;obtain ⟨k,rfl⟩:∃ k,e=k+1:=⟨e-1,by omega⟩
 have h:(42:Int)^(k+1)=2*2^k*21^(k+1):=by
  rw [show (42:Int)=2*21 by rfl,Int.mul_pow,Int.pow_succ']
 have d:(34:Int)^(k+1)=2*2^k*17^(k+1):=by
  rw [show (34:Int)=2*17 by rfl,Int.mul_pow,Int.pow_succ']
 have eQ:(2:Int)^(k+1+1)=4*2^k:=by
  rw [Int.pow_succ,Int.pow_succ];omega
 rw [Nat.add_sub_cancel] at h1 c;rw [eQ] at h2 c;rw [h] at c;rw [d];have hP:(0:Int)<2^k:=Int.pow_pos (by omega);generalize (2:Int)^k=P at *;generalize (17:Int)^(k+1)=A at *;generalize (21:Int)^(k+1)=C at *;obtain ⟨a,b⟩:=n;dsimp only at c ⊢;have e1:A*(-P*b*F+(a*(4*P)+b*q)*G)=2*P*(a*(2*P*A*f)+b*(2*P*A*g)):=by
  have:F=q*f-4*P*g:=by omega
  rw [h1,this]
  grind
 rw [e1,show 2*P*C*T=2*P*(C*T) by grind] at c;exact Int.le_of_mul_le_mul_left c (by omega)

def dst (s:Int × Int × Int):Int × Int × Int:=if 0<s.1∧s.2.2%2=1 then (1-s.1,s.2.2,(s.2.2-s.2.1)/2) else (1+s.1,s.2.1,(s.2.2+s.2.2%2*s.2.1)/2)

def ee (s:Int × Int × Int):Nat→Int × Int × Int
 | 0=>s
 | t+1=>dst (ee s t)

def ui (B:Int) (t:Nat) (s:Int × Int × Int):Prop:=
 ∃ (w:Nat) (F G:Int),InK (21^w*B) (34^w*F) (34^w*G)∧s.2.1%2=1∧F%2=1 ∧
  ((∃ k:Nat,s.1=1+k∧t=2*w+k∧F=s.2.1∧G=2^k*s.2.2) ∨
   (∃ (k i:Nat) (q:Int),i≤k∧s.1=(i:Int)-k∧t=2*w+k+1+i∧G=2^k*s.2.1∧2^(i+1)*s.2.2=q*s.2.1-F∧1≤q∧q≤2^(i+1)-1))

theorem pZ {B:Int} (hB:0≤B) {t:Nat} {s:Int × Int × Int} (h:ui B t s):ui B (t+1) (dst s):=by
 obtain ⟨d,f,g⟩:=s;obtain ⟨w,F,G,hk,hf,hF,hc⟩:=h;dsimp only at hf hc;rcases hc with ⟨k,rfl,rfl,rfl,rfl⟩ | ⟨k,i,q,hik,rfl,rfl,rfl,hg,hq1,hq2⟩
 ·by_cases hgo:g%2=1
  ·have e:dst (1+(k:Int),F,g)=(1-(1+(k:Int)),g,(g-F)/2):=by
    unfold dst;rw [if_pos ⟨by dsimp only;omega,hgo⟩]
   rw [e];refine ⟨w,F,2^k*g,hk,hgo,hF,.inr ⟨k,0,1,by omega,?_,by omega,rfl,?_,by omega,by decide⟩⟩
   ·dsimp only;omega
   ·dsimp only;rw [show (2:Int)^(0+1)=2 from rfl];omega
  ·have j:g%2=0:=by omega
   have e:dst (1+(k:Int),F,g)=(1+(1+(k:Int)),F,g/2):=by
    unfold dst;rw [if_neg (fun h=>hgo h.2)];dsimp only;rw [j,Int.zero_mul,Int.add_zero]
   rw [e];refine ⟨w,F,2^k*g,hk,hf,hF,.inl ⟨k+1,?_,by omega,rfl,?_⟩⟩
   ·dsimp only;omega
   ·dsimp only;have:g=2*(g/2):=by omega
    rw [Int.pow_succ,Int.mul_assoc,← this]
 ·obtain ⟨r,hr⟩:∃ r,r=g%2:=⟨_,rfl⟩
  have a:r=0∨r=1:=by omega
  have e:dst ((i:Int)-k,f,g)=(1+((i:Int)-k),f,(g+r*f)/2):=by
   unfold dst;rw [if_neg (fun h=>by have:=h.1;dsimp only at this;omega),hr]
  rw [e];have h2:2*((g+r*f)/2)=g+r*f:=by
   rcases a with rfl | rfl
   ·omega
   ·omega
  generalize (g+r*f)/2=g' at *;have hP:(0:Int)<2^(i+1):=Int.pow_pos (by omega);have c:(2:Int)^(i+1+1)=2*2^(i+1):=by rw [Int.pow_succ];omega
  have hn:2^(i+1+1)*g'=(q+2^(i+1)*r)*f-F:=by
   rw [c,show (2:Int)*2^(i+1)*g'=2^(i+1)*(2*g') by grind,h2,Int.mul_add,hg]
   grind
  have hq:1≤q+2^(i+1)*r∧q+2^(i+1)*r≤2^(i+1+1)-1:=by
   rw [c];rcases a with rfl | rfl
   ·rw [Int.mul_zero];omega
   ·rw [Int.mul_one];omega
  by_cases hlt:i<k
  ·refine ⟨w,F,2^k*f,hk,hf,hF,.inr ⟨k,i+1,q+2^(i+1)*r,by omega,?_,by omega,rfl,hn,hq.1,hq.2⟩⟩;dsimp only;omega
  ·obtain rfl:i=k:=by omega
   have b:=tF (e:=i+1) (q:=q+2^(i+1)*r) (T:=21^w*B) (F:=34^w*F) (G:=34^w*(2^i*f)) (f:=34^w*f) (g:=34^w*g') (by omega) hq.1 hq.2 (Int.mul_nonneg (Int.le_of_lt (Int.pow_pos (by omega))) hB) hk (by rw [Nat.add_sub_cancel];grind) (by
    rw [show (2:Int)^(i+1+1)*(34^w*g')=34^w*(2^(i+1+1)*g') by grind,hn]
    grind)
   rw [← Int.mul_assoc,← Int.mul_assoc,← Int.mul_assoc,← Int.pow_add,← Int.pow_add] at b;refine ⟨i+1+w,f,g',b,hf,hf,.inl ⟨0,?_,by omega,rfl,?_⟩⟩
   ·dsimp only;omega
   ·dsimp only;rw [Int.pow_zero,Int.one_mul]

theorem oh {M a:Int} {D:Nat} (hM:M%2=1) (h0:0≤a) (h1:a≤M) (h2:M≤2^D):ui (67*2^D) 0 (1,M,a):=by
 refine ⟨0,M,a,?_,hM,hM,.inl ⟨0,by dsimp only;omega,by omega,rfl,?_⟩⟩
 ·rw [Int.pow_zero,Int.pow_zero,Int.one_mul,Int.one_mul,Int.one_mul];generalize (2:Int)^D=X at *;intro n hn;simp only [nrm,List.mem_cons,List.not_mem_nil,or_false] at hn;rcases hn with rfl | rfl | rfl | rfl | rfl | rfl | rfl | rfl | rfl | rfl | rfl | rfl | rfl | rfl | rfl | rfl | rfl | rfl | rfl | rfl <;> dsimp only <;> omega
 ·dsimp only;rw [Int.pow_zero,Int.one_mul]

theorem mF {M a:Int} {D:Nat} (hM:M%2=1) (h0:0≤a) (h1:a≤M) (h2:M≤2^D):∀ t,ui (67*2^D) t (ee (1,M,a) t)
 | 0=>oh hM h0 h1 h2
 | t+1=>pZ (Int.mul_nonneg (by omega) (Int.le_of_lt (Int.pow_pos (by omega)))) (mF hM h0 h1 h2 t)

theorem pp {D w k h:Nat} (h1:34^w*2^k≤21^w*2^D) (hw:w≤h) (hk:h≤w+k):34^h≤2^D*21^h:=by
  obtain ⟨j,rfl⟩:∃ j,h=w+j:=⟨h-w,by omega⟩
  have h2:2^j≤2^k:=Nat.pow_le_pow_right (by omega) (by omega)
  have h3:34^j≤42^j:=Nat.pow_le_pow_left (by omega) j
  rw [show (42:Nat)=2*21 from rfl,Nat.mul_pow] at h3
  calc 34^(w+j)=34^w*34^j:=Nat.pow_add _ _ _
    _≤34^w*(2^j*21^j):=Nat.mul_le_mul_left _ h3
    _=34^w*2^j*21^j:=by rw [Nat.mul_assoc]
    _≤34^w*2^k*21^j:=Nat.mul_le_mul_right _ (Nat.mul_le_mul_left _ h2)
    _≤21^w*2^D*21^j:=Nat.mul_le_mul_right _ h1
    _=2^D*21^(w+j):=by rw [Nat.pow_add];grind

theorem mQ {w k D:Nat} {F G:Int} (hk:InK (21^w*(67*2^D)) (34^w*F) (34^w*(2^k*G))) (hG:G≠0):(34:Nat)^w*2^k≤21^w*2^D:=by
 have hT:(0:Int)≤21^w*(67*2^D):=Int.mul_nonneg (Int.le_of_lt (Int.pow_pos (by omega))) (Int.mul_nonneg (by omega) (Int.le_of_lt (Int.pow_pos (by omega))));have c3:=gh hT kB.2.2.1 hk;have c4:=gh hT kB.2.2.2 hk;dsimp only at c3 c4;have e1:((34^w*2^k:Nat):Int)=34^w*2^k:=by simp
 have e2:((21^w*2^D:Nat):Int)=21^w*2^D:=by simp
 have hX:(0:Int)<34^w*2^k:=Int.mul_pos (Int.pow_pos (by omega)) (Int.pow_pos (by omega));rw [← Int.mul_assoc (34^w)] at c3 c4;rw [show (21:Int)^w*(67*2^D)=67*(21^w*2^D) by grind] at c3 c4;have a:(34:Int)^w*2^k≤21^w*2^D:=by
  generalize (34:Int)^w*2^k=X at *;generalize (21:Int)^w*2^D=Y at *;generalize (34:Int)^w*F=Z at *;rcases Int.lt_or_le G 0 with h | h
  ·have:=Int.mul_le_mul_of_nonneg_left (show G≤-1 by omega) (show 0≤X by omega);rw [show X * -1=-X by omega] at this;omega
  ·have:=Int.mul_le_mul_of_nonneg_left (show 1≤G by omega) (show 0≤X by omega);rw [Int.mul_one] at this;omega
 omega

theorem qj {M a:Int} {D N:Nat} (hM:M%2=1) (h0:0≤a) (h1:a≤M) (h2:M≤2^D) (hN:2^D*21^(N/2)<34^(N/2)):(ee (1,M,a) N).2.2=0:=by
 obtain ⟨w,F,G,hk,hf,hF,hc⟩:=mF hM h0 h1 h2 N;rcases hc with ⟨k,_,ht,_,rfl⟩ | ⟨k,i,q,hik,_,ht,rfl,_,_,_⟩
 ·by_cases hg:(ee (1,M,a) N).2.2=0
  ·exact hg
  ·have:=pp (mQ hk hg) (show w≤N/2 by omega) (by omega);omega
 ·have:=pp (mQ hk (by intro e;rw [e] at hf;omega)) (show w≤N/2 by omega) (by omega);omega

theorem pq {f x:Int} (hf:f%2=1):Int.gcd f (2*x)=Int.gcd f x:=by
 unfold Int.gcd;rw [Int.natAbs_mul];refine Nat.Coprime.gcd_mul_left_cancel_right _ ?_;show Nat.gcd 2 f.natAbs=1
 rw [Nat.gcd_rec,show f.natAbs%2=1 by omega];rfl

theorem sd {s:Int × Int × Int} (hf:s.2.1%2=1):(dst s).2.1%2=1∧Int.gcd (dst s).2.1 (dst s).2.2=Int.gcd s.2.1 s.2.2:=by
 obtain ⟨d,f,g⟩:=s;dsimp only at hf;unfold dst;dsimp only
 split
 ·rename_i h
  dsimp only;refine ⟨h.2,?_⟩;rw [← pq h.2,show 2*((g-f)/2)=g-f by omega,Int.gcd_self_sub_right,Int.gcd_comm]
 ·rename_i h
  dsimp only;refine ⟨hf,?_⟩;have a:g%2=0∨g%2=1:=by omega
  have e:2*((g+g%2*f)/2)=g+g%2*f:=by
   rcases a with h0 | h0
   ·rw [h0];omega
   ·rw [h0];omega
  rw [← pq hf,e,Int.gcd_add_mul_right_right]

theorem lu {s:Int × Int × Int} (hf:s.2.1%2=1):∀ t,(ee s t).2.1%2=1∧Int.gcd (ee s t).2.1 (ee s t).2.2=Int.gcd s.2.1 s.2.2
 | 0=>⟨hf,rfl⟩
 | t+1=>by
  obtain ⟨h1,h2⟩:=lu hf t;obtain ⟨h3,h4⟩:=sd h1;exact ⟨h3,h4.trans h2⟩

def stp (n:Nat):Nat:=(49*(64*n)+57)/17

theorem zT:∀ n,n≤130→1≤n→2^(64*n)*21^(stp n/2)<34^(stp n/2):=by decide +kernel

theorem rW {M a n:Nat} (hn:1≤n) (c:n≤130) (hM:M%2=1) (h1:a≤M) (h2:M<2^(64*n)) :
  (ee (1,(M:Int),(a:Int)) (stp n)).2.2=0∧(ee (1,(M:Int),(a:Int)) (stp n)).2.1.natAbs=Nat.gcd M a:=by
 have b:(M:Int)%2=1:=by omega
 have hz:=qj (M:=(M:Int)) (a:=(a:Int)) (D:=64*n) (N:=stp n) b (by omega) (by omega) (by
  have:((2^(64*n):Nat):Int)=2^(64*n):=by simp
  rw [← this];omega) (zT n c hn)
 have hg:=(lu (s:=(1,(M:Int),(a:Int))) b (stp n)).2;rw [hz,Int.gcd_zero_right] at hg;exact ⟨hz,hg⟩

def tcN (B:Nat) (x:Int):Nat:=(if x<0 then (B:Int)+x else x).toNat

theorem Bj {B Q:Nat} {x:Int} (h0:-(Q:Int)<x) (h1:x<Q) (hB:4*Q≤B):tcN B x<B:=by
 unfold tcN
 split <;> omega

theorem tR (B x:Nat):tcN B (x:Int)=x:=by
 unfold tcN;rw [if_neg (by omega)];omega

theorem zY {B Q:Nat} {g f:Int} (hg:-(Q:Int)<g∧g<Q) (hf:-(Q:Int)<f∧f<Q) (hB:4*Q≤B):(if tcN B g<tcN B f then tcN B g+B-tcN B f else tcN B g-tcN B f)=tcN B (g-f):=by
 unfold tcN
 split <;> split <;> split <;> split <;> omega

theorem zV {B Q:Nat} {g f:Int} (hg:-(Q:Int)<g∧g<Q) (hf:-(Q:Int)<f∧f<Q) (hB:4*Q≤B):(tcN B g+tcN B f)%B=tcN B (g+f):=by
 have h:tcN B g+tcN B f=tcN B (g+f)∨tcN B g+tcN B f=tcN B (g+f)+B:=by
  unfold tcN
  split <;> split <;> split <;> omega
 have hl:tcN B (g+f)<B:=by
  unfold tcN
  split <;> omega
 rcases h with h | h
 ·rw [h,ak hl]
 ·rw [h,Nat.add_mod_right,ak hl]

theorem zX {B Q:Nat} {g:Int} (hg:-(Q:Int)<g∧g<Q) (hB:4*Q≤B) (h2:B%2=0):((tcN B g%2:Nat):Int)=g%2:=by
 unfold tcN
 split <;> omega

def sgN (x:Int):Nat:=if x<0 then 1 else 0

theorem pK {B H Q:Nat} {x:Int} (hx:-(2*Q:Int)≤x∧x<2*Q) (hB:B=2*H) (hQ:2*Q≤H) (hH:0<H):tcN B x/H=sgN x:=by
 unfold tcN sgN
 split
 ·rw [Nat.div_eq_iff hH];omega
 ·rw [Nat.div_eq_of_lt (by omega)]

theorem xz {B H Q:Nat} {x:Int} (hx:-(2*Q:Int)≤x∧x<2*Q) (hB:B=2*H) (hQ:2*Q≤H):(tcN B x+sgN x%2*B)/2=tcN B (x/2):=by
 unfold tcN sgN;by_cases h:x<0
 ·rw [if_pos h,if_pos h,if_pos (by omega)];omega
 ·rw [if_neg h,if_neg h,if_neg (by omega)];omega

theorem zW {B Q:Nat} {f:Int} (hf:-(Q:Int)<f∧f<Q) (hB:4*Q≤B):(if 0<tcN B f then 0+B-tcN B f else 0-tcN B f)=tcN B (-f):=by
 unfold tcN
 split <;> split <;> split <;> omega

def swN (d g:Int):Nat:=if 0<d∧g%2=1 then 1 else 0

theorem ol (d f g:Int):dst (d,f,g)=((if swN d g=1 then 1-d else 1+d),(if swN d g=1 then g else f),(g+((g%2)-2*(swN d g:Int))*f)/2):=by
 unfold dst swN;by_cases h:0<d∧g%2=1
 ·rw [if_pos h,if_pos h,if_pos rfl,if_pos rfl,h.2];rw [show g+((1:Int)-2*((1:Nat):Int))*f=g-f by omega]
 ·rw [if_neg h,if_neg h,if_neg (by omega),if_neg (by omega)];rw [show g%2-2*((0:Nat):Int)=g%2 by omega]

def StIn (Q:Nat) (t:Nat) (s:Int × Int × Int):Prop:=(-(t:Int)≤s.1∧s.1≤t+1)∧(-(Q:Int)<s.2.1∧s.2.1<Q)∧(-(Q:Int)<s.2.2∧s.2.2<Q)

theorem StIn.step {Q t:Nat} {s:Int × Int × Int} (h:StIn Q t s):StIn Q (t+1) (dst s):=by
 obtain ⟨d,f,g⟩:=s;unfold StIn dst at *;dsimp only at h ⊢
 split
 ·dsimp only;omega
 ·dsimp only;have h2:g%2=0∨g%2=1:=by omega
  rcases h2 with h2 | h2 <;> rw [h2] <;> omega

theorem StIn.all {Q:Nat} {s:Int × Int × Int} (h:StIn Q 0 s):∀ t,StIn Q t (ee s t)
 | 0=>h
 | t+1=>(StIn.all h t).step

def CoOk (M a U V:Nat) (s:Int × Int × Int):Prop:=U<M∧V<M∧(M:Int) ∣ (U:Int)*a-s.2.1∧(M:Int) ∣ (V:Int)*a-s.2.2

theorem rX {M:Nat} {x:Int} (hM:M%2=1) (h:(M:Int) ∣ 2*x):(M:Int) ∣ x:=by
 obtain ⟨z,hz⟩:=h;obtain ⟨q,hq⟩:∃ q:Int,(M:Int)=2*q+1:=⟨(M/2:Nat),by omega⟩
 refine ⟨x-q*z,?_⟩;rw [Int.mul_sub,show (M:Int)*(q*z)=q*(M*z) by grind,← hz,hq]
 grind

theorem CoOk.step {M a U V U' V':Nat} {d f g:Int} (h:CoOk M a U V (d,f,g)) (hM:M%2=1) (hf:f%2=1) (hU:U'=if swN d g=1 then V else U) (hV:V'<M) (h2:(M:Int) ∣ 2*(V':Int)-(V+((g%2)-2*(swN d g:Int))*U)):CoOk M a U' V' (dst (d,f,g)):=by
 obtain ⟨h1,h3,h4,h5⟩:=h;dsimp only at h4 h5;rw [ol];refine ⟨?_,hV,?_,?_⟩
 ·rw [hU];split <;> assumption
 ·dsimp only;rw [hU]
  split <;> assumption
 ·dsimp only;obtain ⟨c,hc⟩:∃ c,c=g%2-2*(swN d g:Int):=⟨_,rfl⟩
  rw [← hc] at h2 ⊢;have he:(g+c*f)%2=0:=by
   have j:g%2=0∨g%2=1:=by omega
   have hs:swN d g=0∨swN d g=1:=by unfold swN;split <;> omega
   have i:(c=0∧g%2=0)∨(c=1∧g%2=1)∨(c=-1∧g%2=1):=by
    unfold swN at hc hs;by_cases hh:0<d∧g%2=1
    ·rw [if_pos hh] at hc;omega
    ·rw [if_neg hh] at hc;omega
   rcases i with ⟨rfl,_⟩ | ⟨rfl,_⟩ | ⟨rfl,_⟩ <;> omega
  obtain ⟨G,hG⟩:∃ G,G=(g+c*f)/2:=⟨_,rfl⟩
  rw [← hG];have b:2*G=g+c*f:=by omega
  apply rX hM;have e:2*((V':Int)*a-G)=(2*(V':Int)-(V+c*U))*a+((V:Int)*a-g)+c*((U:Int)*a-f):=by
   have:2*((V':Int)*a-G)=2*(V':Int)*a-2*G:=by grind
   rw [this,b]
   grind
  rw [e];exact Int.dvd_add (Int.dvd_add (Int.dvd_mul_of_dvd_left h2) h5) (Int.dvd_mul_of_dvd_right h4)

theorem yE {n Q M U V sw od x L b D W ov S E o3 V':Nat} (hQ:Q=2^(64*n)) (hM:M<Q) (h2:M%2=1) (hU:U<M) (hV:V<M) (g:(sw=1∧od=1∧x=0)∨(sw=0∧od=1∧x=1)∨(sw=0∧od=0∧x=0))
  (hL:L=aO sw (dm V U n) V) (hb:b=aO sw (aX (decide (V<U))) 0) (hD:D=aO b (L+M) L%Q) (hW:W=aO x (D+U) D%Q) (ho:ov=aO x (aX (decide (Q≤D+U))) 0)
  (hS:S=iu W M ov n) (hE:E=aO (S%2) (S+M) S%Q) (h3:o3=aO (S%2) (aX (decide (Q≤S+M))) 0) (a:V'=(E+o3%2*Q)/2) :
  V'<M∧(M:Int) ∣ 2*(V':Int)-(V+((od:Int)-2*(sw:Int))*U):=by
 have fD:D=if sw=1 then fi V U M else V:=by
  unfold aO dm aX at *;unfold fi;rw [← hQ] at hL;rcases g with ⟨rfl,_,_⟩ | ⟨rfl,_,_⟩ | ⟨rfl,_,_⟩
  ·rw [if_pos rfl] at hL hb ⊢;by_cases h:V<U
   ·rw [if_pos h] at hL;rw [aU h,if_pos rfl] at hb;rw [hb,if_pos rfl,hL,show V+Q-U+M=(V+M-U)+Q by omega,Nat.add_mod_right,ak (by omega)] at hD;rw [if_neg (by omega),hD]
   ·rw [if_neg h] at hL;rw [aI h,if_neg (by decide)] at hb;rw [hb,if_neg (by decide),hL,ak (by omega)] at hD;rw [if_pos (by omega),hD]
  ·rw [if_neg (by decide)] at hL hb ⊢;rw [hb,if_neg (by decide),hL,ak (by omega)] at hD;exact hD
  ·rw [if_neg (by decide)] at hL hb ⊢;rw [hb,if_neg (by decide),hL,ak (by omega)] at hD;exact hD
 have lD:D<M:=by
  rw [fD];unfold fi
  split
  ·split <;> omega
  ·exact hV
 have hx:x=0∨x=1:=by omega
 have fS:S<M∧(S=D+x*U∨S+M=D+x*U):=by
  have d:gP W M ov=0→S=W:=fun h=>by rw [hS];unfold iu aO;rw [h];rfl
  have f:gP W M ov=1→S=if W<M then W+Q-M else W-M:=fun h=>by rw [hS];unfold iu aO dm;rw [h,← hQ];rfl
  have t0:¬ (ov=1∨M≤W)→gP W M ov=0:=fun h=>if_neg h
  have t1:(ov=1∨M≤W)→gP W M ov=1:=fun h=>if_pos h
  unfold aO at hW ho;unfold aX at ho;rcases hx with rfl | rfl
  ·rw [if_neg (by decide)] at hW ho;rw [ak (by omega)] at hW;have:=d (t0 (by omega));omega
  ·rw [if_pos rfl] at hW ho;by_cases h:Q≤D+U
   ·rw [aU h,if_pos rfl] at ho;have l:W=D+U-Q:=by
     rw [hW,show D+U=(D+U-Q)+Q by omega,Nat.add_mod_right,ak (by omega)];omega
    have:=f (t1 (.inl ho));rw [if_pos (by omega)] at this;omega
   ·rw [aI h,if_neg (by decide)] at ho;rw [ak (by omega)] at hW;by_cases hh:M≤D+U
    ·have:=f (t1 (.inr (by omega)));rw [if_neg (by omega)] at this;omega
    ·have:=d (t0 (by omega));omega
 have fV:V'=si S M:=by
  unfold si aO aX at *;by_cases hs:S%2=1
  ·rw [hs,if_pos rfl] at hE h3;rw [if_pos hs];by_cases h:Q≤S+M
   ·rw [aU h,if_pos rfl] at h3;have i:E=S+M-Q:=by
     rw [hE,show S+M=(S+M-Q)+Q by omega,Nat.add_mod_right,ak (by omega)];omega
    rw [a,i,h3];omega
   ·rw [aI h,if_neg (by decide)] at h3;rw [ak (by omega)] at hE;rw [a,hE,h3];omega
  ·have j:S%2=0:=by omega
   rw [j,if_neg (by decide)] at hE h3;rw [if_neg hs];rw [ak (by omega)] at hE;rw [a,hE,h3];omega
 have f2:V'<M∧(2*V'=S∨2*V'=S+M):=by
  rw [fV];unfold si
  split <;> omega
 refine ⟨f2.1,?_⟩;have f3:∃ k:Int,(D:Int)+x*U=V+((od:Int)-2*(sw:Int))*U+k*M:=by
  rw [fD];unfold fi;rcases g with ⟨rfl,rfl,rfl⟩ | ⟨rfl,rfl,rfl⟩ | ⟨rfl,rfl,rfl⟩
  ·rw [if_pos rfl];by_cases h:U≤V
   ·rw [if_pos h];exact ⟨0,by omega⟩
   ·rw [if_neg h];exact ⟨1,by omega⟩
  ·rw [if_neg (by decide)];exact ⟨0,by omega⟩
  ·rw [if_neg (by decide)];exact ⟨0,by omega⟩
 obtain ⟨k,hk⟩:=f3;have m:((x*U:Nat):Int)=x*U:=by simp
 generalize (od:Int)-2*(sw:Int)=c at *;generalize c*(U:Int)=cU at *;generalize (x:Int)*(U:Int)=xI at *;generalize x*U=xU at *;rcases f2.2 with e | e
 ·rcases fS.2 with e2 | e2
  ·exact ⟨k,by rw [Int.mul_comm (M:Int)];omega⟩
  ·exact ⟨k-1,by rw [Int.mul_comm (M:Int),Int.sub_mul];omega⟩
 ·rcases fS.2 with e2 | e2
  ·exact ⟨k+1,by rw [Int.mul_comm (M:Int),Int.add_mul];omega⟩
  ·exact ⟨k,by rw [Int.mul_comm (M:Int)];omega⟩

theorem uN {M a U:Nat} {d F G:Int} {V:Nat} (h:CoOk M a U V (d,F,G)) (hM:2≤M) (hF:F.natAbs=1):(if F<0 then fi 0 U M else U)<M∧a*(if F<0 then fi 0 U M else U)%M=1:=by
 obtain ⟨h1,_,h3,_⟩:=h;dsimp only at h3;obtain ⟨k,hk⟩:=h3;by_cases hn:F<0
 ·obtain rfl:F=-1:=by omega
  rw [if_pos hn];unfold fi;by_cases h0:U≤0
  ·obtain rfl:U=0:=by omega
   exfalso
   rw [show ((0:Nat):Int)*(a:Int)-(-1)=1 by omega] at hk;have:(M:Int) ∣ 1:=⟨k,hk⟩
   have:=Int.le_of_dvd (by omega) this;omega
  ·rw [if_neg h0];refine ⟨by omega,?_⟩;have e:((a*(0+M-U):Nat):Int)=1+M*(a-k):=by
    rw [show 0+M-U=M-U by omega,Int.natCast_mul,Int.natCast_sub (by omega),Int.mul_sub,Int.mul_sub,← hk]
    grind
   have e2:((a*(0+M-U)%M:Nat):Int)=1:=by
    rw [Int.natCast_emod,e,Int.add_mul_emod_self_left,Int.emod_eq_of_lt (by omega) (by omega)]
   omega
 ·obtain rfl:F=1:=by omega
  rw [if_neg hn];refine ⟨h1,?_⟩;have e:((a*U:Nat):Int)=1+M*k:=by
   rw [Int.natCast_mul,← hk]
   grind
  have e2:((a*U%M:Nat):Int)=1:=by
   rw [Int.natCast_emod,e,Int.add_mul_emod_self_left,Int.emod_eq_of_lt (by omega) (by omega)]
  omega

end Go.Proofs.YtkaojflnghfmcaaGreatDoor
