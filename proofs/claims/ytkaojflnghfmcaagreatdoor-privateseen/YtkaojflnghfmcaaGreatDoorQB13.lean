/- Put together of: RinD Pro3 Ref5A PrK. -/
import Derived.Test.YtkaojflnghfmcaaGreatDoorQB12
import Derived.Deep.OwnRows
import Derived.StillTailTactics

namespace Go.Proofs.YtkaojflnghfmcaaGreatDoor
set_option maxRecDepth 100000
set_option maxHeartbeats 4000000
open Go.RowKit

theorem BD (o:Tr) (ao bo xo:Option Addr) (n a rl b xc:Nat) (K:Nat) (xs ms:List Nat) (w:World) (ht:TrRoom w o 2) (hx:RowT w o (.slice xo n xc) xs) (hm:RowT w o (.slice ao n a) ms) (f:Digs xs) (c:Digs ms) (hn:n≤100000) :
  Calls Tryz.prog 203 #[aC o,.agg #[.slice ao n a,.int .u64 (K:Nat),.slice bo rl b],.slice none 0 0,.slice xo n xc] w fun e w'=>∃ v',e=.returned v'∧gH w o (List.replicate 2 (1,(n:Int),0)) n (fun Y=>val xs<val ms→digs Y n=digs (dz 0 (val xs) (val ms)) n) w' v':=by
 refine (zl o ao bo none xo n 0 a rl b 0 xc K [] xs ms w ht ⟨Row.nil _ _,fun h=>absurd rfl h⟩ hx hm (fun d hd=>by cases hd) f c hn (Nat.zero_le _)).mono ?_;rintro e w' ⟨v',rfl,Y,o',h1,h2,h3⟩;exact ⟨v',rfl,Y,o',h1,fun h=>h2 (Nat.lt_of_le_of_lt (Nat.zero_le _) h) h,h3⟩

theorem BC (o:Tr) (ao bo xo:Option Addr) (n l K a b xc bT bM bA:Nat) (ms xs:List Nat) (w:World)
  (ht:TrRoom w o 2) (hm:RowT w o (.slice ao n a) ms) (hx:RowT w o (.slice xo n xc) xs) (d:Digs ms) (c:Digs xs) (hn:n≤130)
  (hT:Box w bT (aC o) 53) (hM:w.heap[bM]? = some (.cells #[.slice ao n a,.int .u64 (K:Nat),.slice bo l b] 70 (0,0))) (hA:Box w bA (.slice xo n xc) 23) :
  Calls Tryz.prog 234 #[.pointer (some ⟨bT,0,none⟩),.pointer (some ⟨bM,0,none⟩),.pointer (some ⟨bA,0,none⟩)] w fun e w'=>∃ v',e=.returned (.tuple #[v',.int .i64 0])∧gH w o (List.replicate 2 (1,(n:Int),0)) n (fun Y=>val xs<val ms→digs Y n=digs (dz 0 (val xs) (val ms)) n) w' v':=by
 obtain ⟨po,f⟩:=aE o;have hS:=BD o ao bo xo n a l b xc K xs ms w ht hx hm c d (by omega);have cT:=hT.cell;have cA:=hA.cell;obtain ⟨p0,p1,p2⟩:=am hM;rw [f] at hS cT;clear hm hx d c hT hM hA ht f;generalize (fun Y=>val xs<val ms→digs Y n=digs (dz 0 (val xs) (val ms)) n)=G at *;go_enter Tryz.func234,Tryz.ntmps234;go_wp2_with fail;refine hS.mono ?_;rintro e w1 ⟨v1,rfl,h1⟩;clear hS cT cA p0 p1 p2;go_wp2_with fail;go_ret2;exact ⟨_,rfl,h1⟩

theorem Df (o:Tr) (ao bo xo:Option Addr) (n l K a b N1 xc:Nat) (ms rs xs:List Nat) (w:World)
  (ht:TrRoom w o 10) (hm:RowT w o (.slice ao n a) ms) (hr:RowT w o (.slice bo l b) rs) (hx:RowT w o (.slice xo N1 xc) xs) (y:Digs ms) (C:Digs rs) (x:Digs xs) (hK:K<18446744073709551616) (G:n≤1000000) (B:N1≤1000000000) :
  Calls Tryz.prog 194 #[aC o,.agg #[.slice ao n a,.int .u64 (K:Nat),.slice bo l b],.slice xo N1 xc] w fun e w'=>∃ v' c,e=.returned (.tuple #[v',.int .i64 ((c:Nat):Int)])∧Asked w o true (okMod ms K rs∧(N1=n∧val xs<val ms)) (fun zs c=>zs=digs (dz 0 (val xs) (val ms)) n∧c=0) (List.replicate 1 (1,(n:Int),0) ++ List.replicate 2 (1,(n:Int),0)) w' v' c:=by
 have H:=dM;have he:∀ args w,(callFunc 234 args).run Tryz.prog w=.ok (.enter 234 args) w:=fun _ _=>by simp [go_sem]
 obtain ⟨po,z⟩:=aE o;obtain ⟨W,hW⟩:∃ W,W=((w.alloc (.cells #[.pointer po] 53)).alloc (.cells #[.slice ao n a,.int .u64 (K:Nat),.slice bo l b] 70)).alloc (.cells #[.slice xo N1 xc] 23):=⟨_,rfl⟩
 have k0:Kept ae w W:=by rw [hW];exact (((ag ae w).alloc _).alloc _).alloc _
 have t:Box W w.heap.size (.pointer po) 53:=by rw [hW];exact ((Box.new w _ _).alloc _).alloc _
 have j:W.heap[w.heap.size+1]? = some (.cells #[.slice ao n a,.int .u64 (K:Nat),.slice bo l b] 70 (0,0)):=by
  rw [hW];refine ak ?_;have:=heap_alloc_new (w.alloc (.cells #[.pointer po] 53)) (.cells #[.slice ao n a,.int .u64 (K:Nat),.slice bo l b] 70)
  rwa [show (w.alloc (.cells #[.pointer po] 53)).heap.size=w.heap.size+1 by simp] at this
 have s:Box W (w.heap.size+1+1) (.slice xo N1 xc) 23:=by
  rw [hW];have:=Box.new ((w.alloc (.cells #[.pointer po] 53)).alloc (.cells #[.slice ao n a,.int .u64 (K:Nat),.slice bo l b] 70)) (.slice xo N1 xc) 23
  rwa [show ((w.alloc (.cells #[.pointer po] 53)).alloc (.cells #[.slice ao n a,.int .u64 (K:Nat),.slice bo l b] 70)).heap.size=w.heap.size+1+1 by simp] at this
 obtain ⟨Wl,q⟩:∃ Wl,Wl=W.alloc (.cells #[.slice xo N1 xc] 23):=⟨_,rfl⟩
 have kl:Kept ae W Wl:=by rw [q];exact (ag ae W).alloc _
 have r:Wl.heap[W.heap.size]? = some (.cells #[.slice xo N1 xc] 23 (0,0)):=by rw [q];exact heap_alloc_new _ _
 have kk:=k0.trans kl;have g:=mz o ao bo (some ⟨W.heap.size,0,none⟩) n l K a b 1 1 234 #[.pointer (some ⟨w.heap.size,0,none⟩),.pointer (some ⟨w.heap.size+1,0,none⟩),.pointer (some ⟨w.heap.size+1+1,0,none⟩)]
  (fun _=>xo) (fun _=>N1) (fun _=>xc) (fun _=>xs) ms rs 9 (List.replicate 2 (1,(n:Int),0)) true (fun zs c=>zs=digs (dz 0 (val xs) (val ms)) n∧c=0) Wl
  (ht.grew kk) (hm.grew kk) (hr.grew kk) y C hK (by omega) (by omega)
  (fun i hi=>B)
  (fun W' m o' d=>kG ((d.kept.block _ (lt_of_block r) (aB r (ht.grew kk).1 (by decide) (by decide))).trans r))
  (fun i hi=>hx.grew kk)
  (fun i hi=>x)
  he
  (fun hn v W' m o' d p=>by
   have A:=(ht.grew kk).1;have e1:N1=n:=v 0 (by omega);subst e1;refine (BC o' ao bo xo N1 l K a b xc w.heap.size (w.heap.size+1) (w.heap.size+1+1) ms xs W' (p.less (by omega)) ((hm.grew kk).did d) ((hx.grew kk).did d) y x hn (by rw [d.ptr,z];exact (t.grew kl).did d A (by decide) (by decide)) ((d.kept.block _ (lt_of_block ((kl.block _ (lt_of_block j) (fun f=>f)).trans j)) (aB ((kl.block _ (lt_of_block j) (fun f=>f)).trans j) A (by decide) (by decide))).trans ((kl.block _ (lt_of_block j) (fun f=>f)).trans j)) ((s.grew kl).did d A (by decide) (by decide))).mono ?_;rintro e w' ⟨v',rfl,Y,o2,h1,h2,h3⟩
   refine ⟨v',0,rfl,_,_,o2,aU h1 (af _ _ _),(fun _=>⟨Fresh.own h1 (leR _),U64s.own h1⟩),h3,fun I F=>⟨⟨h2 (F 0 (by omega)).2,rfl⟩,rfl⟩⟩)
 have k:(okMod ms K rs∧eG 1 n (val ms) (fun _=>N1) (fun _=>xs))↔(okMod ms K rs∧(N1=n∧val xs<val ms)):=
  and_congr_right fun _=>⟨fun h=>h 0 (by omega),fun h i hi=>h⟩
 rw [k] at g;have HB:Hid (∀ w' v' c,Asked Wl o true (okMod ms K rs∧(N1=n∧val xs<val ms)) (fun zs c=>zs=digs (dz 0 (val xs) (val ms)) n∧c=0) (List.replicate 1 (1,(n:Int),0) ++ List.replicate 2 (1,(n:Int),0)) w' v' c→Asked w o true (okMod ms K rs∧(N1=n∧val xs<val ms)) (fun zs c=>zs=digs (dz 0 (val xs) (val ms)) n∧c=0) (List.replicate 1 (1,(n:Int),0) ++ List.replicate 2 (1,(n:Int),0)) w' v' c):=fun w' v' c h=>h.after kk
 have D:W.heap.size=w.heap.size+1+1+1:=by rw [hW];simp
 rw [D] at g;have HW:=aa hW;have E:=aa q;obtain ⟨c3,c4,c5⟩:=am j;have c0:=t.cell;have c1:=s.cell;rw [z] at g ⊢;clear ht hm hr hx y C x hK G z k0 t j s hW q r kk kl he D k B;generalize (okMod ms K rs∧(N1=n∧val xs<val ms))=PP at *;generalize (fun zs c=>zs=digs (dz 0 (val xs) (val ms)) n∧c=0)=RR at *;generalize List.replicate 1 (1,(n:Int),0) ++ List.replicate 2 (1,(n:Int),0)=EE at *;go_enter Tryz.func194,Tryz.ntmps194;go_wp2_with fail;rw [← HW.out,← E.out];refine g.mono ?_;rintro e w1 ⟨v1,c,rfl,h1⟩;have H1:=aa (HB.out _ _ _ h1);clear g h1 c0 c1 c3 c4 c5;go_wp2_with fail;go_ret2;exact ⟨_,c,rfl,H1.out⟩

def ft (V M n:Nat):Nat:=if 18446744073709551616^n≤V∨M≤V%18446744073709551616^n then 1 else 0

def lU (V M n:Nat):Nat:=aQ (ft V M n) (cY (V%18446744073709551616^n) M n) (V%18446744073709551616^n)

theorem kQ (V M n:Nat):ft V M n≤1:=by unfold ft;split <;> omega

theorem pT (V M n:Nat) (hV:V<2*18446744073709551616^n):bits .or .u64 ((V/18446744073709551616^n:Nat):Int) (bits .xor .u64 ((aX (decide (V%18446744073709551616^n<M)):Nat):Int) 1)=(ft V M n:Int):=by
 have hp:0<18446744073709551616^n:=Nat.pow_pos (by omega);have hq:V/18446744073709551616^n<2:=by rw [Nat.div_lt_iff_lt_mul hp];exact hV
 unfold ft aX;generalize 18446744073709551616^n=P at *;have hc:V/P=0∨V/P=1:=by
  generalize V/P=d at *;omega
 have h1:P≤V↔V/P=1:=by
  constructor
  ·intro h;exact Nat.le_antisymm (Nat.le_of_lt_succ hq) (Nat.div_pos h hp)
  ·intro h;rcases Nat.lt_or_ge V P with h2 | h2
   ·rw [Nat.div_eq_of_lt h2] at h;omega
   ·exact h2
 by_cases h2:V%P<M
 ·rcases hc with h3 | h3
  ·rw [h3,bw h2,if_pos rfl,if_neg (by rw [h1,h3];omega)]
   decide
  ·rw [h3,bw h2,if_pos rfl,if_pos (by rw [h1,h3];exact .inl rfl)]
   decide
 ·rcases hc with h3 | h3
  ·rw [h3,aW h2,if_neg (by decide),if_pos (.inr (by omega))]
   decide
  ·rw [h3,aW h2,if_neg (by decide),if_pos (.inr (by omega))]
   decide

theorem yE {X Y n:Nat} (hX:X<18446744073709551616^n):cY X Y n<18446744073709551616^n:=by
 unfold cY;rw [← B64]
 split <;> omega

theorem tT (o:Tr) (u v:Value) (xs ys:List Nat) (bit:Nat) (h:bit<18446744073709551616) (T:Nat) (w:World) (ht:TrRoom w o 3) (hu:RowT w o u xs) (hv:RowT w o v ys) (j:Digs xs) (t:Digs ys) (hl:xs.length=ys.length) (hL:ys.length≤100000)
  (hT:T=ft (2*val xs+bit%2) (val ys) ys.length) :
  Calls Tryz.prog 255 #[aC o,u,v,.int .u64 (bit:Nat)] w fun e w'=>∃ v',e=.returned (.tuple #[v',.int .u64 (T:Nat)]) ∧
   OwnN .u64 24 w' w.heap.size v' ys.length (digs (lU (2*val xs+bit%2) (val ys) ys.length) ys.length)∧∃ o',Did w o [(1,(ys.length:Nat),0),(1,(ys.length:Nat),0),(1,(ys.length:Nat),0)] w' o':=by
 have hX:val xs<18446744073709551616^ys.length:=by rw [← hl];exact aD (by omega) j
 obtain ⟨V,hV⟩:∃ V,V=2*val xs+bit%2:=⟨_,rfl⟩
 have q:V<2*18446744073709551616^ys.length:=by omega
 have a:=zw o u xs bit h w (ht.less (by omega)) hu j (by omega);rw [← hV,hl] at a;rw [← hV] at hT ⊢;have l:=pT V (val ys) ys.length q;rw [← hT] at l;have C:T≤1:=by rw [hT];exact kQ _ _ _
 have c:lU V (val ys) ys.length=aQ T (cY (V%18446744073709551616^ys.length) (val ys) ys.length) (V%18446744073709551616^ys.length):=by rw [hT];rfl
 have HV:=aa hv;have HT:=aa ht;have A:=aa t;have B:=aa c;obtain ⟨po,k⟩:∃ po,aC o=.pointer po:=by
  cases o with
  | none=>exact ⟨_,rfl⟩
  | some x=>exact ⟨_,rfl⟩
 have p:=aa k;rw [k] at a ⊢;obtain ⟨c1,r⟩:∃ c1,c1=V/18446744073709551616^ys.length:=⟨_,rfl⟩
 rw [← r] at a l;obtain ⟨c2,i⟩:∃ c2,c2=aX (decide (V%18446744073709551616^ys.length<val ys)):=⟨_,rfl⟩
 rw [← i] at l;have z:=aa i;obtain ⟨n,hn⟩:∃ n,n=ys.length:=⟨_,rfl⟩
 have HN:=aa hn;rw [← hn] at a ⊢;clear hu hv ht j t hl hV hX hT q c k r i hn;go_enter Tryz.func255,Tryz.ntmps255;go_wp2_with fail;refine a.mono ?_;rintro e w1 ⟨v1,rfl,D,o1,d1⟩;have r1:TrRoom w1 o1 2:=d1.room HT.out;have s:Digs (digs V n):=ai (by omega) _ _;have d:=dr D (af _ _ _) r1.1;have F:=HV.out.did d1;have hSb:=tv o1 _ _ _ _ w1 (r1.less (by omega)) d F s A.out (by rw [af,HN.out];omega) (by omega);rw [d1.ptr,p.out,au,af,← HN.out,Nat.max_self] at hSb;rw [HN.out,← z.out,← HN.out] at hSb;clear a;go_wp2_with fail;refine hSb.mono ?_;rintro e w2 ⟨v2,rfl,E,o2,d2⟩;have r2:TrRoom w2 o2 1:=d2.room r1
 have m:=dr E (af _ _ _) r2.1;have f:=d.did d2;have g:=iS o2 T (by omega) _ _ _ _ w2 r2 m f (ai (by omega) _ _) s (by rw [af,HN.out];omega) (by rw [af,HN.out];omega);rw [d2.ptr,d1.ptr,p.out,au,au,af,af,Nat.max_self,ar (yE (Nat.mod_lt _ (Nat.pow_pos (by omega))))] at g;have c:=B.out;rw [← HN.out] at c;rw [← c] at g;clear hSb;go_wp2_with fail;refine g.mono ?_;rintro e w3 ⟨v3,rfl,y,o3,d3⟩;go_wp2_with fail;go_ret2;refine ⟨_,rfl,aR y (fun b hb=>?_),o3,(d1.trans d2).trans d3⟩;have:=(y.lt b hb).1;have:=d1.size;have:=d2.size;omega

theorem nB {R M n bit:Nat} (hM:0<M) (hR:R<M) (hn:M<18446744073709551616^n) (hb:bit≤1):ft (2*R+bit) M n=(2*R+bit)/M∧lU (2*R+bit) M n=(2*R+bit)%M:=by
 have hV:2*R+bit<M*2:=by omega
 generalize 2*R+bit=V at *;have hd:V/M=if M≤V then 1 else 0:=by
  split
  ·rename_i h
   have h1:V/M<2:=(Nat.div_lt_iff_lt_mul hM).2 (by omega);have h2:0<V/M:=Nat.div_pos h hM;exact Nat.le_antisymm (Nat.le_of_lt_succ h1) h2
  ·exact Nat.div_eq_of_lt (by omega)
 have hm:V%M=if M≤V then V-M else V:=by
  split
  ·rename_i h
   rw [Nat.mod_eq_sub_mod h,ar (by omega)]
  ·exact ar (by omega)
 have ht:ft V M n=if M≤V then 1 else 0:=by
  unfold ft;generalize 18446744073709551616^n=P at *;by_cases h:P≤V
  ·rw [if_pos (.inl h),if_pos (by omega)]
  ·rw [ar (by omega:V<P)];by_cases h2:M≤V
   ·rw [if_pos (.inr h2),if_pos h2]
   ·rw [if_neg (by omega),if_neg h2]
 refine ⟨by rw [ht,hd],?_⟩;unfold lU;rw [ht,hm];unfold aQ cY;rw [← B64];generalize 18446744073709551616^n=P at *;by_cases h2:M≤V
 ·rw [if_pos h2,if_pos h2,if_pos (by decide)];by_cases h:P≤V
  ·have e:V%P=V-P:=by rw [Nat.mod_eq_sub_mod h,ar (by omega)]
   rw [e,if_pos (by omega)];omega
  ·rw [ar (by omega:V<P),if_neg (by omega)]
 ·rw [if_neg h2,if_neg h2,if_neg (by decide),ar (by omega)]

theorem oR {B:Nat}:∀ {zs:List Nat} {i:Nat} (z:Nat),i<zs.length→val (zs.set i z) B+B^i*zs.getD i 0=val zs B+B^i*z
 | [],_,_,h=>absurd h (by simp)
 | x :: r,0,z,_=>by simp [val];omega
 | x :: r,i+1,z,h=>by
  have ih:=oR (B:=B) (zs:=r) (i:=i) z (by simpa using h);simp only [lsS,val,List.getD_cons_succ];have e:B*(val (r.set i z) B+B^i*r.getD i 0)=B*(val r B+B^i*z):=by rw [ih]
  rw [Nat.mul_add,Nat.mul_add,← Nat.mul_assoc,← Nat.mul_assoc,← Nat.pow_succ'] at e;simp only [Nat.succ_eq_add_one] at e;omega

theorem lK {B:Nat} {zs:List Nat} (h:Digs zs B) {i z:Nat} (hz:z<B):Digs (zs.set i z) B:=fun d hd=>by
 rcases List.mem_or_eq_of_mem_set hd with h1 | h1
 ·exact h d h1
 ·omega

theorem oC {qs:List Nat} {X M p T:Nat} (hM:0<M) (hd:Digs qs) (hi:p/64<qs.length) (hv:val qs=X/2^(p+1)/M*2^(p+1)) (hT:T=(2*(X/2^(p+1)%M)+X/2^p%2)/M) (a:T≤1) :
  val (qs.set (p/64) (qs.getD (p/64) 0 ||| T*2^(p%64)))=X/2^p/M*2^p:=by
 have hq:qs.getD (p/64) 0=2^(p%64+1)*(X/2^(p+1)/M%2^(63-p%64)):=by
  rw [← bk (by omega) hd,hv,dig,B64,Nat.mul_div_assoc _ (Nat.pow_dvd_pow 2 (by omega)),Nat.pow_div (by omega) (by omega),show p+1-64*(p/64)=p%64+1 by omega,Nat.mul_comm,show (18446744073709551616:Nat)=2^(p%64+1)*2^(63-p%64) by rw [← Nat.pow_add,show p%64+1+(63-p%64)=64 by omega],Nat.mul_mod_mul_left]
 have c:qs.getD (p/64) 0 ||| T*2^(p%64)=qs.getD (p/64) 0+T*2^(p%64):=by
  rw [hq];have hlt:T*2^(p%64)<2^(p%64+1):=by
   rw [Nat.pow_succ];have:T*2^(p%64)≤1*2^(p%64):=Nat.mul_le_mul_right _ a;have:0<2^(p%64):=Nat.pow_pos (by omega);omega
  exact (Nat.two_pow_add_eq_or_of_lt hlt _).symm
 have hs:=oR (B:=18446744073709551616) (zs:=qs) (i:=p/64) (qs.getD (p/64) 0 ||| T*2^(p%64)) hi;rw [c] at hs ⊢;rw [Nat.mul_add] at hs;have e1:18446744073709551616^(p/64)*(T*2^(p%64))=T*2^p:=by
  rw [B64,Nat.mul_left_comm,← Nat.pow_add,show 64*(p/64)+p%64=p by omega]
 rw [e1,hv] at hs;have e2:X/2^p=2*(X/2^(p+1))+X/2^p%2:=by
  rw [Nat.pow_succ,← Nat.div_div_eq_div_mul];omega
 have e3:X/2^p/M=2*(X/2^(p+1)/M)+T:=by
  rw [e2,hT];have h1:=Nat.div_add_mod (X/2^(p+1)) M;generalize X/2^(p+1)=Z at *;generalize X/2^p%2=b at *;have h2:2*Z+b=M*(2*(Z/M))+(2*(Z%M)+b):=by
   have:M*(2*(Z/M))=2*(M*(Z/M)):=Nat.mul_left_comm ..;omega
  rw [h2,Nat.mul_add_div hM]
 have e4:X/2^p/M*2^p=X/2^(p+1)/M*2^(p+1)+T*2^p:=by
  rw [e3];generalize X/2^(p+1)/M=Z;rw [Nat.add_mul,Nat.pow_succ,Nat.mul_comm 2 Z,Nat.mul_assoc,Nat.mul_comm 2 (2^p)]
 rw [e4];omega

theorem oG {X M p:Nat}:(2*(X/2^(p+1)%M)+X/2^p%2)%M=X/2^p%M:=by
 have e2:X/2^p=2*(X/2^(p+1))+X/2^p%2:=by
  rw [Nat.pow_succ,← Nat.div_div_eq_div_mul];omega
 generalize hb:X/2^p%2=b at *;rw [e2,Nat.add_mod,Nat.mul_mod,Nat.mod_mod,← Nat.mul_mod,← Nat.add_mod]

theorem BA (k:Nat) (e:Ev):List.replicate (3*k) e ++ [e,e,e]=List.replicate (3*(k+1)) e:=by
 rw [show [e,e,e]=List.replicate 3 e from rfl,List.replicate_append_replicate,Nat.mul_add]

theorem oj (n:Nat):madeCells #[Value.int .u64 0] n=((List.replicate n 0).map fun z:Nat=>Value.int .u64 (z:Int)).toArray:=by
 have:=aM .u64 n;rw [Nat.mul_one] at this;rw [← this];rfl

theorem jc (w:World) (A B:Nat) (CA CB:Array Value) (hA:CA=madeCells #[.int .u64 0] A) (hB:CB=madeCells #[.int .u64 0] B) (lA:A≤1000000) (lB:B≤1000000) :
  OwnN .u64 24 ((w.alloc (.cells CA 24)).alloc (.cells CB 24)).drew w.heap.size (.slice (some ⟨w.heap.size,0,none⟩) A A) A (List.replicate A 0)∧OwnN .u64 24 ((w.alloc (.cells CA 24)).alloc (.cells CB 24)).drew w.heap.size (.slice (some ⟨w.heap.size+1,0,none⟩) B B) B (List.replicate B 0)∧Kept ae w ((w.alloc (.cells CA 24)).alloc (.cells CB 24)).drew:=by
 subst hA hB;rw [oj,oj];refine ⟨bg (aT (ak (heap_alloc_new _ _))) (by simp) (by unfold maxLen;omega) (leR _),bg (aT ?_) (by simp) (by unfold maxLen;omega) (by omega),(((ag ae w).alloc _).alloc _).drew⟩;have:=heap_alloc_new (w.alloc (.cells ((List.replicate A 0).map fun z:Nat=>Value.int .u64 (z:Int)).toArray 24)) (.cells ((List.replicate B 0).map fun z:Nat=>Value.int .u64 (z:Int)).toArray 24);simpa using this

theorem fC (n:Nat):val (List.replicate n 0)=0:=cP _ (fun _ hd=>(List.mem_replicate.1 hd).2)

theorem eX (n:Nat):Digs (List.replicate n 0):=fun _ hd=>by rw [(List.mem_replicate.1 hd).2];omega

theorem qH {q T s:Nat} (hq:q<18446744073709551616) (hT:T≤1) (hs:s<64):bits .or .u64 (q:Int) (IntKind.u64.wrap ((T:Int)*2^s))=((q ||| T*2^s:Nat):Int)∧q ||| T*2^s<18446744073709551616:=by
 have h1:T*2^s<18446744073709551616:=by
  have h2:T*2^s≤1*2^s:=Nat.mul_le_mul_right _ hT;have h3:2^s<2^64:=Nat.pow_lt_pow_right (by omega) hs;omega
 refine ⟨?_,Nat.or_lt_two_pow (n:=64) hq h1⟩;rw [show (T:Int)*2^s=((T*2^s:Nat):Int) by simp,IntKind.wrap_u64,show ((T*2^s:Nat):Int)%18446744073709551616=((T*2^s:Nat):Int) by omega];exact u64_or_nat _ _ (by omega) (by omega)

theorem Ci (o:Tr) (ao bo:Option Addr) (L M a6 a7:Nat) (xs ys:List Nat) (X Y:Nat) (hX:X=val xs) (hY:Y=val ys) (w:World) (ht:TrRoom w o (3*(64*L))) (hu:RowT w o (.slice ao L a6) xs) (hv:RowT w o (.slice bo M a7) ys) (ay:Digs xs) (aX:Digs ys) (hL:L≤100000) (hM:M≤100000) :
  Calls Tryz.prog 237 #[aC o,.slice ao L a6,.slice bo M a7] w fun e w'=>∃ v1 v2,e=.returned (.tuple #[v1,v2]) ∧
   ∃ q,OwnN .u64 24 w' w.heap.size v1 L (digs q L)∧∃ r,OwnN .u64 24 w' w.heap.size v2 M (digs r M)∧(0<Y→q=X/Y∧r=X%Y)∧∃ o',Did w o (List.replicate (3*(64*L)) (1,(M:Nat),0)) w' o':=by
 obtain ⟨i0,a8,a9,ba,bb⟩:=info_parts Tryz.info24;obtain ⟨_,_,_,e1,aS,_,_,_,_⟩:=hu.1.open;cases e1
 obtain ⟨_,_,_,e1,aT,_,_,_,_⟩:=hv.1.open;cases e1
 have eL:=aa aS.out;have eM:=aa aT.out;have ax:Hid (Y<18446744073709551616^M):=by unfold Hid;rw [hY,← aT.out];exact aD (by omega) aX
 have aV:Hid (X<2^(64*L)):=by unfold Hid;rw [hX,← B64,← aS.out];exact aD (by omega) ay
 have m:Hid (∀ k,dig X k=xs.getD k 0):=fun k=>by rw [hX];exact bk (by omega) ay k
 have az:Hid (∀ k,xs.getD k 0<18446744073709551616):=fun k=>ay.getD (by omega) _
 have HU:=aa hu;have HV:=aa hv;have HT:=aa ht;have a4:=aa aX;have HY:=aa hY;obtain ⟨tp,a2⟩:∃ tp,tp=aC o:=⟨_,rfl⟩
 rw [← a2];have a5:=aa a2;clear hu hv ht aS aT ay aX a2 hX hY;obtain ⟨N,hN⟩:∃ N,N=64*L:=⟨_,rfl⟩
 have gN:(64:Int)*(L:Int)=(N:Int):=by omega
 rw [← hN] at aV HT ⊢;have bh:N≤6400000:=by omega
 have HN:=aa hN;clear hN;obtain ⟨CL,aM⟩:∃ C,C=madeCells #[.int .u64 0] L:=⟨_,rfl⟩
 obtain ⟨CM,aP⟩:∃ C,C=madeCells #[.int .u64 0] M:=⟨_,rfl⟩
 have ab:∀ W,(Instr.makeSlice 23 (.int .i64 (L:Int)) (.int .i64 (L:Int))).run Tryz.prog W=.ok (.slice (some ⟨W.heap.size,0,none⟩) L L) (W.alloc (.cells CL 24)):=fun W=>by rw [aM];exact run_make_row (P:=Tryz.prog) _ _ i0 _ Tryz.underlying23 a8 a9 ba rfl _ _ L (by rw [bb];omega) (by omega) W
 have ac:∀ W,(Instr.makeSlice 23 (.int .i64 (M:Int)) (.int .i64 (M:Int))).run Tryz.prog W=.ok (.slice (some ⟨W.heap.size,0,none⟩) M M) (W.alloc (.cells CM 24)):=fun W=>by rw [aP];exact run_make_row (P:=Tryz.prog) _ _ i0 _ Tryz.underlying23 a8 a9 ba rfl _ _ M (by rw [bb];omega) (by omega) W
 have av:=aa aM;have aw:=aa aP;clear aM aP;go_enter Tryz.func237,Tryz.ntmps237;go_wp2_with fail;go_region
 ·have a0:=jc w L M CL CM av.out aw.out (by omega) (by omega);generalize ((w.alloc (.cells CL 24)).alloc (.cells CM 24)).drew=W1 at *;obtain ⟨ad,ae,k1⟩:=a0;clear ab ac av aw;go_wp2_with fail;go_loopw [9,25] (fun rv i wr=>∃ (k:Nat) (o1:Tr) (rs qs:List Nat),k≤N∧i=.int .i64 (k:Int)∧Hid (Did w o (List.replicate (3*k) (1,(M:Int),0)) wr o1)∧Hid (rs.length=M∧Digs rs)∧Hid (qs.length=L∧Digs qs)∧OwnN .u64 24 wr w.heap.size rv M rs∧OwnN .u64 24 wr w.heap.size (.slice (some ⟨w.heap.size,0,none⟩) L L) L qs∧Hid (∀ b,rv.ownBlock=some b→b≠w.heap.size)∧Hid (0<Y→val rs=X/2^(N-k)%Y∧val qs=X/2^(N-k)/Y*2^(N-k))) (fun _ i _=>N-(intOf i).toNat)
  case atStart=>
   refine ⟨0,o,_,_,Nat.zero_le _,rfl,Did.of_kept k1 HT.out.1,⟨by simp,eX M⟩,⟨by simp,eX L⟩,ae,ad,(fun b hb=>by simp [Value.ownBlock] at hb;omega),(fun hy=>?_)⟩;rw [fC,fC,Nat.sub_zero,Nat.div_eq_of_lt aV.out,Nat.zero_mod,Nat.zero_div,Nat.zero_mul];exact ⟨rfl,rfl⟩
  case round=>
   clear ad ae k1;obtain ⟨k,o1,rs,qs,hk,rfl,HD,f,d,O,A,aB,h⟩:=hrel;by_cases hkn:k<N
   ·have bg:(0:Int)≤(k:Int):=Int.natCast_nonneg _;have aZ:(k:Int)<(N:Int):=by omega
    obtain ⟨p,hp⟩:∃ p,p=N-1-k:=⟨_,rfl⟩
    have gp:(N:Int)-1-(k:Int)=(p:Int):=by omega
    have Q:p/64<L:=by have:=HN.out;omega
    have aJ:(p:Int)/64<(L:Int):=by omega
    have aK:(0:Int)≤(p:Int)/64:=by omega
    have aL:((p:Int)/64).toNat=p/64:=by omega
    have a:TrRoom wr o1 3:=HD.out.room (by rw [List.length_replicate];exact HT.out.less (by omega));have am:=HU.out.did HD.out;have an:=HV.out.did HD.out;obtain ⟨_,_,_,e2,_,_,_,_,y⟩:=am.1.open;cases e2
    obtain ⟨b2,a3,rfl,aW⟩:=y (p/64) Q;have hx:=az.out (p/64);obtain ⟨x,U⟩:∃ x,x=xs.getD (p/64) 0:=⟨_,rfl⟩
    rw [← U] at aW hx;obtain ⟨bt,F⟩:∃ bt,bt=x/2^(p%64):=⟨_,rfl⟩
    have J:bt<18446744073709551616:=by rw [F];exact Nat.lt_of_le_of_lt (Nat.div_le_self _ _) hx
    have bd:(x:Int)/2^(p%64)=(bt:Int):=by rw [F];simp
    have l:bt%2=X/2^p%2:=by rw [F,U,← m.out,je]
    have g:=dr O f.out.1 a.1;obtain ⟨T,hT⟩:∃ T,T=ft (2*val rs+bt%2) Y M:=⟨_,rfl⟩
    have v:T≤1:=by rw [hT];exact kQ _ _ _
    have E:=tT o1 _ _ rs ys bt J T wr a g an f.out.2 a4.out (by rw [f.out.1,eM.out]) (by rw [eM.out];omega) (by rw [eM.out,← HY.out];exact hT);rw [HD.out.ptr,← a5.out,eM.out,← HY.out] at E;obtain ⟨LF,H⟩:∃ LF,LF=lU (2*val rs+bt%2) Y M:=⟨_,rfl⟩
    rw [← H] at E;have aE:Hid (0<Y→LF=X/2^p%Y∧T=(2*(X/2^(p+1)%Y)+X/2^p%2)/Y∧val qs=X/2^(p+1)/Y*2^(p+1)):=fun hy=>by
     obtain ⟨v1,v2⟩:=h.out hy;rw [show N-k=p+1 by omega] at v1 v2;obtain ⟨b1,b2⟩:=nB (R:=val rs) (M:=Y) (n:=M) (bit:=bt%2) hy (by rw [v1];exact Nat.mod_lt _ hy) ax.out (by omega);rw [v1,l] at b1 b2;rw [H,hT,v1,l];exact ⟨b2.trans oG,b1,v2⟩
    have ah:Hid (∀ j,qs.getD j 0<18446744073709551616):=fun j=>d.out.2.getD (by omega) _
    have a1:=ah.out (p/64);obtain ⟨ap,aq⟩:=qH (s:=p%64) a1 v (by omega);have HP:Hid (N-(k+1)=p):=by unfold Hid;omega
    clear F hT H U y am an g l h hp ah;go_wp2_with fail;refine E.mono ?_;rintro e w2 ⟨v2,rfl,G,o2,d2⟩;have c:=d2.kept.own A (cj A a.1);have aA:=aa (HD.out.trans d2);have D:=(d2.room (k:=0) a).1;have aQ:¬ aN o2 w.heap.size:=cj c D _ rfl;have t:Hid (∀ b,v2.ownBlock=some b→b≠w.heap.size):=fun b hb e=>by
     have h1:=(G.lt b hb).1;have h2:=cC A;omega
    have Z:w2.cell? ⟨w.heap.size,p/64,none⟩=some (.int .u64 (qs.getD (p/64) 0:Nat)):=by
     rw [World.ownsRow.cellAt c (p/64) (by omega),List.getElem?_map,List.getD_eq_getElem?_getD,List.getElem?_eq_getElem (by rw [d.out.1];exact Q)];rfl
    have aY:=World.ownsRow.frozenAt c (p/64);obtain ⟨z,hz⟩:∃ z,z=qs.getD (p/64) 0 ||| T*2^(p%64):=⟨_,rfl⟩
    have HZ:=aa hz;rw [← hz] at ap aq;have V:=aa (World.ownsRow.stored c (p/64) (.int .u64 (z:Int))).1;have aU:Hid (OwnN .u64 24 w2 w.heap.size v2 M (digs LF M)):=aR G (fun b hb=>by have h1:=(G.lt b hb).1;have h2:=HD.out.size;omega);obtain ⟨pi,B⟩:∃ pi,pi=p/64:=⟨_,rfl⟩
    have gw:IntKind.i64.wrap ((p:Int)/64)=(pi:Int):=by rw [IntKind.wrap_i64];omega
    have bf:(pi:Int)<(L:Int):=by omega
    have aF:=aa B;obtain ⟨ps,S⟩:∃ ps,ps=p%64:=⟨_,rfl⟩
    have gt:((p:Int)).tmod 64=(ps:Int):=by rw [Int.tmod_eq_emod_of_nonneg (by omega)];omega
    have be:(ps:Int)≤64:=by omega
    have bc:=aa S;rw [← S] at ap;rw [← B] at Z aY V;generalize hqz:qs.getD (p/64) 0=q at *;have aH:=aa hqz;rw [B,hqz,← B] at Z;clear E O A HD d2 G c D hz a f aB B S hqz aJ aK aL;go_wp2_with fail;go_still_tail 10,(by kernel_rfl)
    change wpList _ _ _ _ _ w2.drew
    go_wp2_with fail;go_roundw
    case rel=>
     have k3:Kept (fun b=>b=w.heap.size) w2 (w2.setCell ⟨w.heap.size,pi,none⟩ (.int .u64 (z:Int))).drew:=((ag (fun b=>b=w.heap.size) w2).setCell ⟨w.heap.size,pi,none⟩ (fun _=>rfl) _).drew;have I:OwnN .u64 24 (w2.setCell ⟨w.heap.size,pi,none⟩ (.int .u64 (z:Int))).drew w.heap.size (.slice (some ⟨w.heap.size,0,none⟩) L L) L (qs.set pi z):=by
      unfold OwnN;rw [List.map_set];exact V.out
     refine ⟨k+1,o2,digs LF M,qs.set pi z,by omega,by go_num,?_,⟨af _ _ _,ai (by omega) _ _⟩,⟨by rw [List.length_set];exact d.out.1,lK d.out.2 aq⟩,k3.own aU.out (fun b hb=>t.out b hb),I,t,(fun hy=>?_)⟩
     ·unfold Hid;rw [← BA];exact aA.out.wroteNew k3 (by omega) aQ
     ·obtain ⟨v1,v2,v3⟩:=aE.out hy;have ak:=oC (p:=p) hy d.out.2 (by rw [d.out.1];exact Q) v3 v2 v;rw [aH.out,← HZ.out,← aF.out] at ak;rw [HP.out,au,ak];exact ⟨by rw [v1,ar (Nat.lt_trans (Nat.mod_lt _ hy) ax.out)],rfl⟩
    case measure=>simp [intOf];omega
   ·have aZ:¬ (k:Int)<(N:Int):=by omega
    obtain rfl:k=N:=by omega
    have aj:digs (val qs) L=qs:=(aO (by omega) d.out.2 d.out.1 (by rw [ar];have:=aD (by omega) d.out.2;rwa [d.out.1] at this)).symm;have al:digs (val rs) M=rs:=(aO (by omega) f.out.2 f.out.1 (by rw [ar];have:=aD (by omega) f.out.2;rwa [f.out.1] at this)).symm;have aG:=aa aj;have aI:=aa al;clear m az aj al;go_wp2_with fail;go_ret2;refine ⟨_,_,rfl,val qs,by rw [aG.out];exact A,val rs,by rw [aI.out];exact O,(fun hy=>?_),o1,HD.out⟩;obtain ⟨v1,v2⟩:=h.out hy;rw [Nat.sub_self,Nat.pow_zero,Nat.div_one] at v1 v2;exact ⟨by rw [v2,Nat.mul_one],v1⟩
 ·have a0:=jc w M L CM CL aw.out av.out (by omega) (by omega);generalize ((w.alloc (.cells CM 24)).alloc (.cells CL 24)).drew=W1 at *;obtain ⟨ae,ad,k1⟩:=a0;clear ab ac av aw;go_wp2_with fail;go_loopw [9,25] (fun rv i wr=>∃ (k:Nat) (o1:Tr) (rs qs:List Nat),k≤N∧i=.int .i64 (k:Int)∧Hid (Did w o (List.replicate (3*k) (1,(M:Int),0)) wr o1)∧Hid (rs.length=M∧Digs rs)∧Hid (qs.length=L∧Digs qs)∧OwnN .u64 24 wr w.heap.size rv M rs∧OwnN .u64 24 wr w.heap.size (.slice (some ⟨(w.heap.size+1),0,none⟩) L L) L qs∧Hid (∀ b,rv.ownBlock=some b→b≠(w.heap.size+1))∧Hid (0<Y→val rs=X/2^(N-k)%Y∧val qs=X/2^(N-k)/Y*2^(N-k))) (fun _ i _=>N-(intOf i).toNat)
  case atStart=>
   refine ⟨0,o,_,_,Nat.zero_le _,rfl,Did.of_kept k1 HT.out.1,⟨by simp,eX M⟩,⟨by simp,eX L⟩,ae,ad,(fun b hb=>by simp [Value.ownBlock] at hb;omega),(fun hy=>?_)⟩;rw [fC,fC,Nat.sub_zero,Nat.div_eq_of_lt aV.out,Nat.zero_mod,Nat.zero_div,Nat.zero_mul];exact ⟨rfl,rfl⟩
  case round=>
   clear ad ae k1;obtain ⟨k,o1,rs,qs,hk,rfl,HD,f,d,O,A,aB,h⟩:=hrel;by_cases hkn:k<N
   ·have bg:(0:Int)≤(k:Int):=Int.natCast_nonneg _;have aZ:(k:Int)<(N:Int):=by omega
    obtain ⟨p,hp⟩:∃ p,p=N-1-k:=⟨_,rfl⟩
    have gp:(N:Int)-1-(k:Int)=(p:Int):=by omega
    have Q:p/64<L:=by have:=HN.out;omega
    have aJ:(p:Int)/64<(L:Int):=by omega
    have aK:(0:Int)≤(p:Int)/64:=by omega
    have aL:((p:Int)/64).toNat=p/64:=by omega
    have a:TrRoom wr o1 3:=HD.out.room (by rw [List.length_replicate];exact HT.out.less (by omega));have am:=HU.out.did HD.out;have an:=HV.out.did HD.out;obtain ⟨_,_,_,e2,_,_,_,_,y⟩:=am.1.open;cases e2
    obtain ⟨b2,a3,rfl,aW⟩:=y (p/64) Q;have hx:=az.out (p/64);obtain ⟨x,U⟩:∃ x,x=xs.getD (p/64) 0:=⟨_,rfl⟩
    rw [← U] at aW hx;obtain ⟨bt,F⟩:∃ bt,bt=x/2^(p%64):=⟨_,rfl⟩
    have J:bt<18446744073709551616:=by rw [F];exact Nat.lt_of_le_of_lt (Nat.div_le_self _ _) hx
    have bd:(x:Int)/2^(p%64)=(bt:Int):=by rw [F];simp
    have l:bt%2=X/2^p%2:=by rw [F,U,← m.out,je]
    have g:=dr O f.out.1 a.1;obtain ⟨T,hT⟩:∃ T,T=ft (2*val rs+bt%2) Y M:=⟨_,rfl⟩
    have v:T≤1:=by rw [hT];exact kQ _ _ _
    have E:=tT o1 _ _ rs ys bt J T wr a g an f.out.2 a4.out (by rw [f.out.1,eM.out]) (by rw [eM.out];omega) (by rw [eM.out,← HY.out];exact hT);rw [HD.out.ptr,← a5.out,eM.out,← HY.out] at E;obtain ⟨LF,H⟩:∃ LF,LF=lU (2*val rs+bt%2) Y M:=⟨_,rfl⟩
    rw [← H] at E;have aE:Hid (0<Y→LF=X/2^p%Y∧T=(2*(X/2^(p+1)%Y)+X/2^p%2)/Y∧val qs=X/2^(p+1)/Y*2^(p+1)):=fun hy=>by
     obtain ⟨v1,v2⟩:=h.out hy;rw [show N-k=p+1 by omega] at v1 v2;obtain ⟨b1,b2⟩:=nB (R:=val rs) (M:=Y) (n:=M) (bit:=bt%2) hy (by rw [v1];exact Nat.mod_lt _ hy) ax.out (by omega);rw [v1,l] at b1 b2;rw [H,hT,v1,l];exact ⟨b2.trans oG,b1,v2⟩
    have ah:Hid (∀ j,qs.getD j 0<18446744073709551616):=fun j=>d.out.2.getD (by omega) _
    have a1:=ah.out (p/64);obtain ⟨ap,aq⟩:=qH (s:=p%64) a1 v (by omega);have HP:Hid (N-(k+1)=p):=by unfold Hid;omega
    clear F hT H U y am an g l h hp ah;go_wp2_with fail;refine E.mono ?_;rintro e w2 ⟨v2,rfl,G,o2,d2⟩;have c:=d2.kept.own A (cj A a.1);have aA:=aa (HD.out.trans d2);have D:=(d2.room (k:=0) a).1;have aQ:¬ aN o2 (w.heap.size+1):=cj c D _ rfl;have t:Hid (∀ b,v2.ownBlock=some b→b≠(w.heap.size+1)):=fun b hb e=>by
     have h1:=(G.lt b hb).1;have h2:=cC A;omega
    have Z:w2.cell? ⟨(w.heap.size+1),p/64,none⟩=some (.int .u64 (qs.getD (p/64) 0:Nat)):=by
     rw [World.ownsRow.cellAt c (p/64) (by omega),List.getElem?_map,List.getD_eq_getElem?_getD,List.getElem?_eq_getElem (by rw [d.out.1];exact Q)];rfl
    have aY:=World.ownsRow.frozenAt c (p/64);obtain ⟨z,hz⟩:∃ z,z=qs.getD (p/64) 0 ||| T*2^(p%64):=⟨_,rfl⟩
    have HZ:=aa hz;rw [← hz] at ap aq;have V:=aa (World.ownsRow.stored c (p/64) (.int .u64 (z:Int))).1;have aU:Hid (OwnN .u64 24 w2 w.heap.size v2 M (digs LF M)):=aR G (fun b hb=>by have h1:=(G.lt b hb).1;have h2:=HD.out.size;omega);obtain ⟨pi,B⟩:∃ pi,pi=p/64:=⟨_,rfl⟩
    have gw:IntKind.i64.wrap ((p:Int)/64)=(pi:Int):=by rw [IntKind.wrap_i64];omega
    have bf:(pi:Int)<(L:Int):=by omega
    have aF:=aa B;obtain ⟨ps,S⟩:∃ ps,ps=p%64:=⟨_,rfl⟩
    have gt:((p:Int)).tmod 64=(ps:Int):=by rw [Int.tmod_eq_emod_of_nonneg (by omega)];omega
    have be:(ps:Int)≤64:=by omega
    have bc:=aa S;rw [← S] at ap;rw [← B] at Z aY V;generalize hqz:qs.getD (p/64) 0=q at *;have aH:=aa hqz;rw [B,hqz,← B] at Z;clear E O A HD d2 G c D hz a f aB B S hqz aJ aK aL;go_wp2_with fail;go_still_tail 10,(by kernel_rfl)
    change wpList _ _ _ _ _ w2.drew
    go_wp2_with fail;go_roundw
    case rel=>
     have k3:Kept (fun b=>b=(w.heap.size+1)) w2 (w2.setCell ⟨(w.heap.size+1),pi,none⟩ (.int .u64 (z:Int))).drew:=((ag (fun b=>b=(w.heap.size+1)) w2).setCell ⟨(w.heap.size+1),pi,none⟩ (fun _=>rfl) _).drew;have I:OwnN .u64 24 (w2.setCell ⟨(w.heap.size+1),pi,none⟩ (.int .u64 (z:Int))).drew w.heap.size (.slice (some ⟨(w.heap.size+1),0,none⟩) L L) L (qs.set pi z):=by
      unfold OwnN;rw [List.map_set];exact V.out
     refine ⟨k+1,o2,digs LF M,qs.set pi z,by omega,by go_num,?_,⟨af _ _ _,ai (by omega) _ _⟩,⟨by rw [List.length_set];exact d.out.1,lK d.out.2 aq⟩,k3.own aU.out (fun b hb=>t.out b hb),I,t,(fun hy=>?_)⟩
     ·unfold Hid;rw [← BA];exact aA.out.wroteNew k3 (by omega) aQ
     ·obtain ⟨v1,v2,v3⟩:=aE.out hy;have ak:=oC (p:=p) hy d.out.2 (by rw [d.out.1];exact Q) v3 v2 v;rw [aH.out,← HZ.out,← aF.out] at ak;rw [HP.out,au,ak];exact ⟨by rw [v1,ar (Nat.lt_trans (Nat.mod_lt _ hy) ax.out)],rfl⟩
    case measure=>simp [intOf];omega
   ·have aZ:¬ (k:Int)<(N:Int):=by omega
    obtain rfl:k=N:=by omega
    have aj:digs (val qs) L=qs:=(aO (by omega) d.out.2 d.out.1 (by rw [ar];have:=aD (by omega) d.out.2;rwa [d.out.1] at this)).symm;have al:digs (val rs) M=rs:=(aO (by omega) f.out.2 f.out.1 (by rw [ar];have:=aD (by omega) f.out.2;rwa [f.out.1] at this)).symm;have aG:=aa aj;have aI:=aa al;clear m az aj al;go_wp2_with fail;go_ret2;refine ⟨_,_,rfl,val qs,by rw [aG.out];exact A,val rs,by rw [aI.out];exact O,(fun hy=>?_),o1,HD.out⟩;obtain ⟨v1,v2⟩:=h.out hy;rw [Nat.sub_self,Nat.pow_zero,Nat.div_one] at v1 v2;exact ⟨by rw [v2,Nat.mul_one],v1⟩

def j2 (L M:Nat):List Ev:=[(1,((M:Nat):Int),0)] ++ List.replicate (3*(64*L)) (1,((M:Nat):Int),0)

theorem fY (L M:Nat):(j2 L M).length=1+3*(64*L):=by unfold j2;rw [List.length_append,List.length_replicate];rfl

theorem tU (o:Tr) (ao bo:Option Addr) (L M i j:Nat) (xs ys:List Nat) (X Y:Nat) (hX:X=val xs) (hY:Y=val ys) (bT bA bB bQ bR:Nat) (w:World) (ht:TrRoom w o 60000) (hu:RowT w o (.slice ao L i) xs) (hv:RowT w o (.slice bo M j) ys) (D:Digs xs) (n:Digs ys)
  (hT:Box w bT (aC o) 53) (hA:Box w bA (.slice ao L i) 23) (hB:Box w bB (.slice bo M j) 23) (hQ:Box w bQ (.slice none 0 0) 23) (hR:Box w bR (.slice none 0 0) 23) (E:bQ≠bR) :
  Calls Tryz.prog 235 #[.pointer (some ⟨bA,0,none⟩),.pointer (some ⟨bB,0,none⟩),.pointer (some ⟨bT,0,none⟩),.pointer (some ⟨bQ,0,none⟩),.pointer (some ⟨bR,0,none⟩)] w fun e w'=>
   (¬ (L≤300∧M≤300)∧e=.panicked [refusal 2]∧w'=w)∨((L≤300∧M≤300)∧Y=0∧e=.panicked [refusal 1]∧∃ o',Did w o (j2 L M) w' o') ∨
   ((L≤300∧M≤300)∧Y≠0∧e=.returned (.tuple #[])∧∃ v1 v2 w1 o',OwnN .u64 24 w' w.heap.size v1 L (digs (X/Y) L)∧OwnN .u64 24 w' w.heap.size v2 M (digs (X%Y) M)∧Did w o (j2 L M) w1 o'∧Kept (fun b=>b=bQ∨b=bR) w1 w'∧Box w' bQ v1 23∧Box w' bR v2 23):=by
 obtain ⟨_,_,_,e1,A,_,_,_,_⟩:=hu.1.open;cases e1
 obtain ⟨_,_,_,e1,B,_,_,_,_⟩:=hv.1.open;cases e1
 have eL:=aa A.out;have eM:=aa B.out;have hP:=fun W=>qJ ao bo L M i j W
 obtain ⟨po,s⟩:=aE o;have hZ:=fun (l:M≤300)=>zx o _ ys w (ht.less (by omega)) hv n (by have:=eM.out;omega)
 rw [← hY,eM.out] at hZ;rw [s] at hZ hT;have cT:=hT.cell;have cA:=hA.cell;have cB:=hB.cell;have HT:=aa ht;have HU:=aa hu;have HV:=aa hv;have F:=aa hA;have G:=aa hB;have J:=aa hT;have H:=aa hQ;have I:=aa hR;have N:=aa D;have O:=aa n;have HX:=aa hX;have HY:=aa hY;have S:=aa s;clear hu hv D n A B s hT hA hB hQ hR ht hX hY;go_enter Tryz.func235,Tryz.ntmps235;go_wp2_with fail;refine (hP _).mono ?_;rintro e w1 ⟨⟨l1,l2,rfl⟩ | ⟨l1,rfl⟩,rfl⟩
 ·go_wp2_with fail;refine (hZ l2).mono ?_;rintro e w2 ⟨rfl,o2,d2⟩;have g:=HT.out.1;have V:=(F.out.did d2 g (by decide) (by decide)).cell;have Z:=(G.out.did d2 g (by decide) (by decide)).cell;have ab:=(J.out.did d2 g (by decide) (by decide)).cell;have t:=H.out.did d2 g (by decide) (by decide);have v:=I.out.did d2 g (by decide) (by decide);have r2:TrRoom w2 o2 59999:=d2.room (HT.out.less (by simp));have hD:=Ci o2 ao bo L M i j xs ys X Y HX.out HY.out w2 (r2.less (by omega)) (HU.out.did d2) (HV.out.did d2) N.out O.out (by omega) (by omega);rw [d2.ptr,S.out] at hD;obtain ⟨nz,p⟩:∃ nz,nz=aX (decide (Y=0)):=⟨_,rfl⟩
  rw [← p];have x:=aa p;clear hZ hP cA cB cT p;go_wp2_with fail;refine hD.mono ?_;rintro e w3 ⟨v1,v2,rfl,q,d,r,f,h,o3,d3⟩;have a:=t.did d3 r2.1 (by decide) (by decide);have c:=v.did d3 r2.1 (by decide) (by decide);have HD:=aa (d2.trans d3);clear hD;by_cases h0:Y=0
  ·have en:nz=1:=by rw [x.out,bw h0];rfl
   have gn:((nz:Int) == 1)=true:=by rw [en];rfl
   have m:=iC 1 w3;go_wp2_with fail;refine m.mono ?_;rintro e w4 ⟨rfl,rfl⟩;exact ⟨rfl,.inr (.inl ⟨⟨l1,l2⟩,h0,rfl,o3,HD.out⟩)⟩
  ·have en:nz=0:=by rw [x.out,aW h0];rfl
   have gn:((nz:Int) == 1)=false:=by rw [en];rfl
   have C:=js 1 w3;obtain ⟨xo,xc,rfl⟩:=aZ d;obtain ⟨yo,yc,rfl⟩:=aZ f;have cQ:=a.cell;have fQ:=a.free;have cR:=c.cell;have fR:=c.free;obtain ⟨y,z⟩:=h (by omega);rw [y] at d;rw [z] at f;have ac:=t.lt;have ad:=v.lt;have ae:=d2.size;have kb:Kept (fun b=>b=bQ∨b=bR) w3 (w3.setCell ⟨bQ,0,none⟩ (.slice xo L xc)):=(aw w3 bQ (.slice xo L xc)).mono (fun _ _ e=>.inl e);have k:=kb.next (aw _ bR (.slice yo M yc)) (fun _ _ e=>.inr e)
   have Q:=aa (aR (base':=w1.heap.size) (k.own d (fun b hb e=>by have:=(d.lt b hb).1;omega)) (fun b hb=>by have:=(d.lt b hb).1;omega));have R:=aa (aR (base':=w1.heap.size) (k.own f (fun b hb e=>by have:=(f.lt b hb).1;omega)) (fun b hb=>by have:=(f.lt b hb).1;omega));have T:=aa ((a.set (.slice xo L xc)).other ⟨bR,0,none⟩ E (.slice yo M yc));have U:=aa ((c.other ⟨bQ,0,none⟩ (fun e=>E e.symm) (.slice xo L xc)).set (.slice yo M yc));have P:=aa k;clear d f h a c kb k d2 d3 y z t v V Z ab;go_wp2_with fail;refine C.mono ?_;rintro e w4 ⟨rfl,rfl⟩;clear C;go_wp2_with fail;go_end0
   exact .inr (.inr ⟨⟨l1,l2⟩,h0,rfl,_,_,w4,o3,Q.out,R.out,HD.out,P.out,T.out,U.out⟩)
 ·exact ⟨rfl,.inl ⟨l1,rfl,rfl⟩⟩

def jD (L M:Nat):Bool:=decide (L≤300∧M≤300)

def fg (Y L M:Nat):Nat:=if jD L M=true then (if Y=0 then 1 else 0) else 2

def jK (X Y L M:Nat):List Nat:=if fg Y L M=0 then digs (X/Y) L else []

def fZ (X Y L M:Nat):List Nat:=if fg Y L M=0 then digs (X%Y) M else []

def b9 (L M:Nat):List Ev:=if L≤300∧M≤300 then j2 L M else []

theorem nE {X Y L M:Nat} (h:¬ (L≤300∧M≤300)):fg Y L M=2∧jK X Y L M=[]∧fZ X Y L M=[]:=by
 have e:fg Y L M=2:=by unfold fg jD;rw [if_neg (by simpa using h)]
 refine ⟨e,?_,?_⟩
 ·unfold jK;rw [e,if_neg (by omega)]
 ·unfold fZ;rw [e,if_neg (by omega)]

theorem nF {X Y L M:Nat} (h:L≤300∧M≤300) (h0:Y=0):fg Y L M=1∧jK X Y L M=[]∧fZ X Y L M=[]:=by
 have e:fg Y L M=1:=by unfold fg jD;rw [if_pos (by simpa using h),if_pos h0]
 refine ⟨e,?_,?_⟩
 ·unfold jK;rw [e,if_neg (by omega)]
 ·unfold fZ;rw [e,if_neg (by omega)]

theorem dI {X Y L M:Nat} (h:L≤300∧M≤300) (h0:Y≠0):fg Y L M=0∧jK X Y L M=digs (X/Y) L∧fZ X Y L M=digs (X%Y) M:=by
 have e:fg Y L M=0:=by unfold fg jD;rw [if_pos (by simpa using h),if_neg h0]
 refine ⟨e,?_,?_⟩
 ·unfold jK;rw [if_pos e]
 ·unfold fZ;rw [if_pos e]

theorem tV (o:Tr) (ao bo:Option Addr) (L M f g:Nat) (xs ys:List Nat) (E:Nat) (hE:E=fg (val ys) L M) (w:World) (ht:TrRoom w o 60000) (hu:RowT w o (.slice ao L f) xs) (hv:RowT w o (.slice bo M g) ys) (P:Digs xs) (Q:Digs ys) :
  Calls Tryz.prog 199 #[aC o,.slice ao L f,.slice bo M g] w fun e w'=>∃ v1 v2,e=.returned (.tuple #[v1,v2,.int .i64 (E:Nat)]) ∧
   Row .u64 w' v1 (jK (val xs) (val ys) L M)∧Row .u64 w' v2 (fZ (val xs) (val ys) L M)∧((∀ b,v2.ownBlock=some b→w.heap.size≤b)∧U64s w' v2)∧∃ o',Did w o (b9 L M) w' o':=by
 have R:=dM;obtain ⟨po,C⟩:=aE o;have O:=sO w (.pointer po) (.slice ao L f) (.slice bo M g) (.slice none 0 0) (.slice none 0 0) 53 23 23 23 23;have he:∀ args w,(callFunc 235 args).run Tryz.prog w=.ok (.enter 235 args) w:=fun _ _=>by simp [go_sem]
 obtain ⟨X,hX⟩:∃ X,X=val xs:=⟨_,rfl⟩
 obtain ⟨Y,hY⟩:∃ Y,Y=val ys:=⟨_,rfl⟩
 rw [C];rw [← hY] at hE;rw [← hX,← hY];have HE:=aa hE;have HX:=aa hX;have HY:=aa hY;clear hE hX hY;go_enter Tryz.func199,Tryz.ntmps199;go_wp2_with fail;generalize ((((w.alloc (.cells #[.pointer po] 53)).alloc (.cells #[.slice ao L f] 23)).alloc (.cells #[.slice bo M g] 23)).alloc (.cells #[.slice none 0 0] 23)).alloc (.cells #[.slice none 0 0] 23)=W at *;obtain ⟨k0,x1,x2,x3,x4,x5,hs⟩:=O;have k1:=k0.alloc (.cells #[.int .i64 0] 32);have xe:=Box.new W (.int .i64 0) 32
 have h1:=tU o ao bo L M f g xs ys X Y HX.out HY.out _ _ _ _ _ _ (ht.grew k1) (hu.grew k1) (hv.grew k1) P Q (by rw [C];exact x1.alloc _) (x2.alloc _) (x3.alloc _) (x4.alloc (.cells #[.int .i64 0] 32)) (x5.alloc _) (by omega);have G:(W.alloc (.cells #[.int .i64 0] 32)).heap.size=W.heap.size+1:=by simp
 refine (iX 235 _ W (fun n W'=>n=(E:Int)∧∃ ro rc ln so sc lm o',Box W' (w.heap.size+1+1+1) (.slice ro ln rc) 23∧Box W' (w.heap.size+1+1+1+1) (.slice so lm sc) 23∧Row .u64 W' (.slice ro ln rc) (jK X Y L M)∧Row .u64 W' (.slice so lm sc) (fZ X Y L M)∧(∀ b,(Value.slice ro ln rc).ownBlock=some b→W.heap.size+1≤b)∧((∀ b,(Value.slice so lm sc).ownBlock=some b→W.heap.size+1≤b)∧U64s W' (.slice so lm sc))∧Did w o (b9 L M) W' o'∧TrIn W' o') he (h1.mono ?_)).mono ?_
 ·rintro e w' (⟨hl,rfl,rfl⟩ | ⟨hl,h0,rfl,o',hd⟩ | ⟨hl,h0,rfl,v1,v2,w1,o',q,m,hd,hk,h,i⟩)
  ·obtain ⟨e1,e2,e3⟩:=nE (X:=X) (Y:=Y) hl;refine ⟨xe,.inr ⟨2,rfl,by rw [HE.out,e1];rfl,none,0,0,none,0,0,o,x4.alloc _,x5.alloc _,by rw [e2];exact Row.nil _ _,by rw [e3];exact Row.nil _ _,(fun b hb=>by cases hb),⟨(fun b hb=>by cases hb),U64s.nil _⟩,?_,(ht.grew k1).1⟩⟩;unfold b9;rw [if_neg hl];exact Did.of_kept k1 ht.1
  ·obtain ⟨e1,e2,e3⟩:=nF (X:=X) hl h0;have d:=(hd.room (k:=0) ((ht.grew k1).less (by rw [fY];omega))).1;have s:=(x4.alloc (.cells #[.int .i64 0] 32)).did hd (ht.grew k1).1 (by decide) (by decide);have t:=(x5.alloc (.cells #[.int .i64 0] 32)).did hd (ht.grew k1).1 (by decide) (by decide);have r:=xe.did hd (ht.grew k1).1 (by decide) (by decide);refine ⟨r,.inr ⟨1,rfl,by rw [HE.out,e1];rfl,none,0,0,none,0,0,o',s,t,by rw [e2];exact Row.nil _ _,by rw [e3];exact Row.nil _ _,(fun b hb=>by cases hb),⟨(fun b hb=>by cases hb),U64s.nil _⟩,?_,d⟩⟩;unfold b9;rw [if_pos hl];exact Did.after k1 hd
  ·obtain ⟨e1,e2,e3⟩:=dI (X:=X) hl h0;rw [G] at q m;have d:=(hd.room (k:=0) ((ht.grew k1).less (by rw [fY];omega))).1;have s:=(x4.alloc (.cells #[.int .i64 0] 32)).did hd (ht.grew k1).1 (by decide) (by decide);have t:=(x5.alloc (.cells #[.int .i64 0] 32)).did hd (ht.grew k1).1 (by decide) (by decide);have r:=(xe.did hd (ht.grew k1).1 (by decide) (by decide)).kept hk (by omega);have z:=(Did.after k1 hd).wroteSome hk (fun b hb=>by
    rcases hb with rfl | rfl
    ·exact ⟨by omega,s.apart d (by decide) (by decide)⟩
    ·exact ⟨by omega,t.apart d (by decide) (by decide)⟩)
   obtain ⟨xo,xc,rfl⟩:=aZ q;obtain ⟨yo,yc,rfl⟩:=aZ m;refine ⟨r,.inl ⟨rfl,by rw [HE.out,e1];rfl,xo,xc,L,yo,yc,M,o',h,i,by rw [e2];exact aU q (af _ _ _),by rw [e3];exact aU m (af _ _ _),(fun b hb=>(q.lt b hb).1),⟨(fun b hb=>(m.lt b hb).1),U64s.own m⟩,?_,(z.room (k:=0) (ht.less (by rw [fY];omega))).1⟩⟩;unfold b9;rw [if_pos hl];exact z
 ·rintro e w' ⟨n,w1,rfl,⟨⟨rfl,ro,rc,ln,so,sc,lm,o',h,i,D,F,A,l,hd,d⟩,y⟩,rfl⟩;have j:Box w1 W.heap.size (.int .i64 0) 32:=y;have a:=h.other ⟨W.heap.size,0,none⟩ (by show _≠W.heap.size;omega) (.int .i64 (E:Int));have c:=i.other ⟨W.heap.size,0,none⟩ (by show _≠W.heap.size;omega) (.int .i64 (E:Int));have c1:=a.cell;have f1:=a.free;have c2:=c.cell;have f2:=c.free;have B:w.heap.size+1+1+1≠w.heap.size+1+1+1+1:=by omega
  have c3:=((a.set (.slice ro ln rc)).other ⟨w.heap.size+1+1+1+1,0,none⟩ B (.slice so lm sc)).cell;have c4:=((c.other ⟨w.heap.size+1+1+1,0,none⟩ B.symm (.slice ro ln rc)).set (.slice so lm sc)).cell;have H:Kept (fun b=>b=W.heap.size∨b=w.heap.size+1+1+1∨b=w.heap.size+1+1+1+1) w1 (w1.setCell ⟨W.heap.size,0,none⟩ (.int .i64 (E:Int))):=(aw w1 W.heap.size _).mono (fun _ _ e=>.inl e);have I:=H.next (aw _ (w.heap.size+1+1+1) (.slice ro ln rc)) (fun _ _ e=>.inr (.inl e))
  have p:=I.next (aw _ (w.heap.size+1+1+1+1) (.slice so lm sc)) (fun _ _ e=>.inr (.inr e))
  have HD:=aa (hd.wroteSome p (fun b hb=>by
   rcases hb with rfl | rfl | rfl
   ·exact ⟨by omega,j.apart d (by decide) (by decide)⟩
   ·exact ⟨by omega,h.apart d (by decide) (by decide)⟩
   ·exact ⟨by omega,i.apart d (by decide) (by decide)⟩))
  have J:=aa (D.kept p (fun b hb e=>by have:=A b hb;omega));have N:=aa (F.kept p (fun b hb e=>by have:=l.1 b hb;omega));have x:Hid ((∀ b,(Value.slice so lm sc).ownBlock=some b→w.heap.size≤b)∧U64s _ (Value.slice so lm sc)):=⟨fun b hb=>by have:=l.1 b hb;omega,l.2.kept p (fun b hb e=>by have:=l.1 b hb;omega)⟩
  generalize w1.setCell ⟨W.heap.size,0,none⟩ (.int .i64 (E:Int))=W2 at *;clear h1 h i a c D F A l H I p hd d y j hu hv ht x1 x2 x3 x4 x5 xe k0 k1 G he R;go_wp2_with fail;go_region
  all_goals
   go_wp2;refine bodyPost_ret (v:=.tuple #[.slice ro ln rc,.slice so lm sc,.int .i64 (E:Nat)]) (by simp [results,Tryz.results199,go_sem,c3,c4]) rfl ?_;exact ⟨_,_,rfl,J.out.grew (ag _ _).drew,N.out.grew (ag _ _).drew,⟨x.out.1,x.out.2.grew (ag _ _).drew⟩,o',HD.out.grew (ag _ _).drew⟩

end Go.Proofs.YtkaojflnghfmcaaGreatDoor
