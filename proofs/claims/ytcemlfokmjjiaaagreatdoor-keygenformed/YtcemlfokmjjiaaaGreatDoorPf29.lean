/- Put together of: Kex2 Ref6o Ref7B Ref7C RinA Iva1. -/
import Derived.Test.YtcemlfokmjjiaaaGreatDoorPf28

namespace Go.Proofs.YtcemlfokmjjiaaaGreatDoor
set_option maxRecDepth 100000
set_option maxHeartbeats 4000000
open Go.RowKit

theorem tx (ao bo:Option Addr) (n ac K l bc:Nat) (w:World):Calls Tryz.prog 100 #[.agg #[.slice ao n ac,.int .u64 (K:Nat),.slice bo l bc],.int .i64 0] w fun e w'=>e=.returned (.agg #[.slice ao n ac,.int .u64 (K:Nat),.slice bo l bc])∧Kept af w w':=by
 have hR:=bd 0;obtain ⟨W,hW⟩:∃ W,W=(w.alloc (.cells #[.slice ao n ac,.int .u64 (K:Nat),.slice bo l bc] 130)).alloc (.cells #[.slice none 0 0,.int .u64 0,.slice none 0 0] 130):=⟨_,rfl⟩
 have k0:Kept af w W:=by rw [hW];exact ((ai af w).alloc _).alloc _
 have b1:W.heap[w.heap.size]? = some (.cells #[.slice ao n ac,.int .u64 (K:Nat),.slice bo l bc] 130 (0,0)):=by rw [hW];exact ap (heap_alloc_new _ _)
 have b2:W.heap[w.heap.size+1]? = some (.cells #[.slice none 0 0,.int .u64 0,.slice none 0 0] 130 (0,0)):=by
  rw [hW];have:=heap_alloc_new (w.alloc (.cells #[.slice ao n ac,.int .u64 (K:Nat),.slice bo l bc] 130)) (.cells #[.slice none 0 0,.int .u64 0,.slice none 0 0] 130)
  rwa [World.size_alloc] at this
 obtain ⟨c0,c1,c2⟩:=ax b1;obtain ⟨f0,f1,f2⟩:=jZ b2;obtain ⟨d0,d1,d2⟩:=ax (xq b2 (.slice ao n ac) (.int .u64 (K:Nat)) (.slice bo l bc));obtain ⟨g0,g1,g2⟩:=ax b2;have a:=aa (k0.next (nI W (w.heap.size+1) (.slice ao n ac) (.int .u64 (K:Nat)) (.slice bo l bc)) (fun x hx e=>by omega));have HW:=aa hW;clear hW k0 b1 b2;go_enter Tryz.func100,Tryz.ntmps100;go_wp2_with (rw [← HW.out]);refine (hR W).mono ?_;rintro e w1 ⟨rfl,rfl⟩;clear hR;go_wp2_with fail;exact bodyPost_ret (v:=.agg #[.slice ao n ac,.int .u64 (K:Nat),.slice bo l bc]) (by simp [results,Tryz.results100,go_sem,d0,d1,d2]) rfl ⟨rfl,a.out⟩

theorem qX (f:Nat) (cap:Array Value) (w:World) (E:Nat) (he:∀ args w,(callFunc f args).run Tryz.prog w=.ok (.enter f args) w)
  (h:Calls Tryz.prog f cap (w.alloc (.cells #[.int .i64 0] 33)) fun e w'=>((E=0∧e=.returned (.tuple #[]))∨(E≠0∧e=.panicked [refusal (E:Nat)]))∧Kept af (w.alloc (.cells #[.int .i64 0] 33)) w') :
  Calls Tryz.prog 46 #[.func (.func f) #[] cap] w fun e w'=>e=.returned (.int .i64 (E:Nat))∧Kept af w w':=by
 have xe:=heap_alloc_new w (.cells #[.int .i64 0] 33);refine (iF f cap w (fun n W'=>n=(E:Nat)∧Kept af (w.alloc (.cells #[.int .i64 0] 33)) W') he (h.mono ?_)).mono ?_
 ·rintro e w' ⟨hc,k⟩;refine ⟨(k.block _ (lt_of_block xe) (fun f=>f)).trans xe,?_⟩;rcases hc with ⟨rfl,rfl⟩ | ⟨_,rfl⟩
  ·exact .inl ⟨rfl,rfl,k⟩
  ·exact .inr ⟨_,rfl,rfl,k⟩
 ·rintro e w' ⟨n,w1,rfl,⟨⟨rfl,k⟩,hb⟩,rfl⟩;exact ⟨rfl,(((ai af w).alloc _).trans k).setCell _ (fun h=>by simp at h) _⟩

theorem j7 {xs:List Nat} (hd:Digs xs) (hp:0<val xs):xs.length=aj (val xs)↔xs.length≠0∧xs.getD (xs.length-1) 0≠0:=by
 constructor
 ·intro h;have h0:xs.length≠0:=fun h0=>by
   rw [List.length_eq_zero_iff.1 h0] at hp;exact absurd hp (by decide)
  refine ⟨h0,fun ht=>?_⟩;obtain ⟨n,hn⟩:∃ n,xs.length=n+1:=⟨xs.length-1,by omega⟩
  have e:xs=xs.take n ++ [0]:=by
   have h1:=List.take_append_drop n xs;rw [List.drop_eq_getElem_cons (by omega:n<xs.length),List.drop_of_length_le (by omega)] at h1;have h2:xs[n]'(by omega)=0:=by
    rw [hn,Nat.add_sub_cancel,List.getD_eq_getElem?_getD,List.getElem?_eq_getElem (by omega)] at ht;exact ht
   rw [h2] at h1;exact h1.symm
  have hv:val xs<18446744073709551616^n:=by
   rw [e,aS,Nat.mul_zero,Nat.add_zero];have:=aq (B:=18446744073709551616) (by omega) (hd.take n)
   rwa [List.length_take,Nat.min_eq_left (by omega)] at this
  have:=(am (val xs) n).2 hv;omega
 ·rintro ⟨_,h⟩;exact jd hd (.inr h)

theorem jD {xs:List Nat} (hd:Digs xs) (hL:xs.length≤1000) (e:Nat):fm xs e=0↔(32≤au (val xs)∧au (val xs)≤8192)∧(xs.length=aj (val xs)∧val xs%2=1)∧3≤e∧e<4294967296∧e%2=1:=by
 unfold fm;constructor
 ·intro h;by_cases hc:xs.length=0∨1000<xs.length∨xs.getD (xs.length-1) 0=0∨val xs%2=0∨au (val xs)<32∨8192<au (val xs)∨e<3∨e%2=0∨4294967296≤e
  ·rw [if_pos hc] at h;exact absurd h (by decide)
  ·have h0:0<val xs:=by omega
   have:=(j7 hd h0).2 (by omega);omega
 ·rintro ⟨h1,h2,h3⟩;have h0:0<val xs:=by omega
  have:=(j7 hd h0).1 h2.1;rw [if_neg (by omega)]

theorem gh (xs:List Nat) (e:Nat):fm xs e=0∨fm xs e=190:=by
 unfold fm
 split
 ·exact .inr rfl
 ·exact .inl rfl

theorem iN (ao:Option Addr) (L cap:Nat) (xs:List Nat) (X n:Nat) (hX:X=val xs) (hn:n=aj X) (i:L≤300∧bY X) (w:World) (hu:Row .u64 w (.slice ao L cap) xs) (hd:Digs xs) :
  Calls Tryz.prog 48 #[.slice ao L cap] w fun e w'=>∃ vo vc,e=.returned (.slice vo n vc)∧Row .u64 w' (.slice vo n vc) (digs X n)∧Fresh w (.slice vo n vc)∧Kept af w w':=by
 obtain ⟨_,_,_,e1,hl,-,-,-,-⟩:=hu.open;cases e1
 obtain ⟨hL,h3,ho,hb⟩:=i;have d:n≤300:=by rw [hn];exact Nat.le_trans (aJ (n:=128) (by omega)) (by omega)
 have JB:=dG _ xs w hu hd (by rw [hl.out];omega);have JO:Hid (∀ W,Kept af w W→Calls Tryz.prog 93 #[.slice ao L cap] W fun e w'=>e=.returned (.bool true)∧w'=W):=fun W k=>by
  have h:=ol ao L cap xs W (hu.grew k) hd;rw [← hX,aT ho] at h;exact h
 have JL:=jg ao L cap xs 3 (by omega) false (by symm;exact aC (by omega)) w hu hd;have JN:Hid (∀ W,Kept af w W→Calls Tryz.prog 49 #[.slice ao L cap] W fun e w'=>∃ vo vc,e=.returned (.slice vo n vc)∧Row .u64 w' (.slice vo n vc) (digs X n)∧Fresh W (.slice vo n vc)∧Kept af W w'):=fun W k=>li ao L cap xs X n hX hn d W (hu.grew k) hd (by rw [hl.out];omega)
 have hR:=bd 190;rw [← hX] at JB;obtain ⟨b,g⟩:∃ b,b=au X:=⟨_,rfl⟩
 rw [← g] at JB hb;have g1:¬ (L:Int) > 300:=by omega
 have c:¬ (300:Int)<(L:Int):=by omega
 have g2:¬ (b:Int) > 8192:=by omega
 have f:¬ (8192:Int)<(b:Int):=by omega
 have d1:decide ((300:Int)<(L:Int))=false:=aC c;have d2:decide ((8192:Int)<(b:Int))=false:=aC f;clear hu hd hl hX hn h3 ho hb g d hL;go_enter Tryz.func48,Tryz.ntmps48;go_wp2_with fail;refine JB.mono ?_;rintro e w1 ⟨rfl,rfl⟩;clear JB;go_wp2_with fail;try rw [d2]
 refine (hR _).mono ?_;rintro e w1 ⟨rfl,rfl⟩;clear g1 c g2 f d1 d2;go_wp2_with fail;refine JL.mono ?_;rintro e w1 ⟨rfl,k1⟩;have J2:=JO.out _ k1;have a:=aa k1;clear JL k1;go_wp2_with fail;refine J2.mono ?_;rintro e w2 ⟨rfl,rfl⟩;clear J2;go_wp2_with fail;refine (hR _).mono ?_;rintro e w3 ⟨rfl,rfl⟩;have J3:=JN.out _ a.out;clear hR;go_wp2_with fail;refine J3.mono ?_;rintro e w4 ⟨vo,vc,rfl,hr,hf,k4⟩;have HR:=aa hr;have HF:=aa (hf.after a.out);have HK:=aa (a.out.trans k4);clear J3 hr hf k4;go_wp2;go_ret;exact ⟨_,_,rfl,HR.out,HF.out,HK.out⟩

theorem nP (ao:Option Addr) (L cap:Nat) (xs:List Nat) (X:Nat) (hX:X=val xs) (j:L≤1000000) (g:¬ (L≤300∧bY X)) (w:World) (hu:Row .u64 w (.slice ao L cap) xs) (hd:Digs xs) :
  Calls Tryz.prog 48 #[.slice ao L cap] w fun e w'=>e=.panicked [refusal 190]∧Kept af w w':=by
 obtain ⟨_,_,_,e1,hl,-,-,-,-⟩:=hu.open;cases e1
 have hR:=bd 190;have hY:=cf 190;by_cases hL:L≤300
 ·have a:X<3∨X%2=0∨8192<au X:=by
   have h:¬ bY X:=fun h=>g ⟨hL,h⟩
   unfold bY at h;omega
  have JB:=dG _ xs w hu hd (by rw [hl.out];omega);have JO:Hid (∀ W,Kept af w W→Calls Tryz.prog 93 #[.slice ao L cap] W fun e w'=>e=.returned (.bool (decide (X%2=1)))∧w'=W):=fun W k=>by
   have h:=ol ao L cap xs W (hu.grew k) hd;rw [← hX] at h;exact h
  have JL:=jg ao L cap xs 3 (by omega) (decide (X<3)) (by rw [hX]) w hu hd;rw [← hX] at JB;obtain ⟨b,i⟩:∃ b,b=au X:=⟨_,rfl⟩
  rw [← i] at JB a;have g1:¬ (L:Int) > 300:=by omega
  have c:¬ (300:Int)<(L:Int):=by omega
  have d1:decide ((300:Int)<(L:Int))=false:=aC c;clear hu hd hl hX i g;by_cases h2:8192<b
  ·have g2:(b:Int) > 8192:=by omega
   have d:(8192:Int)<(b:Int):=by omega
   have d2:decide ((8192:Int)<(b:Int))=true:=aT d;clear a h2 JO JL hR;go_enter Tryz.func48,Tryz.ntmps48;go_wp2_with fail;refine JB.mono ?_;rintro e w1 ⟨rfl,rfl⟩;clear JB;go_wp2_with fail;try rw [d2]
   refine (hY _).mono ?_;rintro e w1 ⟨rfl,rfl⟩;exact ⟨rfl,rfl,ai _ _⟩
  ·have g2:¬ (b:Int) > 8192:=by omega
   have d:¬ (8192:Int)<(b:Int):=by omega
   have d2:decide ((8192:Int)<(b:Int))=false:=aC d;by_cases h3:X<3
   ·rw [aT h3] at JL;clear a h2 JO h3;go_enter Tryz.func48,Tryz.ntmps48;go_wp2_with fail;refine JB.mono ?_;rintro e w1 ⟨rfl,rfl⟩;clear JB;go_wp2_with fail;try rw [d2]
    refine (hR _).mono ?_;rintro e w1 ⟨rfl,rfl⟩;clear g1 c g2 d d1 d2 hR;go_wp2_with fail;refine JL.mono ?_;rintro e w1 ⟨rfl,k1⟩;have f:=aa k1;clear JL k1;go_wp2_with fail;refine (hY _).mono ?_;rintro e w2 ⟨rfl,rfl⟩;exact ⟨rfl,rfl,f.out⟩
   ·rw [aC h3] at JL;have h4:¬ X%2=1:=by omega
    rw [aC h4] at JO;clear a h2 h3 h4;go_enter Tryz.func48,Tryz.ntmps48;go_wp2_with fail;refine JB.mono ?_;rintro e w1 ⟨rfl,rfl⟩;clear JB;go_wp2_with fail;try rw [d2]
    refine (hR _).mono ?_;rintro e w1 ⟨rfl,rfl⟩;clear g1 c g2 d d1 d2 hR;go_wp2_with fail;refine JL.mono ?_;rintro e w1 ⟨rfl,k1⟩;have J2:=JO.out _ k1;have f:=aa k1;clear JL k1;go_wp2_with fail;refine J2.mono ?_;rintro e w2 ⟨rfl,rfl⟩;clear J2;go_wp2_with fail;refine (hY _).mono ?_;rintro e w3 ⟨rfl,rfl⟩;exact ⟨rfl,rfl,f.out⟩
 ·have g1:(L:Int) > 300:=by omega
  have c:(300:Int)<(L:Int):=by omega
  have d1:decide ((300:Int)<(L:Int))=true:=aT c;clear hu hd hl hX g hL j hR;go_enter Tryz.func48,Tryz.ntmps48;go_wp2_with fail;try rw [d1]
  refine (hY _).mono ?_;rintro e w1 ⟨rfl,rfl⟩;exact ⟨rfl,rfl,ai _ _⟩

theorem mW (w:World):Kept af w w:=ai af w

theorem nW {a w:World} (h:Kept af a w):Kept af a w.drew:=h.drew

theorem je {a w:World} (o:Obj) (h:Kept af a w):Kept af a (w.alloc o):=h.alloc o

def fj (x y V:Nat):Nat:=if y≤x then x-y else x+V-y

def uz (x V:Nat):Nat:=(if x%2=1 then x+V else x)/2

theorem oA (b:Bool):bi b≤1:=by unfold bi;split <;> omega

theorem lr {a b n:Nat} (h:a%18446744073709551616^n=b%18446744073709551616^n):digs a n=digs b n:=
 aW (by omega) (ah (by omega) _ _) (ag _ _ _) (by rw [ak];exact h)

theorem xT {X Z V n:Nat} (_:X<V) (hZ:Z<V) (hV:V<18446744073709551616^n):digs (aP (bi (decide (X<Z))) (cS X Z n%18446744073709551616^n+V) (cS X Z n%18446744073709551616^n)) n=digs (fj X Z V) n:=by
 apply lr;unfold cS fj aP bi;rw [← B64];generalize 18446744073709551616^n=P at *;by_cases h:X<Z
 ·rw [aT h,if_pos rfl,if_pos rfl,if_pos h,if_neg (by omega),al (show X+P-Z<P by omega),show X+P-Z+V=X+V-Z+P by omega,Nat.add_mod_right]
 ·rw [if_neg h,if_pos (show Z≤X by omega)];simp [h]

theorem xM {X Z V:Nat} (hX:X<V) (hZ:Z<V):fj X Z V<V:=by
 unfold fj
 split <;> omega

theorem A8 (o:Tr) (ao bo xo yo:Option Addr) (n n1 a rl f xc yc:Nat) (K:Int) (xs ys ms:List Nat) (w:World) (ht:TrRoom w o 2) (hx:RowT w o (.slice xo n1 xc) xs) (hy:RowT w o (.slice yo n yc) ys) (hm:RowT w o (.slice ao n a) ms) (y:Digs xs) (r:Digs ys) (m:Digs ms) (hn:n≤100000) (x:n1≤n) :
  Calls Tryz.prog 232 #[aE o,.agg #[.slice ao n a,.int .u64 K,.slice bo rl f],.slice xo n1 xc,.slice yo n yc] w fun e w'=>∃ v',e=.returned v'∧ij w o (List.replicate 2 (1,(n:Int),0)) n (fun Y=>val xs<val ms→val ys<val ms→digs Y n=digs (fj (val xs) (val ys) (val ms)) n) w' v':=by
 obtain ⟨_,_,_,e1,q,_,_,_,_⟩:=hx.1.open;cases e1
 obtain ⟨_,_,_,e1,l,_,_,_,_⟩:=hy.1.open;cases e1
 obtain ⟨_,_,_,e1,i,_,_,_,_⟩:=hm.1.open;cases e1
 have p:val ms<18446744073709551616^n:=by rw [← i.out];exact aq (by omega) m
 have k0:Kept af w (w.alloc (.cells #[.slice ao n a,.int .u64 K,.slice bo rl f] 130)):=(ai af w).alloc _;have h:(w.alloc (.cells #[.slice ao n a,.int .u64 K,.slice bo rl f] 130)).heap[w.heap.size]? = some (.cells #[.slice ao n a,.int .u64 K,.slice bo rl f] 130 (0,0)):=heap_alloc_new _ _;obtain ⟨X,hX⟩:∃ X,X=val xs:=⟨_,rfl⟩
 obtain ⟨Z,hZ⟩:∃ Z,Z=val ys:=⟨_,rfl⟩
 obtain ⟨V,hV⟩:∃ V,V=val ms:=⟨_,rfl⟩
 rw [← hX,← hZ,← hV];rw [← hV] at p;have g:=pd o _ _ xs ys _ ((ht.less (by omega)).grew k0) (hx.grew k0) (hy.grew k0) y r (by rw [q.out];omega) (by rw [l.out];omega);rw [q.out,l.out,Nat.max_eq_right x,← hX,← hZ] at g;have HN:=aa (fun h1 h2=>xT (X:=X) (Z:=Z) (V:=V) (n:=n) h1 h2 p);obtain ⟨c,hc⟩:∃ c,c=bi (decide (X<Z)):=⟨_,rfl⟩
 have F:c≤1:=by rw [hc];exact oA _
 rw [← hc] at g HN;have v:Hid (∀ (W:World) (o1:Tr) (m1:List Ev) (v1:Value),Did w o m1 W o1→m1.length=1→RowT W o1 v1 (digs (cS X Z n) n)→Calls Tryz.prog 248 #[aE o,.int .u64 (c:Nat),v1,.slice ao n a] W fun e w'=>∃ v' c',e=.returned (.tuple #[v',.int .u64 c'])∧OwnN .u64 23 w' W.heap.size v' n (digs (aP c (cS X Z n%18446744073709551616^n+V) (cS X Z n%18446744073709551616^n)) n)∧∃ o',Did W o1 [(1,(n:Nat),0)] w' o'):=fun W o1 m1 v1 d hl hr=>by
  have:=uT o1 c (by omega) v1 _ _ ms W (d.room (by rw [hl];exact ht.less (by omega))) hr (hm.did d) (ah (by omega) _ _) m (by rw [ag];omega) (by rw [i.out];omega);rw [ag,i.out,Nat.max_self,ak,← hV,d.ptr] at this;refine this.mono ?_;rintro e w' ⟨v',rfl,h1,h2⟩;exact ⟨v',_,rfl,h1,h2⟩
 have HT:=aa ht.1;have E:=aa ht;obtain ⟨po,t⟩:=aI o;rw [t] at g v ⊢;have K0:=aa k0;clear hm hx hy ht q l i y r m k0 hX hZ hV p hc t x;obtain ⟨p0,p1,p2⟩:=ax h;go_enter Tryz.func232,Tryz.ntmps232;go_wp2_with fail;refine g.mono ?_;rintro e w1 ⟨v1,rfl,z,o1,d1⟩;have j:=Did.after K0.out d1;have C:=(d1.kept.block _ (lt_of_block h) (ay h (HT.out.grew K0.out) (by decide) (by decide))).trans h;have A:=(j.room (k:=0) (E.out.less (by simp))).1;have B:=fN z (ag _ _ _) A;obtain ⟨q0,q1,q2⟩:=ax C;have D:=v.out w1 o1 _ v1 j rfl B;clear g p0 p1 p2 h;go_wp2_with fail;refine D.mono ?_
 rintro e w2 ⟨v2,c2,rfl,s,o2,d2⟩;go_wp2_with fail;go_ret;refine ⟨_,rfl,_,o2,aZ s (fun b hb=>?_),(fun h1 h2=>HN.out h1 h2),j.trans d2⟩;have:=(s.lt b hb).1;have:=j.size;omega

def nrm:List (Int × Int):=[(-30,-22),(-23,-34),(-5,-62),(9,-76),(14,-79),(29,-85),(32,-74),(35,-56),(41,-12),(41,0),(30,22),(23,34),(5,62),(-9,76),(-14,79),(-29,85),(-32,74),(-35,56),(-41,12),(-41,0)]

def crs (a b:Int × Int):Int:=a.1*b.2-a.2*b.1

def dom (t:Int × Int) (B:Int):Bool:=(nrm.zip (nrm.drop 1 ++ nrm.take 1)).any fun p=>decide (0<crs p.1 p.2) && decide (0≤crs t p.2) && decide (0≤crs p.1 t) && decide (crs t p.2+crs p.1 t≤crs p.1 p.2*B)

def InK (T F G:Int):Prop:=∀ n ∈ nrm,n.1*F+n.2*G≤T

theorem gO {t:Int × Int} {B T F G:Int} (hT:0≤T) (h:dom t B=true) (hk:InK T F G):t.1*F+t.2*G≤B*T:=by
 unfold dom at h;rw [List.any_eq_true] at h;obtain ⟨⟨n1,n2⟩,hm,hp⟩:=h;simp only [Bool.and_eq_true,decide_eq_true_eq] at hp;obtain ⟨⟨⟨h1,h2⟩,h3⟩,h4⟩:=hp;have m1:n1 ∈ nrm:=(List.of_mem_zip hm).1;have m2:n2 ∈ nrm:=by
  have:=(List.of_mem_zip hm).2;rw [List.mem_append] at this;rcases this with h | h
  ·exact List.mem_of_mem_drop h
  ·exact List.mem_of_mem_take h
 have e:crs n1 n2*(t.1*F+t.2*G)=crs t n2*(n1.1*F+n1.2*G)+crs n1 t*(n2.1*F+n2.2*G):=by
  unfold crs
  grind
 have a1:=Int.mul_le_mul_of_nonneg_left (hk n1 m1) h2;have a2:=Int.mul_le_mul_of_nonneg_left (hk n2 m2) h3;have a3:=Int.mul_le_mul_of_nonneg_right h4 hT;rw [Int.add_mul] at a3;have:crs n1 n2*(t.1*F+t.2*G)≤crs n1 n2*(B*T):=by
  rw [e,← Int.mul_assoc];omega
 exact Int.le_of_mul_le_mul_left this h1

theorem kG:dom (41,0) 1=true∧dom (-41,0) 1=true∧dom (0,67) 1=true∧dom (0,-67) 1=true:=by decide +kernel

def zw (e:Nat) (q:Int) (n:Int × Int):Int × Int:=(17^e*(-(2^(e-1))*n.2),17^e*(n.1*2^(e+1)+n.2*q))

theorem rI:∀ e ∈ [1,2,3,4,5,6,7],∀ n ∈ nrm,dom (zw e 1 n) (42^e)=true∧dom (zw e (2^(e+1)-1) n) (42^e)=true:=by decide +kernel

theorem rF:∀ n ∈ nrm,(-85≤n.2∧n.2≤85)∧(n.1+n.2≤114∧n.1-n.2≤114∧-n.1+n.2≤114∧-n.1-n.2≤114):=by decide +kernel

theorem ug {x y X Y:Int} (h1:-X≤x) (h2:x≤X) (h3:-Y≤y) (h4:y≤Y):x*y≤X*Y:=by
 have e1:x.natAbs≤X.toNat:=by omega
 have e2:y.natAbs≤Y.toNat:=by omega
 have h:=Nat.mul_le_mul e1 e2;rw [← Int.natAbs_mul] at h;have hX:(X.toNat:Int)=X:=by omega
 have hY:(Y.toNat:Int)=Y:=by omega
 have:((x*y).natAbs:Int)≤((X.toNat*Y.toNat:Nat):Int):=by exact_mod_cast h
 rw [Int.natCast_mul,hX,hY] at this;have:=Int.le_natAbs (a:=x*y);omega

theorem yK (k:Nat):(24391:Int)*17^(8+k)≤5494*21^(8+k):=by
 induction k with
 | zero=>decide
 | succ k ih=>
  rw [← Nat.add_assoc,Int.pow_succ,Int.pow_succ];have:(0:Int)<17^(8+k):=Int.pow_pos (by omega);have:(0:Int)<21^(8+k):=Int.pow_pos (by omega);omega

theorem Ap {e:Nat} {q T F G:Int} (he:1≤e) (j:1≤q) (f:q≤2^(e+1)-1) (hT:0≤T) (hk:InK T F G) {n:Int × Int} (hn:n ∈ nrm):17^e*(-(2^(e-1))*n.2*F+(n.1*2^(e+1)+n.2*q)*G)≤42^e*T:=by
 by_cases h7:e≤7
 ·have hm:e ∈ [1,2,3,4,5,6,7]:=by
   have:e=1∨e=2∨e=3∨e=4∨e=5∨e=6∨e=7:=by omega
   simpa using this
  obtain ⟨d1,d2⟩:=rI e hm n hn;have a1:=gO hT d1 hk;have a2:=gO hT d2 hk;unfold zw at a1 a2;dsimp only at a1 a2;generalize (2:Int)^(e+1)=Q at *;generalize (2:Int)^(e-1)=P at *;generalize (17:Int)^e=A at *;generalize (42:Int)^e*T=Z at *;obtain ⟨a,b⟩:=n;dsimp only at *;rcases Int.lt_or_le 2 Q with h | h
  ·have b1:=Int.mul_le_mul_of_nonneg_left a1 (show 0≤Q-1-q by omega);have b2:=Int.mul_le_mul_of_nonneg_left a2 (show 0≤q-1 by omega);have e1:(Q-2)*(A*(-P*b*F+(a*Q+b*q)*G))=(Q-1-q)*(A*(-P*b)*F+A*(a*Q+b*1)*G)+(q-1)*(A*(-P*b)*F+A*(a*Q+b*(Q-1))*G):=by grind
   have e2:(Q-2)*Z=(Q-1-q)*Z+(q-1)*Z:=by grind
   refine Int.le_of_mul_le_mul_left (a:=Q-2) ?_ (by omega);rw [e1,e2];exact Int.add_le_add b1 b2
  ·obtain rfl:q=1:=by omega
   have e1:A*(-P*b*F+(a*Q+b*1)*G)=A*(-P*b)*F+A*(a*Q+b*1)*G:=by grind
   rw [e1];exact a1
 ·obtain ⟨k,rfl⟩:∃ k,e=8+k:=⟨e-8,by omega⟩
  have c1:=gO hT kG.1 hk;have c2:=gO hT kG.2.1 hk;have c3:=gO hT kG.2.2.1 hk;have c4:=gO hT kG.2.2.2 hk;dsimp only at c1 c2 c3 c4;obtain ⟨⟨n1,n2⟩,n3,n4,n5,n6⟩:=rF n hn;obtain ⟨a,b⟩:=n;dsimp only at n1 n2 n3 n4 n5 n6 ⊢;have hl:=yK k;have d:(42:Int)^(8+k)=2*(2^(8+k-1))*21^(8+k):=by
   rw [show (42:Int)=2*21 by rfl,Int.mul_pow,← Int.pow_succ',show 8+k-1+1=8+k by omega]
  have eQ:(2:Int)^(8+k+1)=4*2^(8+k-1):=by
   rw [show 8+k+1=(8+k-1)+2 by omega,Int.pow_add];omega
  rw [eQ] at f ⊢;rw [d];have hP:(0:Int)<2^(8+k-1):=Int.pow_pos (by omega);have hA:(0:Int)<17^(8+k):=Int.pow_pos (by omega);generalize (2:Int)^(8+k-1)=P at *;generalize (17:Int)^(8+k)=A at *;generalize (21:Int)^(8+k)=C at *;have d1:-b*(41*F)≤85*T:=ug (by omega) (by omega) (by omega) (by omega)
  -- the second coefficient
  have g:a*(4*P)+b*q≤456*P:=by
   rcases Int.le_total 0 b with h | h
   ·have:=Int.mul_le_mul_of_nonneg_left (show q≤4*P by omega) h;have h2:=Int.mul_le_mul_of_nonneg_right n3 (show 0≤4*P by omega);rw [Int.add_mul] at h2;omega
   ·have:=Int.mul_le_mul_of_nonneg_left (show 0≤q by omega) (show 0≤-b by omega);have h2:=Int.mul_le_mul_of_nonneg_right (show a≤114 by omega) (show 0≤4*P by omega);rw [Int.mul_zero,Int.neg_mul] at this;omega
  have i:-(456*P)≤a*(4*P)+b*q:=by
   rcases Int.le_total 0 b with h | h
   ·have:=Int.mul_le_mul_of_nonneg_left (show 0≤q by omega) h;have h2:=Int.mul_le_mul_of_nonneg_right (show -114≤a by omega) (show 0≤4*P by omega);rw [Int.mul_zero] at this;omega
   ·have:=Int.mul_le_mul_of_nonneg_left (show q≤4*P by omega) (show 0≤-b by omega);have h2:=Int.mul_le_mul_of_nonneg_right n6 (show 0≤4*P by omega);rw [Int.sub_mul,Int.neg_mul] at h2;rw [Int.neg_mul,Int.neg_mul] at this;omega
  have d2:(a*(4*P)+b*q)*(67*G)≤456*P*T:=ug i g (by omega) (by omega);generalize a*(4*P)+b*q=c at *
  -- 41*67 times what is asked
  have d3:2747*(-P*b*F+c*G)≤24391*(P*T):=by
   have h1:=Int.mul_le_mul_of_nonneg_left d1 (show 0≤67*P by omega);have e1:2747*(-P*b*F+c*G)=67*P*(-b*(41*F))+41*(c*(67*G)):=by grind
   have e2:67*P*(85*T)=5695*(P*T):=by grind
   have e3:41*(456*P*T)=18696*(P*T):=by grind
   rw [e1];omega
  have h1:=Int.mul_le_mul_of_nonneg_left d3 (show 0≤A by omega);have h2:=Int.mul_le_mul_of_nonneg_right hl (show 0≤P*T from Int.mul_nonneg (by omega) hT);refine Int.le_of_mul_le_mul_left (a:=2747) ?_ (by omega);have e1:2747*(A*(-P*b*F+c*G))=A*(2747*(-P*b*F+c*G)):=by grind
  have e2:A*(24391*(P*T))=24391*A*(P*T):=by grind
  have e3:5494*C*(P*T)=2747*(2*P*C*T):=by grind
  rw [e1];omega

theorem su {e:Nat} {q T F G f g:Int} (he:1≤e) (i:1≤q) (j:q≤2^(e+1)-1) (hT:0≤T) (hk:InK T F G) (h1:G=2^(e-1)*f) (h2:2^(e+1)*g=q*f-F):InK (21^e*T) (34^e*f) (34^e*g):=by
 intro n hn;have c:=Ap he i j hT hk hn;obtain ⟨k,rfl⟩:∃ k,e=k+1:=⟨e-1,by omega⟩
 have d:(42:Int)^(k+1)=2*2^k*21^(k+1):=by
  rw [show (42:Int)=2*21 by rfl,Int.mul_pow,Int.pow_succ']
 have h:(34:Int)^(k+1)=2*2^k*17^(k+1):=by
  rw [show (34:Int)=2*17 by rfl,Int.mul_pow,Int.pow_succ']
 have eQ:(2:Int)^(k+1+1)=4*2^k:=by
  rw [Int.pow_succ,Int.pow_succ];omega
 rw [Nat.add_sub_cancel] at h1 c;rw [eQ] at h2 c;rw [d] at c;rw [h];have hP:(0:Int)<2^k:=Int.pow_pos (by omega);generalize (2:Int)^k=P at *;generalize (17:Int)^(k+1)=A at *;generalize (21:Int)^(k+1)=C at *;obtain ⟨a,b⟩:=n;dsimp only at c ⊢;have e1:A*(-P*b*F+(a*(4*P)+b*q)*G)=2*P*(a*(2*P*A*f)+b*(2*P*A*g)):=by
  have:F=q*f-4*P*g:=by omega
  rw [h1,this]
  grind
 rw [e1,show 2*P*C*T=2*P*(C*T) by grind] at c;exact Int.le_of_mul_le_mul_left c (by omega)

def dst (s:Int × Int × Int):Int × Int × Int:=if 0<s.1∧s.2.2%2=1 then (1-s.1,s.2.2,(s.2.2-s.2.1)/2) else (1+s.1,s.2.1,(s.2.2+s.2.2%2*s.2.1)/2)

def dX (s:Int × Int × Int):Nat→Int × Int × Int
 | 0=>s
 | t+1=>dst (dX s t)

def yw (B:Int) (t:Nat) (s:Int × Int × Int):Prop:=
 ∃ (w:Nat) (F G:Int),InK (21^w*B) (34^w*F) (34^w*G)∧s.2.1%2=1∧F%2=1 ∧
  ((∃ k:Nat,s.1=1+k∧t=2*w+k∧F=s.2.1∧G=2^k*s.2.2) ∨
   (∃ (k i:Nat) (q:Int),i≤k∧s.1=(i:Int)-k∧t=2*w+k+1+i∧G=2^k*s.2.1∧2^(i+1)*s.2.2=q*s.2.1-F∧1≤q∧q≤2^(i+1)-1))

theorem rO {B:Int} (hB:0≤B) {t:Nat} {s:Int × Int × Int} (h:yw B t s):yw B (t+1) (dst s):=by
 obtain ⟨d,f,g⟩:=s;obtain ⟨w,F,G,hk,hf,hF,hc⟩:=h;dsimp only at hf hc;rcases hc with ⟨k,rfl,rfl,rfl,rfl⟩ | ⟨k,i,q,hik,rfl,rfl,rfl,hg,hq1,hq2⟩
 ·by_cases hgo:g%2=1
  ·have e:dst (1+(k:Int),F,g)=(1-(1+(k:Int)),g,(g-F)/2):=by
    unfold dst;rw [if_pos ⟨by dsimp only;omega,hgo⟩]
   rw [e];refine ⟨w,F,2^k*g,hk,hgo,hF,.inr ⟨k,0,1,by omega,?_,by omega,rfl,?_,by omega,by decide⟩⟩
   ·dsimp only;omega
   ·dsimp only;rw [show (2:Int)^(0+1)=2 from rfl];omega
  ·have j:g%2=0:=by omega
   have e:dst (1+(k:Int),F,g)=(1+(1+(k:Int)),F,g/2):=by
    unfold dst;rw [if_neg (fun h=>hgo h.2)];dsimp only;rw [j,Int.zero_mul,Int.add_zero]
   rw [e];refine ⟨w,F,2^k*g,hk,hf,hF,.inl ⟨k+1,?_,by omega,rfl,?_⟩⟩
   ·dsimp only;omega
   ·dsimp only;have:g=2*(g/2):=by omega
    rw [Int.pow_succ,Int.mul_assoc,← this]
 ·obtain ⟨r,hr⟩:∃ r,r=g%2:=⟨_,rfl⟩
  have a:r=0∨r=1:=by omega
  have e:dst ((i:Int)-k,f,g)=(1+((i:Int)-k),f,(g+r*f)/2):=by
   unfold dst;rw [if_neg (fun h=>by have:=h.1;dsimp only at this;omega),hr]
  rw [e];have h2:2*((g+r*f)/2)=g+r*f:=by
   rcases a with rfl | rfl
   ·omega
   ·omega
  generalize (g+r*f)/2=g' at *;have hP:(0:Int)<2^(i+1):=Int.pow_pos (by omega);have c:(2:Int)^(i+1+1)=2*2^(i+1):=by rw [Int.pow_succ];omega
  have hn:2^(i+1+1)*g'=(q+2^(i+1)*r)*f-F:=by
   rw [c,show (2:Int)*2^(i+1)*g'=2^(i+1)*(2*g') by grind,h2,Int.mul_add,hg]
   grind
  have hq:1≤q+2^(i+1)*r∧q+2^(i+1)*r≤2^(i+1+1)-1:=by
   rw [c];rcases a with rfl | rfl
   ·rw [Int.mul_zero];omega
   ·rw [Int.mul_one];omega
  by_cases hlt:i<k
  ·refine ⟨w,F,2^k*f,hk,hf,hF,.inr ⟨k,i+1,q+2^(i+1)*r,by omega,?_,by omega,rfl,hn,hq.1,hq.2⟩⟩;dsimp only;omega
  ·obtain rfl:i=k:=by omega
   have b:=su (e:=i+1) (q:=q+2^(i+1)*r) (T:=21^w*B) (F:=34^w*F) (G:=34^w*(2^i*f)) (f:=34^w*f) (g:=34^w*g') (by omega) hq.1 hq.2 (Int.mul_nonneg (Int.le_of_lt (Int.pow_pos (by omega))) hB) hk (by rw [Nat.add_sub_cancel];grind) (by
    rw [show (2:Int)^(i+1+1)*(34^w*g')=34^w*(2^(i+1+1)*g') by grind,hn]
    grind)
   rw [← Int.mul_assoc,← Int.mul_assoc,← Int.mul_assoc,← Int.pow_add,← Int.pow_add] at b;refine ⟨i+1+w,f,g',b,hf,hf,.inl ⟨0,?_,by omega,rfl,?_⟩⟩
   ·dsimp only;omega
   ·dsimp only;rw [Int.pow_zero,Int.one_mul]

theorem pa {M a:Int} {D:Nat} (hM:M%2=1) (h0:0≤a) (h1:a≤M) (h2:M≤2^D):yw (67*2^D) 0 (1,M,a):=by
 refine ⟨0,M,a,?_,hM,hM,.inl ⟨0,by dsimp only;omega,by omega,rfl,?_⟩⟩
 ·rw [Int.pow_zero,Int.pow_zero,Int.one_mul,Int.one_mul,Int.one_mul];generalize (2:Int)^D=X at *;intro n hn;simp only [nrm,List.mem_cons,List.not_mem_nil,or_false] at hn;rcases hn with rfl | rfl | rfl | rfl | rfl | rfl | rfl | rfl | rfl | rfl | rfl | rfl | rfl | rfl | rfl | rfl | rfl | rfl | rfl | rfl <;> dsimp only <;> omega
 ·dsimp only;rw [Int.pow_zero,Int.one_mul]

theorem mC {M a:Int} {D:Nat} (hM:M%2=1) (h0:0≤a) (h1:a≤M) (h2:M≤2^D):∀ t,yw (67*2^D) t (dX (1,M,a) t)
 | 0=>pa hM h0 h1 h2
 | t+1=>rO (Int.mul_nonneg (by omega) (Int.le_of_lt (Int.pow_pos (by omega)))) (mC hM h0 h1 h2 t)

theorem pM {D w k h:Nat} (h1:34^w*2^k≤21^w*2^D) (hw:w≤h) (hk:h≤w+k):34^h≤2^D*21^h:=by
  obtain ⟨j,rfl⟩:∃ j,h=w+j:=⟨h-w,by omega⟩
  have h2:2^j≤2^k:=Nat.pow_le_pow_right (by omega) (by omega)
  have h3:34^j≤42^j:=Nat.pow_le_pow_left (by omega) j
  rw [show (42:Nat)=2*21 from rfl,Nat.mul_pow] at h3
  calc 34^(w+j)=34^w*34^j:=Nat.pow_add _ _ _
    _≤34^w*(2^j*21^j):=Nat.mul_le_mul_left _ h3
    _=34^w*2^j*21^j:=by rw [Nat.mul_assoc]
    _≤34^w*2^k*21^j:=Nat.mul_le_mul_right _ (Nat.mul_le_mul_left _ h2)
    _≤21^w*2^D*21^j:=Nat.mul_le_mul_right _ h1
    _=2^D*21^(w+j):=by rw [Nat.pow_add];grind

theorem nD {w k D:Nat} {F G:Int} (hk:InK (21^w*(67*2^D)) (34^w*F) (34^w*(2^k*G))) (hG:G≠0):(34:Nat)^w*2^k≤21^w*2^D:=by
 have hT:(0:Int)≤21^w*(67*2^D):=Int.mul_nonneg (Int.le_of_lt (Int.pow_pos (by omega))) (Int.mul_nonneg (by omega) (Int.le_of_lt (Int.pow_pos (by omega))));have c3:=gO hT kG.2.2.1 hk;have c4:=gO hT kG.2.2.2 hk;dsimp only at c3 c4;have e1:((34^w*2^k:Nat):Int)=34^w*2^k:=by simp
 have e2:((21^w*2^D:Nat):Int)=21^w*2^D:=by simp
 have hX:(0:Int)<34^w*2^k:=Int.mul_pos (Int.pow_pos (by omega)) (Int.pow_pos (by omega));rw [← Int.mul_assoc (34^w)] at c3 c4;rw [show (21:Int)^w*(67*2^D)=67*(21^w*2^D) by grind] at c3 c4;have a:(34:Int)^w*2^k≤21^w*2^D:=by
  generalize (34:Int)^w*2^k=X at *;generalize (21:Int)^w*2^D=Y at *;generalize (34:Int)^w*F=Z at *;rcases Int.lt_or_le G 0 with h | h
  ·have:=Int.mul_le_mul_of_nonneg_left (show G≤-1 by omega) (show 0≤X by omega);rw [show X * -1=-X by omega] at this;omega
  ·have:=Int.mul_le_mul_of_nonneg_left (show 1≤G by omega) (show 0≤X by omega);rw [Int.mul_one] at this;omega
 omega

theorem qW {M a:Int} {D N:Nat} (hM:M%2=1) (h0:0≤a) (h1:a≤M) (h2:M≤2^D) (hN:2^D*21^(N/2)<34^(N/2)):(dX (1,M,a) N).2.2=0:=by
 obtain ⟨w,F,G,hk,hf,hF,hc⟩:=mC hM h0 h1 h2 N;rcases hc with ⟨k,_,ht,_,rfl⟩ | ⟨k,i,q,hik,_,ht,rfl,_,_,_⟩
 ·by_cases hg:(dX (1,M,a) N).2.2=0
  ·exact hg
  ·have:=pM (nD hk hg) (show w≤N/2 by omega) (by omega);omega
 ·have:=pM (nD hk (by intro e;rw [e] at hf;omega)) (show w≤N/2 by omega) (by omega);omega

theorem pZ {f x:Int} (hf:f%2=1):Int.gcd f (2*x)=Int.gcd f x:=by
 unfold Int.gcd;rw [Int.natAbs_mul];refine Nat.Coprime.gcd_mul_left_cancel_right _ ?_;show Nat.gcd 2 f.natAbs=1
 rw [Nat.gcd_rec,show f.natAbs%2=1 by omega];rfl

theorem uY {s:Int × Int × Int} (hf:s.2.1%2=1):(dst s).2.1%2=1∧Int.gcd (dst s).2.1 (dst s).2.2=Int.gcd s.2.1 s.2.2:=by
 obtain ⟨d,f,g⟩:=s;dsimp only at hf;unfold dst;dsimp only
 split
 ·rename_i h
  dsimp only;refine ⟨h.2,?_⟩;rw [← pZ h.2,show 2*((g-f)/2)=g-f by omega,Int.gcd_self_sub_right,Int.gcd_comm]
 ·rename_i h
  dsimp only;refine ⟨hf,?_⟩;have a:g%2=0∨g%2=1:=by omega
  have e:2*((g+g%2*f)/2)=g+g%2*f:=by
   rcases a with h0 | h0
   ·rw [h0];omega
   ·rw [h0];omega
  rw [← pZ hf,e,Int.gcd_add_mul_right_right]

theorem lG {s:Int × Int × Int} (hf:s.2.1%2=1):∀ t,(dX s t).2.1%2=1∧Int.gcd (dX s t).2.1 (dX s t).2.2=Int.gcd s.2.1 s.2.2
 | 0=>⟨hf,rfl⟩
 | t+1=>by
  obtain ⟨h1,h2⟩:=lG hf t;obtain ⟨h3,h4⟩:=uY h1;exact ⟨h3,h4.trans h2⟩

def stp (n:Nat):Nat:=(49*(64*n)+57)/17

theorem AI:∀ n,n≤130→1≤n→2^(64*n)*21^(stp n/2)<34^(stp n/2):=by decide +kernel

theorem sj {M a n:Nat} (hn:1≤n) (c:n≤130) (hM:M%2=1) (h1:a≤M) (h2:M<2^(64*n)) :
  (dX (1,(M:Int),(a:Int)) (stp n)).2.2=0∧(dX (1,(M:Int),(a:Int)) (stp n)).2.1.natAbs=Nat.gcd M a:=by
 have b:(M:Int)%2=1:=by omega
 have hz:=qW (M:=(M:Int)) (a:=(a:Int)) (D:=64*n) (N:=stp n) b (by omega) (by omega) (by
  have:((2^(64*n):Nat):Int)=2^(64*n):=by simp
  rw [← this];omega) (AI n c hn)
 have hg:=(lG (s:=(1,(M:Int),(a:Int))) b (stp n)).2;rw [hz,Int.gcd_zero_right] at hg;exact ⟨hz,hg⟩

def tcN (B:Nat) (x:Int):Nat:=(if x<0 then (B:Int)+x else x).toNat

theorem Be {B Q:Nat} {x:Int} (h0:-(Q:Int)<x) (h1:x<Q) (hB:4*Q≤B):tcN B x<B:=by
 unfold tcN
 split <;> omega

theorem tm (B x:Nat):tcN B (x:Int)=x:=by
 unfold tcN;rw [if_neg (by omega)];omega

theorem zq {B Q:Nat} {g f:Int} (hg:-(Q:Int)<g∧g<Q) (hf:-(Q:Int)<f∧f<Q) (hB:4*Q≤B):(if tcN B g<tcN B f then tcN B g+B-tcN B f else tcN B g-tcN B f)=tcN B (g-f):=by
 unfold tcN
 split <;> split <;> split <;> split <;> omega

theorem AJ {B Q:Nat} {g f:Int} (hg:-(Q:Int)<g∧g<Q) (hf:-(Q:Int)<f∧f<Q) (hB:4*Q≤B):(tcN B g+tcN B f)%B=tcN B (g+f):=by
 have h:tcN B g+tcN B f=tcN B (g+f)∨tcN B g+tcN B f=tcN B (g+f)+B:=by
  unfold tcN
  split <;> split <;> split <;> omega
 have hl:tcN B (g+f)<B:=by
  unfold tcN
  split <;> omega
 rcases h with h | h
 ·rw [h,al hl]
 ·rw [h,Nat.add_mod_right,al hl]

theorem zX {B Q:Nat} {g:Int} (hg:-(Q:Int)<g∧g<Q) (hB:4*Q≤B) (h2:B%2=0):((tcN B g%2:Nat):Int)=g%2:=by
 unfold tcN
 split <;> omega

def sgN (x:Int):Nat:=if x<0 then 1 else 0

theorem pT {B H Q:Nat} {x:Int} (hx:-(2*Q:Int)≤x∧x<2*Q) (hB:B=2*H) (hQ:2*Q≤H) (hH:0<H):tcN B x/H=sgN x:=by
 unfold tcN sgN
 split
 ·rw [Nat.div_eq_iff hH];omega
 ·rw [Nat.div_eq_of_lt (by omega)]

theorem yE {B H Q:Nat} {x:Int} (hx:-(2*Q:Int)≤x∧x<2*Q) (hB:B=2*H) (hQ:2*Q≤H):(tcN B x+sgN x%2*B)/2=tcN B (x/2):=by
 unfold tcN sgN;by_cases h:x<0
 ·rw [if_pos h,if_pos h,if_pos (by omega)];omega
 ·rw [if_neg h,if_neg h,if_neg (by omega)];omega

theorem AA {B Q:Nat} {f:Int} (hf:-(Q:Int)<f∧f<Q) (hB:4*Q≤B):(if 0<tcN B f then 0+B-tcN B f else 0-tcN B f)=tcN B (-f):=by
 unfold tcN
 split <;> split <;> split <;> omega

def swN (d g:Int):Nat:=if 0<d∧g%2=1 then 1 else 0

theorem pp (d f g:Int):dst (d,f,g)=((if swN d g=1 then 1-d else 1+d),(if swN d g=1 then g else f),(g+((g%2)-2*(swN d g:Int))*f)/2):=by
 unfold dst swN;by_cases h:0<d∧g%2=1
 ·rw [if_pos h,if_pos h,if_pos rfl,if_pos rfl,h.2];rw [show g+((1:Int)-2*((1:Nat):Int))*f=g-f by omega]
 ·rw [if_neg h,if_neg h,if_neg (by omega),if_neg (by omega)];rw [show g%2-2*((0:Nat):Int)=g%2 by omega]

def StIn (Q:Nat) (t:Nat) (s:Int × Int × Int):Prop:=(-(t:Int)≤s.1∧s.1≤t+1)∧(-(Q:Int)<s.2.1∧s.2.1<Q)∧(-(Q:Int)<s.2.2∧s.2.2<Q)

theorem StIn.step {Q t:Nat} {s:Int × Int × Int} (h:StIn Q t s):StIn Q (t+1) (dst s):=by
 obtain ⟨d,f,g⟩:=s;unfold StIn dst at *;dsimp only at h ⊢
 split
 ·dsimp only;omega
 ·dsimp only;have h2:g%2=0∨g%2=1:=by omega
  rcases h2 with h2 | h2 <;> rw [h2] <;> omega

theorem StIn.all {Q:Nat} {s:Int × Int × Int} (h:StIn Q 0 s):∀ t,StIn Q t (dX s t)
 | 0=>h
 | t+1=>(StIn.all h t).step

def CoOk (M a U V:Nat) (s:Int × Int × Int):Prop:=U<M∧V<M∧(M:Int) ∣ (U:Int)*a-s.2.1∧(M:Int) ∣ (V:Int)*a-s.2.2

theorem ut {M:Nat} {x:Int} (hM:M%2=1) (h:(M:Int) ∣ 2*x):(M:Int) ∣ x:=by
 obtain ⟨z,hz⟩:=h;obtain ⟨q,hq⟩:∃ q:Int,(M:Int)=2*q+1:=⟨(M/2:Nat),by omega⟩
 refine ⟨x-q*z,?_⟩;rw [Int.mul_sub,show (M:Int)*(q*z)=q*(M*z) by grind,← hz,hq]
 grind

theorem CoOk.step {M a U V U' V':Nat} {d f g:Int} (h:CoOk M a U V (d,f,g)) (hM:M%2=1) (hf:f%2=1) (hU:U'=if swN d g=1 then V else U) (hV:V'<M) (h2:(M:Int) ∣ 2*(V':Int)-(V+((g%2)-2*(swN d g:Int))*U)):CoOk M a U' V' (dst (d,f,g)):=by
 obtain ⟨h1,h3,h4,h5⟩:=h;dsimp only at h4 h5;rw [pp];refine ⟨?_,hV,?_,?_⟩
 ·rw [hU];split <;> assumption
 ·dsimp only;rw [hU]
  split <;> assumption
 ·dsimp only;obtain ⟨c,hc⟩:∃ c,c=g%2-2*(swN d g:Int):=⟨_,rfl⟩
  rw [← hc] at h2 ⊢;have he:(g+c*f)%2=0:=by
   have j:g%2=0∨g%2=1:=by omega
   have hs:swN d g=0∨swN d g=1:=by unfold swN;split <;> omega
   have b:(c=0∧g%2=0)∨(c=1∧g%2=1)∨(c=-1∧g%2=1):=by
    unfold swN at hc hs;by_cases hh:0<d∧g%2=1
    ·rw [if_pos hh] at hc;omega
    ·rw [if_neg hh] at hc;omega
   rcases b with ⟨rfl,_⟩ | ⟨rfl,_⟩ | ⟨rfl,_⟩ <;> omega
  obtain ⟨G,hG⟩:∃ G,G=(g+c*f)/2:=⟨_,rfl⟩
  rw [← hG];have i:2*G=g+c*f:=by omega
  apply ut hM;have e:2*((V':Int)*a-G)=(2*(V':Int)-(V+c*U))*a+((V:Int)*a-g)+c*((U:Int)*a-f):=by
   have:2*((V':Int)*a-G)=2*(V':Int)*a-2*G:=by grind
   rw [this,i]
   grind
  rw [e];exact Int.dvd_add (Int.dvd_add (Int.dvd_mul_of_dvd_left h2) h5) (Int.dvd_mul_of_dvd_right h4)

theorem Ad {n Q M U V sw od x L b D W ov S E o3 V':Nat} (hQ:Q=2^(64*n)) (hM:M<Q) (h2:M%2=1) (hU:U<M) (hV:V<M) (g:(sw=1∧od=1∧x=0)∨(sw=0∧od=1∧x=1)∨(sw=0∧od=0∧x=0))
  (hL:L=aP sw (cS V U n) V) (hb:b=aP sw (bi (decide (V<U))) 0) (hD:D=aP b (L+M) L%Q) (hW:W=aP x (D+U) D%Q) (ho:ov=aP x (bi (decide (Q≤D+U))) 0)
  (hS:S=iD W M ov n) (hE:E=aP (S%2) (S+M) S%Q) (h3:o3=aP (S%2) (bi (decide (Q≤S+M))) 0) (a:V'=(E+o3%2*Q)/2) :
  V'<M∧(M:Int) ∣ 2*(V':Int)-(V+((od:Int)-2*(sw:Int))*U):=by
 have fD:D=if sw=1 then fj V U M else V:=by
  unfold aP cS bi at *;unfold fj;rw [← hQ] at hL;rcases g with ⟨rfl,_,_⟩ | ⟨rfl,_,_⟩ | ⟨rfl,_,_⟩
  ·rw [if_pos rfl] at hL hb ⊢;by_cases h:V<U
   ·rw [if_pos h] at hL;rw [aT h,if_pos rfl] at hb;rw [hb,if_pos rfl,hL,show V+Q-U+M=(V+M-U)+Q by omega,Nat.add_mod_right,al (by omega)] at hD;rw [if_neg (by omega),hD]
   ·rw [if_neg h] at hL;rw [aC h,if_neg (by decide)] at hb;rw [hb,if_neg (by decide),hL,al (by omega)] at hD;rw [if_pos (by omega),hD]
  ·rw [if_neg (by decide)] at hL hb ⊢;rw [hb,if_neg (by decide),hL,al (by omega)] at hD;exact hD
  ·rw [if_neg (by decide)] at hL hb ⊢;rw [hb,if_neg (by decide),hL,al (by omega)] at hD;exact hD
 have lD:D<M:=by
  rw [fD];unfold fj
  split
  ·split <;> omega
  ·exact hV
 have hx:x=0∨x=1:=by omega
 have fS:S<M∧(S=D+x*U∨S+M=D+x*U):=by
  have d:ig W M ov=0→S=W:=fun h=>by rw [hS];unfold iD aP;rw [h];rfl
  have f:ig W M ov=1→S=if W<M then W+Q-M else W-M:=fun h=>by rw [hS];unfold iD aP cS;rw [h,← hQ];rfl
  have t0:¬ (ov=1∨M≤W)→ig W M ov=0:=fun h=>if_neg h
  have t1:(ov=1∨M≤W)→ig W M ov=1:=fun h=>if_pos h
  unfold aP at hW ho;unfold bi at ho;rcases hx with rfl | rfl
  ·rw [if_neg (by decide)] at hW ho;rw [al (by omega)] at hW;have:=d (t0 (by omega));omega
  ·rw [if_pos rfl] at hW ho;by_cases h:Q≤D+U
   ·rw [aT h,if_pos rfl] at ho;have m:W=D+U-Q:=by
     rw [hW,show D+U=(D+U-Q)+Q by omega,Nat.add_mod_right,al (by omega)];omega
    have:=f (t1 (.inl ho));rw [if_pos (by omega)] at this;omega
   ·rw [aC h,if_neg (by decide)] at ho;rw [al (by omega)] at hW;by_cases hh:M≤D+U
    ·have:=f (t1 (.inr (by omega)));rw [if_neg (by omega)] at this;omega
    ·have:=d (t0 (by omega));omega
 have fV:V'=uz S M:=by
  unfold uz aP bi at *;by_cases hs:S%2=1
  ·rw [hs,if_pos rfl] at hE h3;rw [if_pos hs];by_cases h:Q≤S+M
   ·rw [aT h,if_pos rfl] at h3;have i:E=S+M-Q:=by
     rw [hE,show S+M=(S+M-Q)+Q by omega,Nat.add_mod_right,al (by omega)];omega
    rw [a,i,h3];omega
   ·rw [aC h,if_neg (by decide)] at h3;rw [al (by omega)] at hE;rw [a,hE,h3];omega
  ·have j:S%2=0:=by omega
   rw [j,if_neg (by decide)] at hE h3;rw [if_neg hs];rw [al (by omega)] at hE;rw [a,hE,h3];omega
 have f2:V'<M∧(2*V'=S∨2*V'=S+M):=by
  rw [fV];unfold uz
  split <;> omega
 refine ⟨f2.1,?_⟩;have f3:∃ k:Int,(D:Int)+x*U=V+((od:Int)-2*(sw:Int))*U+k*M:=by
  rw [fD];unfold fj;rcases g with ⟨rfl,rfl,rfl⟩ | ⟨rfl,rfl,rfl⟩ | ⟨rfl,rfl,rfl⟩
  ·rw [if_pos rfl];by_cases h:U≤V
   ·rw [if_pos h];exact ⟨0,by omega⟩
   ·rw [if_neg h];exact ⟨1,by omega⟩
  ·rw [if_neg (by decide)];exact ⟨0,by omega⟩
  ·rw [if_neg (by decide)];exact ⟨0,by omega⟩
 obtain ⟨k,hk⟩:=f3;have l:((x*U:Nat):Int)=x*U:=by simp
 generalize (od:Int)-2*(sw:Int)=c at *;generalize c*(U:Int)=cU at *;generalize (x:Int)*(U:Int)=xI at *;generalize x*U=xU at *;rcases f2.2 with e | e
 ·rcases fS.2 with e2 | e2
  ·exact ⟨k,by rw [Int.mul_comm (M:Int)];omega⟩
  ·exact ⟨k-1,by rw [Int.mul_comm (M:Int),Int.sub_mul];omega⟩
 ·rcases fS.2 with e2 | e2
  ·exact ⟨k+1,by rw [Int.mul_comm (M:Int),Int.add_mul];omega⟩
  ·exact ⟨k,by rw [Int.mul_comm (M:Int)];omega⟩

theorem xC {M a U:Nat} {d F G:Int} {V:Nat} (h:CoOk M a U V (d,F,G)) (hM:2≤M) (hF:F.natAbs=1):(if F<0 then fj 0 U M else U)<M∧a*(if F<0 then fj 0 U M else U)%M=1:=by
 obtain ⟨h1,_,h3,_⟩:=h;dsimp only at h3;obtain ⟨k,hk⟩:=h3;by_cases hn:F<0
 ·obtain rfl:F=-1:=by omega
  rw [if_pos hn];unfold fj;by_cases h0:U≤0
  ·obtain rfl:U=0:=by omega
   exfalso
   rw [show ((0:Nat):Int)*(a:Int)-(-1)=1 by omega] at hk;have:(M:Int) ∣ 1:=⟨k,hk⟩
   have:=Int.le_of_dvd (by omega) this;omega
  ·rw [if_neg h0];refine ⟨by omega,?_⟩;have e:((a*(0+M-U):Nat):Int)=1+M*(a-k):=by
    rw [show 0+M-U=M-U by omega,Int.natCast_mul,Int.natCast_sub (by omega),Int.mul_sub,Int.mul_sub,← hk]
    grind
   have e2:((a*(0+M-U)%M:Nat):Int)=1:=by
    rw [Int.natCast_emod,e,Int.add_mul_emod_self_left,Int.emod_eq_of_lt (by omega) (by omega)]
   omega
 ·obtain rfl:F=1:=by omega
  rw [if_neg hn];refine ⟨h1,?_⟩;have e:((a*U:Nat):Int)=1+M*k:=by
   rw [Int.natCast_mul,← hk]
   grind
  have e2:((a*U%M:Nat):Int)=1:=by
   rw [Int.natCast_emod,e,Int.add_mul_emod_self_left,Int.emod_eq_of_lt (by omega) (by omega)]
  omega

end Go.Proofs.YtcemlfokmjjiaaaGreatDoor
