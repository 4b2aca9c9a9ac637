/- Put together of: Pro3 Ref5A PrK. -/
import Derived.Test.YtkaojflnghfmcaaGreatDoorQC10
import Derived.Deep.OwnRows
import Derived.StillTailTactics

namespace Go.Proofs.YtkaojflnghfmcaaGreatDoor
open _root_.Go.Proofs.Tryz
set_option maxRecDepth 100000
set_option maxHeartbeats 4000000
open Go.RowKit

def jB (V M n:Nat):Nat:=if 18446744073709551616^n<=V\/M<=V%18446744073709551616^n then 1 else 0

def qD (V M n:Nat):Nat:=cC (jB V M n) (fK (V%18446744073709551616^n) M n) (V%18446744073709551616^n)

theorem pM (V M n:Nat):jB V M n<=1:=by unfold jB;split <;> omega

theorem uX (V M n:Nat) (hV:V<2*18446744073709551616^n):bits .or .u64 ((V/18446744073709551616^n:Nat):Int) (bits .xor .u64 ((cY (decide (V%18446744073709551616^n<M)):Nat):Int) 1)=(jB V M n:Int):=by
 have hp:0<18446744073709551616^n:=aC (by omega);have hq:V/18446744073709551616^n<2:=by rw [cj hp];exact hV
 unfold jB cY;generalize 18446744073709551616^n=P at *;have hc:V/P=0\/V/P=1:=by
  generalize V/P=d at *;omega
 have h1:P<=V↔V/P=1:=by
  constructor
  ·intro h;exact Nat.le_antisymm (Nat.le_of_lt_succ hq) (Nat.div_pos h hp)
  ·intro h;rcases jE V P with h2 | h2
   ·rw [bj h2] at h;omega
   ·exact h2
 by_cases h2:V%P<M
 ·rcases hc with h3 | h3
  ·rw [h3,dL h2,ah rfl,ai (by rw [h1,h3];omega)]
   decide
  ·rw [h3,dL h2,ah rfl,ah (by rw [h1,h3];exact .inl rfl)]
   decide
 ·rcases hc with h3 | h3
  ·rw [h3,cP h2,ai (by decide),ah (.inr (by omega))]
   decide
  ·rw [h3,cP h2,ai (by decide),ah (.inr (by omega))]
   decide

theorem DJ {X Y n:Nat} (hX:X<18446744073709551616^n):fK X Y n<18446744073709551616^n:=by
 unfold fK;rw [<- B64]
 split <;> omega

theorem AX (o:Tr) (u v:Value) (xs ys:List Nat) (bit:Nat) (h:bit<18446744073709551616) (T:Nat) (w:World) (ht:TrRoom w o 3) (hu:RowT w o u xs) (hv:RowT w o v ys) (j:Digs xs) (t:Digs ys) (hl:xs.length=ys.length) (hL:ys.length<=100000)
  (hT:T=jB (2*val xs+bit%2) (val ys) ys.length) :
  Calls prog 255 #[aL o,u,v,.int .u64 (bit:Nat)] w fun e w'=>∃ v',e=.returned (.tuple #[v',.int .u64 (T:Nat)]) /\
   OwnN .u64 24 w' w.heap.size v' ys.length (digs (qD (2*val xs+bit%2) (val ys) ys.length) ys.length)/\∃ o',Did w o [(1,(ys.length:Nat),0),(1,(ys.length:Nat),0),(1,(ys.length:Nat),0)] w' o':=by
 have hX:val xs<18446744073709551616^ys.length:=by rw [<- hl];exact aE (by omega) j
 obtain ⟨V,hV⟩:∃ V,V=2*val xs+bit%2:=⟨_,rfl⟩
 have q:V<2*18446744073709551616^ys.length:=by omega
 have a:=Em o u xs bit h w (ht.less (by omega)) hu j (by omega);rw [<- hV,hl] at a;rw [<- hV] at hT ⊢;have l:=uX V (val ys) ys.length q;rw [<- hT] at l;have C:T<=1:=by rw [hT];exact pM _ _ _
 have c:qD V (val ys) ys.length=cC T (fK (V%18446744073709551616^ys.length) (val ys) ys.length) (V%18446744073709551616^ys.length):=by rw [hT];rfl
 have HV:=aa hv;have HT:=aa ht;have A:=aa t;have B:=aa c;obtain ⟨po,k⟩:∃ po,aL o=.pointer po:=by
  cases o with
  | none=>exact ⟨_,rfl⟩
  | some x=>exact ⟨_,rfl⟩
 have p:=aa k;rw [k] at a ⊢;obtain ⟨c1,r⟩:∃ c1,c1=V/18446744073709551616^ys.length:=⟨_,rfl⟩
 rw [<- r] at a l;obtain ⟨c2,i⟩:∃ c2,c2=cY (decide (V%18446744073709551616^ys.length<val ys)):=⟨_,rfl⟩
 rw [<- i] at l;have z:=aa i;obtain ⟨n,hn⟩:∃ n,n=ys.length:=⟨_,rfl⟩
 have HN:=aa hn;rw [<- hn] at a ⊢;clear hu hv ht j t hl hV hX hT q c k r i hn;go_enter func255,ntmps255;go_wp2_with fail;refine a.mono ?_;rintro e w1 ⟨v1,rfl,D,o1,d1⟩;have r1:TrRoom w1 o1 2:=d1.room HT.out;have s:Digs (digs V n):=ak (by omega) _ _;have d:=fU D (ag _ _ _) r1.1;have F:=HV.out.did d1;have hSb:=Ay o1 _ _ _ _ w1 (r1.less (by omega)) d F s A.out (by rw [ag,HN.out];omega) (by omega);rw [d1.ptr,p.out,aB,ag,<- HN.out,gI] at hSb;rw [HN.out,<- z.out,<- HN.out] at hSb;clear a;go_wp2_with fail;refine hSb.mono ?_;rintro e w2 ⟨v2,rfl,E,o2,d2⟩;have r2:TrRoom w2 o2 1:=d2.room r1
 have m:=fU E (ag _ _ _) r2.1;have f:=d.did d2;have g:=mS o2 T (by omega) _ _ _ _ w2 r2 m f (ak (by omega) _ _) s (by rw [ag,HN.out];omega) (by rw [ag,HN.out];omega);rw [d2.ptr,d1.ptr,p.out,aB,aB,ag,ag,gI,ax (DJ (ay _ (aC (by omega))))] at g;have c:=B.out;rw [<- HN.out] at c;rw [<- c] at g;clear hSb;go_wp2_with fail;refine g.mono ?_;rintro e w3 ⟨v3,rfl,y,o3,d3⟩;go_wp2_with fail;go_ret2;refine ⟨_,rfl,cE y (fun b hb=>?_),o3,(d1.trans d2).trans d3⟩;have:=(y.lt b hb).1;have:=d1.size;have:=d2.size;omega

theorem sm {R M n bit:Nat} (hM:0<M) (hR:R<M) (hn:M<18446744073709551616^n) (hb:bit<=1):jB (2*R+bit) M n=(2*R+bit)/M/\qD (2*R+bit) M n=(2*R+bit)%M:=by
 have hV:2*R+bit<M*2:=by omega
 generalize 2*R+bit=V at *;have hd:V/M=if M<=V then 1 else 0:=by
  split
  ·rename_i h
   have h1:V/M<2:=(cj hM).2 (by omega);have h2:0<V/M:=Nat.div_pos h hM;exact Nat.le_antisymm (Nat.le_of_lt_succ h1) h2
  ·exact bj (by omega)
 have hm:V%M=if M<=V then V-M else V:=by
  split
  ·rename_i h
   rw [Nat.mod_eq_sub_mod h,ax (by omega)]
  ·exact ax (by omega)
 have ht:jB V M n=if M<=V then 1 else 0:=by
  unfold jB;generalize 18446744073709551616^n=P at *;by_cases h:P<=V
  ·rw [ah (.inl h),ah (by omega)]
  ·rw [ax (by omega:V<P)];by_cases h2:M<=V
   ·rw [ah (.inr h2),ah h2]
   ·rw [ai (by omega),ai h2]
 refine ⟨by rw [ht,hd],?_⟩;unfold qD;rw [ht,hm];unfold cC fK;rw [<- B64];generalize 18446744073709551616^n=P at *;by_cases h2:M<=V
 ·rw [ah h2,ah h2,ah (by decide)];by_cases h:P<=V
  ·have e:V%P=V-P:=by rw [Nat.mod_eq_sub_mod h,ax (by omega)]
   rw [e,ah (by omega)];omega
  ·rw [ax (by omega:V<P),ai (by omega)]
 ·rw [ai h2,ai h2,ai (by decide),ax (by omega)]

theorem tN {B:Nat}:∀ {zs:List Nat} {i:Nat} (z:Nat),i<zs.length->val (zs.set i z) B+B^i*zs.getD i 0=val zs B+B^i*z
 | [],_,_,h=>absurd h (by simp)
 | x :: r,0,z,_=>by simp [val];omega
 | x :: r,i+1,z,h=>by
  have ih:=tN (B:=B) (zs:=r) (i:=i) z (by simpa using h);simp only [lsS,val,List.getD_cons_succ];have e:B*(val (r.set i z) B+B^i*r.getD i 0)=B*(val r B+B^i*z):=by rw [ih]
  rw [aJ,aJ,<- bf,<- bf,<- j9] at e;simp only [Nat.succ_eq_add_one] at e;omega

theorem qq {B:Nat} {zs:List Nat} (h:Digs zs B) {i z:Nat} (hz:z<B):Digs (zs.set i z) B:=fun d hd=>by
 rcases mq hd with h1 | h1
 ·exact h d h1
 ·omega

theorem tw {qs:List Nat} {X M p T:Nat} (hM:0<M) (hd:Digs qs) (hi:p/64<qs.length) (hv:val qs=X/2^(p+1)/M*2^(p+1)) (hT:T=(2*(X/2^(p+1)%M)+X/2^p%2)/M) (a:T<=1) :
  val (qs.set (p/64) (qs.getD (p/64) 0 ||| T*2^(p%64)))=X/2^p/M*2^p:=by
 have hq:qs.getD (p/64) 0=2^(p%64+1)*(X/2^(p+1)/M%2^(63-p%64)):=by
  rw [<- cS (by omega) hd,hv,dig,B64,Nat.mul_div_assoc _ (Nat.pow_dvd_pow 2 (by omega)),Nat.pow_div (by omega) (by omega),show p+1-64*(p/64)=p%64+1 by omega,aF,show (18446744073709551616:Nat)=2^(p%64+1)*2^(63-p%64) by rw [<- aN,show p%64+1+(63-p%64)=64 by omega],oB]
 have c:qs.getD (p/64) 0 ||| T*2^(p%64)=qs.getD (p/64) 0+T*2^(p%64):=by
  rw [hq];have hlt:T*2^(p%64)<2^(p%64+1):=by
   rw [aH];have:T*2^(p%64)<=1*2^(p%64):=bI _ a;have:0<2^(p%64):=aC (by omega);omega
  exact (ki hlt _).symm
 have hs:=tN (B:=18446744073709551616) (zs:=qs) (i:=p/64) (qs.getD (p/64) 0 ||| T*2^(p%64)) hi;rw [c] at hs ⊢;rw [aJ] at hs;have e1:18446744073709551616^(p/64)*(T*2^(p%64))=T*2^p:=by
  rw [B64,gO,<- aN,show 64*(p/64)+p%64=p by omega]
 rw [e1,hv] at hs;have e2:X/2^p=2*(X/2^(p+1))+X/2^p%2:=by
  rw [aH,<- cK];omega
 have e3:X/2^p/M=2*(X/2^(p+1)/M)+T:=by
  rw [e2,hT];have h1:=ef (X/2^(p+1)) M;generalize X/2^(p+1)=Z at *;generalize X/2^p%2=b at *;have h2:2*Z+b=M*(2*(Z/M))+(2*(Z%M)+b):=by
   have:M*(2*(Z/M))=2*(M*(Z/M)):=gO ..;omega
  rw [h2,fH hM]
 have e4:X/2^p/M*2^p=X/2^(p+1)/M*2^(p+1)+T*2^p:=by
  rw [e3];generalize X/2^(p+1)/M=Z;rw [cJ,aH,aF 2 Z,bf,aF 2 (2^p)]
 rw [e4];omega

theorem tA {X M p:Nat}:(2*(X/2^(p+1)%M)+X/2^p%2)%M=X/2^p%M:=by
 have e2:X/2^p=2*(X/2^(p+1))+X/2^p%2:=by
  rw [aH,<- cK];omega
 generalize hb:X/2^p%2=b at *;rw [e2,Nat.add_mod,eh,fG,<- eh,<- Nat.add_mod]

theorem Gy (k:Nat) (e:Ev):List.replicate (3*k) e ++ [e,e,e]=List.replicate (3*(k+1)) e:=by
 rw [show [e,e,e]=List.replicate 3 e from rfl,mu,aJ]

theorem sS (n:Nat):madeCells #[Value.int .u64 0] n=((List.replicate n 0).map fun z:Nat=>Value.int .u64 (z:Int)).toArray:=by
 have:=bg .u64 n;rw [bD] at this;rw [<- this];rfl

theorem m7 (w:World) (A B:Nat) (CA CB:Array Value) (hA:CA=madeCells #[.int .u64 0] A) (hB:CB=madeCells #[.int .u64 0] B) (lA:A<=1000000) (lB:B<=1000000) :
  OwnN .u64 24 ((w.alloc (.cells CA 24)).alloc (.cells CB 24)).drew w.heap.size (.slice (some ⟨w.heap.size,0,none⟩) A A) A (List.replicate A 0)/\OwnN .u64 24 ((w.alloc (.cells CA 24)).alloc (.cells CB 24)).drew w.heap.size (.slice (some ⟨w.heap.size+1,0,none⟩) B B) B (List.replicate B 0)/\Kept af w ((w.alloc (.cells CA 24)).alloc (.cells CB 24)).drew:=by
 subst hA hB;rw [sS,sS];refine ⟨dD (cH (au (heap_alloc_new _ _))) (by simp) (by unfold maxLen;omega) (leR _),dD (cH ?_) (by simp) (by unfold maxLen;omega) (by omega),(((aj af w).alloc _).alloc _).drew⟩;have:=heap_alloc_new (w.alloc (.cells ((List.replicate A 0).map fun z:Nat=>Value.int .u64 (z:Int)).toArray 24)) (.cells ((List.replicate B 0).map fun z:Nat=>Value.int .u64 (z:Int)).toArray 24);simpa using this

theorem jK (n:Nat):val (List.replicate n 0)=0:=ep _ (fun _ hd=>(eu.1 hd).2)

theorem jp (n:Nat):Digs (List.replicate n 0):=fun _ hd=>by rw [(eu.1 hd).2];omega

theorem xk {q T s:Nat} (hq:q<18446744073709551616) (hT:T<=1) (hs:s<64):bits .or .u64 (q:Int) (IntKind.u64.wrap ((T:Int)*2^s))=((q ||| T*2^s:Nat):Int)/\q ||| T*2^s<18446744073709551616:=by
 have h1:T*2^s<18446744073709551616:=by
  have h2:T*2^s<=1*2^s:=bI _ hT;have h3:2^s<2^64:=Nat.pow_lt_pow_right (by omega) hs;omega
 refine ⟨?_,Nat.or_lt_two_pow (n:=64) hq h1⟩;rw [show (T:Int)*2^s=((T*2^s:Nat):Int) by simp,IntKind.wrap_u64,show ((T*2^s:Nat):Int)%18446744073709551616=((T*2^s:Nat):Int) by omega];exact u64_or_nat _ _ (by omega) (by omega)

theorem Hf (o:Tr) (ao bo:Option Addr) (L M a7 a8:Nat) (xs ys:List Nat) (X Y:Nat) (hX:X=val xs) (hY:Y=val ys) (w:World) (ht:TrRoom w o (3*(64*L))) (hu:RowT w o (.slice ao L a7) xs) (hv:RowT w o (.slice bo M a8) ys) (aw:Digs xs) (aY:Digs ys) (hL:L<=100000) (hM:M<=100000) :
  Calls prog 237 #[aL o,.slice ao L a7,.slice bo M a8] w fun e w'=>∃ v1 v2,e=.returned (.tuple #[v1,v2]) /\
   ∃ q,OwnN .u64 24 w' w.heap.size v1 L (digs q L)/\∃ r,OwnN .u64 24 w' w.heap.size v2 M (digs r M)/\(0<Y->q=X/Y/\r=X%Y)/\∃ o',Did w o (List.replicate (3*(64*L)) (1,(M:Nat),0)) w' o':=by
 obtain ⟨i0,a9,ba,bb,bc⟩:=info_parts Tryz.info24;obtain ⟨_,_,_,e1,aT,_,_,_,_⟩:=hu.1.open;cases e1
 obtain ⟨_,_,_,e1,aU,_,_,_,_⟩:=hv.1.open;cases e1
 have eL:=aa aT.out;have eM:=aa aU.out;have av:Hid (Y<18446744073709551616^M):=by unfold Hid;rw [hY,<- aU.out];exact aE (by omega) aY
 have aW:Hid (X<2^(64*L)):=by unfold Hid;rw [hX,<- B64,<- aT.out];exact aE (by omega) aw
 have m:Hid (∀ k,dig X k=xs.getD k 0):=fun k=>by rw [hX];exact cS (by omega) aw k
 have az:Hid (∀ k,xs.getD k 0<18446744073709551616):=fun k=>aw.getD (by omega) _
 have HU:=aa hu;have HV:=aa hv;have HT:=aa ht;have a5:=aa aY;have HY:=aa hY;obtain ⟨tp,a3⟩:∃ tp,tp=aL o:=⟨_,rfl⟩
 rw [<- a3];have a6:=aa a3;clear hu hv ht aT aU aw aY a3 hX hY;obtain ⟨N,hN⟩:∃ N,N=64*L:=⟨_,rfl⟩
 have gN:(64:Int)*(L:Int)=(N:Int):=by omega
 rw [<- hN] at aW HT ⊢;have bl:N<=6400000:=by omega
 have HN:=aa hN;clear hN;obtain ⟨CL,aO⟩:∃ C,C=madeCells #[.int .u64 0] L:=⟨_,rfl⟩
 obtain ⟨CM,aR⟩:∃ C,C=madeCells #[.int .u64 0] M:=⟨_,rfl⟩
 have ab:∀ W,(Instr.makeSlice 23 (.int .i64 (L:Int)) (.int .i64 (L:Int))).run prog W=.ok (.slice (some ⟨W.heap.size,0,none⟩) L L) (W.alloc (.cells CL 24)):=fun W=>by rw [aO];exact run_make_row (P:=prog) _ _ i0 _ underlying23 a9 ba bb rfl _ _ L (by rw [bc];omega) (by omega) W
 have ac:∀ W,(Instr.makeSlice 23 (.int .i64 (M:Int)) (.int .i64 (M:Int))).run prog W=.ok (.slice (some ⟨W.heap.size,0,none⟩) M M) (W.alloc (.cells CM 24)):=fun W=>by rw [aR];exact run_make_row (P:=prog) _ _ i0 _ underlying23 a9 ba bb rfl _ _ M (by rw [bc];omega) (by omega) W
 have ar:=aa aO;have au:=aa aR;clear aO aR;go_enter func237,ntmps237;go_wp2_with fail;go_region
 ·have a1:=m7 w L M CL CM ar.out au.out (by omega) (by omega);generalize ((w.alloc (.cells CL 24)).alloc (.cells CM 24)).drew=W1 at *;obtain ⟨ad,ae,k1⟩:=a1;clear ab ac ar au;go_wp2_with fail;go_loopw [9,25] (fun rv i wr=>∃ (k:Nat) (o1:Tr) (rs qs:List Nat),k<=N/\i=.int .i64 (k:Int)/\Hid (Did w o (List.replicate (3*k) (1,(M:Int),0)) wr o1)/\Hid (rs.length=M/\Digs rs)/\Hid (qs.length=L/\Digs qs)/\OwnN .u64 24 wr w.heap.size rv M rs/\OwnN .u64 24 wr w.heap.size (.slice (some ⟨w.heap.size,0,none⟩) L L) L qs/\Hid (∀ b,rv.ownBlock=some b->b≠w.heap.size)/\Hid (0<Y->val rs=X/2^(N-k)%Y/\val qs=X/2^(N-k)/Y*2^(N-k))) (fun _ i _=>N-(intOf i).toNat)
  case atStart=>
   refine ⟨0,o,_,_,aP _,rfl,Did.of_kept k1 HT.out.1,⟨by simp,jp M⟩,⟨by simp,jp L⟩,ae,ad,(fun b hb=>by simp [Value.ownBlock] at hb;omega),(fun hy=>?_)⟩;rw [jK,jK,dK,bj aW.out,iI,Nat.zero_div,ja];exact ⟨rfl,rfl⟩
  case round=>
   clear ad ae k1;obtain ⟨k,o1,rs,qs,hk,rfl,HD,f,d,O,A,aD,h⟩:=hrel;by_cases hkn:k<N
   ·have bi:(0:Int)<=(k:Int):=bY _;have a0:(k:Int)<(N:Int):=by omega
    obtain ⟨p,hp⟩:∃ p,p=N-1-k:=⟨_,rfl⟩
    have gp:(N:Int)-1-(k:Int)=(p:Int):=by omega
    have Q:p/64<L:=by have:=HN.out;omega
    have aK:(p:Int)/64<(L:Int):=by omega
    have aM:(0:Int)<=(p:Int)/64:=by omega
    have aN:((p:Int)/64).toNat=p/64:=by omega
    have a:TrRoom wr o1 3:=HD.out.room (by rw [be];exact HT.out.less (by omega));have am:=HU.out.did HD.out;have an:=HV.out.did HD.out;obtain ⟨_,_,_,e2,_,_,_,_,y⟩:=am.1.open;cases e2
    obtain ⟨b2,a4,rfl,aX⟩:=y (p/64) Q;have hx:=az.out (p/64);obtain ⟨x,U⟩:∃ x,x=xs.getD (p/64) 0:=⟨_,rfl⟩
    rw [<- U] at aX hx;obtain ⟨bt,F⟩:∃ bt,bt=x/2^(p%64):=⟨_,rfl⟩
    have J:bt<18446744073709551616:=by rw [F];exact fF (ew _ _) hx
    have bf:(x:Int)/2^(p%64)=(bt:Int):=by rw [F];simp
    have l:bt%2=X/2^p%2:=by rw [F,U,<- m.out,nd]
    have g:=fU O f.out.1 a.1;obtain ⟨T,hT⟩:∃ T,T=jB (2*val rs+bt%2) Y M:=⟨_,rfl⟩
    have v:T<=1:=by rw [hT];exact pM _ _ _
    have E:=AX o1 _ _ rs ys bt J T wr a g an f.out.2 a5.out (by rw [f.out.1,eM.out]) (by rw [eM.out];omega) (by rw [eM.out,<- HY.out];exact hT);rw [HD.out.ptr,<- a6.out,eM.out,<- HY.out] at E;obtain ⟨LF,H⟩:∃ LF,LF=qD (2*val rs+bt%2) Y M:=⟨_,rfl⟩
    rw [<- H] at E;have aF:Hid (0<Y->LF=X/2^p%Y/\T=(2*(X/2^(p+1)%Y)+X/2^p%2)/Y/\val qs=X/2^(p+1)/Y*2^(p+1)):=fun hy=>by
     obtain ⟨v1,v2⟩:=h.out hy;rw [show N-k=p+1 by omega] at v1 v2;obtain ⟨b1,b2⟩:=sm (R:=val rs) (M:=Y) (n:=M) (bit:=bt%2) hy (by rw [v1];exact ay _ hy) av.out (by omega);rw [v1,l] at b1 b2;rw [H,hT,v1,l];exact ⟨b2.trans tA,b1,v2⟩
    have af:Hid (∀ j,qs.getD j 0<18446744073709551616):=fun j=>d.out.2.getD (by omega) _
    have a2:=af.out (p/64);obtain ⟨ap,aq⟩:=xk (s:=p%64) a2 v (by omega);have HP:Hid (N-(k+1)=p):=by unfold Hid;omega
    clear F hT H U y am an g l h hp af;go_wp2_with fail;refine E.mono ?_;rintro e w2 ⟨v2,rfl,G,o2,d2⟩;have c:=d2.kept.own A (eG A a.1);have aC:=aa (HD.out.trans d2);have D:=(d2.room (k:=0) a).1;have aS:¬ cN o2 w.heap.size:=eG c D _ rfl;have t:Hid (∀ b,v2.ownBlock=some b->b≠w.heap.size):=fun b hb e=>by
     have h1:=(G.lt b hb).1;have h2:=eN A;omega
    have Z:w2.cell? ⟨w.heap.size,p/64,none⟩=some (.int .u64 (qs.getD (p/64) 0:Nat)):=by
     rw [World.ownsRow.cellAt c (p/64) (by omega),bu,aA,aQ (by rw [d.out.1];exact Q)];rfl
    have aZ:=World.ownsRow.frozenAt c (p/64);obtain ⟨z,hz⟩:∃ z,z=qs.getD (p/64) 0 ||| T*2^(p%64):=⟨_,rfl⟩
    have HZ:=aa hz;rw [<- hz] at ap aq;have V:=aa (World.ownsRow.stored c (p/64) (.int .u64 (z:Int))).1;have aV:Hid (OwnN .u64 24 w2 w.heap.size v2 M (digs LF M)):=cE G (fun b hb=>by have h1:=(G.lt b hb).1;have h2:=HD.out.size;omega);obtain ⟨pi,B⟩:∃ pi,pi=p/64:=⟨_,rfl⟩
    have gw:IntKind.i64.wrap ((p:Int)/64)=(pi:Int):=by rw [IntKind.wrap_i64];omega
    have bh:(pi:Int)<(L:Int):=by omega
    have aG:=aa B;obtain ⟨ps,S⟩:∃ ps,ps=p%64:=⟨_,rfl⟩
    have gt:((p:Int)).tmod 64=(ps:Int):=by rw [li (by omega)];omega
    have bg:(ps:Int)<=64:=by omega
    have bd:=aa S;rw [<- S] at ap;rw [<- B] at Z aZ V;generalize hqz:qs.getD (p/64) 0=q at *;have aI:=aa hqz;rw [B,hqz,<- B] at Z;clear E O A HD d2 G c D hz a f aD B S hqz aK aM aN;go_wp2_with fail;go_still_tail 10,(by kernel_rfl)
    change wpList _ _ _ _ _ w2.drew
    go_wp2_with fail;go_roundw
    case rel=>
     have k3:Kept (fun b=>b=w.heap.size) w2 (w2.setCell ⟨w.heap.size,pi,none⟩ (.int .u64 (z:Int))).drew:=((aj (fun b=>b=w.heap.size) w2).setCell ⟨w.heap.size,pi,none⟩ (fun _=>rfl) _).drew;have I:OwnN .u64 24 (w2.setCell ⟨w.heap.size,pi,none⟩ (.int .u64 (z:Int))).drew w.heap.size (.slice (some ⟨w.heap.size,0,none⟩) L L) L (qs.set pi z):=by
      unfold OwnN;rw [bZ];exact V.out
     refine ⟨k+1,o2,digs LF M,qs.set pi z,by omega,by go_num,?_,⟨ag _ _ _,ak (by omega) _ _⟩,⟨by rw [lj];exact d.out.1,qq d.out.2 aq⟩,k3.own aV.out (fun b hb=>t.out b hb),I,t,(fun hy=>?_)⟩
     ·unfold Hid;rw [<- Gy];exact aC.out.wroteNew k3 (by omega) aS
     ·obtain ⟨v1,v2,v3⟩:=aF.out hy;have ai:=tw (p:=p) hy d.out.2 (by rw [d.out.1];exact Q) v3 v2 v;rw [aI.out,<- HZ.out,<- aG.out] at ai;rw [HP.out,aB,ai];exact ⟨by rw [v1,ax (bk (ay _ hy) av.out)],rfl⟩
    case measure=>simp [intOf];omega
   ·have a0:¬ (k:Int)<(N:Int):=by omega
    obtain rfl:k=N:=by omega
    have ah:digs (val qs) L=qs:=(b8 (by omega) d.out.2 d.out.1 (by rw [ax];have:=aE (by omega) d.out.2;rwa [d.out.1] at this)).symm;have al:digs (val rs) M=rs:=(b8 (by omega) f.out.2 f.out.1 (by rw [ax];have:=aE (by omega) f.out.2;rwa [f.out.1] at this)).symm;have aH:=aa ah;have aJ:=aa al;clear m az ah al;go_wp2_with fail;go_ret2;refine ⟨_,_,rfl,val qs,by rw [aH.out];exact A,val rs,by rw [aJ.out];exact O,(fun hy=>?_),o1,HD.out⟩;obtain ⟨v1,v2⟩:=h.out hy;rw [bJ,cw,eX] at v1 v2;exact ⟨by rw [v2,bD],v1⟩
 ·have a1:=m7 w M L CM CL au.out ar.out (by omega) (by omega);generalize ((w.alloc (.cells CM 24)).alloc (.cells CL 24)).drew=W1 at *;obtain ⟨ae,ad,k1⟩:=a1;clear ab ac ar au;go_wp2_with fail;go_loopw [9,25] (fun rv i wr=>∃ (k:Nat) (o1:Tr) (rs qs:List Nat),k<=N/\i=.int .i64 (k:Int)/\Hid (Did w o (List.replicate (3*k) (1,(M:Int),0)) wr o1)/\Hid (rs.length=M/\Digs rs)/\Hid (qs.length=L/\Digs qs)/\OwnN .u64 24 wr w.heap.size rv M rs/\OwnN .u64 24 wr w.heap.size (.slice (some ⟨(w.heap.size+1),0,none⟩) L L) L qs/\Hid (∀ b,rv.ownBlock=some b->b≠(w.heap.size+1))/\Hid (0<Y->val rs=X/2^(N-k)%Y/\val qs=X/2^(N-k)/Y*2^(N-k))) (fun _ i _=>N-(intOf i).toNat)
  case atStart=>
   refine ⟨0,o,_,_,aP _,rfl,Did.of_kept k1 HT.out.1,⟨by simp,jp M⟩,⟨by simp,jp L⟩,ae,ad,(fun b hb=>by simp [Value.ownBlock] at hb;omega),(fun hy=>?_)⟩;rw [jK,jK,dK,bj aW.out,iI,Nat.zero_div,ja];exact ⟨rfl,rfl⟩
  case round=>
   clear ad ae k1;obtain ⟨k,o1,rs,qs,hk,rfl,HD,f,d,O,A,aD,h⟩:=hrel;by_cases hkn:k<N
   ·have bi:(0:Int)<=(k:Int):=bY _;have a0:(k:Int)<(N:Int):=by omega
    obtain ⟨p,hp⟩:∃ p,p=N-1-k:=⟨_,rfl⟩
    have gp:(N:Int)-1-(k:Int)=(p:Int):=by omega
    have Q:p/64<L:=by have:=HN.out;omega
    have aK:(p:Int)/64<(L:Int):=by omega
    have aM:(0:Int)<=(p:Int)/64:=by omega
    have aN:((p:Int)/64).toNat=p/64:=by omega
    have a:TrRoom wr o1 3:=HD.out.room (by rw [be];exact HT.out.less (by omega));have am:=HU.out.did HD.out;have an:=HV.out.did HD.out;obtain ⟨_,_,_,e2,_,_,_,_,y⟩:=am.1.open;cases e2
    obtain ⟨b2,a4,rfl,aX⟩:=y (p/64) Q;have hx:=az.out (p/64);obtain ⟨x,U⟩:∃ x,x=xs.getD (p/64) 0:=⟨_,rfl⟩
    rw [<- U] at aX hx;obtain ⟨bt,F⟩:∃ bt,bt=x/2^(p%64):=⟨_,rfl⟩
    have J:bt<18446744073709551616:=by rw [F];exact fF (ew _ _) hx
    have bf:(x:Int)/2^(p%64)=(bt:Int):=by rw [F];simp
    have l:bt%2=X/2^p%2:=by rw [F,U,<- m.out,nd]
    have g:=fU O f.out.1 a.1;obtain ⟨T,hT⟩:∃ T,T=jB (2*val rs+bt%2) Y M:=⟨_,rfl⟩
    have v:T<=1:=by rw [hT];exact pM _ _ _
    have E:=AX o1 _ _ rs ys bt J T wr a g an f.out.2 a5.out (by rw [f.out.1,eM.out]) (by rw [eM.out];omega) (by rw [eM.out,<- HY.out];exact hT);rw [HD.out.ptr,<- a6.out,eM.out,<- HY.out] at E;obtain ⟨LF,H⟩:∃ LF,LF=qD (2*val rs+bt%2) Y M:=⟨_,rfl⟩
    rw [<- H] at E;have aF:Hid (0<Y->LF=X/2^p%Y/\T=(2*(X/2^(p+1)%Y)+X/2^p%2)/Y/\val qs=X/2^(p+1)/Y*2^(p+1)):=fun hy=>by
     obtain ⟨v1,v2⟩:=h.out hy;rw [show N-k=p+1 by omega] at v1 v2;obtain ⟨b1,b2⟩:=sm (R:=val rs) (M:=Y) (n:=M) (bit:=bt%2) hy (by rw [v1];exact ay _ hy) av.out (by omega);rw [v1,l] at b1 b2;rw [H,hT,v1,l];exact ⟨b2.trans tA,b1,v2⟩
    have af:Hid (∀ j,qs.getD j 0<18446744073709551616):=fun j=>d.out.2.getD (by omega) _
    have a2:=af.out (p/64);obtain ⟨ap,aq⟩:=xk (s:=p%64) a2 v (by omega);have HP:Hid (N-(k+1)=p):=by unfold Hid;omega
    clear F hT H U y am an g l h hp af;go_wp2_with fail;refine E.mono ?_;rintro e w2 ⟨v2,rfl,G,o2,d2⟩;have c:=d2.kept.own A (eG A a.1);have aC:=aa (HD.out.trans d2);have D:=(d2.room (k:=0) a).1;have aS:¬ cN o2 (w.heap.size+1):=eG c D _ rfl;have t:Hid (∀ b,v2.ownBlock=some b->b≠(w.heap.size+1)):=fun b hb e=>by
     have h1:=(G.lt b hb).1;have h2:=eN A;omega
    have Z:w2.cell? ⟨(w.heap.size+1),p/64,none⟩=some (.int .u64 (qs.getD (p/64) 0:Nat)):=by
     rw [World.ownsRow.cellAt c (p/64) (by omega),bu,aA,aQ (by rw [d.out.1];exact Q)];rfl
    have aZ:=World.ownsRow.frozenAt c (p/64);obtain ⟨z,hz⟩:∃ z,z=qs.getD (p/64) 0 ||| T*2^(p%64):=⟨_,rfl⟩
    have HZ:=aa hz;rw [<- hz] at ap aq;have V:=aa (World.ownsRow.stored c (p/64) (.int .u64 (z:Int))).1;have aV:Hid (OwnN .u64 24 w2 w.heap.size v2 M (digs LF M)):=cE G (fun b hb=>by have h1:=(G.lt b hb).1;have h2:=HD.out.size;omega);obtain ⟨pi,B⟩:∃ pi,pi=p/64:=⟨_,rfl⟩
    have gw:IntKind.i64.wrap ((p:Int)/64)=(pi:Int):=by rw [IntKind.wrap_i64];omega
    have bh:(pi:Int)<(L:Int):=by omega
    have aG:=aa B;obtain ⟨ps,S⟩:∃ ps,ps=p%64:=⟨_,rfl⟩
    have gt:((p:Int)).tmod 64=(ps:Int):=by rw [li (by omega)];omega
    have bg:(ps:Int)<=64:=by omega
    have bd:=aa S;rw [<- S] at ap;rw [<- B] at Z aZ V;generalize hqz:qs.getD (p/64) 0=q at *;have aI:=aa hqz;rw [B,hqz,<- B] at Z;clear E O A HD d2 G c D hz a f aD B S hqz aK aM aN;go_wp2_with fail;go_still_tail 10,(by kernel_rfl)
    change wpList _ _ _ _ _ w2.drew
    go_wp2_with fail;go_roundw
    case rel=>
     have k3:Kept (fun b=>b=(w.heap.size+1)) w2 (w2.setCell ⟨(w.heap.size+1),pi,none⟩ (.int .u64 (z:Int))).drew:=((aj (fun b=>b=(w.heap.size+1)) w2).setCell ⟨(w.heap.size+1),pi,none⟩ (fun _=>rfl) _).drew;have I:OwnN .u64 24 (w2.setCell ⟨(w.heap.size+1),pi,none⟩ (.int .u64 (z:Int))).drew w.heap.size (.slice (some ⟨(w.heap.size+1),0,none⟩) L L) L (qs.set pi z):=by
      unfold OwnN;rw [bZ];exact V.out
     refine ⟨k+1,o2,digs LF M,qs.set pi z,by omega,by go_num,?_,⟨ag _ _ _,ak (by omega) _ _⟩,⟨by rw [lj];exact d.out.1,qq d.out.2 aq⟩,k3.own aV.out (fun b hb=>t.out b hb),I,t,(fun hy=>?_)⟩
     ·unfold Hid;rw [<- Gy];exact aC.out.wroteNew k3 (by omega) aS
     ·obtain ⟨v1,v2,v3⟩:=aF.out hy;have ai:=tw (p:=p) hy d.out.2 (by rw [d.out.1];exact Q) v3 v2 v;rw [aI.out,<- HZ.out,<- aG.out] at ai;rw [HP.out,aB,ai];exact ⟨by rw [v1,ax (bk (ay _ hy) av.out)],rfl⟩
    case measure=>simp [intOf];omega
   ·have a0:¬ (k:Int)<(N:Int):=by omega
    obtain rfl:k=N:=by omega
    have ah:digs (val qs) L=qs:=(b8 (by omega) d.out.2 d.out.1 (by rw [ax];have:=aE (by omega) d.out.2;rwa [d.out.1] at this)).symm;have al:digs (val rs) M=rs:=(b8 (by omega) f.out.2 f.out.1 (by rw [ax];have:=aE (by omega) f.out.2;rwa [f.out.1] at this)).symm;have aH:=aa ah;have aJ:=aa al;clear m az ah al;go_wp2_with fail;go_ret2;refine ⟨_,_,rfl,val qs,by rw [aH.out];exact A,val rs,by rw [aJ.out];exact O,(fun hy=>?_),o1,HD.out⟩;obtain ⟨v1,v2⟩:=h.out hy;rw [bJ,cw,eX] at v1 v2;exact ⟨by rw [v2,bD],v1⟩

def oU (L M:Nat):List Ev:=[(1,((M:Nat):Int),0)] ++ List.replicate (3*(64*L)) (1,((M:Nat):Int),0)

theorem kn (L M:Nat):(oU L M).length=1+3*(64*L):=by unfold oU;rw [aZ,be];rfl

theorem AY (o:Tr) (ao bo:Option Addr) (L M i j:Nat) (xs ys:List Nat) (X Y:Nat) (hX:X=val xs) (hY:Y=val ys) (bT bA bB bQ bR:Nat) (w:World) (ht:TrRoom w o 60000) (hu:RowT w o (.slice ao L i) xs) (hv:RowT w o (.slice bo M j) ys) (D:Digs xs) (n:Digs ys)
  (hT:Box w bT (aL o) 53) (hA:Box w bA (.slice ao L i) 23) (hB:Box w bB (.slice bo M j) 23) (hQ:Box w bQ (.slice none 0 0) 23) (hR:Box w bR (.slice none 0 0) 23) (E:bQ≠bR) :
  Calls prog 235 #[.pointer (some ⟨bA,0,none⟩),.pointer (some ⟨bB,0,none⟩),.pointer (some ⟨bT,0,none⟩),.pointer (some ⟨bQ,0,none⟩),.pointer (some ⟨bR,0,none⟩)] w fun e w'=>
   (¬ (L<=300/\M<=300)/\e=.panicked [refusal 2]/\w'=w)\/((L<=300/\M<=300)/\Y=0/\e=.panicked [refusal 1]/\∃ o',Did w o (oU L M) w' o') \/
   ((L<=300/\M<=300)/\Y≠0/\e=.returned (.tuple #[])/\∃ v1 v2 w1 o',OwnN .u64 24 w' w.heap.size v1 L (digs (X/Y) L)/\OwnN .u64 24 w' w.heap.size v2 M (digs (X%Y) M)/\Did w o (oU L M) w1 o'/\Kept (fun b=>b=bQ\/b=bR) w1 w'/\Box w' bQ v1 23/\Box w' bR v2 23):=by
 obtain ⟨_,_,_,e1,A,_,_,_,_⟩:=hu.1.open;cases e1
 obtain ⟨_,_,_,e1,B,_,_,_,_⟩:=hv.1.open;cases e1
 have eL:=aa A.out;have eM:=aa B.out;have hP:=fun W=>xq ao bo L M i j W
 obtain ⟨po,s⟩:=aK o;have hZ:=fun (l:M<=300)=>En o _ ys w (ht.less (by omega)) hv n (by have:=eM.out;omega)
 rw [<- hY,eM.out] at hZ;rw [s] at hZ hT;have cT:=hT.cell;have cA:=hA.cell;have cB:=hB.cell;have HT:=aa ht;have HU:=aa hu;have HV:=aa hv;have F:=aa hA;have G:=aa hB;have J:=aa hT;have H:=aa hQ;have I:=aa hR;have N:=aa D;have O:=aa n;have HX:=aa hX;have HY:=aa hY;have S:=aa s;clear hu hv D n A B s hT hA hB hQ hR ht hX hY;go_enter func235,ntmps235;go_wp2_with fail;refine (hP _).mono ?_;rintro e w1 ⟨⟨l1,l2,rfl⟩ | ⟨l1,rfl⟩,rfl⟩
 ·go_wp2_with fail;refine (hZ l2).mono ?_;rintro e w2 ⟨rfl,o2,d2⟩;have g:=HT.out.1;have V:=(F.out.did d2 g (by decide) (by decide)).cell;have Z:=(G.out.did d2 g (by decide) (by decide)).cell;have ab:=(J.out.did d2 g (by decide) (by decide)).cell;have t:=H.out.did d2 g (by decide) (by decide);have v:=I.out.did d2 g (by decide) (by decide);have r2:TrRoom w2 o2 59999:=d2.room (HT.out.less (by simp));have hD:=Hf o2 ao bo L M i j xs ys X Y HX.out HY.out w2 (r2.less (by omega)) (HU.out.did d2) (HV.out.did d2) N.out O.out (by omega) (by omega);rw [d2.ptr,S.out] at hD;obtain ⟨nz,p⟩:∃ nz,nz=cY (decide (Y=0)):=⟨_,rfl⟩
  rw [<- p];have x:=aa p;clear hZ hP cA cB cT p;go_wp2_with fail;refine hD.mono ?_;rintro e w3 ⟨v1,v2,rfl,q,d,r,f,h,o3,d3⟩;have a:=t.did d3 r2.1 (by decide) (by decide);have c:=v.did d3 r2.1 (by decide) (by decide);have HD:=aa (d2.trans d3);clear hD;by_cases h0:Y=0
  ·have en:nz=1:=by rw [x.out,dL h0];rfl
   have gn:((nz:Int) == 1)=true:=by rw [en];rfl
   have m:=mg 1 w3;go_wp2_with fail;refine m.mono ?_;rintro e w4 ⟨rfl,rfl⟩;exact ⟨rfl,.inr (.inl ⟨⟨l1,l2⟩,h0,rfl,o3,HD.out⟩)⟩
  ·have en:nz=0:=by rw [x.out,cP h0];rfl
   have gn:((nz:Int) == 1)=false:=by rw [en];rfl
   have C:=nH 1 w3;obtain ⟨xo,xc,rfl⟩:=dg d;obtain ⟨yo,yc,rfl⟩:=dg f;have cQ:=a.cell;have fQ:=a.free;have cR:=c.cell;have fR:=c.free;obtain ⟨y,z⟩:=h (by omega);rw [y] at d;rw [z] at f;have ac:=t.lt;have ad:=v.lt;have ae:=d2.size;have kb:Kept (fun b=>b=bQ\/b=bR) w3 (w3.setCell ⟨bQ,0,none⟩ (.slice xo L xc)):=(aD w3 bQ (.slice xo L xc)).mono (fun _ _ e=>.inl e);have k:=kb.next (aD _ bR (.slice yo M yc)) (fun _ _ e=>.inr e)
   have Q:=aa (cE (base':=w1.heap.size) (k.own d (fun b hb e=>by have:=(d.lt b hb).1;omega)) (fun b hb=>by have:=(d.lt b hb).1;omega));have R:=aa (cE (base':=w1.heap.size) (k.own f (fun b hb e=>by have:=(f.lt b hb).1;omega)) (fun b hb=>by have:=(f.lt b hb).1;omega));have T:=aa ((a.set (.slice xo L xc)).other ⟨bR,0,none⟩ E (.slice yo M yc));have U:=aa ((c.other ⟨bQ,0,none⟩ (fun e=>E e.symm) (.slice xo L xc)).set (.slice yo M yc));have P:=aa k;clear d f h a c kb k d2 d3 y z t v V Z ab;go_wp2_with fail;refine C.mono ?_;rintro e w4 ⟨rfl,rfl⟩;clear C;go_wp2_with fail;go_end0
   exact .inr (.inr ⟨⟨l1,l2⟩,h0,rfl,_,_,w4,o3,Q.out,R.out,HD.out,P.out,T.out,U.out⟩)
 ·exact ⟨rfl,.inl ⟨l1,rfl,rfl⟩⟩

def nY (L M:Nat):Bool:=decide (L<=300/\M<=300)

def jv (Y L M:Nat):Nat:=if nY L M=true then (if Y=0 then 1 else 0) else 2

def oo (X Y L M:Nat):List Nat:=if jv Y L M=0 then digs (X/Y) L else []

def ko (X Y L M:Nat):List Nat:=if jv Y L M=0 then digs (X%Y) M else []

def eE (L M:Nat):List Ev:=if L<=300/\M<=300 then oU L M else []

theorem sv {X Y L M:Nat} (h:¬ (L<=300/\M<=300)):jv Y L M=2/\oo X Y L M=[]/\ko X Y L M=[]:=by
 have e:jv Y L M=2:=by unfold jv nY;rw [ai (by simpa using h)]
 refine ⟨e,?_,?_⟩
 ·unfold oo;rw [e,ai (by omega)]
 ·unfold ko;rw [e,ai (by omega)]

theorem sx {X Y L M:Nat} (h:L<=300/\M<=300) (h0:Y=0):jv Y L M=1/\oo X Y L M=[]/\ko X Y L M=[]:=by
 have e:jv Y L M=1:=by unfold jv nY;rw [ah (by simpa using h),ah h0]
 refine ⟨e,?_,?_⟩
 ·unfold oo;rw [e,ai (by omega)]
 ·unfold ko;rw [e,ai (by omega)]

theorem gX {X Y L M:Nat} (h:L<=300/\M<=300) (h0:Y≠0):jv Y L M=0/\oo X Y L M=digs (X/Y) L/\ko X Y L M=digs (X%Y) M:=by
 have e:jv Y L M=0:=by unfold jv nY;rw [ah (by simpa using h),ai h0]
 refine ⟨e,?_,?_⟩
 ·unfold oo;rw [ah e]
 ·unfold ko;rw [ah e]

theorem AZ (o:Tr) (ao bo:Option Addr) (L M f g:Nat) (xs ys:List Nat) (E:Nat) (hE:E=jv (val ys) L M) (w:World) (ht:TrRoom w o 60000) (hu:RowT w o (.slice ao L f) xs) (hv:RowT w o (.slice bo M g) ys) (P:Digs xs) (Q:Digs ys) :
  Calls prog 199 #[aL o,.slice ao L f,.slice bo M g] w fun e w'=>∃ v1 v2,e=.returned (.tuple #[v1,v2,.int .i64 (E:Nat)]) /\
   Row .u64 w' v1 (oo (val xs) (val ys) L M)/\Row .u64 w' v2 (ko (val xs) (val ys) L M)/\((∀ b,v2.ownBlock=some b->w.heap.size<=b)/\U64s w' v2)/\∃ o',Did w o (eE L M) w' o':=by
 have R:=im;obtain ⟨po,C⟩:=aK o;have O:=zZ w (.pointer po) (.slice ao L f) (.slice bo M g) (.slice none 0 0) (.slice none 0 0) 53 23 23 23 23;have he:∀ args w,(callFunc 235 args).run prog w=.ok (.enter 235 args) w:=fun _ _=>by simp [go_sem]
 obtain ⟨X,hX⟩:∃ X,X=val xs:=⟨_,rfl⟩
 obtain ⟨Y,hY⟩:∃ Y,Y=val ys:=⟨_,rfl⟩
 rw [C];rw [<- hY] at hE;rw [<- hX,<- hY];have HE:=aa hE;have HX:=aa hX;have HY:=aa hY;clear hE hX hY;go_enter func199,ntmps199;go_wp2_with fail;generalize ((((w.alloc (.cells #[.pointer po] 53)).alloc (.cells #[.slice ao L f] 23)).alloc (.cells #[.slice bo M g] 23)).alloc (.cells #[.slice none 0 0] 23)).alloc (.cells #[.slice none 0 0] 23)=W at *;obtain ⟨k0,x1,x2,x3,x4,x5,hs⟩:=O;have k1:=k0.alloc (.cells #[.int .i64 0] 32);have xe:=Box.new W (.int .i64 0) 32
 have h1:=AY o ao bo L M f g xs ys X Y HX.out HY.out _ _ _ _ _ _ (ht.grew k1) (hu.grew k1) (hv.grew k1) P Q (by rw [C];exact x1.alloc _) (x2.alloc _) (x3.alloc _) (x4.alloc (.cells #[.int .i64 0] 32)) (x5.alloc _) (by omega);have G:(W.alloc (.cells #[.int .i64 0] 32)).heap.size=W.heap.size+1:=by simp
 refine (mW 235 _ W (fun n W'=>n=(E:Int)/\∃ ro rc ln so sc lm o',Box W' (w.heap.size+1+1+1) (.slice ro ln rc) 23/\Box W' (w.heap.size+1+1+1+1) (.slice so lm sc) 23/\Row .u64 W' (.slice ro ln rc) (oo X Y L M)/\Row .u64 W' (.slice so lm sc) (ko X Y L M)/\(∀ b,(Value.slice ro ln rc).ownBlock=some b->W.heap.size+1<=b)/\((∀ b,(Value.slice so lm sc).ownBlock=some b->W.heap.size+1<=b)/\U64s W' (.slice so lm sc))/\Did w o (eE L M) W' o'/\TrIn W' o') he (h1.mono ?_)).mono ?_
 ·rintro e w' (⟨hl,rfl,rfl⟩ | ⟨hl,h0,rfl,o',hd⟩ | ⟨hl,h0,rfl,v1,v2,w1,o',q,m,hd,hk,h,i⟩)
  ·obtain ⟨e1,e2,e3⟩:=sv (X:=X) (Y:=Y) hl;refine ⟨xe,.inr ⟨2,rfl,by rw [HE.out,e1];rfl,none,0,0,none,0,0,o,x4.alloc _,x5.alloc _,by rw [e2];exact Row.nil _ _,by rw [e3];exact Row.nil _ _,(fun b hb=>by cases hb),⟨(fun b hb=>by cases hb),U64s.nil _⟩,?_,(ht.grew k1).1⟩⟩;unfold eE;rw [ai hl];exact Did.of_kept k1 ht.1
  ·obtain ⟨e1,e2,e3⟩:=sx (X:=X) hl h0;have d:=(hd.room (k:=0) ((ht.grew k1).less (by rw [kn];omega))).1;have s:=(x4.alloc (.cells #[.int .i64 0] 32)).did hd (ht.grew k1).1 (by decide) (by decide);have t:=(x5.alloc (.cells #[.int .i64 0] 32)).did hd (ht.grew k1).1 (by decide) (by decide);have r:=xe.did hd (ht.grew k1).1 (by decide) (by decide);refine ⟨r,.inr ⟨1,rfl,by rw [HE.out,e1];rfl,none,0,0,none,0,0,o',s,t,by rw [e2];exact Row.nil _ _,by rw [e3];exact Row.nil _ _,(fun b hb=>by cases hb),⟨(fun b hb=>by cases hb),U64s.nil _⟩,?_,d⟩⟩;unfold eE;rw [ah hl];exact Did.after k1 hd
  ·obtain ⟨e1,e2,e3⟩:=gX (X:=X) hl h0;rw [G] at q m;have d:=(hd.room (k:=0) ((ht.grew k1).less (by rw [kn];omega))).1;have s:=(x4.alloc (.cells #[.int .i64 0] 32)).did hd (ht.grew k1).1 (by decide) (by decide);have t:=(x5.alloc (.cells #[.int .i64 0] 32)).did hd (ht.grew k1).1 (by decide) (by decide);have r:=(xe.did hd (ht.grew k1).1 (by decide) (by decide)).kept hk (by omega);have z:=(Did.after k1 hd).wroteSome hk (fun b hb=>by
    rcases hb with rfl | rfl
    ·exact ⟨by omega,s.apart d (by decide) (by decide)⟩
    ·exact ⟨by omega,t.apart d (by decide) (by decide)⟩)
   obtain ⟨xo,xc,rfl⟩:=dg q;obtain ⟨yo,yc,rfl⟩:=dg m;refine ⟨r,.inl ⟨rfl,by rw [HE.out,e1];rfl,xo,xc,L,yo,yc,M,o',h,i,by rw [e2];exact cW q (ag _ _ _),by rw [e3];exact cW m (ag _ _ _),(fun b hb=>(q.lt b hb).1),⟨(fun b hb=>(m.lt b hb).1),U64s.own m⟩,?_,(z.room (k:=0) (ht.less (by rw [kn];omega))).1⟩⟩;unfold eE;rw [ah hl];exact z
 ·rintro e w' ⟨n,w1,rfl,⟨⟨rfl,ro,rc,ln,so,sc,lm,o',h,i,D,F,A,l,hd,d⟩,y⟩,rfl⟩;have j:Box w1 W.heap.size (.int .i64 0) 32:=y;have a:=h.other ⟨W.heap.size,0,none⟩ (by show _≠W.heap.size;omega) (.int .i64 (E:Int));have c:=i.other ⟨W.heap.size,0,none⟩ (by show _≠W.heap.size;omega) (.int .i64 (E:Int));have c1:=a.cell;have f1:=a.free;have c2:=c.cell;have f2:=c.free;have B:w.heap.size+1+1+1≠w.heap.size+1+1+1+1:=by omega
  have c3:=((a.set (.slice ro ln rc)).other ⟨w.heap.size+1+1+1+1,0,none⟩ B (.slice so lm sc)).cell;have c4:=((c.other ⟨w.heap.size+1+1+1,0,none⟩ B.symm (.slice ro ln rc)).set (.slice so lm sc)).cell;have H:Kept (fun b=>b=W.heap.size\/b=w.heap.size+1+1+1\/b=w.heap.size+1+1+1+1) w1 (w1.setCell ⟨W.heap.size,0,none⟩ (.int .i64 (E:Int))):=(aD w1 W.heap.size _).mono (fun _ _ e=>.inl e);have I:=H.next (aD _ (w.heap.size+1+1+1) (.slice ro ln rc)) (fun _ _ e=>.inr (.inl e))
  have p:=I.next (aD _ (w.heap.size+1+1+1+1) (.slice so lm sc)) (fun _ _ e=>.inr (.inr e))
  have HD:=aa (hd.wroteSome p (fun b hb=>by
   rcases hb with rfl | rfl | rfl
   ·exact ⟨by omega,j.apart d (by decide) (by decide)⟩
   ·exact ⟨by omega,h.apart d (by decide) (by decide)⟩
   ·exact ⟨by omega,i.apart d (by decide) (by decide)⟩))
  have J:=aa (D.kept p (fun b hb e=>by have:=A b hb;omega));have N:=aa (F.kept p (fun b hb e=>by have:=l.1 b hb;omega));have x:Hid ((∀ b,(Value.slice so lm sc).ownBlock=some b->w.heap.size<=b)/\U64s _ (Value.slice so lm sc)):=⟨fun b hb=>by have:=l.1 b hb;omega,l.2.kept p (fun b hb e=>by have:=l.1 b hb;omega)⟩
  generalize w1.setCell ⟨W.heap.size,0,none⟩ (.int .i64 (E:Int))=W2 at *;clear h1 h i a c D F A l H I p hd d y j hu hv ht x1 x2 x3 x4 x5 xe k0 k1 G he R;go_wp2_with fail;go_region
  all_goals
   go_wp2;refine bodyPost_ret (v:=.tuple #[.slice ro ln rc,.slice so lm sc,.int .i64 (E:Nat)]) (by simp [results,results199,go_sem,c3,c4]) rfl ?_;exact ⟨_,_,rfl,J.out.grew (aj _ _).drew,N.out.grew (aj _ _).drew,⟨x.out.1,x.out.2.grew (aj _ _).drew⟩,o',HD.out.grew (aj _ _).drew⟩

end Go.Proofs.YtkaojflnghfmcaaGreatDoor
