/- Put together of: Pow1 Sho2. -/
import Derived.Test.YtkaojflnghfmcaaGreatDoorQC12

namespace Go.Proofs.YtkaojflnghfmcaaGreatDoor
open _root_.Go.Proofs.Tryz
set_option maxRecDepth 100000
set_option maxHeartbeats 4000000
open Go.RowKit

def mon (n V X:Nat):Nat:=2^(64*n)*X%V

theorem me {n V X:Nat} (hV:0<V):mon n V X<V:=ay _ hV

theorem AI (n V:Nat):mon n V 0=0:=by
 unfold mon;rw [cG,iI]

theorem vY {n V A B Y:Nat} (a:V%2=1) (h1:Y<V) (h2:2^(64*n)*Y%V=mon n V A*mon n V B%V):Y=mon n V (A*B):=by
 have b:Nat.Coprime (2^(64*n)) V:=(fT a).symm;refine (ax h1).symm.trans ?_;unfold mon at *;refine iP b ?_;rw [h2,<- eh]
 congr 1
 generalize 2^(64*n)=R
 grind

theorem qG {n V A Y:Nat} (a:V%2=1) (h1:Y<V) (h2:2^(64*n)*Y%V=mon n V A%V):Y=A%V:=by
 have b:Nat.Coprime (2^(64*n)) V:=(fT a).symm;refine (ax h1).symm.trans ?_;refine iP b ?_;rw [h2];unfold mon;rw [fG]

def nJ (w:Nat):Nat:=w*16%18446744073709551616+w/1152921504606846976

def mZ (y:Nat):Nat->Nat
 | 0=>y
 | k+1=>nJ (mZ y k)

theorem xE {w:Nat} (h:w<18446744073709551616):nJ w<18446744073709551616:=by
 unfold nJ;omega

theorem rQ {y:Nat} (h:y<18446744073709551616):∀ k,mZ y k<18446744073709551616
 | 0=>h
 | k+1=>xE (rQ h k)

theorem Br {M N y:Nat} (hM:0<M) (b:M*N=1152921504606846976) (hy:y<18446744073709551616):nJ (y%(16*M)*N+y/(16*M))=y%M*(16*N)+y/M:=by
 obtain ⟨A,hA⟩:∃ A,A=y/(16*M):=⟨_,rfl⟩
 obtain ⟨r,hr⟩:∃ r,r=y%(16*M):=⟨_,rfl⟩
 obtain ⟨d,hd⟩:∃ d,d=r/M:=⟨_,rfl⟩
 obtain ⟨B,hB⟩:∃ B,B=r%M:=⟨_,rfl⟩
 have e1:y=16*M*A+r:=by rw [hA,hr];exact (ef y (16*M)).symm
 have e2:r=M*d+B:=by rw [hd,hB];exact (ef r M).symm
 have c:r<16*M:=by rw [hr];exact ay _ (by omega)
 have e:d<16:=by rw [hd];exact oA (by rw [aF];exact c)
 have a:B<M:=by rw [hB];exact ay _ hM
 have f:A<N:=by
  rw [hA];refine oA ?_;rw [bf,b];exact hy
 have e3:y=M*(16*A+d)+B:=by rw [e1,e2];grind
 have e4:y/M=16*A+d:=by rw [e3,fH hM,bj a,aU]
 have e5:y%M=B:=by rw [e3,i9,ax a]
 rw [e4,e5,<- hA,<- hr];have h6:B*N+A<1152921504606846976:=by
  have:(B+1)*N<=M*N:=bI N a;rw [b,cJ,jF] at this;omega
 have e7:r*N+A=1152921504606846976*d+(B*N+A):=by
  rw [e2,<- b]
  grind
 rw [e7];generalize hQ:B*N=Q at *;have e8:B*(16*N)=16*Q:=by rw [<- hQ];grind
 rw [e8];unfold nJ;omega

theorem xG {y:Nat} (hy:y<18446744073709551616):∀ k,k<=16->mZ y k=y%16^(16-k)*16^k+y/16^(16-k)
 | 0,_=>by
  rw [mZ,dK,show (16:Nat)^16=18446744073709551616 from rfl,cw,bD,ax hy,bj hy,aU]
 | k+1,hk=>by
  have ih:=xG hy k (by omega);have e:16-k=(16-(k+1))+1:=by omega
  rw [mZ,ih,e,aH,aF (16^(16-(k+1))) 16];have h:=Br (M:=16^(16-(k+1))) (N:=16^k) (y:=y) (aC (by omega)) (by rw [<- aN,show 16-(k+1)+k=15 by omega]) hy;rw [h,aH,aF (16^k) 16]

def tO (ys:List Nat) (L j:Nat):Nat:=mZ (ys.getD (L-1-j/16) 0) (j%16+1)%16

theorem DZ {ys:List Nat} {L j:Nat} (hd:Digs ys) (hj:j<16*L):tO ys L j=val ys/16^(16*L-1-j)%16:=by
 unfold tO;have hy:ys.getD (L-1-j/16) 0<18446744073709551616:=hd.getD (by omega) _;rw [xG hy (j%16+1) (by omega)];have e1:16^(j%16+1)=16*16^(j%16):=by rw [aH,aF]
 rw [e1,show ∀ a b c:Nat,a*(16*b)+c=16*(a*b)+c from fun a b c=>by grind,i9];rw [<- cS (by omega) hd];unfold dig;obtain ⟨k,hk⟩:∃ k,k=j%16:=⟨_,rfl⟩
 obtain ⟨i,hi⟩:∃ i,i=L-1-j/16:=⟨_,rfl⟩
 have ex:16*L-1-j=16*i+(15-k):=by omega
 rw [<- hk,<- hi,ex,show 16-(k+1)=15-k by omega,show (18446744073709551616:Nat)=16^16 from rfl,<- bh];generalize val ys (16^16)=E;have d:k<=15:=by omega
 have e2:(16:Nat)^16=16^(15-k)*16^(k+1):=by rw [<- aN,show 15-k+(k+1)=16 by omega]
 rw [e2,Nat.mod_mul_right_div_self,cK,<- aN,aH];exact Nat.mod_mod_of_dvd _ (Nat.dvd_mul_left 16 _)

def vk (l:List Nat):Nat:=l.foldl (fun a d=>16*a+d) 0

theorem qS (l:List Nat) (d:Nat):vk (l ++ [d])=16*vk l+d:=by simp [vk]

theorem tP {E N:Nat} (hE:E<16^N):∀ j,j<=N->vk ((List.range j).map fun i=>E/16^(N-1-i)%16)=E/16^(N-j)
 | 0,_=>by
  rw [List.range_zero,j4,dK,bj hE];rfl
 | j+1,hj=>by
  rw [j5,dt,jC,j4,qS,tP hE j (by omega)];have e:N-j=(N-1-j)+1:=by omega
  rw [e,aH,<- cK,show N-(j+1)=N-1-j by omega];omega

theorem D0 {ys:List Nat} {L:Nat} (hd:Digs ys) (hl:ys.length=L):vk ((List.range (16*L)).map (tO ys L))=val ys:=by
 have hE:val ys<16^(16*L):=by
  have:=aE (B:=18446744073709551616) (by omega) hd;rw [hl,show (18446744073709551616:Nat)=16^16 from rfl,<- bh] at this;exact this
 have h:=tP hE (16*L) (leR _);rw [bJ,cw,eX] at h;rw [<- h]
 congr 1
 refine List.map_congr_left (fun j hj=>?_);exact DZ hd (List.mem_range.1 hj)

theorem Gd (ys:List Nat) (L j:Nat):tO ys L j<16:=ay _ (by omega)

theorem vf (p:Addr) (w:World) :
  CallsD prog 269 #[.pointer (some p)] .returning w fun e u' w'=>e=.returned (.tuple #[])/\u'=.returning/\w'=w:=by
 refine callsD_of_wpS func269 rfl fun c₀ cs hu=>?_
 apply wpS_seq;apply wpS_region;simp [wpOpsS,go_sem,recoverD,hu,ntmps269,Exit.thenS];apply wpS_seq;apply wpS_seq;apply wpS_region;simp [wpOpsS,go_sem,Exit.thenS];refine wpS_cond (t:=true) (by simp [Act.eval,Array.replicate]) ?_;simp only [if_true];refine wpS_of_wp (wp_ret ?_);cases c₀
 simp_all [bodyPostS,results,results269,Exit.thenS]

theorem F9 (p:Addr) (x n:Int) (a:List PanicEntry) (w:World) (hc:w.cell? p=some (.int .i64 x)) (hz:w.frozen? p=false) :
  CallsD prog 269 #[.pointer (some p)] (.panicking (refusal n :: a)) w fun e u' w'=>
   e=.returned (.tuple #[])/\u'=.panicking ({ refusal n with recovered:=true } :: a)/\w'=w.setCell p (.int .i64 n):=by
 refine callsD_of_wpS func269 rfl fun c₀ cs hu=>?_
 apply wpS_seq;apply wpS_region;simp [wpOpsS,go_sem,recoverD,hu,ntmps269,Exit.thenS];apply wpS_seq;apply wpS_seq;apply wpS_region;simp [wpOpsS,go_sem,Exit.thenS];refine wpS_cond (t:=false) (by simp [Act.eval,Array.replicate]) ?_;simp only [kZ,if_false];refine wpS_of_wp (wp_skip ?_);simp only [Exit.thenS];refine wpS_of_wp ?_;have c:∀ w:World,(Instr.typeAssert (.iface 32 (.int .i64 n)) 20 32 true).run prog w=.ok (.tuple #[.int .i64 n,.bool true]) w:=fun w=>by kernel_rfl
 have b:∀ (x:Bool) (w:World),(Op.unary .not (.bool x)).run prog w=.ok (.bool (!x)) w:=fun _ _=>rfl
 have e:(#[Value.pointer (some p)] ++ ((((Array.replicate 15 undef).setIfInBounds 3 (Value.iface 32 (Value.int IntKind.i64 n))).setIfInBounds 0 (Value.iface 32 (Value.int IntKind.i64 n))).setIfInBounds 4 (Value.iface 32 (Value.int IntKind.i64 n))).setIfInBounds 5 (Value.bool false):Array Value)=#[.pointer (some p),.iface 32 (.int .i64 n),undef,undef,.iface 32 (.int .i64 n),.iface 32 (.int .i64 n),.bool false,undef,undef,undef,undef,undef,undef,undef,undef,undef]:=rfl;rw [e];clear e;go_wp2;simp [bodyPostS,results,results269]

theorem BS (f:Nat) (b:Array Value) (w:World) (Q:Int->World->Prop) (he:∀ args w,(callFunc f args).run prog w=.ok (.enter f args) w)
  (h:Calls prog f b (w.alloc (.cells #[.int .i64 0] 32)) fun e w'=>w'.heap[w.heap.size]? = some (.cells #[.int .i64 0] 32 (0,0)) /\
   ((e=.returned (.tuple #[])/\Q 0 w')\/∃ n,e=.panicked [refusal n]/\Q n w')) :
  Calls prog 256 #[.func (.func f) #[] b] w fun e w'=>∃ n w1,e=.returned (.int .i64 n)/\(Q n w1/\w1.heap[w.heap.size]? = some (.cells #[.int .i64 0] 32 (0,0)))/\w'=w1.setCell ⟨w.heap.size,0,none⟩ (.int .i64 n):=by
 have d:=im;go_enter_defers func256,ntmps256
 go_wp2_with fail;refine h.mono ?_;rintro e w1 ⟨hb,(⟨rfl,hq⟩ | ⟨n,rfl,hq⟩)⟩
 ·have hc:w1.cell? ⟨w.heap.size,0,none⟩=some (.int .i64 0):=by simp [World.cell?,hb]
  have hz:w1.frozen? ⟨w.heap.size,0,none⟩=false:=by simp [World.frozen?,hb]
  clear h;go_wp2_with fail;refine leaves_cons (f:=269) (args:=#[.pointer (some ⟨w.heap.size,0,none⟩)]) (by simp) (by simp [go_sem]) ?_;refine (vf ⟨w.heap.size,0,none⟩ _).mono ?_;rintro e u' c ⟨rfl,rfl,rfl⟩;have a:(w1.setCell ⟨w.heap.size,0,none⟩ (.int .i64 0)).cell? ⟨w.heap.size,0,none⟩=some (.int .i64 0):=World.cell?_setCell_same' _ _ _ (by rw [hc];rfl);simp [Leaves,settle,results,results256,go_sem,a];exact ⟨_,⟨hq,hb⟩,rfl⟩
 ·have hc:w1.cell? ⟨w.heap.size,0,none⟩=some (.int .i64 0):=by simp [World.cell?,hb]
  have hz:w1.frozen? ⟨w.heap.size,0,none⟩=false:=by simp [World.frozen?,hb]
  clear h;refine leaves_cons (f:=269) (args:=#[.pointer (some ⟨w.heap.size,0,none⟩)]) (by simp) (by simp [go_sem]) ?_;refine (F9 ⟨w.heap.size,0,none⟩ 0 n [] _ hc hz).mono ?_;rintro e u' c ⟨rfl,rfl,rfl⟩;have a:(w1.setCell ⟨w.heap.size,0,none⟩ (.int .i64 n)).cell? ⟨w.heap.size,0,none⟩=some (.int .i64 n):=World.cell?_setCell_same' _ _ _ (by rw [hc];rfl);simp [Leaves,settle,results,results256,go_sem,a];exact ⟨_,⟨hq,hb⟩,rfl⟩

theorem lN (w:World):Calls prog 259 #[.int .i64 0] w fun e w'=>e=.returned (.tuple #[])/\w'=w:=by
 go_enter func259,ntmps259;go_wp2;go_end0
 exact ⟨rfl,rfl⟩

theorem mh (n:Int) (hn:n≠0) (w:World):Calls prog 259 #[.int .i64 n] w fun e w'=>e=.panicked [refusal n]/\w'=w:=by
 go_enter func259,ntmps259;go_wp2;exact ⟨rfl,rfl,rfl⟩

theorem qR (ao:Option Addr) (n a:Nat) (w:World):Calls prog 262 #[.slice ao n a,.int .i64 0] w fun e w'=>e=.returned (.slice ao n a)/\w'=w:=by
 have hR:=lN w;go_enter func262,ntmps262;go_wp2_with fail;refine hR.mono ?_;rintro e w' ⟨rfl,rfl⟩;go_wp2;go_ret;exact ⟨rfl,rfl⟩

structure Mod8 (w:World) (o:Tr) (ao bo:Option Addr) (n l K mcap rcap:Nat) (ms rs:List Nat):Prop where
 hm:RowT w o (.slice ao n mcap) ms
 hr:RowT w o (.slice bo l rcap) rs
 hmd:Digs ms
 hrd:Digs rs
 hK:K<18446744073709551616
 ok:okMod ms K rs

theorem Mod8.did {w w':World} {o o':Tr} {m:List Ev} {ao bo:Option Addr} {n l K a b:Nat} {ms rs:List Nat} (h:Mod8 w o ao bo n l K a b ms rs) (d:Did w o m w' o'):Mod8 w' o' ao bo n l K a b ms rs:=⟨h.hm.did d,h.hr.did d,h.hmd,h.hrd,h.hK,h.ok⟩

theorem Mod8.grew {w w':World} {o:Tr} {ao bo:Option Addr} {n l K a b:Nat} {ms rs:List Nat} (h:Mod8 w o ao bo n l K a b ms rs) (k:Kept af w w'):Mod8 w' o ao bo n l K a b ms rs:=⟨h.hm.grew k,h.hr.grew k,h.hmd,h.hrd,h.hK,h.ok⟩

theorem Mod8.facts {w:World} {o:Tr} {ao bo:Option Addr} {n l K a b:Nat} {ms rs:List Nat} (h:Mod8 w o ao bo n l K a b ms rs):(0<n/\n<=130)/\l=n/\val ms%2=1/\2<=val ms/\val ms<18446744073709551616^n:=by
 obtain ⟨_,_,_,e1,h1,_⟩:=h.hm.1.open;cases e1
 obtain ⟨_,_,_,e1,h2,_⟩:=h.hr.1.open;cases e1
 obtain ⟨_,f2,f3,f4,f5,f6,_⟩:=h.ok.facts h1.out h2.out h.hmd h.hrd h.hK;have m:=dm h.ok.1;exact ⟨⟨f2,f3⟩,f4,f5,by omega,f6⟩

def MonAt (w:World) (v:Value) (n V P:Nat):Prop:=Row .u64 w v (digs (mon n V P) n)/\U64s w v

theorem MonAt.did {w w':World} {o o':Tr} {m:List Ev} {v:Value} {n V P:Nat} (h:MonAt w v n V P) (d:Did w o m w' o') (ht:TrIn w o):MonAt w' v n V P:=⟨((h.2.rowT h.1 ht).did d).1,h.2.did d ht⟩

theorem MonAt.grew {w w':World} {v:Value} {n V P:Nat} (h:MonAt w v n V P) (k:Kept af w w'):MonAt w' v n V P:=⟨h.1.grew k,h.2.grew k⟩

theorem MonAt.kept {S:Nat->Prop} {w w':World} {v:Value} {n V P:Nat} (h:MonAt w v n V P) (k:Kept S w w') (hs:∀ b,v.ownBlock=some b->¬ S b):MonAt w' v n V P:=⟨h.1.kept k hs,h.2.kept k hs⟩

theorem MonAt.shape {w:World} {v:Value} {n V P:Nat} (h:MonAt w v n V P):∃ xo xc,v=.slice xo n xc:=by
 obtain ⟨xo,xn,xc,rfl,hl,_⟩:=h.1.open;have:=hl.out;rw [ag] at this;subst this;exact ⟨_,_,rfl⟩

theorem kt {n V P:Nat} (hV:0<V) (hn:V<18446744073709551616^n):val (digs (mon n V P) n)=mon n V P:=by
 rw [aB,ax (bk (me hV) hn)]

def fA (n:Nat):List Ev:=List.replicate 2 (1,(n:Int),0) ++ cD n

def jk (n:Nat):List Ev:=List.replicate 1 (1,(n:Int),0) ++ cD n

def l8 (n:Nat):List Ev:=List.replicate 1 (1,(n:Int),0) ++ List.replicate (n+2) (1,(n:Int),0)

theorem gU {n:Nat} (h:n<=130):(fA n).length<=2000/\(jk n).length<=2000/\(l8 n).length<=2000:=by
 unfold fA jk l8 cD;simp;omega

theorem G9 (o:Tr) (ao bo xo yo:Option Addr) (n l K a b xc yc P Q:Nat) (ms rs:List Nat) (w:World) (ht:TrRoom w o 2000) (hM:Mod8 w o ao bo n l K a b ms rs) (hx:MonAt w (.slice xo n xc) n (val ms) P) (hy:MonAt w (.slice yo n yc) n (val ms) Q) :
  Calls prog 126 #[aL o,.agg #[.slice ao n a,.int .u64 (K:Nat),.slice bo l b],.slice xo n xc,.slice yo n yc] w fun e w'=>∃ zo zc,e=.returned (.tuple #[.slice zo n zc,.int .i64 0])/\MonAt w' (.slice zo n zc) n (val ms) (P*Q)/\Fresh w (.slice zo n zc)/\∃ o',Did w o (fA n) w' o':=by
 obtain ⟨⟨f0,f1⟩,f2,f3,f4,f5⟩:=hM.facts;have hV:0<val ms:=by omega
 have ex:=kt (P:=P) hV f5;have ey:=kt (P:=Q) hV f5;refine (Fj o ao bo xo yo n l K a b n n xc yc 0 ms rs _ _ w ht hM.hm hM.hr (hx.2.rowT hx.1 ht.1) (hy.2.rowT hy.1 ht.1) hM.hmd hM.hrd (ak (by omega) _ _) (ak (by omega) _ _) hM.hK (by omega) ⟨fun _=>⟨hM.ok,⟨rfl,by rw [ex];exact me hV⟩,rfl,by rw [ey];exact me hV⟩,fun _=>rfl⟩ (by omega)).mono ?_;rintro e w' ⟨v',rfl,⟨Y,hR,hG⟩,⟨hF,hU⟩,o',d⟩;rw [ah f1] at d;rw [ah rfl] at hR;have c:=hG rfl;rw [ex,ey] at c;rw [vY f3 c.1 c.2] at hR;have hA:MonAt w' v' n (val ms) (P*Q):=⟨hR,hU⟩
 obtain ⟨zo,zc,rfl⟩:=hA.shape;exact ⟨zo,zc,rfl,hA,hF,o',d⟩

theorem Gx (o:Tr) (ao bo xo:Option Addr) (n l K a b xc:Nat) (ms rs xs:List Nat) (w:World) (ht:TrRoom w o 2000) (hM:Mod8 w o ao bo n l K a b ms rs) (hx:RowT w o (.slice xo n xc) xs) (f:Digs xs) (hlt:val xs<val ms) :
  Calls prog 65 #[aL o,.agg #[.slice ao n a,.int .u64 (K:Nat),.slice bo l b],.slice xo n xc] w fun e w'=>∃ zo zc,e=.returned (.tuple #[.slice zo n zc,.int .i64 0])/\MonAt w' (.slice zo n zc) n (val ms) (val xs)/\Fresh w (.slice zo n zc)/\∃ o',Did w o (jk n) w' o':=by
 obtain ⟨⟨f0,f1⟩,f2,f3,f4,f5⟩:=hM.facts;refine (pt o ao bo xo n l K a b n xc 0 ms rs xs w ht hM.hm hM.hr hx hM.hmd hM.hrd f hM.hK (by omega) ⟨fun _=>⟨hM.ok,rfl,hlt⟩,fun _=>rfl⟩ (by omega)).mono ?_;rintro e w' ⟨v',rfl,⟨Y,hR,hG⟩,⟨hF,hU⟩,o',d⟩;rw [ah f1] at d;rw [ah rfl] at hR;have c:Y=mon n (val ms) (val xs):=hG rfl;rw [c] at hR;have hA:MonAt w' v' n (val ms) (val xs):=⟨hR,hU⟩
 obtain ⟨zo,zc,rfl⟩:=hA.shape;exact ⟨zo,zc,rfl,hA,hF,o',d⟩

theorem Iw (o:Tr) (ao bo xo:Option Addr) (n l K a b xc P:Nat) (ms rs:List Nat) (w:World) (ht:TrRoom w o 2000) (hM:Mod8 w o ao bo n l K a b ms rs) (hx:MonAt w (.slice xo n xc) n (val ms) P) :
  Calls prog 66 #[aL o,.agg #[.slice ao n a,.int .u64 (K:Nat),.slice bo l b],.slice xo n xc] w fun e w'=>∃ zo zc,e=.returned (.tuple #[.slice zo n zc,.int .i64 0])/\(Row .u64 w' (.slice zo n zc) (digs (P%val ms) n)/\U64s w' (.slice zo n zc))/\Fresh w (.slice zo n zc)/\∃ o',Did w o (l8 n) w' o':=by
 obtain ⟨⟨f0,f1⟩,f2,f3,f4,f5⟩:=hM.facts;have hV:0<val ms:=by omega
 have ex:=kt (P:=P) hV f5;refine (AD o ao bo xo n l K a b n xc 0 ms rs _ w ht hM.hm hM.hr (hx.2.rowT hx.1 ht.1) hM.hmd hM.hrd (ak (by omega) _ _) hM.hK (by omega) ⟨fun _=>⟨hM.ok,rfl,by rw [ex];exact me hV⟩,fun _=>rfl⟩ (by omega)).mono ?_;rintro e w' ⟨v',rfl,⟨Y,hR,hG⟩,⟨hF,hU⟩,o',d⟩;rw [ah f1] at d;rw [ah rfl] at hR;have c:=hG rfl;rw [ex] at c;rw [qG f3 c.1 c.2] at hR;obtain ⟨zo,zn,zc,rfl,hl,_⟩:=hR.open;have f:=hl.out;rw [ag] at f;subst f;exact ⟨zo,zc,rfl,⟨hR,hU⟩,hF,o',d⟩

theorem Tryz.infoP23:(prog.info? 23).map (fun i=>(i.zero,i.size,i.bytes))=some (some (.slice none 0 0),1,24):=by kernel_rfl

theorem mf {w:World} {o:Tr} {base size n:Nat} {v:Value} {xs:List Value} (h:w.ownsRow base 23 size v n xs) (ht:TrIn w o):∀ b,v.ownBlock=some b->¬ cN o b:=by
 rcases h.2 with ⟨rfl,_⟩ | ⟨g',cap,cur,rfl,_,hgg,_⟩
 ·intro b hb;cases hb
 ·intro b hb;have e:g'=b:=by simpa [Value.ownBlock] using hb
  subst e;exact aI hgg ht (by decide) (by decide)

theorem xP {w:World} {base size n:Nat} {v u:Value} {xs:List Value} (h:w.ownsRow base 23 size v n xs) (hu:U64s w u):∀ b,u.ownBlock=some b->v.ownBlock≠some b:=by
 intro b hb e;obtain ⟨cs,fr,hg⟩:=hu b hb;rcases h.2 with ⟨rfl,_⟩ | ⟨g',cap,cur,rfl,_,hgg,_⟩
 ·cases e
 ·have e':g'=b:=by simpa [Value.ownBlock] using e
  subst e';rw [hgg] at hg;simp only [ik,Obj.cells.injEq] at hg;exact absurd hg.2.1 (by decide)

def Tab8 (w0 w:World) (xv v:Value) (n k:Nat) (A:Nat->Option Addr) (C:Nat->Nat) (V X:Nat):Prop:=
 w.ownsRow w0.heap.size 23 1 v k ((List.range k).map fun j=>.slice (A j) n (C j))/\∀ j,j<k->MonAt w (.slice (A j) n (C j)) n V (X^j)/\(Fresh w0 (.slice (A j) n (C j))\/Value.slice (A j) n (C j)=xv)

theorem Tab8.did {w0 w w':World} {o o':Tr} {m:List Ev} {xv v:Value} {n k V X:Nat} {A:Nat->Option Addr} {C:Nat->Nat} (h:Tab8 w0 w xv v n k A C V X) (d:Did w o m w' o') (ht:TrIn w o):Tab8 w0 w' xv v n k A C V X:=
 ⟨d.kept.own h.1 (mf h.1 ht),fun j hj=>⟨(h.2 j hj).1.did d ht,(h.2 j hj).2⟩⟩

theorem Tab8.grew {w0 w w':World} {xv v:Value} {n k V X:Nat} {A:Nat->Option Addr} {C:Nat->Nat} (h:Tab8 w0 w xv v n k A C V X) (kk:Kept af w w'):Tab8 w0 w' xv v n k A C V X:=
 ⟨kk.own h.1 (fun _ _ f=>f),fun j hj=>⟨(h.2 j hj).1.grew kk,(h.2 j hj).2⟩⟩

theorem Tab8.push {w0 W w4:World} {xv a:Value} {n k V X g c:Nat} {A:Nat->Option Addr} {C:Nat->Nat} {yo:Option Addr} {yc:Nat} (h:Tab8 w0 W xv a n k A C V X) (hy:MonAt W (.slice yo n yc) n V (X^k)) (hf:Fresh w0 (.slice yo n yc))
  (ho:w4.ownsRow w0.heap.size 23 1 (.slice (some ⟨g,0,none⟩) (k+1) c) (k+1) (((List.range k).map fun j=>.slice (A j) n (C j)) ++ [.slice yo n yc])) (hg:W.grownBy w4 a.ownBlock) :
  Tab8 w0 w4 xv (.slice (some ⟨g,0,none⟩) (k+1) c) n (k+1) (fun j=>if j=k then yo else A j) (fun j=>if j=k then yc else C j) V X:=by
 have kk:Kept (fun b=>a.ownBlock=some b) W w4:=(aj _ W).grown hg (fun b e _=>e);refine ⟨?_,fun j hj=>?_⟩
 ·rw [j5,dt,jC,j4];dsimp only;rw [ah rfl,ah rfl];have e:((List.range k).map fun j=>Value.slice (if j=k then yo else A j) n (if j=k then yc else C j))=(List.range k).map fun j=>Value.slice (A j) n (C j):=by
   refine List.map_congr_left (fun j hj=>?_);have:j<k:=List.mem_range.1 hj;rw [ai (by omega),ai (by omega)]
  rw [e];exact ho
 ·by_cases e:j=k
  ·subst e;dsimp only;rw [ah rfl,ah rfl];exact ⟨hy.kept kk (xP h.1 hy.2),.inl hf⟩
  ·dsimp only;rw [ai e,ai e];obtain ⟨h1,h2⟩:=h.2 j (by omega);exact ⟨h1.kept kk (xP h.1 h1.2),h2⟩

theorem Tab8.after {w0 W w:World} {xv v:Value} {n k V X:Nat} {A:Nat->Option Addr} {C:Nat->Nat} (h:Tab8 W w xv v n k A C V X) (kk:Kept af w0 W):Tab8 w0 w xv v n k A C V X:=
 ⟨cE h.1 (fun b e=>aR kk.size (World.ownsRow.lt h.1 b e).1),fun j hj=>⟨(h.2 j hj).1,(h.2 j hj).2.imp (fun f=>f.after kk) id⟩⟩

theorem Tab8.at {w0 w:World} {xv:Value} {n k c g V X:Nat} {A:Nat->Option Addr} {C:Nat->Nat} (h:Tab8 w0 w xv (.slice (some ⟨g,0,none⟩) k c) n k A C V X) {j:Nat} (hj:j<k):w.cell? ⟨g,j,none⟩=some (.slice (A j) n (C j)):=by
 rw [World.ownsRow.cellAt h.1 j (by omega),bu,List.getElem?_range hj];rfl

def jz (n:Nat) (k:Nat):List Ev:=jk n ++ (List.replicate k (fA n)).flatten

theorem tr (n k:Nat):jz n (k+1)=jz n k ++ fA n:=by
 unfold jz;rw [gG,List.flatten_append,dr];simp

theorem kQ {m:List Ev} {b:Nat} (h:m.length<=b):∀ k,(List.replicate k m).flatten.length<=k*b
 | 0=>by simp
 | k+1=>by
  have:=kQ h k;rw [iZ,List.flatten_cons,aZ,cJ];omega

theorem jA {n:Nat} (h:n<=130) (k:Nat):(jz n k).length<=2000+k*2000:=by
 obtain ⟨h1,h2,_⟩:=gU h;have:=kQ h1 k;unfold jz;rw [aZ];omega

theorem DW (o:Tr) (ao bo xo:Option Addr) (n l K a f xc X:Nat) (ms rs:List Nat) (w:World) (ht:TrRoom w o 40000) (hM:Mod8 w o ao bo n l K a f ms rs) (hx:MonAt w (.slice xo n xc) n (val ms) X) :
  Calls prog 242 #[aL o,.agg #[.slice ao n a,.int .u64 (K:Nat),.slice bo l f],.slice xo n xc] w fun e w'=>∃ g c,e=.returned (.slice (some ⟨g,0,none⟩) 16 c)/\(∃ A C,Tab8 w w' (.slice xo n xc) (.slice (some ⟨g,0,none⟩) 16 c) n 16 A C (val ms) X)/\∃ o',Did w o (jz n 14) w' o':=by
 obtain ⟨i0,ap,ay,az,aA⟩:=info_parts Tryz.info24;obtain ⟨j0,aq,ar,au,av⟩:=info_parts Tryz.infoP23;have E:∀ args w,(callFunc 126 args).run prog w=.ok (.enter 126 args) w:=fun _ _=>by simp [go_sem]
 have D:∀ args w,(callFunc 262 args).run prog w=.ok (.enter 262 args) w:=fun _ _=>by simp [go_sem]
 obtain ⟨⟨f0,f1⟩,f2,f3,f4,f5⟩:=hM.facts;obtain ⟨po,y⟩:=aK o;obtain ⟨V,hV⟩:∃ V,V=val ms:=⟨_,rfl⟩
 rw [<- hV] at f3 f4 f5 hx ⊢;obtain ⟨W,hW⟩:∃ W,W=w.alloc (.cells #[.slice ao n a,.int .u64 (K:Nat),.slice bo l f] 70):=⟨_,rfl⟩
 have k0:Kept af w W:=by rw [hW];exact (aj af w).alloc _
 have v:W.heap[w.heap.size]? = some (.cells #[.slice ao n a,.int .u64 (K:Nat),.slice bo l f] 70 (0,0)):=by rw [hW];exact heap_alloc_new _ _
 have JM:Hid (∀ W' m o',Did W o m W' o'->W'.cell? ⟨w.heap.size,0,none⟩=some (.slice ao n a)/\W'.cell? ⟨w.heap.size,1,none⟩=some (.int .u64 (K:Nat))/\W'.cell? ⟨w.heap.size,2,none⟩=some (.slice bo l f)):=fun W' m o' d=>aw ((d.kept.block _ (lt_of_block v) (aI v (ht.grew k0).1 (by decide) (by decide))).trans v)
 have JE:Hid (∀ W' g,Kept af W W'->OwnN .u64 24 W' g (.slice (some ⟨g,0,none⟩) n n) n (digs 1 n)->Calls prog 65 #[.pointer po,.agg #[.slice ao n a,.int .u64 (K:Nat),.slice bo l f],.slice (some ⟨g,0,none⟩) n n] W' fun e w'=>∃ zo zc,e=.returned (.tuple #[.slice zo n zc,.int .i64 0])/\MonAt w' (.slice zo n zc) n V 1/\Fresh W (.slice zo n zc)/\∃ o',Did W o (jk n) w' o'):=fun W' g k ho=>by
  have h1:val (digs 1 n)=1:=by rw [aB,ax (bd (by omega) (fE f5))]
  have:=Gx o ao bo (some ⟨g,0,none⟩) n l K a f n ms rs _ W' ((ht.grew (k0.trans k)).less (by omega)) (hM.grew (k0.trans k)) (fU ho (ag _ _ _) (ht.grew (k0.trans k)).1) (ak (by omega) _ _) (by rw [h1,<- hV];omega);rw [h1,y,<- hV] at this;refine this.mono ?_;rintro e w' ⟨zo,zc,rfl,hA,hF,o',d⟩;exact ⟨zo,zc,rfl,hA,hF.after k,o',Did.after k d⟩
 have JB:Hid (∀ W' m o' yo yc P,Did W o m W' o'->TrRoom W' o' 2000->MonAt W' (.slice yo n yc) n V P->Calls prog 126 #[.pointer po,.agg #[.slice ao n a,.int .u64 (K:Nat),.slice bo l f],.slice yo n yc,.slice xo n xc] W' fun e w'=>∃ zo zc,e=.returned (.tuple #[.slice zo n zc,.int .i64 0])/\MonAt w' (.slice zo n zc) n V (P*X)/\Fresh W' (.slice zo n zc)/\∃ o2,Did W' o' (fA n) w' o2):=fun W' m o' yo yc P d hr hA=>by
  have ai:=(hx.grew k0).did d (ht.grew k0).1;rw [hV] at hA ai;have:=G9 o' ao bo yo xo n l K a f yc xc P X ms rs W' hr ((hM.grew k0).did d) hA ai;rw [d.ptr,y,<- hV] at this;exact this
 have HX:Hid (∀ W' m o',Did W o m W' o'->MonAt W' (.slice xo n xc) n V X):=fun W' m o' d=>(hx.grew k0).did d (ht.grew k0).1
 have HT:=aa (ht.grew k0);have HI:Hid ((List.replicate n 0).set 0 1=digs 1 n):=by
  unfold Hid;obtain ⟨m,rfl⟩:∃ m,n=m+1:=⟨n-1,by omega⟩
  refine b8 (by omega) ?_ (by simp) ?_
  ·intro d hd;rcases mq hd with h | h
   ·rw [(eu.1 h).2];omega
   ·omega
  ·rw [iZ,lsZ,val,ep _ (fun d hd=>(eu.1 hd).2),ax (Nat.one_lt_pow (by omega) (by omega))]
 have aF:(0:Int)<(n:Int):=by omega
 obtain ⟨p0,p1,p2⟩:=aw v;have HW:=aa hW;have I:=aa k0;have z:=aa f1;rw [y];clear hW v k0 hM hx y hV f2 f3 f4 f5 ht;go_enter func242,ntmps242
 go_wp2_with (at_make;rw [<- HW.out];refine wpList_make_full _ rfl _ _ 23 rfl W.heap.size 24 i0 _ 1 underlying23 ap ay az _ _ _ _ n rfl rfl rfl rfl (by rw [aA];omega) (by unfold maxLen;omega) (leR _) ?_;intro w3 s Z;rw [bg] at s;have k3:=aV Z;have Y:=World.ownsRow.cellAt s 0 (by omega);have an:=World.ownsRow.frozenAt s 0;rw [bu,ee,ah f0] at Y;have k4:Kept af W (w3.setCell ⟨W.heap.size,0,none⟩ (.int .u64 1)):=eZ k3 ((aj (fun b=>b=W.heap.size) w3).setCell ⟨W.heap.size,0,none⟩ (fun _=>rfl) _) (leR _);obtain ⟨q0,q1,q2⟩:=JM.out _ _ _ (Did.of_kept k4 HT.out.1);clear Z)
 have ab:OwnN .u64 24 (w3.setCell ⟨W.heap.size,0,none⟩ (.int .u64 1)) W.heap.size (.slice (some ⟨W.heap.size,0,none⟩) n n) n (digs 1 n):=by
  have:=(World.ownsRow.stored s 0 (.int .u64 1)).1;unfold OwnN;rw [<- HI.out,bZ];exact this
 have hE:=JE.out _ _ k4 ab;generalize w3.setCell ⟨W.heap.size,0,none⟩ (.int .u64 1)=w4 at *;clear s Y an k3 p0 p1 p2 ab JE HI;refine hE.mono ?_;rintro e w5 ⟨zo,zc,rfl,O,S,o5,d5⟩;have hS:=qR zo n zc w5;clear hE q0 q1 q2;go_wp2_with fail;refine hS.mono ?_;rintro e w6 ⟨rfl,rfl⟩;have k6:Kept af w6 (w6.alloc (.cells #[.slice zo n zc,.slice xo n xc] 23)):=(aj af w6).alloc _;have H:=aa (d5.grew k6);have q:Hid (∃ A C,Tab8 W (w6.alloc (.cells #[.slice zo n zc,.slice xo n xc] 23)) (.slice xo n xc) (.slice (some ⟨w6.heap.size,0,none⟩) 2 2) n 2 A C V X):=by
  refine ⟨fun j=>if j=0 then zo else xo,fun j=>if j=0 then zc else xc,?_,fun j hj=>?_⟩
  ·exact World.ownsRow_lit (base:=W.heap.size) (e:=23) (size:=1) w6 #[.slice zo n zc,.slice xo n xc] 2 d5.size (by unfold maxLen;omega) rfl
  ·have al:j=0\/j=1:=by omega
   rcases al with rfl | rfl
   ·exact ⟨O.grew k6,.inl S⟩
   ·refine ⟨?_,.inr rfl⟩;have:=(HX.out _ _ _ d5).grew k6;rw [jG];exact this
 clear hS O S d5 k6 HX;go_wp2_with fail;go_loopw [8,25] (fun lv i wr=>∃ (k N g c:Nat) (o1:Tr),k<=14/\i=.int .i64 (k:Int)/\lv=.slice (some ⟨g,0,none⟩) N c/\Hid (N=k+2)/\Hid (∃ A C,Tab8 W wr (.slice xo n xc) (.slice (some ⟨g,0,none⟩) N c) n N A C V X)/\Hid (Did W o (jz n k) wr o1)) (fun _ i _=>14-(intOf i).toNat)
 case atStart=>exact ⟨0,2,w6.heap.size,2,o5,by omega,rfl,rfl,rfl,q.out,by unfold Hid jz;rw [eH,List.flatten_nil,dI];exact H.out⟩
 case round=>
  obtain ⟨k,N,g,c,o1,hk,rfl,rfl,HN,x,HD⟩:=hrel;clear q H;by_cases hk14:k<14
  ·have gk:(k:Int)<14:=by omega
   obtain ⟨A,C,p⟩:=x.out;obtain ⟨J,hJ⟩:∃ J,J=k+1:=⟨_,rfl⟩
   have gJ:IntKind.i64.wrap (J:Int)=(J:Int):=by rw [IntKind.wrap_i64];omega
   have aC:(k:Int)+1=(J:Int):=by omega
   have aD:(0:Int)<=(J:Int):=by omega
   have aE:(J:Int)<(N:Int):=by have:=HN.out;omega
   have am:=p.at (j:=J) (by omega);have ae:TrIn wr o1:=(HD.out.room (k:=0) (HT.out.less (by have:=jA z.out k;omega))).1;have kd:Kept af wr wr.drew:=(aj af wr).drew;have r:=JB.out wr.drew _ o1 (A J) (C J) (X^J) (HD.out.grew kd) ((HD.out.grew kd).room (HT.out.less (by have:=jA z.out k;omega))) ((p.2 J (by omega)).1.grew kd);obtain ⟨q0,q1,q2⟩:=JM.out _ _ _ HD.out;have L:=aa ae;have M:=aa p;have HJ:=aa hJ;clear ae p hJ x;go_wp2_with fail;go_region_law (first
    | (refine iy 126 _ _ _ (by rfl) (by rfl) (by rfl) E r ?_;rintro e w7 ⟨yo,yc,rfl,Q,T,o7,d7⟩;refine ⟨_,rfl,?_⟩)
    | (refine iy 262 _ _ _ (by rfl) (by rfl) (by rfl) D (qR yo n yc w7) ?_;rintro e w8 ⟨rfl,rfl⟩;refine ⟨_,rfl,?_⟩;have ac:=(((M.out.grew kd).did d7 (L.out.grew kd)).grew ((aj af w8).alloc (.cells #[.slice yo n yc] 23))).1)
    | (refine step_append_lies _ (by rfl) _ _ _ (by rfl) W.heap.size 23 j0 _ 1 24 underlying58 aq ar au av rfl (by omega) _ _ _ (by rfl) ac ⟨w8.heap.size,0,none⟩ 1 1 [.slice yo n yc] (by rfl) (by rfl) (io w8 _ _) (by simp [Value.oneCell']) (by omega) (by unfold maxLen;have:=HN.out;omega) (by have:=HN.out;omega) (by have:=HD.out.size;have:=d7.size;simp;simp at this;omega) (w8.heap.size+1) (by simp) ?_;intro gg c' w9 ad F B G))
   all_goals
    have ka:Kept af w8 (w8.alloc (.cells #[.slice yo n yc] 23)):=(aj af w8).alloc _;have t8:=((M.out.grew kd).did d7 (L.out.grew kd)).grew ka;have R:MonAt (w8.alloc (.cells #[.slice yo n yc] 23)) (.slice yo n yc) n V (X^N):=by
     have:=Q.grew ka;rw [HJ.out,<- aH] at this;rw [HN.out];exact this
    have U:Fresh W (.slice yo n yc):=fun b hb=>aR HD.out.size (T b hb)
    have T9:=aa (t8.push R U ad F);have dd:=((HD.out.grew kd).trans d7).grew ka;rw [<- tr] at dd;have t:=(dd.room (k:=0) (HT.out.less (by have:=jA z.out (k+1);omega))).1;have kg:Kept (fun b=>b=g) (w8.alloc (.cells #[.slice yo n yc] 23)) w9:=(aj _ _).grown F (fun b e _=>by
     have e':g=b:=by simpa [Value.ownBlock] using e
     exact e'.symm)
    have D9:=aa (dd.wroteNew kg (World.ownsRow.lt t8.1 g rfl).1 (mf t8.1 t g rfl));clear ka t8 R U dd t kg ac ad F B G Q T d7 r q0 q1 q2 am;go_wp2_with fail;go_roundw
    case rel=>exact ⟨k+1,N+1,gg,c',o7,by omega,by go_num,rfl,by have:=HN.out;unfold Hid;omega,⟨_,_,T9.out⟩,D9.out⟩
    case measure=>simp [intOf];omega
  ·have gk:¬ (k:Int)<14:=by omega
   obtain rfl:k=14:=by omega
   obtain rfl:N=16:=HN.out;obtain ⟨A,C,p⟩:=x.out;have q:=aa p;clear p x;go_wp2_with fail;go_ret;exact ⟨_,_,rfl,⟨A,C,q.out.after I.out⟩,o1,Did.after I.out HD.out⟩

open Go.RowKit Go.Shelf

attribute [local go_sem] Oper.semAt_some

def MonR (w:World) (v:Value) (n V P:Nat):Prop:=Row .u64 w v (digs (mon n V P) n)

theorem MonR.grew {w w':World} {v:Value} {n V P:Nat} (h:MonR w v n V P) (k:Kept af w w'):MonR w' v n V P:=Row.grew h k

theorem MonR.shape {w:World} {v:Value} {n V P:Nat} (h:MonR w v n V P):∃ xo xc,v=.slice xo n xc:=by
 obtain ⟨xo,xn,xc,rfl,hl,_⟩:=Row.open h;have:=hl.out;rw [ag] at this;subst this;exact ⟨_,_,rfl⟩

theorem Iz (ao bo xo yo:Option Addr) (n l K a b xc yc P Q:Nat) (ms rs:List Nat) (w:World) (hM:Mod8 w none ao bo n l K a b ms rs) (hx:MonR w (.slice xo n xc) n (val ms) P) (hy:MonR w (.slice yo n yc) n (val ms) Q) :
  Calls prog 126 #[.pointer none,.agg #[.slice ao n a,.int .u64 (K:Nat),.slice bo l b],.slice xo n xc,.slice yo n yc] w fun e w'=>∃ zo zc,e=.returned (.tuple #[.slice zo n zc,.int .i64 0])/\MonR w' (.slice zo n zc) n (val ms) (P*Q)/\Fresh w (.slice zo n zc)/\Kept af w w':=by
 obtain ⟨⟨f0,f1⟩,f2,f3,f4,f5⟩:=hM.facts;have hV:0<val ms:=by omega
 have ex:=kt (P:=P) hV f5;have ey:=kt (P:=Q) hV f5;refine (Fj none ao bo xo yo n l K a b n n xc yc 0 ms rs _ _ w (TrRoom.none w _ (by omega)) hM.hm hM.hr (RowT.none hx) (RowT.none hy) hM.hmd hM.hrd (ak (by omega) _ _) (ak (by omega) _ _) hM.hK (by omega) ⟨fun _=>⟨hM.ok,⟨rfl,by rw [ex];exact me hV⟩,rfl,by rw [ey];exact me hV⟩,fun _=>rfl⟩ (by omega)).mono ?_;rintro e w' ⟨v',rfl,⟨Y,hR,hG⟩,⟨hF,hU⟩,o',d⟩;rw [ah rfl] at hR;have c:=hG rfl;rw [ex,ey] at c;rw [vY f3 c.1 c.2] at hR;have hA:MonR w' v' n (val ms) (P*Q):=hR;obtain ⟨zo,zc,rfl⟩:=hA.shape;exact ⟨zo,zc,rfl,hA,hF,d.none.2⟩

theorem ID (ao bo:Option Addr) (n l K a b:Nat) (ms rs:List Nat) (w:World) (hM:Mod8 w none ao bo n l K a b ms rs) :
  Calls prog 124 #[.agg #[.slice ao n a,.int .u64 (K:Nat),.slice bo l b]] w fun e w'=>∃ zo zc,e=.returned (.slice zo n zc)/\MonR w' (.slice zo n zc) n (val ms) 1/\Kept af w w':=by
 obtain ⟨⟨f0,f1⟩,f2,f3,f4,f5⟩:=hM.facts;refine (Iy ao bo n l K a b ms rs (digs (mon n (val ms) 1) n) w hM.hm.1 hM.hr.1 hM.hmd hM.hrd hM.hK (by omega) (fun _=>by unfold mon;rw [bD]) (fun h=>absurd hM.ok h)).mono ?_;rintro e w' ⟨v',rfl,hR,k⟩;have hA:MonR w' v' n (val ms) 1:=hR;obtain ⟨zo,zc,rfl⟩:=hA.shape;exact ⟨zo,zc,rfl,hA,k⟩

structure RS9 (W1 W w:World) (bP n V P:Nat) (qv:Value):Prop where
 box:Box w bP qv 23
 num:MonR w qv n V P
 ne:∀ b,qv.ownBlock=some b->b≠bP
 old:Kept af W1 w
 kept:Kept (fun b=>b=bP) W w

theorem RS9.step {W1 W w w':World} {bP n V P:Nat} {qv:Value} (h:RS9 W1 W w bP n V P qv) (k:Kept af w w'):RS9 W1 W w' bP n V P qv:=
 ⟨h.box.grew k,h.num.grew k,h.ne,h.old.trans k,h.kept.next k (fun _ _ f=>f.elim)⟩

theorem RS9.put {W1 W w:World} {bP n V P Q:Nat} {qv zv:Value} (h:RS9 W1 W w bP n V P qv) (hz:MonR w zv n V Q) (a:∀ b,zv.ownBlock=some b->b≠bP) (hb:W1.heap.size<=bP):RS9 W1 W (w.setCell ⟨bP,0,none⟩ zv) bP n V Q zv:=by
 have kb:=aD w bP zv;exact ⟨h.box.set zv,Row.kept hz kb a,a,eZ h.old kb hb,h.kept.next kb (fun _ _ f=>f)⟩

def mF {N:Nat} (g:Nat->Nat) (pre:List (Fin N)):Nat:=tT (pre.map fun x=>g x.val)

theorem qf {N:Nat} (g:Nat->Nat) (a:List (Fin N)) (x:Fin N):mF g (a ++ [x])=2*mF g a+g x.val:=by
 unfold mF;rw [dt,jC,j4,qg]

theorem zX {N:Nat} {g:Nat->Nat} {ys:List (Fin N)} (h:ys.map Fin.val=List.range N):mF g ys=tT ((List.range N).map g):=by
 unfold mF;rw [<- h,List.map_map];rfl

def Btw9 (W1:World) (bP n V X:Nat) (ev:Value) {N:Nat} (g:Nat->Nat) (pre:List (Fin N)) (W:World):Prop:=
 ∃ (qo:Option Addr) (qc:Nat),RS9 W1 W W bP n V (X^mF g pre) (.slice qo n qc)/\Box W (bP+1) ev 23

theorem Btw9.turn {W1:World} {bP n V X N B:Nat} {ev:Value} {g:Nat->Nat} {a:List (Fin N)} {W W':World} (h:Btw9 W1 bP n V X ev g a W) (t:Turn B W W') (hB:W1.heap.size<=B):Btw9 W1 bP n V X ev g a W':=by
 obtain ⟨qo,qc,h1,h2⟩:=h;exact ⟨qo,qc,⟨t.cells h1.box,t.row h1.num,h1.ne,t.kept h1.old hB,aj _ _⟩,t.cells h2⟩

theorem DB (ao bo xo eo:Option Addr) (n l0 K d i xc L a X:Nat) (ms rs ys:List Nat) (w:World) (hM:Mod8 w none ao bo n l0 K d i ms rs) (hx:MonR w (.slice xo n xc) n (val ms) X)
  (he:Row .u64 w (.slice eo L a) ys) (ar:Digs ys) (hL:L<=300) :
  Calls prog 67 #[.agg #[.slice ao n d,.int .u64 (K:Nat),.slice bo l0 i],.slice xo n xc,.slice eo L a] w fun e w'=>∃ zo zc,e=.returned (.slice zo n zc)/\MonR w' (.slice zo n zc) n (val ms) (X^val ys)/\Kept af w w':=by
 obtain ⟨⟨f0,f1⟩,f2,f3,f4,f5⟩:=hM.facts;obtain ⟨V,hV⟩:∃ V,V=val ms:=⟨_,rfl⟩
 rw [<- hV] at f3 f4 f5 hx ⊢;obtain ⟨W0,C⟩:∃ W0,W0=(w.alloc (.cells #[.slice ao n d,.int .u64 (K:Nat),.slice bo l0 i] 70)).alloc (.cells #[.slice xo n xc] 23):=⟨_,rfl⟩
 have k0:Kept af w W0:=by rw [C];exact ((aj af w).alloc _).alloc _
 have S:W0.heap[w.heap.size]? = some (.cells #[.slice ao n d,.int .u64 (K:Nat),.slice bo l0 i] 70 (0,0)):=by
  rw [C];exact au (heap_alloc_new w _)
 have ai:Box W0 (w.heap.size+1) (.slice xo n xc) 23:=by
  rw [C];have:=Box.new (w.alloc (.cells #[.slice ao n d,.int .u64 (K:Nat),.slice bo l0 i] 70)) (.slice xo n xc) 23
  rwa [show (w.alloc (.cells #[.slice ao n d,.int .u64 (K:Nat),.slice bo l0 i] 70)).heap.size=w.heap.size+1 by simp] at this
 have JC:Hid (∀ W,Kept af W0 W->W.cell? ⟨w.heap.size,0,none⟩=some (.slice ao n d)/\W.cell? ⟨w.heap.size,1,none⟩=some (.int .u64 (K:Nat))/\W.cell? ⟨w.heap.size,2,none⟩=some (.slice bo l0 i)/\W.cell? ⟨w.heap.size+1,0,none⟩=some (.slice xo n xc)):=fun W k=>by
  obtain ⟨q0,q1,q2⟩:=aw ((k.block _ (lt_of_block S) (fun f=>f)).trans S);exact ⟨q0,q1,q2,(ai.grew k).cell⟩
 have z:Hid (Calls prog 124 #[.agg #[.slice ao n d,.int .u64 (K:Nat),.slice bo l0 i]] W0 fun e w'=>∃ zo zc,e=.returned (.slice zo n zc)/\MonR w' (.slice zo n zc) n V 1/\Kept af W0 w'):=by
  have:=ID ao bo n l0 K d i ms rs W0 (hM.grew k0);rw [<- hV] at this;exact this
 have y:Hid (∀ W yo yc zo zc P Q,Kept af W0 W->MonR W (.slice yo n yc) n V P->MonR W (.slice zo n zc) n V Q->Calls prog 126 #[.pointer none,.agg #[.slice ao n d,.int .u64 (K:Nat),.slice bo l0 i],.slice yo n yc,.slice zo n zc] W fun e w'=>∃ ro rc,e=.returned (.tuple #[.slice ro n rc,.int .i64 0])/\MonR w' (.slice ro n rc) n V (P*Q)/\Fresh W (.slice ro n rc)/\Kept af W w'):=fun W yo yc zo zc P Q k hA hB=>by
  rw [hV] at hA hB ⊢;exact Iz ao bo yo zo n l0 K d i yc zc P Q ms rs W (hM.grew (k0.trans k)) hA hB
 have JX:Hid (∀ W,Kept af W0 W->MonR W (.slice xo n xc) n V X):=fun W k=>hx.grew (k0.trans k)
 have O:Hid (∀ W,Kept af W0 W->Row .u64 W (.slice eo L a) ys):=fun W k=>he.grew (k0.trans k)
 obtain ⟨_,_,_,e1,o,_⟩:=he.open;cases e1
 have M:=aa o;have q:Hid (∀ b,(Value.slice eo L a).ownBlock=some b->0<L->b<w.heap.size):=fun b hb hp=>he.lt (by intro e;rw [e] at o;have:=o.out;simp at this;omega) b hb
 have ap:=aa C;have v:=aa k0;have am:=aa f0;obtain ⟨c0,c1,c2,c3⟩:=JC.out _ (aj af W0);have hO:=z.out;clear C k0 S ai hM hx he o hV f0 f2 f3 z;refine (callsIn_wide (n:=9)).1 ?_;refine callsIn_of_wp_marks func67 rfl trivial ?_ rfl;simp only [ntmps67,iF,cI,eS,Nat.reduceAdd,Nat.reduceSub,iB,iC,iE,iD,bw,fd];refine wpIn_wide.2 ?_;go_wp2_with (rw [<- ap.out]);refine hO.mono ?_;rintro e W1 ⟨po,pc,rfl,T,k1⟩;clear hO c0 c1 c2 c3;go_wp2_with fail;have ah:=FR eo L a (W1.alloc (.cells #[.slice po n pc] 23))
 refine ah.mono ?_;rintro e W3 ⟨rfl,rfl⟩;have kP:Kept af W1 (W1.alloc (.cells #[.slice po n pc] 23)):=(aj af W1).alloc _;have kE:=kP.alloc (.cells #[.slice eo L a] 23);have Z:=(Box.new W1 (.slice po n pc) 23).alloc (.cells #[.slice eo L a] 23);have R:=Box.new (W1.alloc (.cells #[.slice po n pc] 23)) (.slice eo L a) 23;have av:((W1.alloc (.cells #[.slice po n pc] 23)).alloc (.cells #[.slice eo L a] 23)).heap.size=W1.heap.size+2:=by simp
 rw [World.size_alloc] at R;have U:=O.out _ (k1.trans kE);have E:∀ b,(Value.slice po n pc).ownBlock=some b->b≠W1.heap.size:=fun b hb e=>by
  have:=Row.lt T (by intro h;have h1:=congrArg List.length h;rw [ag] at h1;have h2:n=0:=h1;have:=am.out;omega) b hb;omega
 have R0:Hid (RS9 W1 _ _ W1.heap.size n V 1 (.slice po n pc)):=aa ⟨Z,T.grew kE,E,kE,aj _ _⟩;obtain ⟨N,hN⟩:∃ N,aM (val ys)=N:=⟨_,rfl⟩
 obtain ⟨g,hg⟩:∃ g:Nat->Nat,∀ j,val ys/2^(N-1-j)%2=g j:=⟨_,fun _=>rfl⟩
 have HG:=aa hg;have HN:=aa hN;have K1:=aa k1;clear ah kP Z T E;go_wp2_with fail;generalize (W1.alloc (.cells #[.slice po n pc] 23)).alloc (.cells #[.slice eo L a] 23)=W3 at *;refine (wpIn_wide (n:=9)).1 ?_;refine wpIn_rangeFunc_ownG (F:=Fence.wide) (n:=9) rfl (by omega) (gf:=179) (lb:=#[.pointer (some ⟨W1.heap.size+1,0,none⟩)]) rfl trivial (enters_of func179 (by kernel_rfl) rfl)
  (Bz 8 (by omega) (W1.heap.size+1) L N g (.slice eo L a) ys ar M.out.out hN (by omega) hg (fun k=>k=W1.heap.size+1\/((Value.slice eo L a).ownBlock=some k/\0<L)) (.inl rfl) (fun b hb hp=>.inr ⟨hb,hp⟩) _ ?hsw R.cell U) KeepB.trans (KeepB.put ?hsw2) (Below.refl _ _) (fun _=>rfl)
  (Btw9 W1 W1.heap.size n V X (.slice eo L a) g) (fun _ _ _=>False)
  (mV (fun s A B hs t=>hs.turn t (by rw [av];omega))) (fun _ _ _ _ _ hs _ _=>hs)
  ⟨po,pc,by have:=R0.out;exact this,R⟩
  ?act ?assign ?body ?done ?stop
 case hsw=>
  rintro k (rfl | ⟨hk,hp⟩)
  ·omega
  ·have:=q.out k hk hp;have:=v.out.size;have:=K1.out.size;omega
 case hsw2=>
  rintro k (rfl | ⟨hk,hp⟩)
  ·omega
  ·have:=q.out k hk hp;have:=v.out.size;have:=K1.out.size;omega
 case assign=>
  intro l x W K hK
  gi_wp2
  exact hK
 case body=>
  rintro l p x W ⟨qo,qc,R1,J⟩ hlt;have Y:=aa J;have HX:Hid (g x.val<2):=by rw [<- HG.out];exact ay _ (by omega)
  have HR:=aa R1;have r:Hid (∀ (wE:World) (I:Option Addr) (tc:Nat),RS9 W1 W wE W1.heap.size n V (X^mF g (p ++ [x])) (.slice I n tc)->KeepsFrom W3.heap.size W wE/\KeepB (fun k=>k=W1.heap.size+1\/((Value.slice eo L a).ownBlock=some k/\0<L)) W wE/\Btw9 W1 W1.heap.size n V X (.slice eo L a) g (p ++ [x]) wE):=fun wE I tc RE=>by
   have al:Box wE (W1.heap.size+1) (.slice eo L a) 23:=Y.out.kept RE.kept (by omega);refine ⟨kU RE.kept (fun b hb _=>?_),?_,I,tc,⟨RE.box,RE.num,RE.ne,RE.old,aj _ _⟩,al⟩
   ·subst hb;exact ⟨_,_,_,HR.out.box⟩
   ·rintro k (rfl | ⟨hk,hp⟩)
    ·exact (show wE.heap[_]? = _ from al).trans (show W.heap[_]? = _ from Y.out).symm
    ·have h1:=q.out k hk hp;have h2:=v.out.size;have h3:=K1.out.size;have h4:=HR.out.old.size;exact RE.kept.block k (by omega) (by omega)
  obtain ⟨q0,q1,q2,q3⟩:=JC.out _ (K1.out.trans R1.old);have qP:=R1.box.cell;have fP:=R1.box.free;have m:=y.out W qo qc qo qc _ _ (K1.out.trans R1.old) R1.num R1.num;rw [<- aN] at m;clear R1 J
  gi_wp2_with fail
  refine ⟨trivial,?_⟩;refine (CallsIn.inRound l (callsIn_wide.2 m)).mono ?_;rintro e w7 ⟨so,sc,rfl,ab,ad,d7⟩;have R7:=HR.out.step d7;have G:∀ b,(Value.slice so n sc).ownBlock=some b->b≠W1.heap.size:=fun b hb e=>by
   have h1:=ad b hb;have h2:=HR.out.box.lt;omega
  have R8:=aa (R7.put ab G (leR _));have aA:=R7.box.cell;have ax:=R7.box.free;clear m ab ad d7 G R7 q0 q1 q2 q3 qP fP;by_cases h1:g x.val=1
  ·obtain ⟨q0,q1,q2,q3⟩:=JC.out _ (K1.out.trans R8.out.old);have qP:=R8.out.box.cell;have fP:=R8.out.box.free;have m:=y.out _ so sc xo xc _ _ (K1.out.trans R8.out.old) R8.out.num (JX.out _ (K1.out.trans R8.out.old));rw [<- aH,show (mF g p+mF g p).succ=mF g (p ++ [x]) by rw [qf,h1];omega] at m;have gx:((g x.val:Nat):Int)=1:=by omega
   clear h1
   gi_wp2_with fail
   refine ⟨trivial,?_⟩;refine (CallsIn.inRound l (callsIn_wide.2 m)).mono ?_;rintro e w9 ⟨I,tc,rfl,ac,ae,d9⟩;have R9:=R8.out.step d9;have H:∀ b,(Value.slice I n tc).ownBlock=some b->b≠W1.heap.size:=fun b hb e=>by
    have h1:=ae b hb;have h2:=R8.out.box.lt;omega
   have aq:=aa (R9.put ac H (leR _));have aB:=R9.box.cell;have az:=R9.box.free;clear m ac ae d9 H R9 q0 q1 q2 q3 qP fP
   gi_wp2_with fail
   exact r.out _ _ _ aq.out
  ·have gx:¬ ((g x.val:Nat):Int)=1:=by omega
   have R9:=R8.out;rw [show mF g p+mF g p=mF g (p ++ [x]) by rw [qf];have:=HX.out;omega] at R9;have an:=aa R9;clear h1 R9
   gi_wp2_with fail
   exact r.out _ _ _ an.out
 case done=>
  rintro D zs W hD ak ⟨qo,qc,R1,J⟩ hK;have qP:=R1.box.cell;have hE:mF g zs=val ys:=by
   rw [zX ak,show g=fun j=>val ys/2^(N-1-j)%2 from funext (fun j=>(HG.out j).symm)];exact Cl HN.out
  rw [hE] at R1;have HR:=aa R1;have HK:=aa hK;clear hE ak R1 J hg hN hK;go_wp2_with fail;refine ⟨by simp,.inl ⟨_,_,rfl,run_takeDeferred HK.out,?_⟩⟩;have tt:=tI (B:=W3.heap.size) hD HK.out rfl (.deferred none);exact ⟨_,results_tmp rfl _ _ _,qo,qc,rfl,tt.row HR.out.num,tt.kept (v.out.trans (K1.out.trans HR.out.old)) (by have h1:=v.out.size;have h2:=K1.out.size;omega)⟩
 case stop=>
  rintro D c p W _ _ h _;exact h.elim

end Go.Proofs.YtkaojflnghfmcaaGreatDoor
