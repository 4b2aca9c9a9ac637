/- Put together of: Kex1 Kex2 Law10. -/
import Derived.Test.YtkaojflnghfmcaaGreatDoorQC24
import Derived.Test.YtkaojflnghfmcaaGreatDoorQC29

namespace Go.Proofs.YtkaojflnghfmcaaGreatDoor
open _root_.Go.Proofs.Tryz
set_option maxRecDepth 100000
set_option maxHeartbeats 4000000
open Go.RowKit

theorem uy (p:Addr) (w:World) :
  CallsD prog 153 #[.pointer (some p)] .returning w fun e u' w'=>e=.returned (.tuple #[])/\u'=.returning/\w'=w:=by
 refine callsD_of_wpS func153 rfl fun c₀ cs hu=>?_
 apply wpS_seq;apply wpS_region;simp [wpOpsS,go_sem,recoverD,hu,ntmps153,Exit.thenS];apply wpS_seq;apply wpS_seq;apply wpS_region;simp [wpOpsS,go_sem,Exit.thenS];refine wpS_cond (t:=true) (by simp [Act.eval,Array.replicate]) ?_;simp only [if_true];refine wpS_of_wp (wp_ret ?_);cases c₀
 simp_all [bodyPostS,results,results153,Exit.thenS]

theorem EZ (p:Addr) (x n:Int) (a:List PanicEntry) (w:World) (hc:w.cell? p=some (.int .i64 x)) (hz:w.frozen? p=false) :
  CallsD prog 153 #[.pointer (some p)] (.panicking (refusal n :: a)) w fun e u' w'=>
   e=.returned (.tuple #[])/\u'=.panicking ({ refusal n with recovered:=true } :: a)/\w'=w.setCell p (.int .i64 n):=by
 refine callsD_of_wpS func153 rfl fun c₀ cs hu=>?_
 apply wpS_seq;apply wpS_region;simp [wpOpsS,go_sem,recoverD,hu,ntmps153,Exit.thenS];apply wpS_seq;apply wpS_seq;apply wpS_region;simp [wpOpsS,go_sem,Exit.thenS];refine wpS_cond (t:=false) (by simp [Act.eval,Array.replicate]) ?_;simp only [kZ,if_false];refine wpS_of_wp (wp_skip ?_);simp only [Exit.thenS];refine wpS_of_wp ?_;have c:∀ w:World,(Instr.typeAssert (.iface 32 (.int .i64 n)) 20 32 true).run prog w=.ok (.tuple #[.int .i64 n,.bool true]) w:=fun w=>by kernel_rfl
 have b:∀ (x:Bool) (w:World),(Op.unary .not (.bool x)).run prog w=.ok (.bool (!x)) w:=fun _ _=>rfl
 have e:(#[Value.pointer (some p)] ++ ((((Array.replicate 15 undef).setIfInBounds 3 (Value.iface 32 (Value.int IntKind.i64 n))).setIfInBounds 0 (Value.iface 32 (Value.int IntKind.i64 n))).setIfInBounds 4 (Value.iface 32 (Value.int IntKind.i64 n))).setIfInBounds 5 (Value.bool false):Array Value)=#[.pointer (some p),.iface 32 (.int .i64 n),undef,undef,.iface 32 (.int .i64 n),.iface 32 (.int .i64 n),.bool false,undef,undef,undef,undef,undef,undef,undef,undef,undef]:=rfl;rw [e];clear e;go_wp2;simp [bodyPostS,results,results153]

theorem mO (f:Nat) (b:Array Value) (w:World) (Q:Int->World->Prop) (he:∀ args w,(callFunc f args).run prog w=.ok (.enter f args) w)
  (h:Calls prog f b (w.alloc (.cells #[.int .i64 0] 32)) fun e w'=>w'.heap[w.heap.size]? = some (.cells #[.int .i64 0] 32 (0,0)) /\
   ((e=.returned (.tuple #[])/\Q 0 w')\/∃ n,e=.panicked [refusal n]/\Q n w')) :
  Calls prog 103 #[.func (.func f) #[] b] w fun e w'=>∃ n w1,e=.returned (.int .i64 n)/\(Q n w1/\w1.heap[w.heap.size]? = some (.cells #[.int .i64 0] 32 (0,0)))/\w'=w1.setCell ⟨w.heap.size,0,none⟩ (.int .i64 n):=by
 have d:=im;go_enter_defers func103,ntmps103
 go_wp2_with fail;refine h.mono ?_;rintro e w1 ⟨hb,(⟨rfl,hq⟩ | ⟨n,rfl,hq⟩)⟩
 ·have hc:w1.cell? ⟨w.heap.size,0,none⟩=some (.int .i64 0):=by simp [World.cell?,hb]
  have hz:w1.frozen? ⟨w.heap.size,0,none⟩=false:=by simp [World.frozen?,hb]
  clear h;go_wp2_with fail;refine leaves_cons (f:=153) (args:=#[.pointer (some ⟨w.heap.size,0,none⟩)]) (by simp) (by simp [go_sem]) ?_;refine (uy ⟨w.heap.size,0,none⟩ _).mono ?_;rintro e u' c ⟨rfl,rfl,rfl⟩;have a:(w1.setCell ⟨w.heap.size,0,none⟩ (.int .i64 0)).cell? ⟨w.heap.size,0,none⟩=some (.int .i64 0):=World.cell?_setCell_same' _ _ _ (by rw [hc];rfl);simp [Leaves,settle,results,results103,go_sem,a];exact ⟨_,⟨hq,hb⟩,rfl⟩
 ·have hc:w1.cell? ⟨w.heap.size,0,none⟩=some (.int .i64 0):=by simp [World.cell?,hb]
  have hz:w1.frozen? ⟨w.heap.size,0,none⟩=false:=by simp [World.frozen?,hb]
  clear h;refine leaves_cons (f:=153) (args:=#[.pointer (some ⟨w.heap.size,0,none⟩)]) (by simp) (by simp [go_sem]) ?_;refine (EZ ⟨w.heap.size,0,none⟩ 0 n [] _ hc hz).mono ?_;rintro e u' c ⟨rfl,rfl,rfl⟩;have a:(w1.setCell ⟨w.heap.size,0,none⟩ (.int .i64 n)).cell? ⟨w.heap.size,0,none⟩=some (.int .i64 n):=World.cell?_setCell_same' _ _ _ (by rw [hc];rfl);simp [Leaves,settle,results,results103,go_sem,a];exact ⟨_,⟨hq,hb⟩,rfl⟩

theorem de (n:Int) (w:World):Calls prog 107 #[.bool false,.int .i64 n] w fun e w'=>e=.returned (.tuple #[])/\w'=w:=by
 go_enter func107,ntmps107;go_wp2;go_end0
 exact ⟨rfl,rfl⟩

theorem dM (n:Int) (w:World):Calls prog 107 #[.bool true,.int .i64 n] w fun e w'=>e=.panicked [refusal n]/\w'=w:=by
 go_enter func107,ntmps107;go_wp2;exact ⟨rfl,rfl,rfl⟩

theorem lZ (ao:Option Addr) (n a:Nat) (w:World):Calls prog 160 #[.slice ao n a,.int .i64 0] w fun e w'=>e=.returned (.slice ao n a)/\w'=w:=by
 have hR:=de 0 w;go_enter func160,ntmps160;go_wp2_with fail;refine hR.mono ?_;rintro e w' ⟨rfl,rfl⟩;go_wp2;go_ret;exact ⟨rfl,rfl⟩

theorem ip (x:Nat):val [x]=x:=by simp [val]

theorem nT {x:Nat} (hx:x<18446744073709551616):digs x 1=[x]:=iX x 0 hx

theorem pg {V n:Nat} (h:V<18446744073709551616^n) (hn:n<=300):dF V (n:Int)=0/\ei V (n:Int)=digs V n:=by
 have hw:=(aG V n).2 h;have e:dF V (n:Int)=0:=by
  unfold dF;rw [ai (by omega),ai (by omega)]
 exact ⟨e,by unfold ei;rw [ah e];rfl⟩

theorem gh (V:Nat):ar V=(aM V+63)/64:=by
 unfold ar aM;by_cases h:V=0
 ·rw [ah h,ah h]
 ·rw [ai h,ai h];omega

theorem kT (n s q:Nat) (hq:q=(n+s-1)/s) (hn:n<=1000000000000) (b:0<s) (hs:s<=64) (w:World) :
  Calls prog 109 #[.int .i64 (n:Int),.int .i64 (s:Int)] w fun e w'=>e=.returned (.int .i64 (q:Int))/\w'=w:=by
 have g1:((n:Int)+(s:Int)-1)/(s:Int)=(q:Int):=by
  rw [hq];have e:(n:Int)+(s:Int)-1=((n+s-1:Nat):Int):=by omega
  rw [e];rfl
 have g2:((n:Int)+(s:Int)-1).tdiv (s:Int)=(q:Int):=by rw [Int.tdiv_eq_ediv_of_nonneg (by omega)];exact g1
 have g3:¬ (s:Int)=0:=by omega
 have g4:((s:Int) == 0)=false:=by simpa using g3
 have a:q<=1000000000100:=by rw [hq];exact aR (ew _ _) (by omega)
 clear hq;go_enter func109,ntmps109;go_wp2_with fail;go_ret;first | exact ⟨rfl,rfl⟩ | exact ⟨by simp_all,rfl⟩

theorem uA (ao:Option Addr) (L a:Nat) (xs:List Nat) (w:World) (hu:Row .u64 w (.slice ao L a) xs) (hd:Digs xs) :
  Calls prog 212 #[.slice ao L a] w fun e w'=>e=.returned (.bool (decide (val xs%2=1)))/\w'=w:=by
 have J:=Ha _ xs 0 w hu hd (by omega);have hb:si (val xs) 0=val xs%2:=by
  have:=jS (val xs) 0;rw [cw,eX] at this;exact this
 rw [hb] at J;obtain ⟨V,hV⟩:∃ V,V=val xs:=⟨_,rfl⟩
 rw [<- hV] at J ⊢;clear hu hd hb hV;have h2:V%2=0\/V%2=1:=by omega
 rcases h2 with h2 | h2
 ·rw [h2] at J ⊢;go_enter func212,ntmps212;go_wp2_with fail;refine J.mono ?_;rintro e w' ⟨rfl,rfl⟩;go_wp2;go_ret;exact ⟨rfl,rfl⟩
 ·rw [h2] at J ⊢;go_enter func212,ntmps212;go_wp2_with fail;refine J.mono ?_;rintro e w' ⟨rfl,rfl⟩;go_wp2;go_ret;exact ⟨rfl,rfl⟩

theorem qB (x:Nat) (hx:x<18446744073709551616) (w:World) :
  Calls prog 144 #[.int .u64 (x:Nat),.int .i64 1] w fun r w'=>∃ zo zc,r=.returned (.slice zo 1 zc)/\Row .u64 w' (.slice zo 1 zc) [x]/\Kept af w w':=by
 refine (Er x hx 1 w).mono ?_;rintro e w' ⟨v',rfl,hr,k⟩;rw [show ji 1=1 from rfl,nT hx] at hr;obtain ⟨zo,zn,zc,rfl,hl,_,_,_,_⟩:=hr.open;obtain rfl:1=zn:=hl.out;exact ⟨_,_,rfl,hr,k⟩

theorem nA (ao:Option Addr) (L a:Nat) (xs:List Nat) (y:Nat) (hy:y<18446744073709551616) (R:Bool) (hR:R=decide (val xs<y)) (w:World) (hu:Row .u64 w (.slice ao L a) xs) (hd:Digs xs) :
  Calls prog 211 #[.slice ao L a,.int .u64 (y:Nat)] w fun e w'=>e=.returned (.bool R)/\Kept af w w':=by
 have JW:=qB y hy w;have JC:Hid (∀ W u,Kept af w W->Row .u64 W u [y]->Calls prog 64 #[.slice ao L a,u] W fun e w'=>e=.returned (.int .i64 (dR (val xs) y))/\Kept af w w'):=fun W u k hr=>by
  have h:=mU _ _ xs [y] W (hu.grew k) hr hd (Digs.one hy);rw [ip] at h;refine h.mono ?_;rintro e w' ⟨rfl,k'⟩;exact ⟨rfl,k.trans k'⟩
 obtain ⟨V,hV⟩:∃ V,V=val xs:=⟨_,rfl⟩
 rw [<- hV] at JC hR;clear hu hd hV;have h3:V<y\/V=y\/y<V:=by omega
 rcases h3 with h3 | h3 | h3
 ·rw [gS h3] at JC;obtain rfl:R=true:=by rw [hR];exact dL h3
  clear hR h3;go_enter func211,ntmps211;go_wp2_with fail;refine JW.mono ?_;rintro e w1 ⟨zo,zc,rfl,hr,k⟩;have J:=JC.out _ _ k hr;clear JW;go_wp2_with fail;refine J.mono ?_;rintro e w2 ⟨rfl,k2⟩;have HK:=aa k2;clear J k2 k;go_wp2;go_ret;exact ⟨rfl,HK.out⟩
 ·rw [lF h3] at JC;obtain rfl:R=false:=by rw [hR];exact cP (by omega)
  clear hR h3;go_enter func211,ntmps211;go_wp2_with fail;refine JW.mono ?_;rintro e w1 ⟨zo,zc,rfl,hr,k⟩;have J:=JC.out _ _ k hr;clear JW;go_wp2_with fail;refine J.mono ?_;rintro e w2 ⟨rfl,k2⟩;have HK:=aa k2;clear J k2 k;go_wp2;go_ret;exact ⟨rfl,HK.out⟩
 ·rw [jH h3] at JC;obtain rfl:R=false:=by rw [hR];exact cP (by omega)
  clear hR h3;go_enter func211,ntmps211;go_wp2_with fail;refine JW.mono ?_;rintro e w1 ⟨zo,zc,rfl,hr,k⟩;have J:=JC.out _ _ k hr;clear JW;go_wp2_with fail;refine J.mono ?_;rintro e w2 ⟨rfl,k2⟩;have HK:=aa k2;clear J k2 k;go_wp2;go_ret;exact ⟨rfl,HK.out⟩

theorem CJ (ao:Option Addr) (L a:Nat) (xs:List Nat) (X n:Nat) (hX:X=val xs) (hn:n<=300) (hf:X<18446744073709551616^n) (w:World) (hu:Row .u64 w (.slice ao L a) xs) (hd:Digs xs) :
  Calls prog 162 #[.slice ao L a,.int .i64 (n:Nat)] w fun e w'=>∃ vo vc,e=.returned (.slice vo n vc)/\Row .u64 w' (.slice vo n vc) (digs X n)/\Fresh w (.slice vo n vc)/\Kept af w w':=by
 have J:=sZ _ xs (n:Nat) w hu hd;rw [<- hX] at J;obtain ⟨e1,e2⟩:=pg hf hn;rw [e1,e2] at J;clear hu hd e1 e2 hX hf;go_enter func162,ntmps162;go_wp2_with fail;refine J.mono ?_;rintro e w1 ⟨v,rfl,hr,b,k1⟩;obtain ⟨vo,vn,vc,rfl,hl,_,_,_,_⟩:=hr.open;obtain rfl:n=vn:=by rw [<- hl.out,ag]
 have HR:=aa hr;have HN:=aa b;have HK:=aa k1;have JS:=lZ vo n vc w1;clear J hr b k1 hl;go_wp2_with fail;refine JS.mono ?_;rintro e w2 ⟨rfl,rfl⟩;clear JS;go_wp2;go_ret;exact ⟨_,_,rfl,HR.out,HN.out,HK.out⟩

theorem qA (ao:Option Addr) (L a:Nat) (xs:List Nat) (X n:Nat) (hX:X=val xs) (hn:n=ar X) (d:n<=300) (w:World) (hu:Row .u64 w (.slice ao L a) xs) (hd:Digs xs) (hL:xs.length<=1000) :
  Calls prog 156 #[.slice ao L a] w fun e w'=>∃ vo vc,e=.returned (.slice vo n vc)/\Row .u64 w' (.slice vo n vc) (digs X n)/\Fresh w (.slice vo n vc)/\Kept af w w':=by
 have JB:=iw _ xs w hu hd (by omega);rw [<- hX] at JB;have f:aM X<=64*xs.length:=(aX _ _).2 (by rw [bh,hX];exact aE (by omega) hd);have JP:=kT (aM X) 64 n (by rw [hn,gh];rfl) (by omega) (by omega) (by omega) w;have JF:=CJ ao L a xs X n hX d ((aG X n).1 (by omega)) w hu hd;obtain ⟨b,hb⟩:∃ b,b=aM X:=⟨_,rfl⟩
 rw [<- hb] at JB JP;clear hu hd f hb hX hn hL d;go_enter func156,ntmps156;go_wp2_with fail;refine JB.mono ?_;rintro e w1 ⟨rfl,rfl⟩;clear JB;go_wp2_with fail;refine JP.mono ?_;rintro e w1 ⟨rfl,rfl⟩;clear JP;go_wp2_with fail;refine JF.mono ?_;rintro e w1 ⟨vo,vc,rfl,hr,c,k1⟩;have HR:=aa hr;have HN:=aa c;have HK:=aa k1;clear JF hr c k1;go_wp2;go_ret;exact ⟨_,_,rfl,HR.out,HN.out,HK.out⟩

theorem vT (ao:Option Addr) (L b:Nat) (xs:List Nat) (X:Nat) (hX:X=val xs) (h1:1<=X) (a:xs.length=L) (i:L<=300) (w:World) (hu:Row .u64 w (.slice ao L b) xs) (hd:Digs xs) :
  Calls prog 164 #[.slice ao L b] w fun e w'=>∃ vo vc,e=.returned (.slice vo L vc)/\Row .u64 w' (.slice vo L vc) (digs (X-1) L)/\Kept af w w':=by
 have g:1<=L:=by
  rcases cF L with h | h
  ·rw [h] at a;rw [mn.1 a] at hX;have:val []=0:=rfl;omega
  ·exact h
 have JW:=qB 1 (by omega) w;have JS:Hid (∀ W u,Kept af w W->Row .u64 W u [1]->Calls prog 193 #[.pointer none,.slice ao L b,u] W fun e w'=>∃ vo vc c,e=.returned (.tuple #[.slice vo L vc,.int .u64 (c:Nat)])/\Row .u64 w' (.slice vo L vc) (digs (X-1) L)/\Kept af w w'):=fun W u k hr=>by
  have j:X<18446744073709551616^L:=by rw [hX,<- a];exact aE (by omega) hd
  have h:=GY _ _ xs [1] W (hu.grew k) hr hd (Digs.one (by omega)) (by omega) (by show 1<=_;omega);rw [ip,<- hX,a,show max L [1].length=L by show max L 1=L;omega] at h;have es:fK X 1 L=X-1:=by
   unfold fK;rw [ai (by omega)]
  rw [es] at h;refine h.mono ?_;rintro e w' ⟨v',rfl,d,k'⟩;obtain ⟨vo,vn,vc,rfl,hl,_,_,_,_⟩:=d.open;obtain rfl:L=vn:=by rw [<- hl.out,ag]
  exact ⟨_,_,_,rfl,d,k.trans k'⟩
 clear hu hd hX h1 a;go_enter func164,ntmps164;go_wp2_with fail;refine JW.mono ?_;rintro e w1 ⟨zo,zc,rfl,hr,k⟩;have J:=JS.out _ _ k hr;clear JW;go_wp2_with fail;refine J.mono ?_;rintro e w2 ⟨vo,vc,c,rfl,f,k2⟩;have HR:=aa f;have HK:=aa k2;clear J f k2 k hr;go_wp2;go_ret;exact ⟨_,_,rfl,HR.out,HK.out⟩

theorem GS (ao bo:Option Addr) (L M b d:Nat) (xs ys:List Nat) (X Y:Nat) (hX:X=val xs) (hY:Y=val ys) (l:0<Y) (hL:L<=300) (hM:M<=300) (w:World) (hu:Row .u64 w (.slice ao L b) xs) (hv:Row .u64 w (.slice bo M d) ys) (f:Digs xs) (g:Digs ys) :
  Calls prog 216 #[.slice ao L b,.slice bo M d] w fun e w'=>∃ vo vc,e=.returned (.slice vo L vc)/\Row .u64 w' (.slice vo L vc) (digs (X/Y) L)/\Kept af w w':=by
 have hE:jv (val ys) L M=0:=(gX (X:=X) ⟨hL,hM⟩ (by rw [<- hY];omega)).1;have hQ:oo X (val ys) L M=digs (X/val ys) L:=(gX (X:=X) ⟨hL,hM⟩ (by rw [<- hY];omega)).2.1;have hR:ko X (val ys) L M=digs (X%val ys) M:=(gX (X:=X) ⟨hL,hM⟩ (by rw [<- hY];omega)).2.2;have J:=uP ao bo L M b d xs ys 0 hE.symm w hu hv f g;rw [<- hX,hQ,hR,<- hY] at J;clear hu hv f g hE hQ hR hX hY;go_enter func216,ntmps216;go_wp2_with fail;refine J.mono ?_;rintro e w1 ⟨v1,v2,rfl,h1,h2,k1⟩;obtain ⟨qo,qn,qc,rfl,h,_,_,_,_⟩:=h1.open;obtain rfl:L=qn:=by rw [<- h.out,ag]
 obtain ⟨so,sn,sc,rfl,i,_,_,_,_⟩:=h2.open;obtain rfl:M=sn:=by rw [<- i.out,ag]
 have j:=aa h1;have k:=aa h2;have HK:=aa k1;have JS:=fun a n c=>lZ a n c w1
 clear J h1 h2 k1 h i;go_wp2_with fail;refine (JS _ _ _).mono ?_;rintro e w2 ⟨rfl,rfl⟩;clear JS;go_wp2;go_ret;exact ⟨_,_,rfl,j.out,HK.out⟩

theorem vU (ao bo:Option Addr) (L M b d:Nat) (xs ys:List Nat) (X Y:Nat) (hX:X=val xs) (hY:Y=val ys) (l:0<Y) (hL:L<=300) (hM:M<=300) (w:World) (hu:Row .u64 w (.slice ao L b) xs) (hv:Row .u64 w (.slice bo M d) ys) (f:Digs xs) (g:Digs ys) :
  Calls prog 163 #[.slice ao L b,.slice bo M d] w fun e w'=>∃ vo vc,e=.returned (.slice vo M vc)/\Row .u64 w' (.slice vo M vc) (digs (X%Y) M)/\Kept af w w':=by
 have hE:jv (val ys) L M=0:=(gX (X:=X) ⟨hL,hM⟩ (by rw [<- hY];omega)).1;have hQ:oo X (val ys) L M=digs (X/val ys) L:=(gX (X:=X) ⟨hL,hM⟩ (by rw [<- hY];omega)).2.1;have hR:ko X (val ys) L M=digs (X%val ys) M:=(gX (X:=X) ⟨hL,hM⟩ (by rw [<- hY];omega)).2.2;have J:=uP ao bo L M b d xs ys 0 hE.symm w hu hv f g;rw [<- hX,hQ,hR,<- hY] at J;clear hu hv f g hE hQ hR hX hY;go_enter func163,ntmps163;go_wp2_with fail;refine J.mono ?_;rintro e w1 ⟨v1,v2,rfl,h1,h2,k1⟩;obtain ⟨qo,qn,qc,rfl,h,_,_,_,_⟩:=h1.open;obtain rfl:L=qn:=by rw [<- h.out,ag]
 obtain ⟨so,sn,sc,rfl,i,_,_,_,_⟩:=h2.open;obtain rfl:M=sn:=by rw [<- i.out,ag]
 have k:=aa h1;have j:=aa h2;have HK:=aa k1;have JS:=fun a n c=>lZ a n c w1
 clear J h1 h2 k1 h i;go_wp2_with fail;refine (JS _ _ _).mono ?_;rintro e w2 ⟨rfl,rfl⟩;clear JS;go_wp2;go_ret;exact ⟨_,_,rfl,j.out,HK.out⟩

theorem Au (ao bo:Option Addr) (n ac K l bc:Nat) (w:World):Calls prog 214 #[.agg #[.slice ao n ac,.int .u64 (K:Nat),.slice bo l bc],.int .i64 0] w fun e w'=>e=.returned (.agg #[.slice ao n ac,.int .u64 (K:Nat),.slice bo l bc])/\Kept af w w':=by
 have hR:=de 0;obtain ⟨W,hW⟩:∃ W,W=(w.alloc (.cells #[.slice ao n ac,.int .u64 (K:Nat),.slice bo l bc] 70)).alloc (.cells #[.slice none 0 0,.int .u64 0,.slice none 0 0] 70):=⟨_,rfl⟩
 have k0:Kept af w W:=by rw [hW];exact ((aj af w).alloc _).alloc _
 have b1:W.heap[w.heap.size]? = some (.cells #[.slice ao n ac,.int .u64 (K:Nat),.slice bo l bc] 70 (0,0)):=by rw [hW];exact au (heap_alloc_new _ _)
 have b2:W.heap[w.heap.size+1]? = some (.cells #[.slice none 0 0,.int .u64 0,.slice none 0 0] 70 (0,0)):=by
  rw [hW];have:=heap_alloc_new (w.alloc (.cells #[.slice ao n ac,.int .u64 (K:Nat),.slice bo l bc] 70)) (.cells #[.slice none 0 0,.int .u64 0,.slice none 0 0] 70)
  rwa [World.size_alloc] at this
 obtain ⟨c0,c1,c2⟩:=aw b1;obtain ⟨f0,f1,f2⟩:=jO b2;obtain ⟨d0,d1,d2⟩:=aw (rJ b2 (.slice ao n ac) (.int .u64 (K:Nat)) (.slice bo l bc));obtain ⟨g0,g1,g2⟩:=aw b2;have a:=aa (k0.next (lS W (w.heap.size+1) (.slice ao n ac) (.int .u64 (K:Nat)) (.slice bo l bc)) (fun x hx e=>by omega));have HW:=aa hW;clear hW k0 b1 b2;go_enter func214,ntmps214;go_wp2_with (rw [<- HW.out]);refine (hR W).mono ?_;rintro e w1 ⟨rfl,rfl⟩;clear hR;go_wp2_with fail;exact bodyPost_ret (v:=.agg #[.slice ao n ac,.int .u64 (K:Nat),.slice bo l bc]) (by simp [results,results214,go_sem,d0,d1,d2]) rfl ⟨rfl,a.out⟩

theorem Fc (no dO po qo c g j:Option Addr) (nl nc en dl dc pl pc ql qc b a f d i h:Nat) (w:World):Calls prog 105 #[.agg #[.slice no nl nc,.int .u64 (en:Nat),.slice dO dl dc,.slice po pl pc,.slice qo ql qc,.slice c b a,.slice g f d,.slice j i h],.int .i64 0] w fun e w'=>e=.returned (.agg #[.slice no nl nc,.int .u64 (en:Nat),.slice dO dl dc,.slice po pl pc,.slice qo ql qc,.slice c b a,.slice g f d,.slice j i h])/\Kept af w w':=by
 have hR:=de 0;obtain ⟨W,hW⟩:∃ W,W=(w.alloc (.cells #[.slice no nl nc,.int .u64 (en:Nat),.slice dO dl dc,.slice po pl pc,.slice qo ql qc,.slice c b a,.slice g f d,.slice j i h] 26)).alloc (.cells zeroKey 26):=⟨_,rfl⟩
 have k0:Kept af w W:=by rw [hW];exact ((aj af w).alloc _).alloc _
 have b1:W.heap[w.heap.size]? = some (.cells #[.slice no nl nc,.int .u64 (en:Nat),.slice dO dl dc,.slice po pl pc,.slice qo ql qc,.slice c b a,.slice g f d,.slice j i h] 26 (0,0)):=by rw [hW];exact au (heap_alloc_new _ _)
 have b2:W.heap[w.heap.size+1]? = some (.cells zeroKey 26 (0,0)):=by
  rw [hW];have:=heap_alloc_new (w.alloc (.cells #[.slice no nl nc,.int .u64 (en:Nat),.slice dO dl dc,.slice po pl pc,.slice qo ql qc,.slice c b a,.slice g f d,.slice j i h] 26)) (.cells zeroKey 26)
  rwa [World.size_alloc] at this
 obtain ⟨c0,c1,c2,c3,c4,c5,c6,c7⟩:=bH b1;have f0:=dh b2 0;have f1:=dh b2 1;have f2:=dh b2 2;have f3:=dh b2 3;have f4:=dh b2 4;have f5:=dh b2 5;have f6:=dh b2 6;have f7:=dh b2 7;obtain ⟨k,l,-⟩:=oM k0 (by omega) b2 (.slice no nl nc) (.int .u64 (en:Nat)) (.slice dO dl dc) (.slice po pl pc) (.slice qo ql qc) (.slice c b a) (.slice g f d) (.slice j i h);unfold oe at k l;obtain ⟨d0,d1,d2,d3,d4,d5,d6,d7⟩:=bH k;obtain ⟨g0,g1,g2,g3,g4,g5,g6,g7⟩:=bH b2;have m:=aa l;have HW:=aa hW;clear hW k0 b1 b2 k l;unfold zeroKey at HW;go_enter func105,ntmps105;go_wp2_with (rw [<- HW.out]);refine (hR W).mono ?_
 rintro e w1 ⟨rfl,rfl⟩;clear hR;go_wp2_with fail;exact bodyPost_ret (v:=.agg #[.slice no nl nc,.int .u64 (en:Nat),.slice dO dl dc,.slice po pl pc,.slice qo ql qc,.slice c b a,.slice g f d,.slice j i h]) (by simp [results,results105,go_sem,d0,d1,d2,d3,d4,d5,d6,d7]) rfl ⟨rfl,m.out⟩

theorem CN (no dO po qo c g j:Option Addr) (nl nc en dl dc pl pc ql qc b a f d i h:Nat) (E:Nat) (hE:E≠0) (w:World):Calls prog 105 #[.agg #[.slice no nl nc,.int .u64 (en:Nat),.slice dO dl dc,.slice po pl pc,.slice qo ql qc,.slice c b a,.slice g f d,.slice j i h],.int .i64 (E:Nat)] w fun e w'=>e=.panicked [refusal (E:Nat)]/\Kept af w w':=by
 have hR:=dM (E:Nat);obtain ⟨W,hW⟩:∃ W,W=(w.alloc (.cells #[.slice no nl nc,.int .u64 (en:Nat),.slice dO dl dc,.slice po pl pc,.slice qo ql qc,.slice c b a,.slice g f d,.slice j i h] 26)).alloc (.cells zeroKey 26):=⟨_,rfl⟩
 have k0:Kept af w W:=by rw [hW];exact ((aj af w).alloc _).alloc _
 have b1:W.heap[w.heap.size]? = some (.cells #[.slice no nl nc,.int .u64 (en:Nat),.slice dO dl dc,.slice po pl pc,.slice qo ql qc,.slice c b a,.slice g f d,.slice j i h] 26 (0,0)):=by rw [hW];exact au (heap_alloc_new _ _)
 have b2:W.heap[w.heap.size+1]? = some (.cells zeroKey 26 (0,0)):=by
  rw [hW];have:=heap_alloc_new (w.alloc (.cells #[.slice no nl nc,.int .u64 (en:Nat),.slice dO dl dc,.slice po pl pc,.slice qo ql qc,.slice c b a,.slice g f d,.slice j i h] 26)) (.cells zeroKey 26)
  rwa [World.size_alloc] at this
 obtain ⟨c0,c1,c2,c3,c4,c5,c6,c7⟩:=bH b1;have l:¬ (E:Int)=0:=by omega
 have hb:((E:Int) != 0)=true:=by simp;omega
 have k:=aa k0;have HW:=aa hW;clear hW k0 b1 b2;unfold zeroKey at HW;go_enter func105,ntmps105;go_wp2_with (rw [<- HW.out]);try rw [hb]
 refine (hR W).mono ?_;rintro e w1 ⟨rfl,rfl⟩;exact ⟨rfl,rfl,k.out⟩

theorem qz (f:Nat) (a:Array Value) (w:World) (E:Nat) (he:∀ args w,(callFunc f args).run prog w=.ok (.enter f args) w)
  (h:Calls prog f a (w.alloc (.cells #[.int .i64 0] 32)) fun e w'=>((E=0/\e=.returned (.tuple #[]))\/(E≠0/\e=.panicked [refusal (E:Nat)]))/\Kept af (w.alloc (.cells #[.int .i64 0] 32)) w') :
  Calls prog 103 #[.func (.func f) #[] a] w fun e w'=>e=.returned (.int .i64 (E:Nat))/\Kept af w w':=by
 have xe:=heap_alloc_new w (.cells #[.int .i64 0] 32);refine (mO f a w (fun n W'=>n=(E:Nat)/\Kept af (w.alloc (.cells #[.int .i64 0] 32)) W') he (h.mono ?_)).mono ?_
 ·rintro e w' ⟨hc,k⟩;refine ⟨(k.block _ (lt_of_block xe) (fun f=>f)).trans xe,?_⟩;rcases hc with ⟨rfl,rfl⟩ | ⟨_,rfl⟩
  ·exact .inl ⟨rfl,rfl,k⟩
  ·exact .inr ⟨_,rfl,rfl,k⟩
 ·rintro e w' ⟨n,w1,rfl,⟨⟨rfl,k⟩,hb⟩,rfl⟩;exact ⟨rfl,(((aj af w).alloc _).trans k).setCell _ (fun h=>by simp at h) _⟩

theorem pR {xs:List Nat} (hd:Digs xs) (hp:0<val xs):xs.length=ar (val xs)↔xs.length≠0/\xs.getD (xs.length-1) 0≠0:=by
 constructor
 ·intro h;have h0:xs.length≠0:=fun h0=>by
   rw [mn.1 h0] at hp;exact absurd hp (by decide)
  refine ⟨h0,fun ht=>?_⟩;obtain ⟨n,hn⟩:∃ n,xs.length=n+1:=⟨xs.length-1,by omega⟩
  have e:xs=xs.take n ++ [0]:=by
   have h1:=jD n xs;rw [dU (by omega:n<xs.length),dZ (by omega)] at h1;have h2:xs[n]'(by omega)=0:=by
    rw [hn,ij,aA,aQ (by omega)] at ht;exact ht
   rw [h2] at h1;exact h1.symm
  have hv:val xs<18446744073709551616^n:=by
   rw [e,cZ,cG,aU];have:=aE (B:=18446744073709551616) (by omega) (hd.take n)
   rwa [aO,cL (by omega)] at this
  have:=(aG (val xs) n).2 hv;omega
 ·rintro ⟨_,h⟩;exact nD hd (.inr h)

theorem mX {xs:List Nat} (hd:Digs xs) (hL:xs.length<=1000) (e:Nat):fW xs e=0↔(32<=aM (val xs)/\aM (val xs)<=8192)/\(xs.length=ar (val xs)/\val xs%2=1)/\3<=e/\e<4294967296/\e%2=1:=by
 unfold fW;constructor
 ·intro h;by_cases hc:xs.length=0\/1000<xs.length\/xs.getD (xs.length-1) 0=0\/val xs%2=0\/aM (val xs)<32\/8192<aM (val xs)\/e<3\/e%2=0\/4294967296<=e
  ·rw [ah hc] at h;exact absurd h (by decide)
  ·have h0:0<val xs:=by omega
   have:=(pR hd h0).2 (by omega);omega
 ·rintro ⟨h1,h2,h3⟩;have h0:0<val xs:=by omega
  have:=(pR hd h0).1 h2.1;rw [ai (by omega)]

theorem kC (xs:List Nat) (e:Nat):fW xs e=0\/fW xs e=190:=by
 unfold fW
 split
 ·exact .inr rfl
 ·exact .inl rfl

theorem Fb (ao:Option Addr) (L a:Nat) (xs:List Nat) (w:World) (hu:Row .u64 w (.slice ao L a) xs) (hd:Digs xs) (hL:L<=1000) :
  Calls prog 62 #[.slice ao L a] w fun e w'=>e=.returned (.int .i64 (fw (val xs):Nat))/\Kept af w w':=by
 obtain ⟨_,_,_,e1,hl,-,-,-,-⟩:=hu.open;cases e1
 have c:aM (val xs)<=64*xs.length:=(aX _ _).2 (by rw [bh];exact aE (by omega) hd);have JB:=iw _ xs w hu hd (by rw [hl.out];omega);have JP:=kT (aM (val xs)) 8 (fw (val xs)) rfl (by rw [hl.out] at c;omega) (by omega) (by omega) w;generalize fw (val xs)=s at *;generalize aM (val xs)=b at *;clear hu hd hl c;go_enter func62,ntmps62;go_wp2_with fail;refine JB.mono ?_;rintro e w1 ⟨rfl,rfl⟩;clear JB;go_wp2_with fail;refine JP.mono ?_;rintro e w1 ⟨rfl,rfl⟩;clear JP;go_wp2;go_ret;exact ⟨rfl,aj _ _⟩

theorem mR (ao:Option Addr) (L a:Nat) (xs:List Nat) (X n:Nat) (hX:X=val xs) (hn:n=ar X) (j:L<=300/\eO X) (w:World) (hu:Row .u64 w (.slice ao L a) xs) (hd:Digs xs) :
  Calls prog 155 #[.slice ao L a] w fun e w'=>∃ vo vc,e=.returned (.slice vo n vc)/\Row .u64 w' (.slice vo n vc) (digs X n)/\Fresh w (.slice vo n vc)/\Kept af w w':=by
 obtain ⟨_,_,_,e1,hl,-,-,-,-⟩:=hu.open;cases e1
 obtain ⟨hL,h3,ho,hb⟩:=j;have i:n<=300:=by rw [hn];exact aR (cX (n:=128) (by omega)) (by omega)
 have JB:=iw _ xs w hu hd (by rw [hl.out];omega);have JO:Hid (∀ W,Kept af w W->Calls prog 212 #[.slice ao L a] W fun e w'=>e=.returned (.bool true)/\w'=W):=fun W k=>by
  have h:=uA ao L a xs W (hu.grew k) hd;rw [<- hX,dL ho] at h;exact h
 have JL:=nA ao L a xs 3 (by omega) false (by symm;exact cP (by omega)) w hu hd;have JN:Hid (∀ W,Kept af w W->Calls prog 156 #[.slice ao L a] W fun e w'=>∃ vo vc,e=.returned (.slice vo n vc)/\Row .u64 w' (.slice vo n vc) (digs X n)/\Fresh W (.slice vo n vc)/\Kept af W w'):=fun W k=>qA ao L a xs X n hX hn i W (hu.grew k) hd (by rw [hl.out];omega)
 have hR:=de 190;rw [<- hX] at JB;obtain ⟨b,g⟩:∃ b,b=aM X:=⟨_,rfl⟩
 rw [<- g] at JB hb;have g1:¬ (L:Int) > 300:=by omega
 have d:¬ (300:Int)<(L:Int):=by omega
 have g2:¬ (b:Int) > 8192:=by omega
 have f:¬ (8192:Int)<(b:Int):=by omega
 have d1:decide ((300:Int)<(L:Int))=false:=cP d;have d2:decide ((8192:Int)<(b:Int))=false:=cP f;clear hu hd hl hX hn h3 ho hb g i hL;go_enter func155,ntmps155;go_wp2_with fail;refine JB.mono ?_;rintro e w1 ⟨rfl,rfl⟩;clear JB;go_wp2_with fail;try rw [d2]
 refine (hR _).mono ?_;rintro e w1 ⟨rfl,rfl⟩;clear g1 d g2 f d1 d2;go_wp2_with fail;refine JL.mono ?_;rintro e w1 ⟨rfl,k1⟩;have J2:=JO.out _ k1;have c:=aa k1;clear JL k1;go_wp2_with fail;refine J2.mono ?_;rintro e w2 ⟨rfl,rfl⟩;clear J2;go_wp2_with fail;refine (hR _).mono ?_;rintro e w3 ⟨rfl,rfl⟩;have J3:=JN.out _ c.out;clear hR;go_wp2_with fail;refine J3.mono ?_;rintro e w4 ⟨vo,vc,rfl,hr,hf,k4⟩;have HR:=aa hr;have HF:=aa (hf.after c.out);have HK:=aa (c.out.trans k4);clear J3 hr hf k4;go_wp2;go_ret;exact ⟨_,_,rfl,HR.out,HF.out,HK.out⟩

theorem sK (ao:Option Addr) (L c:Nat) (xs:List Nat) (X:Nat) (hX:X=val xs) (l:L<=1000000) (i:¬ (L<=300/\eO X)) (w:World) (hu:Row .u64 w (.slice ao L c) xs) (hd:Digs xs) :
  Calls prog 155 #[.slice ao L c] w fun e w'=>e=.panicked [refusal 190]/\Kept af w w':=by
 obtain ⟨_,_,_,e1,hl,-,-,-,-⟩:=hu.open;cases e1
 have hR:=de 190;have hY:=dM 190;by_cases hL:L<=300
 ·have a:X<3\/X%2=0\/8192<aM X:=by
   have h:¬ eO X:=fun h=>i ⟨hL,h⟩
   unfold eO at h;omega
  have JB:=iw _ xs w hu hd (by rw [hl.out];omega);have JO:Hid (∀ W,Kept af w W->Calls prog 212 #[.slice ao L c] W fun e w'=>e=.returned (.bool (decide (X%2=1)))/\w'=W):=fun W k=>by
   have h:=uA ao L c xs W (hu.grew k) hd;rw [<- hX] at h;exact h
  have JL:=nA ao L c xs 3 (by omega) (decide (X<3)) (by rw [hX]) w hu hd;rw [<- hX] at JB;obtain ⟨b,j⟩:∃ b,b=aM X:=⟨_,rfl⟩
  rw [<- j] at JB a;have g1:¬ (L:Int) > 300:=by omega
  have d:¬ (300:Int)<(L:Int):=by omega
  have d1:decide ((300:Int)<(L:Int))=false:=cP d;clear hu hd hl hX j i;by_cases h2:8192<b
  ·have g2:(b:Int) > 8192:=by omega
   have f:(8192:Int)<(b:Int):=by omega
   have d2:decide ((8192:Int)<(b:Int))=true:=dL f;clear a h2 JO JL hR;go_enter func155,ntmps155;go_wp2_with fail;refine JB.mono ?_;rintro e w1 ⟨rfl,rfl⟩;clear JB;go_wp2_with fail;try rw [d2]
   refine (hY _).mono ?_;rintro e w1 ⟨rfl,rfl⟩;exact ⟨rfl,rfl,aj _ _⟩
  ·have g2:¬ (b:Int) > 8192:=by omega
   have f:¬ (8192:Int)<(b:Int):=by omega
   have d2:decide ((8192:Int)<(b:Int))=false:=cP f;by_cases h3:X<3
   ·rw [dL h3] at JL;clear a h2 JO h3;go_enter func155,ntmps155;go_wp2_with fail;refine JB.mono ?_;rintro e w1 ⟨rfl,rfl⟩;clear JB;go_wp2_with fail;try rw [d2]
    refine (hR _).mono ?_;rintro e w1 ⟨rfl,rfl⟩;clear g1 d g2 f d1 d2 hR;go_wp2_with fail;refine JL.mono ?_;rintro e w1 ⟨rfl,k1⟩;have g:=aa k1;clear JL k1;go_wp2_with fail;refine (hY _).mono ?_;rintro e w2 ⟨rfl,rfl⟩;exact ⟨rfl,rfl,g.out⟩
   ·rw [cP h3] at JL;have h4:¬ X%2=1:=by omega
    rw [cP h4] at JO;clear a h2 h3 h4;go_enter func155,ntmps155;go_wp2_with fail;refine JB.mono ?_;rintro e w1 ⟨rfl,rfl⟩;clear JB;go_wp2_with fail;try rw [d2]
    refine (hR _).mono ?_;rintro e w1 ⟨rfl,rfl⟩;clear g1 d g2 f d1 d2 hR;go_wp2_with fail;refine JL.mono ?_;rintro e w1 ⟨rfl,k1⟩;have J2:=JO.out _ k1;have g:=aa k1;clear JL k1;go_wp2_with fail;refine J2.mono ?_;rintro e w2 ⟨rfl,rfl⟩;clear J2;go_wp2_with fail;refine (hY _).mono ?_;rintro e w3 ⟨rfl,rfl⟩;exact ⟨rfl,rfl,g.out⟩
 ·have g1:(L:Int) > 300:=by omega
  have d:(300:Int)<(L:Int):=by omega
  have d1:decide ((300:Int)<(L:Int))=true:=dL d;clear hu hd hl hX i hL l hR;go_enter func155,ntmps155;go_wp2_with fail;try rw [d1]
  refine (hY _).mono ?_;rintro e w1 ⟨rfl,rfl⟩;exact ⟨rfl,rfl,aj _ _⟩

def Gl (P:Prop) (n A M E T F:Nat) (RL:List Nat):Prop:=((E=0/\P)\/(E=1/\¬ P))/\(E=0->Ea A M T F)/\(E=1->F=0)/\RL=if E=0 then digs T n else []

theorem uM {w w':World} {P:Prop} {n A M is c:Nat} {v':Value} (h:rZ w none P n A M w' v' is c):∃ T RL,Row .u64 w' v' RL/\Kept af w w'/\Gl P n A M c T is RL:=by
 obtain ⟨zs,m,o',h1,_,d,hp,hn⟩:=h;have k:=d.none.2;by_cases hP:P
 ·obtain ⟨rfl,_,Y,rfl,hY⟩:=hp hP;exact ⟨Y,_,h1,k,.inl ⟨rfl,hP⟩,fun _=>hY,fun h=>absurd h (by decide),rfl⟩
 ·obtain ⟨rfl,rfl,rfl⟩:=hn hP;exact ⟨0,[],h1,k,.inr ⟨rfl,hP⟩,fun h=>absurd h (by decide),fun _=>rfl,rfl⟩

theorem Hd (ao bo xo:Option Addr) (n l K a b N1 xc:Nat) (ms rs xs:List Nat) (w:World) (hm:Row .u64 w (.slice ao n a) ms) (hr:Row .u64 w (.slice bo l b) rs) (hx:Row .u64 w (.slice xo N1 xc) xs) (f:Digs ms) (i:Digs rs) (d:Digs xs) (hK:K<18446744073709551616) (g:n<=1000000) :
  Calls prog 82 #[.pointer none,.agg #[.slice ao n a,.int .u64 (K:Nat),.slice bo l b],.slice xo N1 xc] w fun e w'=>∃ (v':Value) (F E:Nat),e=.returned (.tuple #[v',.int .u64 (F:Nat),.int .i64 (E:Nat)])/\∃ T RL,Row .u64 w' v' RL/\Kept af w w'/\Hid (Gl (okMod ms K rs/\(N1=n/\val xs<val ms)) n (val xs) (val ms) E T F RL):=by
 refine (iOf none ao bo xo n l K a b N1 xc ms rs xs w (TrRoom.none _ _ (by omega)) (RowT.none hm) (RowT.none hr) (RowT.none hx) f i d hK g (.inr rfl)).mono ?_;rintro e w' ⟨v',is,c,rfl,h⟩;obtain ⟨T,RL,h1,h2,h3⟩:=uM h;exact ⟨v',is,c,rfl,T,RL,h1,h2,h3⟩

end Go.Proofs.YtkaojflnghfmcaaGreatDoor
