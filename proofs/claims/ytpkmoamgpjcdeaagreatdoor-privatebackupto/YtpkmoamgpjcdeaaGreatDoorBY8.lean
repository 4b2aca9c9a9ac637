/- Put together of: Mon3 Lim3 WInv Mon4. -/
import Derived.Test.YtpkmoamgpjcdeaaGreatDoorBY7
import Derived.Lib.SliceRun
import Derived.Lib.LazyBuf
import Derived.Lib.RabinKarpLaws

namespace Go.Proofs.YtpkmoamgpjcdeaaGreatDoor
open _root_.Go.Proofs.Tryz
set_option maxRecDepth 100000
set_option maxHeartbeats 4000000
open Go.RowKit
variable {V c n p:Nat} {W:World} {t:TypeId}

theorem yx (p:Addr) (w:World) :
  CallsD prog 127 #[.pointer (some p)] .returning w fun e u' w'=>e=.returned (.tuple #[])/\u'=.returning/\w'=w:=by
 refine callsD_of_wpS func127 rfl fun c₀ cs hu=>?_
 apply wpS_seq;apply wpS_region;simp [wpOpsS,go_sem,recoverD,hu,ntmps127,Exit.thenS];apply wpS_seq;apply wpS_seq;apply wpS_region;simp [wpOpsS,go_sem,Exit.thenS];refine wpS_cond (t:=true) (by simp [Act.eval,Array.replicate]) ?_;simp only [if_true];refine wpS_of_wp (wp_ret ?_);cases c₀
 simp_all [bodyPostS,results,results127,Exit.thenS]

theorem Hl (p:Addr) (x n:Int) (a:List PanicEntry) (w:World) (hc:w.cell? p=some (.int .i64 x)) (hz:w.frozen? p=false) :
  CallsD prog 127 #[.pointer (some p)] (.panicking (refusal n :: a)) w fun e u' w'=>
   e=.returned (.tuple #[])/\u'=.panicking ({ refusal n with recovered:=true } :: a)/\w'=w.setCell p (.int .i64 n):=by
 refine callsD_of_wpS func127 rfl fun c₀ cs hu=>?_
 apply wpS_seq;apply wpS_region;simp [wpOpsS,go_sem,recoverD,hu,ntmps127,Exit.thenS];apply wpS_seq;apply wpS_seq;apply wpS_region;simp [wpOpsS,go_sem,Exit.thenS];refine wpS_cond (t:=false) (by simp [Act.eval,Array.replicate]) ?_;simp only [mg,if_false];refine wpS_of_wp (wp_skip ?_);simp only [Exit.thenS];refine wpS_of_wp ?_;have b:∀ w:World,(Instr.typeAssert (.iface 35 (.int .i64 n)) 20 35 true).run prog w=.ok (.tuple #[.int .i64 n,.bool true]) w:=fun w=>by kernel_rfl
 have e:(#[Value.pointer (some p)] ++ ((((Array.replicate 15 undef).setIfInBounds 3 (Value.iface 35 (Value.int IntKind.i64 n))).setIfInBounds 0 (Value.iface 35 (Value.int IntKind.i64 n))).setIfInBounds 4 (Value.iface 35 (Value.int IntKind.i64 n))).setIfInBounds 5 (Value.bool false):Array Value)=#[.pointer (some p),.iface 35 (.int .i64 n),undef,undef,.iface 35 (.int .i64 n),.iface 35 (.int .i64 n),.bool false,undef,undef,undef,undef,undef,undef,undef,undef,undef]:=rfl;rw [e];clear e;go_wp2;simp [bodyPostS,results,results127]

theorem qQ (f:Nat) (b:Array Value) (w:World) (Q:Int->World->Prop) (he:∀ args w,(callFunc f args).run prog w=.ok (.enter f args) w)
  (h:ClZ f b (w.alloc (.cells #[.int .i64 0] 35)) fun e w'=>w'.heap[w.heap.size]? = some (.cells #[.int .i64 0] 35 (0,0)) /\
   ((e=.returned (.tuple #[])/\Q 0 w')\/∃ n,e=.panicked [refusal n]/\Q n w')) :
  ClZ 71 #[.func (.func f) #[] b] w fun e w'=>∃ n w1,e=.returned (.int .i64 n)/\(Q n w1/\w1.heap[w.heap.size]? = some (.cells #[.int .i64 0] 35 (0,0)))/\w'=w1.setCell ⟨w.heap.size,0,none⟩ (.int .i64 n):=by
 go_enter_defers func71,ntmps71
 go_wp2_with fail;refine h.mono ?_;rintro e w1 ⟨hb,(⟨rfl,hq⟩ | ⟨n,rfl,hq⟩)⟩
 ·have hc:w1.cell? ⟨w.heap.size,0,none⟩=some (.int .i64 0):=by simp [World.cell?,hb]
  have hz:w1.frozen? ⟨w.heap.size,0,none⟩=false:=by simp [World.frozen?,hb]
  clear h;go_wp2_with fail;refine leaves_cons (f:=127) (args:=#[.pointer (some ⟨w.heap.size,0,none⟩)]) (by simp) (by simp [go_sem]) ?_;refine (yx ⟨w.heap.size,0,none⟩ _).mono ?_;rintro e u' c ⟨rfl,rfl,rfl⟩;have a:(w1.setCell ⟨w.heap.size,0,none⟩ (.int .i64 0)).cell? ⟨w.heap.size,0,none⟩=some (.int .i64 0):=World.cell?_setCell_same' _ _ _ (by rw [hc];rfl);simp [Leaves,settle,results,results71,go_sem,a];exact ⟨_,⟨hq,hb⟩,rfl⟩
 ·have hc:w1.cell? ⟨w.heap.size,0,none⟩=some (.int .i64 0):=by simp [World.cell?,hb]
  have hz:w1.frozen? ⟨w.heap.size,0,none⟩=false:=by simp [World.frozen?,hb]
  clear h;refine leaves_cons (f:=127) (args:=#[.pointer (some ⟨w.heap.size,0,none⟩)]) (by simp) (by simp [go_sem]) ?_;refine (Hl ⟨w.heap.size,0,none⟩ 0 n [] _ hc hz).mono ?_;rintro e u' c ⟨rfl,rfl,rfl⟩;have a:(w1.setCell ⟨w.heap.size,0,none⟩ (.int .i64 n)).cell? ⟨w.heap.size,0,none⟩=some (.int .i64 n):=World.cell?_setCell_same' _ _ _ (by rw [hc];rfl);simp [Leaves,settle,results,results71,go_sem,a];exact ⟨_,⟨hq,hb⟩,rfl⟩

theorem jn (n:Int) (w:World):ClZ 128 #[.bool false,.int .i64 n] w fun e w'=>e=.returned (.tuple #[])/\w'=w:=by
 delta ClZ;go_in;go_wp2;go_end0
 exact ⟨rfl,rfl⟩

theorem gZ (n:Int) (w:World):ClZ 128 #[.bool true,.int .i64 n] w fun e w'=>e=.panicked [refusal n]/\w'=w:=by
 delta ClZ;go_in;go_wp2;exact ⟨rfl,rfl,rfl⟩

theorem pq (V:Nat):(aN V+63)/64=am V:=by
 unfold aN am;by_cases h:V=0
 ·rw [ai h,ai h]
 ·rw [ar h,ar h];omega

theorem CH (v:Value) (xs:LN) (R:Nat) (hR:R=am (val xs)) (w:World) (h:Row .u64 w v xs) (hd:Digs xs) (hl:xs.length<=100000000) :
  ClZ 73 #[v] w fun e w'=>e=.returned (.int .i64 (R:Nat))/\w'=w:=by
 have hB:=iO v xs w h hd hl;have hn:=pq (val xs);rw [<- hR] at hn;have hb:aN (val xs)<=100000000*64:=by
  have h1:=(aC (val xs) xs.length).2 (aE (by omega) hd);rw [<- hR] at h1;omega
 obtain ⟨b,a⟩:=aj (aN (val xs))
 rw [<- a] at hB hn hb;have HN:=aa hn;clear hR h hd hl a hn;delta ClZ;go_in;go_wp2_with fail;refine hB.mono ?_;rintro e w' ⟨rfl,rfl⟩;go_wp2_with fail;go_ret;refine ⟨?_,rfl⟩;have hn:=HN.o;show Ending.returned (Value.int .i64 (((b:Int)+64-1)/64))=_
 rw [show ((b:Int)+64-1)/64=(R:Int) by omega]

def rfn (L V:Nat):Nat:=if 130<L then 2 else if V<2 then 1 else if V%2=0 then 60 else 0

theorem mR (ao:OA) (L l:Nat) (xs:LN) (w:World) (h:Row .u64 w (.slice ao L l) xs) (hd:Digs xs) (hl:L<=100000000:=by omega) :
  ClZ 74 #[.slice ao L l] w fun e w'=>((rfn L (val xs)=0/\e=.returned (.tuple #[]))\/(rfn L (val xs)≠0/\e=.panicked [refusal (rfn L (val xs):Nat)]))/\w'=w:=by
 obtain ⟨_,_,_,e1,m,_,_,_,c⟩:=h.open;cases e1
 have hB:=iO _ xs w h hd (by rw [m.o];exact hl);obtain ⟨V,hV⟩:=aj (val xs)
 rw [<- hV] at hB ⊢;have HX:=aa (dn (by omega) hd 0);rw [<- hV] at HX;have p:HzD (V<18446744073709551616^L):=by have:=aE (by omega) hd;rw [m.o,<- hV] at this;exact this
 have o:HzD (xs.getD 0 0<18446744073709551616):=hd.getD (by omega) _;have i:aN V<2↔V<2:=by
  unfold aN;by_cases h0:V=0
  ·simp [h0]
  ·rw [ar h0];have:=Nat.log2_lt (n:=V) (k:=1) h0;omega
 obtain ⟨b,hb⟩:=aj (aN V)
 rw [<- hb] at hB i;clear hV h hd hb;unfold rfn;have g:=jn 2 w;have f:=jn 1 w;have j:=jn 60 w;by_cases h1:130<L
 ·have hY:=gZ 2 w;rw [ai h1];have g1:(L:Int) > 130:=by omega
  clear c hB f g j;delta ClZ;go_in;go_wp2_with fail;refine hY.mono ?_;rintro e w' ⟨rfl,rfl⟩;exact ⟨rfl,.inr ⟨by omega,rfl⟩,rfl⟩
 ·rw [ar h1];have g1:¬ (L:Int) > 130:=by omega
  by_cases h2:V<2
  ·have hY:=gZ 1 w;rw [ai h2];have g2:(b:Int)<2:=by have:=i.2 h2;omega
   clear c f j;delta ClZ;go_in;go_wp2_with fail;refine g.mono ?_;rintro e w' ⟨rfl,rfl⟩;go_wp2_with fail;refine hB.mono ?_;rintro e w' ⟨rfl,rfl⟩;go_wp2_with fail;refine hY.mono ?_;rintro e w' ⟨rfl,rfl⟩;exact ⟨rfl,.inr ⟨by omega,rfl⟩,rfl⟩
  ·rw [ar h2];have g2:¬ (b:Int)<2:=by have:=mt i.1 h2;omega
   have q:0<L:=by
    rcases cE L with h0 | h0
    ·have:=p.o;rw [h0,cP] at this;omega
    ·exact h0
   obtain ⟨b2,t,rfl,r⟩:=c 0 q;have v:=o.o;have s:V%18446744073709551616=xs.getD 0 0:=by
    have:=HX.o;unfold dig at this
    rwa [cP,fC] at this
   have d:(xs.getD 0 0)%2=V%2:=by omega
   have a:=and_one_u64 (xs.getD 0 0:Nat) (by omega) (by omega);generalize xs.getD 0 0=x at *;rw [aV] at r;clear c s HX i;by_cases h3:V%2=0
   ·have hY:=gZ 60 w;rw [ai h3];have hz:bits .and .u64 (x:Int) 1=0:=by rw [a];omega
    clear a d;delta ClZ;go_in;go_wp2_with fail;refine g.mono ?_;rintro e w' ⟨rfl,rfl⟩;go_wp2_with fail;refine hB.mono ?_;rintro e w' ⟨rfl,rfl⟩;go_wp2_with fail;rw [show decide ((b:Int)<2)=false from cI (by omega)];refine f.mono ?_;rintro e w' ⟨rfl,rfl⟩;go_wp2_with fail;refine hY.mono ?_;rintro e w' ⟨rfl,rfl⟩;exact ⟨rfl,.inr ⟨by omega,rfl⟩,rfl⟩
   ·rw [ar h3];have hz:bits .and .u64 (x:Int) 1=1:=by rw [a];omega
    clear a d;delta ClZ;go_in;go_wp2_with fail;refine g.mono ?_;rintro e w' ⟨rfl,rfl⟩;go_wp2_with fail;refine hB.mono ?_;rintro e w' ⟨rfl,rfl⟩;go_wp2_with fail;rw [show decide ((b:Int)<2)=false from cI (by omega)];refine f.mono ?_;rintro e w' ⟨rfl,rfl⟩;go_wp2_with fail;refine j.mono ?_;rintro e w' ⟨rfl,rfl⟩;go_wp2_with fail;go_end0
    exact ⟨.inl ⟨trivial,rfl⟩,rfl⟩

theorem By (N:Nat):(List.replicate (N+1) 0).set N 1=List.replicate N 0 ++ [1]:=by
 rw [iq,ir _ _ (by simp)];simp

theorem Eh (N:Nat):val (List.replicate N 0 ++ [1])=18446744073709551616^N:=by
 rw [dG,eY _ (fun d hd=>(ff.1 hd).2),bw];omega

theorem Bx (N:Nat):Digs (List.replicate N 0 ++ [1]):=fun d hd=>by
 rw [List.mem_append,ff,List.mem_singleton] at hd;omega

def pu (V K R n:Nat):Nat:=if (V*K+1)%18446744073709551616=0/\R=18446744073709551616^(2*n)%V then 1 else 0

theorem tY (a b:Bool):bits .and .u64 ((dF a:Nat):Int) ((dF b:Nat):Int)=((dF (a && b):Nat):Int):=by
 cases a <;> cases b <;> decide

theorem Eo (x:Nat):zer (x:Int)=((dF (decide (x=0)):Nat):Int):=by
 unfold zer dF;by_cases h:x=0
 ·rw [cf,dV h,ai rfl];rfl
 ·rw [aK,cI h,ar (by decide)];rfl

theorem Bb {K R Q A:Nat} (hn:0<n) (hV:V<18446744073709551616^n) (e:18446744073709551616^(n-1)<V) (b:V%2=1) (hv:A+18446744073709551616^(n+(n+1))*c=R+V*Q) (hQ:Q<18446744073709551616^(n+1)) (a:(V*K+1)%18446744073709551616=0->0<n->A%18446744073709551616^(n+1)=0) :
  dF (decide ((V*K+1)%18446744073709551616=0) && decide (R<V) && decide (A=18446744073709551616^(2*n)))=pu V K R n:=by
 unfold pu dF;have d:0<V:=by omega
 by_cases h1:(V*K+1)%18446744073709551616=0
 ·by_cases h2:R<V
  ·have i:Nat.Coprime V (18446744073709551616^(n+1)):=by rw [B64];exact ia b
   obtain ⟨n',rfl⟩:∃ n',n=n'+1:=⟨n-1,by omega⟩
   have hW:18446744073709551616^(2*(n'+1))%18446744073709551616^(n'+1+1)=0:=by
    rw [show 2*(n'+1)=(n'+1+1)+n' by omega,aL];exact Nat.mul_mod_right _ _
   have g:18446744073709551616^(2*(n'+1))/V<18446744073709551616^(n'+1+1):=by
    rw [cW d];rw [gF] at e;have h3:18446744073709551616^(n'+1+1)*18446744073709551616^n'<18446744073709551616^(n'+1+1)*V:=my e (aX);rw [<- aL,show n'+1+1+n'=2*(n'+1) by omega] at h3;exact h3
   have hE:V*18446744073709551616^(n'+1+1)<=18446744073709551616^(n'+1+(n'+1+1)):=by
    rw [aL _ (n'+1) (n'+1+1)];exact cF _ (eH hV)
   have f:=Dm h2 hQ hE hv (a h1 hn) i hW g;by_cases h3:A=18446744073709551616^(2*(n'+1))
   ·rw [dV h1,dV h2,dV h3,ai (by decide),ai ⟨h1,f.1 h3⟩]
   ·rw [dV h1,dV h2,cI h3,ar (by decide),ar (fun h=>h3 (f.2 h.2))]
  ·rw [dV h1,cI h2,ar (by simp),ar];rintro ⟨_,h3⟩;apply h2;rw [h3];exact aY _ d
 ·rw [cI h1,ar (by simp),ar (fun h=>h1 h.1)]

theorem A4 (ao bo:OA) (n K g a:Nat) (ms rs:LN) (P:Nat) (w:World) (hm:Row .u64 w (.slice ao n g) ms) (hr:Row .u64 w (.slice bo n a) rs) (B:Digs ms) (C:Digs rs) (hn:0<n) (aQ:n<=130)
  (U:18446744073709551616^(n-1)<val ms) (s:val ms%2=1) (hP:P=pu (val ms) K (val rs) n) :
  ClZ 179 #[.agg (mzA ao n g K bo n a)] w fun e w'=>e=.returned (.int .u64 (P:Nat))/\Kept af w w':=by
 obtain ⟨i0,aG,aL,aM,aN⟩:=info_parts Tryz.info24;obtain ⟨_,_,_,e1,M,_,_,_,q⟩:=hm.open;cases e1
 obtain ⟨_,_,_,e1,O,_,_,_,_⟩:=hr.open;cases e1
 obtain ⟨bm,off,rfl,I⟩:=q 0 hn;rw [aV] at I;have hV:val ms<18446744073709551616^n:=by rw [<- M.o];exact aE (by omega) B
 have T:val rs<18446744073709551616^n:=by rw [<- O.o];exact aE (by omega) C
 obtain ⟨W0,v⟩:=aj (w.alloc (.cells #[.slice (some ⟨bm,off,none⟩) n g,.int .u64 (K:Nat),.slice bo n a] 71))
 have k0:Kept af w W0:=by rw [v];exact (ah af w).alloc _
 have l:W0.heap[w.heap.size]? = some (.cells #[.slice (some ⟨bm,off,none⟩) n g,.int .u64 (K:Nat),.slice bo n a] 71 (0,0)):=by rw [v];exact heap_alloc_new _ _
 obtain ⟨N,hN⟩:=aj (2*n+1)
 have hF:=A3 (.slice bo n a) rs N W0 (hr.g k0) C;have hA:=fun W (k:Kept af W0 W) (ho:OwnN .u64 24 W W0.heap.size (.slice (some ⟨W0.heap.size,0,none⟩) N N) N (digs (val rs) N))=>uY W0 none none [] W0.heap.size W0.heap.size N N n (n+1) K g n a _ bo _ ms W (Did.of_kept k trivial) (TrRoom.none _ _ (by simp;omega)) (leR _) ho (ag _ _ _) (ak (by omega) _ _) (by omega) (by omega) (RowT.none (hm.g k0)) B w.heap.size _ _ ((k.block _ (lt_of_block l) (fun f=>f)).trans l) (by decide) (by decide) (by have:=lt_of_block l;omega)
 rw [ay,aB (bi T (bj (by omega) (by omega)))] at hA;have HF:=aa hF;have HA:=aa hA;have HM:=aa (hm.g k0);have HR:=aa (hr.g k0);have HX:=aa l;have au:=aa k0;have D:=aa B;have az:=aa C;have aA:=aa v;have p:=k0.cellN I;obtain ⟨p0,p1,p2⟩:=ax l;have gN:(2:Int)*(n:Int)+1=(N:Int):=by omega
 have aC:((n+1:Nat):Int)=(n:Int)+1:=by omega
 have HN:=aa hN;have aO:N<=300:=by omega
 have L:=aa hV;clear v l k0 hm hr hA hF q I B C hN hV T;delta ClZ;go_in;go_wp2_with (rw [<- aA.o]);refine HF.o.mono ?_;rintro e w1 ⟨rfl,ae,k1⟩;have E:=HA.o w1 k1 ae;rw [aC,show aP none=.pointer none from rfl] at E;have q0:=k1.cellN p0;have q1:=k1.cellN p1;have q2:=k1.cellN p2;clear HF HA p0 p1 p2 ae;go_wp2_with fail;refine E.mono ?_;rintro e w2 ⟨c,rfl,⟨hc,t,Q,o1,al,ad,Y,ab,S,i,D2⟩,o⟩;have k2:=D2.none.2;have HE:=aa ab;have HQ:=aa S;have m:=aa i;have aw:=aa al;have J:=aa ad;have ar:=aa Y;have aK:2*n<N:=by have:=HN.o;omega
 clear E q0 q1 q2 ab S i al D2 o ad Y k1;have av:=aa k2;clear k2;go_wp2_with (at_make;refine wpList_make_full _ rfl _ _ 23 rfl w2.heap.size 24 i0 _ 1 underlying23 aG aL aM _ _ _ _ N rfl rfl (by first | exact gN | rfl) (by first | exact gN | rfl) (by rw [aN];omega) (by unfold maxLen;omega) (leR _) ?_;intro w3 r ac;rw [bD] at r;have k3:=bf ac;have X:=World.ownsRow.cellAt r (2*n) (by omega);have aF:=World.ownsRow.frozenAt r (2*n);rw [bV,eF,ai aK] at X;clear ac)
 have am:OwnN .u64 24 (w3.setCell ⟨w2.heap.size,2*n,none⟩ (.int .u64 1)) w2.heap.size (.slice (some ⟨w2.heap.size,0,none⟩) N N) N (List.replicate (2*n) 0 ++ [1]):=by
  have:=(World.ownsRow.stored r (2*n) (.int .u64 1)).1;unfold OwnN;rw [<- By,cG,<- HN.o];exact this
 have k4:Kept af w2 (w3.setCell ⟨w2.heap.size,2*n,none⟩ (.int .u64 1)):=fH k3 ((ah (fun b=>b=w2.heap.size) w3).setCell ⟨w2.heap.size,2*n,none⟩ (fun _=>rfl) _) (leR _);generalize w3.setCell ⟨w2.heap.size,2*n,none⟩ (.int .u64 1)=w4 at *;have K4:=av.o.trans k4;have ap:=(K4.block _ (lt_of_block HX.o) (fun f=>f)).trans HX.o;obtain ⟨r0,r1,r2⟩:=ax ap;have r3:=K4.cellN p;have j:Row .u64 w4 (.slice (some ⟨w2.heap.size,0,none⟩) N N) (List.replicate (2*n) 0 ++ [1]):=dz am (by rw [bk,bw,HN.o];rfl);have an:Row .u64 w4 (.slice (some ⟨W0.heap.size,0,none⟩) N N) t:=dz (k4.own aw.o (fun _ _ f=>f)) J.o
 have hx:ms.getD 0 0<18446744073709551616:=D.o.getD (by omega) _;have Z:val ms%18446744073709551616=ms.getD 0 0:=by
  have:=dn (by omega) D.o 0;unfold dig at this
  rwa [cP,fC] at this
 have aI:ms.length<=100000000:=by rw [M.o];omega
 have aH:rs.length<=100000000:=by rw [O.o];omega
 have aJ:t.length<=100000000:=by rw [J.o];omega
 have hL:=fun W (k:Kept af w4 W)=>sr none _ _ rs ms W (TrRoom.none _ _ (by omega)) (RowT.none (HR.o.g (K4.trans k))) (RowT.none (HM.o.g (K4.trans k))) az.o D.o aH aI
 have hE:=fun W (k:Kept af w4 W)=>qN none _ _ t _ W (TrRoom.none _ _ (by omega)) (RowT.none (an.g k)) (RowT.none (j.g k)) ar.o (Bx (2*n)) aJ (by simp;omega)
 rw [Eh] at hE;have h:=Bb (V:=val ms) (K:=K) (R:=val rs) (n:=n) (Q:=Q) (A:=val t) (c:=c) hn L.o U s (by rw [show n+(n+1)=N by have:=HN.o;omega];exact HE.o) HQ.o m.o;rw [<- hP] at h;obtain ⟨y,hy⟩:=aj (K*ms.getD 0 0%18446744073709551616)
 obtain ⟨z,hz⟩:=aj ((y+1)%18446744073709551616)
 have aq:decide (z=0)=decide ((val ms*K+1)%18446744073709551616=0):=by
  have:z=(val ms*K+1)%18446744073709551616:=by
   rw [hz,hy,<- Z,ki,ep,<- ki,aD (val ms),ki,cH,ep,<- cH,<- ki]
  rw [this]
 rw [<- aq] at h;have gy:IntKind.u64.wrap ((K:Int)*((ms.getD 0 0:Nat):Int))=(y:Int):=by rw [IntKind.wrap_u64,hy];omega
 have gz:IntKind.u64.wrap ((y:Int)+1)=(z:Int):=by rw [IntKind.wrap_u64,hz];omega
 obtain ⟨b0,F⟩:=aj (dF (decide (z=0)))
 obtain ⟨b1,G⟩:=aj (dF (decide (val rs<val ms)))
 obtain ⟨b2,o⟩:=aj (dF (decide (val t=18446744073709551616^(2*n))))
 obtain ⟨b3,H⟩:=aj (dF (decide (z=0) && decide (val rs<val ms)))
 have g1:bits .and .u64 (b0:Int) (b1:Int)=(b3:Int):=by rw [F,G,H];exact tY _ _
 have g2:bits .and .u64 (b3:Int) (b2:Int)=(P:Int):=by rw [H,o,<- h];exact tY _ _
 have hZ:HzD (∀ W,ClZ 117 #[.int .u64 (z:Int)] W fun e w'=>e=.returned (.int .u64 (b0:Int))/\w'=W):=fun W=>by
  have:=Eg (z:Int) (by omega) (by omega) W;rw [Eo,<- F] at this;exact this
 have JL:HzD (∀ W,Kept af w4 W->ClZ 112 #[.pointer none,.slice bo n a,.slice (some ⟨bm,off,none⟩) n g] W fun e w'=>e=.returned (.int .u64 (b1:Int))/\Kept af w4 w'):=fun W k=>by
  refine (hL W k).mono ?_;rintro e w' ⟨rfl,o',d⟩;exact ⟨by rw [G],k.trans d.none.2⟩
 have JE:HzD (∀ W,Kept af w4 W->ClZ 66 #[.pointer none,.slice (some ⟨W0.heap.size,0,none⟩) N N,.slice (some ⟨w2.heap.size,0,none⟩) N N] W fun e w'=>e=.returned (.int .u64 (b2:Int))/\Kept af w4 w'):=fun W k=>by
  refine (hE W k).mono ?_;rintro e w' ⟨rfl,o',d⟩;exact ⟨by rw [o],k.trans d.none.2⟩
 have KF:=aa (au.o.trans K4);clear hL hE h aq Z F G o H hy hz j an ap am k4 r X aF k3 K4 p hP U s HE m HQ L;generalize ms.getD 0 0=x at *;go_region_held3 (fun w'=>w'.cell? ⟨w.heap.size,0,none⟩=some (.slice (some ⟨bm,off,none⟩) n g)/\w'.cell? ⟨w.heap.size,1,none⟩=some (.int .u64 (K:Int))/\w'.cell? ⟨w.heap.size,2,none⟩=some (.slice bo n a)/\w'.cell? ⟨bm,off,none⟩=some (.int .u64 (x:Int)))
  (((try dsimp only);(repeat' apply And.intro) <;> first | (go_keep;done) | assumption))
  (first
  | (go_at_call 117;refine (hZ.o _).mono ?_;rintro e w5 ⟨rfl,rfl⟩)
  | (go_at_call 112;refine (JL.o _ ?_).mono ?_;(exact (ah _ _).drew);rintro e w6 ⟨rfl,k6⟩;have s0:=k6.cellN r0;have s1:=k6.cellN r1;have s2:=k6.cellN r2;have s3:=k6.cellN r3)
  | (go_at_call 66;refine (JE.o _ ?_).mono ?_;(exact k6);rintro e w7 ⟨rfl,k7⟩;have t0:=k7.cellN r0;have t1:=k7.cellN r1;have t2:=k7.cellN r2;have t3:=k7.cellN r3))
 all_goals
  go_wp2_with fail;go_ret;exact ⟨rfl,KF.o.trans k7⟩

theorem pP {ms rs:LN} {K l:Nat} (hn:ms.length=n) (hl:rs.length=l) (c:Digs ms) (d:Digs rs) (hK:K<18446744073709551616) :
  okMod ms K rs↔(rfn n (val ms)=0/\am (val ms)=n/\l=n/\pu (val ms) K (val rs) n=1):=by
 have a:val ms<18446744073709551616^n:=by rw [<- hn];exact aE (by omega) c
 have b:18446744073709551616^(2*n)=2^(128*n):=by rw [B64];congr 1;omega
 obtain ⟨V,hV⟩:=aj (val ms)
 unfold okMod rfn pu;rw [<- hV] at a ⊢;constructor
 ·rintro ⟨h1,h2,h3,h4⟩;obtain ⟨m1,m2,m3⟩:=eu h1;unfold jF at h2;unfold j4 at h4;rw [ai h1] at h2 h4;have hw:am V=n:=by rw [<- hn,<- h2,ag]
  rw [hw] at h4 m1;refine ⟨?_,hw,by rw [<- hl,<- h4,ag],?_⟩
  ·rw [aK,aK,aK]
  ·rw [ai];refine ⟨h3.2.1 h1,?_⟩;rw [<- h4,ay,b,aB (bH (bu) a)]
 ·rintro ⟨h1,h2,h3,h4⟩;have g1:¬ 130<n:=fun h=>by rw [ai h] at h1;omega
  rw [ar g1] at h1;have g2:¬ V<2:=fun h=>by rw [ai h] at h1;omega
  rw [ar g2] at h1;have g3:¬ V%2=0:=fun h=>by rw [ai h] at h1;omega
  have hE:eS V=0:=by
   unfold eS;rw [h2,ar g1,ar g2,ar g3]
  by_cases h5:(V*K+1)%18446744073709551616=0/\val rs=18446744073709551616^(2*n)%V
  ·refine ⟨hE,?_,⟨hK,fun _=>h5.1,fun h=>absurd hE h⟩,?_⟩
   ·unfold jF;rw [ai hE,h2];exact (cS (by omega) c hn (by rw [<- hV,aB a])).symm
   ·unfold j4;rw [ai hE,h2,<- b];exact (cS (by omega) d (hl.trans h3) (by rw [h5.2,aB (bH (bu) a)])).symm
  ·rw [ar h5] at h4;omega

theorem rR (h:am V=n) (hn:0<n) (h2:2<=V) (ho:V%2=1):18446744073709551616^(n-1)<V:=by
 have h1:¬ am V<=n-1:=by omega
 rw [aC] at h1;rcases gG (18446744073709551616^(n-1)) V with h3 | h3
 ·exact h3
 ·exfalso
  have e:V=18446744073709551616^(n-1):=by omega
  rcases cE (n-1) with h4 | h4
  ·rw [h4,cP] at e;omega
  ·obtain ⟨k,hk⟩:∃ k,n-1=k+1:=⟨n-1-1,by omega⟩
   rw [hk,aG] at e;omega

theorem Fd (ao bo:OA) (n l K d g b:Nat) (ms rs:LN) (w:World) (hm:Row .u64 w (.slice ao n d) ms) (hr:Row .u64 w (.slice bo l g) rs) (o:Digs ms) (s:Digs rs) (hK:K<18446744073709551616) (I:n<=1000000)
  (hb:w.heap[b]? = some (.cells (mzA ao n d K bo l g) 71 (0,0))) :
  ClZ 178 #[.pointer (some ⟨b,0,none⟩)] w fun e w'=>Kept af w w'/\((okMod ms K rs/\e=.returned (.tuple #[]))\/(¬ okMod ms K rs/\∃ c:Nat,c≠0/\e=.panicked [refusal (c:Nat)])):=by
 obtain ⟨_,_,_,e1,v,_,_,_,_⟩:=hm.open;cases e1
 obtain ⟨_,_,_,e1,F,_,_,_,_⟩:=hr.open;cases e1
 have HI:=aa (pP (K:=K) v.o F.o o s hK);have i:=mR ao n d ms w hm o;obtain ⟨R,hR⟩:=aj (am (val ms))
 have q:=CH (.slice ao n d) ms R hR w hm o (by rw [v.o];omega);obtain ⟨E,hE⟩:=aj (rfn n (val ms))
 rw [<- hE] at i;have H:=jn 1 w;have k:=gZ 1 w;obtain ⟨p0,p1,p2⟩:=ax hb;have HM:=aa hm;have HR:=aa hr;have A:=aa o;have C:=aa s;have p:=aa hR;have HE:=aa hE;clear hb hm hr o s hR hE;by_cases h1:E=0
 ·subst h1;by_cases h2:R=n
  ·by_cases h3:l=n
   ·subst h2 h3;have a:2<=val ms/\val ms%2=1/\l<=130:=by
     have:=HE.o;unfold rfn at this;by_cases g1:130<l
     ·rw [ai g1] at this;omega
     ·rw [ar g1] at this;by_cases g2:val ms<2
      ·rw [ai g2] at this;omega
      ·rw [ar g2] at this;by_cases g3:val ms%2=0
       ·rw [ai g3] at this;omega
       ·omega
    have y:0<l:=by
     rcases cE l with h0 | h0
     ·have hw:=p.o;have h5:=(aC (val ms) 0).1 (by omega);rw [cP] at h5;omega
     ·exact h0
    obtain ⟨P,hP⟩:=aj (pu (val ms) K (val rs) l)
    have x:=A4 ao bo l K d g ms rs P w HM.o HR.o A.o C.o y a.2.2 (rR p.o.symm y a.1 a.2.1) a.2.1 hP;have r:P=0\/P=1:=by rw [hP];unfold pu;split <;> simp
    have z:okMod ms K rs↔P=1:=by
     rw [HI.o,<- hP];exact ⟨fun h=>h.2.2.2,fun h=>⟨HE.o.symm,p.o.symm,rfl,h⟩⟩
    have t:=aa z;have f:=fun W=>jn 1 W
    have m:=fun W=>gZ 1 W
    clear hP z HI a;rcases r with rfl | rfl
    ·delta ClZ;go_in;go_wp2_with fail;refine i.mono ?_;rintro e w1 ⟨⟨_,rfl⟩ | ⟨h,_⟩,rfl⟩
     ·go_wp2_with fail;refine q.mono ?_;rintro e w2 ⟨rfl,rfl⟩;go_wp2_with fail;refine (f _).mono ?_;rintro e w3 ⟨rfl,rfl⟩;go_wp2_with fail;refine x.mono ?_;rintro e w4 ⟨rfl,k4⟩;go_wp2_with fail;refine (m _).mono ?_;rintro e w5 ⟨rfl,rfl⟩;exact ⟨rfl,k4,.inr ⟨fun h=>by have:=t.o.1 h;omega,1,by omega,rfl⟩⟩
     ·exact absurd rfl h
    ·delta ClZ;go_in;go_wp2_with fail;refine i.mono ?_;rintro e w1 ⟨⟨_,rfl⟩ | ⟨h,_⟩,rfl⟩
     ·go_wp2_with fail;refine q.mono ?_;rintro e w2 ⟨rfl,rfl⟩;go_wp2_with fail;refine (f _).mono ?_;rintro e w3 ⟨rfl,rfl⟩;go_wp2_with fail;refine x.mono ?_;rintro e w4 ⟨rfl,k4⟩;go_wp2_with fail;refine (f _).mono ?_;rintro e w5 ⟨rfl,rfl⟩;go_wp2_with fail;go_end0
      exact ⟨k4,.inl ⟨t.o.2 (by first | rfl | trivial),rfl⟩⟩
     ·exact absurd rfl h
   ·subst h2;have D:¬ (l:Int)=(R:Int):=by omega
    have B:HzD ((((l:Nat):Int) != ((R:Nat):Int))=true):=bne_iff_ne.2 D;have j:HzD (¬ okMod ms K rs):=fun h=>h3 (HI.o.1 h).2.2.1
    clear HI;delta ClZ;go_in;go_wp2_with fail;refine i.mono ?_;rintro e w1 ⟨⟨_,rfl⟩ | ⟨h,_⟩,rfl⟩
    ·go_wp2_with fail;refine q.mono ?_;rintro e w2 ⟨rfl,rfl⟩;go_wp2_with fail;rw [B.o];refine k.mono ?_;rintro e w3 ⟨rfl,rfl⟩;exact ⟨rfl,ah _ _,.inr ⟨j.o,1,by omega,rfl⟩⟩
    ·exact absurd rfl h
  ·have G:¬ (R:Int)=(n:Int):=by omega
   have j:HzD (¬ okMod ms K rs):=fun h=>h2 (p.o.trans (HI.o.1 h).2.1)
   clear HI;delta ClZ;go_in;go_wp2_with fail;refine i.mono ?_;rintro e w1 ⟨⟨_,rfl⟩ | ⟨h,_⟩,rfl⟩
   ·go_wp2_with fail;refine q.mono ?_;rintro e w2 ⟨rfl,rfl⟩;go_wp2_with fail;refine k.mono ?_;rintro e w3 ⟨rfl,rfl⟩;exact ⟨rfl,ah _ _,.inr ⟨j.o,1,by omega,rfl⟩⟩
   ·exact absurd rfl h
 ·have j:HzD (¬ okMod ms K rs):=fun h=>h1 (HE.o.trans (HI.o.1 h).1)
  clear HI;delta ClZ;go_in;go_wp2_with fail;refine i.mono ?_;rintro e w1 ⟨⟨h,_⟩ | ⟨h,rfl⟩,rfl⟩
  ·exact absurd h h1
  ·exact ⟨rfl,ah _ _,.inr ⟨j.o,E,h,rfl⟩⟩

theorem oS (ao bo:OA) (n l K a b:Nat) (ms rs:LN) (R:Bool) (hR:R=true↔okMod ms K rs) (w:World) (hm:Row .u64 w (.slice ao n a) ms) (hr:Row .u64 w (.slice bo l b) rs) (g:Digs ms) (i:Digs rs) (hK:K<18446744073709551616) (o:n<=1000000:=by omega) :
  ClZ 114 #[.agg (mzA ao n a K bo l b)] w fun e w'=>e=.returned (.bool R)/\Kept af w w':=by
 obtain ⟨W,hW⟩:=aj (w.alloc (.cells (mzA ao n a K bo l b) 71))
 have k0:Kept af w W:=by rw [hW];exact (ah af w).alloc _
 have j:W.heap[w.heap.size]? = some (.cells (mzA ao n a K bo l b) 71 (0,0)):=by rw [hW];exact heap_alloc_new _ _
 have he:∀ args w,(callFunc 178 args).run prog w=.ok (.enter 178 args) w:=fun _ _=>by simp [go_sem]
 have k1:=k0.alloc (.cells #[.int .i64 0] 35);have xe:=Box.new W (.int .i64 0) 35;have h1:=Fd ao bo n l K a b w.heap.size ms rs _ (hm.g k1) (hr.g k1) g i hK o (aw j);have d:=qQ 178 #[.pointer (some ⟨w.heap.size,0,none⟩)] W (fun c W'=>Kept af w W'/\(c=0↔okMod ms K rs)) he (h1.mono (by
  rintro e w' ⟨k,(⟨h2,rfl⟩ | ⟨h2,c,hc,rfl⟩)⟩
  ·exact ⟨(k.block _ xe.lt (fun f=>f)).trans xe,.inl ⟨rfl,k1.trans k,⟨fun _=>h2,fun _=>rfl⟩⟩⟩
  ·exact ⟨(k.block _ xe.lt (fun f=>f)).trans xe,.inr ⟨_,rfl,k1.trans k,⟨fun h=>absurd (by omega) hc,fun h=>absurd h h2⟩⟩⟩))
 have HR:=aa hR;have HW:=aa hW;have p:w.heap.size<=W.heap.size:=k0.size;clear h1 hm hr g i hR hW k0 k1 j xe he;delta ClZ;go_in;go_wp2_with (rw [<- HW.o]);refine d.mono ?_;rintro e w' ⟨c,w1,rfl,⟨⟨k2,h2⟩,m⟩,rfl⟩;have k3:=k2.next (aF w1 W.heap.size (.int .i64 c)) (fun x hx e=>by omega)
 have HC:HzD (decide (c=0)=R):=by
  unfold HzD;have h3:=HR.o;by_cases h4:c=0
  ·rw [dV h4];exact (h3.2 (h2.1 h4)).symm
  ·rw [cI h4];cases R
   ·rfl
   ·exact absurd (h2.2 (h3.1 rfl)) h4
 clear d h2 k2 m;generalize w1.setCell ⟨W.heap.size,0,none⟩ (.int .i64 c)=w2 at *;go_wp2_with fail;go_ret;rw [<- HC.o];exact ⟨rfl,k3⟩

theorem Ef (k x y:Nat) (hk:k<18446744073709551616) (hx:x<18446744073709551616) (hy:y<18446744073709551616) (w:World) :
  ClZ 118 #[.int .u64 (k:Nat),.int .u64 (x:Nat),.int .u64 (y:Nat)] w fun e w'=>e=.returned (.int .u64 (cZ k x y:Nat))/\w'=w:=by
 refine (F8 (k:Int) (x:Int) (y:Int) (by omega) (by omega) (by omega) (by omega) (by omega) (by omega) w).mono ?_;rintro e w' ⟨rfl,rfl⟩;refine ⟨Ah ?_,rfl⟩;unfold sel cZ;by_cases h:k%2=1
 ·rw [ai h,cf]
 ·rw [ar h,aK]

theorem EG (B X Y bit k:Nat):dig (cZ bit X Y) k B=cZ bit (dig X k B) (dig Y k B):=by
 unfold cZ;by_cases h:bit%2=1
 ·rw [ai h,ai h]
 ·rw [ar h,ar h]

theorem oh (o:Tr) (bit:Nat) (q:bit<18446744073709551616) (u v:Value) (xs ys:LN) (w:World) (ht:TrRoom w o 1) (hu:RowT w o u xs) (hv:RowT w o v ys) (N:Digs xs) (O:Digs ys) (hL:xs.length<=100000000:=by omega) (hM:ys.length<=100000000:=by omega) :
  ClZ 67 #[aP o,.int .u64 (bit:Nat),u,v] w fun e w'=>∃ v',e=.returned v' /\
   OwnN .u64 24 w' w.heap.size v' (max xs.length ys.length) (digs (cZ bit (val xs) (val ys)) (max xs.length ys.length))/\∃ o',Did w o [(1,(max xs.length ys.length:Nat),0)] w' o':=by
 obtain ⟨i0,ad,ai,ak,al⟩:=info_parts Tryz.info24;obtain ⟨ao,L,m,rfl,G,_,_,_,_⟩:=hu.1.open;obtain ⟨bo,M,p,rfl,H,_,_,_,_⟩:=hv.1.open;have eL:=G.o;have eM:=H.o;have hC:=nV ao bo L M m p w;have E:=fun o' W g (t:TrIn W o') (r:RowT W o' (.slice ao L m) xs) hg=>rN o' _ xs (max L M) g W t r N (by omega) (by omega) hg
 have F:=fun o' W g (t:TrIn W o') (r:RowT W o' (.slice bo M p) ys) hg=>rN o' _ ys (max L M) g W t r O (by omega) (by omega) hg
 have av:max L M<=100000000:=by omega
 rw [eL,eM] at *;have HU:HzD (RowT w o (.slice ao L m) xs):=hu;have HV:HzD (RowT w o (.slice bo M p) ys):=hv;have HT:HzD (TrRoom w o 1):=ht;obtain ⟨tp,D⟩:=aj (aP o)
 rw [<- D];have ab:HzD (tp=aP o):=D;clear hu hv ht G H eL eM N O hL hM D;generalize val xs=X at *;generalize val ys=Y at *;generalize max L M=n at *;delta ClZ;go_in;go_wp2_with fail;refine hC.mono ?_;rintro e w1 ⟨g,rfl,s,ac,k1⟩;have hS:=gh o n w1 (HT.o.1.g k1);rw [<- ab.o] at hS;clear hC;go_wp2_with fail;refine hS.mono ?_;rintro e w2 ⟨rfl,o2,d2⟩;have d:w2.heap[g]? = _:=(d2.kept.block g (lt_of_block s) (fun f=>by have:=HT.o.1.foot g f;omega)).trans s;have a:=Did.b k1 d2;have C:TrIn w2 o2:=(a.room (k:=0) HT.o).1;have U:=HU.o.did a;have V:=HV.o.did a;clear hS d2 k1 s;go_wp2_with fail
 refine (E o2 w2 g C U d).mono ?_;rintro e w3 ⟨v1,rfl,R,k3⟩;have P:=(k3.block g (lt_of_block d) (fun f=>f)).trans d;go_wp2_with fail;refine (F o2 w3 g (C.g k3) (V.g k3) P).mono ?_;rintro e w4 ⟨v2,rfl,S,k4⟩;have c:=R.1.g k4;have d4:=aa ((a.g k3).g k4);obtain ⟨a1,n1,c1,rfl,I,_,_,_,A⟩:=c.open;obtain ⟨a2,n2,c2,rfl,J,_,_,_,B⟩:=S.1.open;obtain rfl:n1=n:=by rw [<- I.o,ag]
 obtain rfl:n2=n1:=by rw [<- J.o,ag]
 have ah:HzD (w.heap.size<=w4.heap.size):=d4.o.size;clear E F C U V d P R c S k3 k4 a I J ac;go_wp2_with (at_make;refine wpList_make_full _ rfl _ _ 23 rfl w4.heap.size 24 i0 _ 1 underlying23 ad ai ak _ _ _ _ n2 rfl rfl rfl rfl (by rw [al];omega) (by unfold maxLen;omega) (leR _) ?_;intro w5 l Q);rw [bD] at l;have k5:=bf Q;clear Q;go_loopw [32] (fun i wr=>∃ (k:Nat),k<=n2/\i=.int .i64 (k:Int)/\OwnN .u64 24 wr w4.heap.size (.slice (some ⟨w4.heap.size,0,none⟩) n2 n2) n2 (digs (cZ bit X Y) k ++ List.replicate (n2-k) 0)/\Kept af w4 wr) (fun i _=>n2-(intOf i).toNat)
 case atStart=>exact ⟨0,aQ _,rfl,by rw [digs,bZ,et];exact l,k5⟩
 case round=>
  obtain ⟨k,hk,rfl,ho,j⟩:=hrel;by_cases hkn:k<n2
  ·have au:(0:Int)<=(k:Int):=cN _;have ae:(k:Int)<(n2:Int):=by omega
   obtain ⟨b1,am,rfl,aq⟩:=fi ((A k hkn).g j) hkn;obtain ⟨b2,an,rfl,ar⟩:=fi ((B k hkn).g j) hkn;have ap:=jh ho (ag _ _ _) hkn;have hf:=World.ownsRow.frozenAt ho k;have T:=fun u=>(World.ownsRow.stored ho k u).1
   have hx:dig X k<18446744073709551616:=bu;have hy:dig Y k<18446744073709551616:=bu;have Z:HzD (OwnN .u64 24 (wr.setCell ⟨w4.heap.size,k,none⟩ (.int .u64 (cZ bit (dig X k) (dig Y k):Nat))) w4.heap.size (.slice (some ⟨w4.heap.size,0,none⟩) n2 n2) n2 (digs (cZ bit X Y) (k+1) ++ List.replicate (n2-(k+1)) 0)):=by
    have:=T (.int .u64 (cZ bit (dig X k) (dig Y k):Nat));unfold HzD OwnN;rw [<- xu _ n2 k hkn,cG,EG];exact this
   clear A B T l k5;generalize dig X k=x at *;generalize dig Y k=y at *;have hS:=fun W=>Ef bit x y q hx hy W
   generalize cZ bit x y=z at *;go_wp2_with fail;go_region_with (go_at_call 118;refine (hS _).mono ?_;rintro e w7 ⟨rfl,rfl⟩)
   all_goals
    go_wp2_with fail;go_roundw
    case rel=>exact ⟨k+1,by omega,by go_num,Z.o,(j.setCell _ (fun h=>by simp at h) _).drew⟩
    case measure=>simp [intOf];omega
  ·have ae:¬ (k:Int)<(n2:Int):=by omega
   have e:k=n2:=by omega
   subst e;rw [cj,fg,dY] at ho;clear A B l k5;go_wp2_with fail;go_ret;exact ⟨_,rfl,dg ho (fun b hb=>aI ah.o (ho.lt b hb).1),o2,d4.o.g j⟩

theorem Il (x c:Nat) (hc:c<=1):bits .or .u64 (((2*x)%18446744073709551616:Nat):Int) (c:Int)=(((2*x)%18446744073709551616+c:Nat):Int):=by
 rw [u64_or_nat _ _ (by omega) (by omega)]
 congr 1
 have h0:c=0\/c=1:=by omega
 rcases h0 with rfl | rfl
 ·rw [Nat.or_zero,aV]
 ·have e:(2*x)%18446744073709551616=2^1*(x%9223372036854775808):=by omega
  rw [e,<- lr (by omega:1<2^1)]

theorem AX {X k z c' t:Nat} {os:LN} (hl:os.length=k) (h:val os+18446744073709551616^k*c=2*(X%18446744073709551616^k)+t) (hz:z+18446744073709551616*c'=2*dig X k+c) :
  val (os ++ [z])+18446744073709551616^(k+1)*c'=2*(X%18446744073709551616^(k+1))+t:=by
 rw [dG,hl,fw,aG,bd];have e:18446744073709551616^k*(z+18446744073709551616*c')=18446744073709551616^k*(2*dig X k+c):=by rw [hz]
 rw [aJ,aJ,iu (18446744073709551616^k) 2] at e;omega

theorem CC {X t:Nat} {os:LN} (hl:os.length=n) (hd:Digs os) (hX:X<18446744073709551616^n) (h:val os+18446744073709551616^n*c=2*(X%18446744073709551616^n)+t) :
  os=digs (2*X+t) n/\c=(2*X+t)/18446744073709551616^n:=by
 have hv:=aE (by omega) hd;rw [hl] at hv;rw [aB hX] at h;have hp:0<18446744073709551616^n:=aX;rw [<- h];refine ⟨cS (by omega) hd hl ?_,?_⟩
 ·rw [eO,aB hv]
 ·rw [jQ _ _ hp,bJ hv,dU]

theorem kw {xs:LN} (hd:Digs xs):digs (val xs) xs.length=xs:=
 (cS (by omega) hd rfl (aB (aE (by omega) hd)).symm).symm

theorem Gs (o:Tr) (u:Value) (xs:LN) (bit:Nat) (G:bit<18446744073709551616) (w:World) (ht:TrRoom w o 1) (hu:RowT w o u xs) (m:Digs xs) (hL:xs.length<=100000000:=by omega) :
  ClZ 229 #[aP o,u,.int .u64 (bit:Nat)] w fun e w'=>∃ v',e=.returned (.tuple #[v',.int .u64 ((2*val xs+bit%2)/18446744073709551616^xs.length:Nat)]) /\
   OwnN .u64 24 w' w.heap.size v' xs.length (digs (2*val xs+bit%2) xs.length)/\∃ o',Did w o [(1,(xs.length:Nat),0)] w' o':=by
 obtain ⟨i0,H,L,M,N⟩:=info_parts Tryz.info24;have l:=and_one_u64 (bit:Int) (by omega) (by omega);obtain ⟨bt,q⟩:=aj (bit%2)
 rw [show (bit:Int)%2=(bt:Int) by omega] at l;rw [<- q];have F:bt<=1:=by omega
 clear q;have a:=aa (kw m);have hX:HzD (val xs<18446744073709551616^xs.length):=eX m (leR _);obtain ⟨ao,n,D,rfl,j,_,_,_,_⟩:=hu.1.open;have S:n<=100000000:=by rw [<- j.o];exact hL
 rw [j.o] at hX a ⊢;have HU:HzD (RowT w o (.slice ao n D) xs):=hu;have hS:=gh o n w ht.1;obtain ⟨tp,y⟩:=aj (aP o)
 rw [<- y] at hS ⊢;clear hu ht j m y hL;generalize val xs=X at *;obtain ⟨C,hC⟩:=aj ((2*X+bt)/18446744073709551616^n)
 rw [<- hC];have HC:=aa hC;clear hC;delta ClZ;go_in;go_wp2_with fail;refine hS.mono ?_;rintro e w4 ⟨rfl,o2,d2⟩;have d4:=aa d2;have t:=HU.o.did d2;obtain ⟨a1,n1,c1,e1,E,_,_,_,f⟩:=t.1.open;simp only [Value.slice.injEq] at e1;obtain ⟨rfl,rfl,rfl⟩:=e1;have J:HzD (w.heap.size<=w4.heap.size):=d2.size;rw [<- a.o] at f;clear hS d2 t E;go_wp2_with (at_make;refine wpList_make_full _ rfl _ _ 23 rfl w4.heap.size 24 i0 _ 1 underlying23 H L M _ _ _ _ n rfl rfl rfl rfl (by rw [N];omega) (by unfold maxLen;omega) (leR _) ?_;intro w5 g r);rw [bD] at g;have k5:=bf r;clear r
 go_loopw [10,22] (fun c i wr=>∃ (k c':Nat) (os:LN),k<=n/\c'<=1/\i=.int .i64 (k:Int)/\c=.int .u64 (c':Int)/\HzD (os.length=k)/\Digs os/\OwnN .u64 24 wr w4.heap.size (.slice (some ⟨w4.heap.size,0,none⟩) n n) n (os ++ List.replicate (n-k) 0)/\Kept af w4 wr /\
   HzD (val os+18446744073709551616^k*c'=2*(X%18446744073709551616^k)+bt)) (fun _ i _=>n-(intOf i).toNat)
 case atStart=>exact ⟨0,bt,[],aQ _,F,rfl,rfl,rfl,Digs.nil _,by rw [bZ,et];exact g,k5,by unfold HzD;simp [val,Nat.mod_one]⟩
 case round=>
  obtain ⟨k,c,os,hk,hc,rfl,rfl,HL,s,ho,p,d⟩:=hrel;by_cases hkn:k<n
  ·have R:(0:Int)<=(k:Int):=cN _;have I:(k:Int)<(n:Int):=by omega
   obtain ⟨b1,O,rfl,Q⟩:=fi ((f k hkn).g p) hkn;have P:=jh ho HL.o hkn;have hf:=World.ownsRow.frozenAt ho k;have v:=fun u=>(World.ownsRow.stored ho k u).1
   have hx:dig X k<18446744073709551616:=bu;have HS:HzD (∀ z c',z+18446744073709551616*c'=2*dig X k+c->val (os ++ [z])+18446744073709551616^(k+1)*c'=2*(X%18446744073709551616^(k+1))+bt):=fun z c' h=>AX HL.o d.o h
   have B:HzD (∀ u:Nat,OwnN .u64 24 (wr.setCell ⟨w4.heap.size,k,none⟩ (.int .u64 (u:Int))) w4.heap.size (.slice (some ⟨w4.heap.size,0,none⟩) n n) n ((os ++ [u]) ++ List.replicate (n-(k+1)) 0)):=fun u=>by
    have:=v (.int .u64 (u:Int));unfold OwnN;rw [<- kM os n k u HL.o hkn,cG];exact this
   clear f d v g k5;generalize dig X k=x at *;obtain ⟨z,hz⟩:=aj ((2*x)%18446744073709551616+c:Nat)
   have A:HzD (bits .or .u64 (IntKind.u64.wrap ((x:Int)*2)) (c:Int)=(z:Int)):=by
    unfold HzD;rw [IntKind.wrap_u64,show ((x:Int)*2)%18446744073709551616=(((2*x)%18446744073709551616:Nat):Int) by omega,Il x c hc,hz]
   have HZ:=aa hz;clear hz;go_wp2_with fail;go_region
   all_goals
    go_wp2_with fail;rw [A.o];have hz:=HZ.o;go_roundw
    case rel=>exact ⟨k+1,x/9223372036854775808,os ++ [z],by omega,by omega,by go_num,rfl,by unfold HzD;rw [bk,HL.o];rfl,s.append (Digs.one (by omega)),B.o _,(p.setCell _ (fun h=>by simp at h) _).drew,HS.o _ _ (by omega)⟩
    case measure=>simp [intOf];omega
  ·have I:¬ (k:Int)<(n:Int):=by omega
   have e:k=n:=by omega
   subst e;rw [cj,fg,dY] at ho;obtain ⟨e1,e2⟩:=CC HL.o s hX.o d.o;have E1:=aa e1;have E2:=aa (HC.o.trans e2.symm);clear e1 e2 f d g k5;go_wp2_with fail;go_ret2;rw [<- E1.o,E2.o];exact ⟨_,rfl,dg ho (fun b hb=>aI J.o (ho.lt b hb).1),o2,d4.o.g p⟩

theorem BJ (x a:Int) (x0:0<=x) (x1:x<18446744073709551616):bits .and .u64 x (msk a)=if a%2=1 then x else 0:=by
 obtain ⟨X,rfl⟩:=eN x0;unfold msk;have:a%2=0\/a%2=1:=by omega
 rcases this with h | h
 ·rw [h,ar (by decide)];have e:=u64_and_nat X 0 (by omega) (by omega);rw [Nat.and_zero] at e;exact e
 ·rw [h,ai rfl];have e:=u64_and_nat X 18446744073709551615 (by omega) (by omega);rw [show (18446744073709551615:Nat)=2^64-1 from rfl,sS (by omega)] at e;exact e

theorem Ee (a:Int) (a0:0<=a) (a1:a<18446744073709551616) (w:World) :
  ClZ 129 #[.int .u64 a] w fun e w'=>(∃ x,e=.returned (.int .u64 x)/\uR a x)/\w'=w:=by
 delta ClZ;go_in;go_wp2_with (fail);go_loop [3,5] (fun x i=>∃ (X:Int) (k:Nat),k<=5/\x=.int .u64 X/\i=.int .i64 (k:Int)/\0<=X/\X<18446744073709551616/\HzD (a%2=1->(2:Int)^(min 64 (3*2^k)) ∣ 1-a*X)) (fun _ i=>(5-intOf i).toNat)
 case atStart=>exact ⟨a,0,by omega,rfl,rfl,a0,a1,AU a⟩
 case round=>
  obtain ⟨X,k,hk,rfl,rfl,X0,X1,HX⟩:=hrel;by_cases hp:k<5
  ·go_wp2_with (fail);go_round
   case rel=>
    refine ⟨_,k+1,by omega,rfl,by go_num,?_,?_,?_⟩
    ·rw [IntKind.wrap_u64];omega
    ·rw [IntKind.wrap_u64];omega
    ·intro h;have h1:=HX.o h;simp only [IntKind.wrap_u64];exact Ct a X _ _ h1 (BC a X) _ (by rw [aG];omega) (by omega)
   case measure=>simp [intOf];omega
  ·obtain rfl:k=5:=by omega
   obtain ⟨Y,hY,hi⟩:∃ Y,bits .and .u64 X (msk a)=Y/\uR a Y:=by
    refine ⟨_,BJ X a X0 X1,?_⟩;have:a%2=0\/a%2=1:=by omega
    rcases this with h | h
    ·rw [aK];exact ⟨by omega,by omega,by omega,fun _=>rfl⟩
    ·rw [ai h];exact ⟨X0,X1,HX.o,by omega⟩
   have HI:HzD (uR a Y):=hi;clear hi;go_wp2_with (go_at_call 182;refine (sL a a0 a1 _).mono ?_;rintro e w' ⟨rfl,rfl⟩);go_ret;exact ⟨⟨Y,rfl,HI.o⟩,rfl⟩

def Fresh (w:World) (v:Value):Prop:=∀ b,v.ownBlock=some b->w.heap.size<=b

theorem Fresh.b {w:World} {v:Value} (h:Fresh W v) (k:Kept af w W):Fresh w v:=fun b hb=>aI k.size (h b hb)

theorem Fresh.own {w:World} {base:Nat} {v:Value} {zs:LN} (h:OwnN .u64 24 W base v n zs) (hb:w.heap.size<=base):Fresh w v:=fun b a=>aI hb (h.lt b a).1

theorem Hm (b off n c:Nat) (xs:LN) (w:World) (h:Row .u64 w (.slice (some ⟨b,off,none⟩) n c) xs) (hn:n<=1000000) :
  ClZ 76 #[.slice (some ⟨b,off,none⟩) n c] w fun e w'=>∃ v',e=.returned v'/\Row .u64 w' v' xs/\Fresh w v'/\Kept af w w':=by
 obtain ⟨i0,g,l,m,o⟩:=info_parts Tryz.info24;obtain ⟨_,_,_,e1,hL,_,_,_,_⟩:=h.open;cases e1
 have hq:∀ (w:World) (a:OA) (n c:Nat),(binOp .eql 23 (.slice a n c) (.slice none 0 0)).run prog w=.ok (.bool a.isNone) w:=fun w a n c=>Lib.run_eql_slice_nil w _ _ a n c _ _ underlying23
 have HS:HzD (∀ W,Kept af w W->∀ j u,(xs.map fun z:Nat=>Value.int .u64 (z:Int))[j]? = some u->W.cell? ((⟨b,off,none⟩:Addr).add j)=some u):=fun W k j u hj=>by
  obtain ⟨ad,e,hs⟩:=h.source k (by
   rw [cJ];have:=(nB.1 hj).1;rw [cJ] at this;omega)
  cases e
  exact hs j u hj
 have HO:=aa (jE .u64 xs);have k0:Kept af w (w.alloc (.cells #[] 24)):=(ah af w).alloc _;clear h;delta ClZ;go_in;go_wp2_with (at_builtin;refine wpList_append_own _ rfl _ _ 23 rfl w.heap.size 24 i0 (.int .u64 0) 1 8 underlying23 g l m o rfl (by decide) _ _ _ rfl (World.ownsRow_made w #[] 0 (leR _) (aQ _) rfl) ⟨b,off,none⟩ n c (xs.map fun z:Nat=>Value.int .u64 (z:Int)) rfl ?qc1 ?qc2 ?qc3 ?qc4 ?qc5 ?qc6 ?_)
 case qc1=>rw [cJ,hL.o];simp
 case qc2=>exact HS.o _ k0
 case qc3=>exact HO.o
 case qc4=>unfold maxLen;omega
 case qc5=>omega
 case qc6=>simp
 intro v' w1 f d i;have k1:Kept af w w1:=k0.grown d (fun k hk hlt=>by simp [Value.ownBlock] at hk;omega);go_wp2;go_ret;exact ⟨v',rfl,Row.of_own (base:=w.heap.size) (e:=24) (by rw [hL.o];simpa using f),(fun b hb=>(f.lt b hb).1),k1⟩

theorem LH (y:Nat) (hy:y<18446744073709551616) (w:World) :
  ClZ 190 #[.int .u64 (y:Nat)] w fun e w'=>e=.returned (.int .i64 (aN y:Nat))/\w'=w:=by
 have a:=Any.bits_Len64 Hj (y:Int) w (by omega) (by omega);rw [show ((y:Int).toNat)=y from rfl,lQ y hy] at a;generalize aN y=M at *;delta ClZ;go_in;go_wp2_with fail;refine a.mono ?_;rintro e w' ⟨rfl,rfl⟩;go_wp2;go_ret;exact ⟨rfl,rfl⟩

theorem uZ (ao bo xo:OA) (n a rl b xc V Y:Nat) (K:Int) (xs ms:LN) (w:World) (hx:Row .u64 w (.slice xo n xc) xs) (hm:Row .u64 w (.slice ao n a) ms) (o:Digs xs) (h:Digs ms) (hn:n<=100000) (hV:V=val ms) (hX:val xs<V) (hY:Y=2*val xs%V) :
  ClZ 191 #[.agg #[.slice ao n a,.int .u64 K,.slice bo rl b],.slice xo n xc] w fun e w'=>∃ v',e=.returned v'/\Row .u64 w' v' (digs Y n)/\Fresh w v'/\Kept af w w':=by
 obtain ⟨_,_,_,e1,g,_,_,_,_⟩:=hx.open;cases e1
 obtain ⟨_,_,_,e1,i,_,_,_,_⟩:=hm.open;cases e1
 have j:V<18446744073709551616^n:=by rw [hV,<- i.o];exact aE (by omega) h
 obtain ⟨W,hW⟩:=aj (w.alloc (.cells #[.slice ao n a,.int .u64 K,.slice bo rl b] 71))
 have k0:Kept af w W:=by rw [hW];exact (ah af w).alloc _
 have r:W.heap[w.heap.size]? = some (.cells #[.slice ao n a,.int .u64 K,.slice bo rl b] 71 (0,0)):=by rw [hW];exact heap_alloc_new _ _
 have f:=Gs none (.slice xo n xc) xs 0 (by omega) W (TrRoom.none _ _ (by omega)) (RowT.none (hx.g k0)) o (by rw [g.o];omega);rw [g.o,show (0:Nat)%2=0 from rfl,aV,show aP none=.pointer none from rfl] at f;obtain ⟨X,l⟩:=aj (val xs)
 rw [<- l] at f hX hY;obtain ⟨c,hc⟩:=aj (2*X/18446744073709551616^n)
 rw [<- hc] at f;have m:c<=1:=by
  have:2*X/18446744073709551616^n<2:=by
   rw [cW (aX)];omega
  omega
 have p:oj (2*X%18446744073709551616^n) V c n=Y:=by
  have e:2*X%18446744073709551616^n+18446744073709551616^n*c=2*X:=by rw [hc];exact iY _ _
  rw [CD (aY _ (aX)) j m,e,hY]
 have HS:HzD (∀ W' v',Kept af W W'->Row .u64 W' v' (digs (2*X) n)->ClZ 186 #[.pointer none,.agg #[.slice ao n a,.int .u64 K,.slice bo rl b],v',.int .u64 (c:Nat)] W' fun e w'=>∃ v2,e=.returned v2/\Row .u64 w' v2 (digs Y n)/\Fresh w v2/\Kept af w w'):=fun W' v' k hr=>by
  have:=Gu none ao bo n a rl b c K v' _ ms W' (TrRoom.none _ _ (by omega)) (RowT.none hr) (ag _ _ _) (RowT.none (hm.g (k0.trans k))) (ak (by omega) _ _) h m hn;rw [ay,<- hV,p] at this;refine this.mono ?_;rintro e w' ⟨v2,rfl,ho,o',d⟩;exact ⟨v2,rfl,dz ho (ag _ _ _),Fresh.own ho (k0.trans k).size,(k0.trans k).trans d.none.2⟩
 obtain ⟨p0,p1,p2⟩:=ax r;have HW:=aa hW;clear hx hm o h g i hV j hX hY l hc p k0 r hW;delta ClZ;go_in;go_wp2_with (rw [<- HW.o]);refine f.mono ?_;rintro e w1 ⟨v1,rfl,q,o1,d1⟩;have k1:=d1.none.2;have q0:=k1.cellN p0;have q1:=k1.cellN p1;have q2:=k1.cellN p2;have hL:=HS.o w1 v1 k1 (dz q (ag _ _ _));clear f p0 p1 p2 q d1;go_wp2_with fail;refine hL.mono ?_;rintro e w2 ⟨v2,rfl,s,n2,k2⟩;go_wp2_with fail;go_ret;exact ⟨v2,rfl,s,n2,k2⟩

theorem Jw (ao bo:OA) (n a rl c V Y:Nat) (K:Int) (ms:LN) (w:World) (hm:Row .u64 w (.slice ao n a) ms) (o:Digs ms) (R:0<n) (hn:n<=130) (hV:V=val ms) (j:18446744073709551616^(n-1)<V) (hY:Y=18446744073709551616^n%V) :
  ClZ 189 #[.agg #[.slice ao n a,.int .u64 K,.slice bo rl c]] w fun e w'=>∃ v',e=.returned v'/\Row .u64 w' v' (digs Y n)/\Fresh w v'/\Kept af w w':=by
 obtain ⟨i0,L,N,O,P⟩:=info_parts Tryz.info24;obtain ⟨_,_,_,e1,I,_,_,_,_⟩:=hm.open;cases e1
 have l:V<18446744073709551616^n:=by rw [hV,<- I.o];exact aE (by omega) o
 obtain ⟨W,hW⟩:=aj (w.alloc (.cells #[.slice ao n a,.int .u64 K,.slice bo rl c] 71))
 have k0:Kept af w W:=by rw [hW];exact (ah af w).alloc _
 have t:W.heap[w.heap.size]? = some (.cells #[.slice ao n a,.int .u64 K,.slice bo rl c] 71 (0,0)):=by rw [hW];exact heap_alloc_new _ _
 have B:HzD (∀ W' xo xc k,Kept af W W'->Row .u64 W' (.slice xo n xc) (digs (18446744073709551616^(n-1)*2^k%V) n)->ClZ 191 #[.agg #[.slice ao n a,.int .u64 K,.slice bo rl c],.slice xo n xc] W' fun e w'=>∃ v',e=.returned v'/\Row .u64 w' v' (digs (18446744073709551616^(n-1)*2^(k+1)%V) n)/\Fresh W v'/\Kept af W w'):=fun W' xo xc k kk hr=>by
  have hlt:18446744073709551616^(n-1)*2^k%V<V:=aY _ (fF (aQ _) j);refine (uZ ao bo xo n a rl c xc V (18446744073709551616^(n-1)*2^(k+1)%V) K _ ms W' hr (hm.g (k0.trans kk)) (ak (by omega) _ _) o (by omega) hV (by rw [ay,aB (bH hlt l)];exact hlt) ?_).mono ?_
  ·rw [ay,aB (bH hlt l),zA,aG]
   congr 1
   generalize 18446744073709551616^(n-1)=p;generalize 2^k=q
   grind
  ·rintro e w' ⟨v',rfl,h1,hf,h2⟩;exact ⟨v',rfl,h1,hf.b kk,kk.trans h2⟩
 obtain ⟨p0,p1,p2⟩:=ax t;have HW:=aa hW;have HX:=aa t;have v:=aa k0;have HI:HzD ((List.replicate n 0).set (n-1) 1=digs (18446744073709551616^(n-1)*2^0%V) n):=by
  unfold HzD;obtain ⟨m,rfl⟩:∃ m,n=m+1:=⟨n-1,by omega⟩
  rw [gF] at j ⊢;rw [cP,bI,aB j];refine cS (by omega) ?_ (by simp) ?_
  ·intro d hd;rcases nC hd with h | h
   ·rw [(ff.1 h).2];omega
   ·omega
  ·rw [iq,ir _ _ (by simp),bw,cj,lsZ,dG,eY _ (fun d hd=>(ff.1 hd).2),bw,aB (Nat.pow_lt_pow_right (by omega) (by omega))];omega
 have HY:HzD (18446744073709551616^(n-1)*2^64%V=Y):=by
  unfold HzD;obtain ⟨m,rfl⟩:∃ m,n=m+1:=⟨n-1,by omega⟩
  rw [hY,gF,aG 18446744073709551616 m]
 have M:n-1<n:=by omega
 have gn:(n:Int)-1=((n-1:Nat):Int):=by omega
 have Q:((n-1:Nat):Int)<(n:Int):=by omega
 clear hW t k0 hm o hV j hY l;delta ClZ;go_in;go_wp2_with (at_make;rw [<- HW.o];refine wpList_make_full _ rfl _ _ 23 rfl W.heap.size 24 i0 _ 1 underlying23 L N O _ _ _ _ n rfl rfl rfl rfl (by rw [P];omega) (by unfold maxLen;omega) (leR _) ?_;intro w3 g z;rw [bD] at g;have k3:=bf z;have y:=World.ownsRow.cellAt g (n-1) (by omega);have J:=World.ownsRow.frozenAt g (n-1);rw [bV,eF,ai M] at y;clear z);have r:OwnN .u64 24 (w3.setCell ⟨W.heap.size,n-1,none⟩ (.int .u64 1)) W.heap.size (.slice (some ⟨W.heap.size,0,none⟩) n n) n (digs (18446744073709551616^(n-1)*2^0%V) n):=by
  have:=(World.ownsRow.stored g (n-1) (.int .u64 1)).1;unfold OwnN;rw [<- HI.o,cG];exact this
 have A:=dz r (ag _ _ _);have k4:Kept af W (w3.setCell ⟨W.heap.size,n-1,none⟩ (.int .u64 1)):=fH k3 ((ah (fun b=>b=W.heap.size) w3).setCell ⟨W.heap.size,n-1,none⟩ (fun _=>rfl) _) (leR _);generalize w3.setCell ⟨W.heap.size,n-1,none⟩ (.int .u64 1)=w4 at *;have G:=aa A;have C:HzD (Fresh W (.slice (some ⟨W.heap.size,0,none⟩) n n)):=Fresh.own r (leR _);have E:=aa k4;clear r g y J k3 p0 p1 p2 A k4 HI
 go_loopw [4,14] (fun rv i wr=>∃ (k:Nat) (xo:OA) (xc:Nat),k<=64/\i=.int .i64 (k:Int)/\rv=.slice xo n xc/\HzD (Row .u64 wr (.slice xo n xc) (digs (18446744073709551616^(n-1)*2^k%V) n))/\HzD (Fresh W (.slice xo n xc))/\HzD (Kept af W wr)) (fun _ i _=>64-(intOf i).toNat)
 case atStart=>exact ⟨0,_,_,by omega,rfl,rfl,G.o,C.o,E.o⟩
 case round=>
  obtain ⟨k,xo,xc,hk,rfl,rfl,HR,HF,HK⟩:=hrel;by_cases hk6:k<64
  ·have g1:(k:Int)<64:=by omega
   obtain ⟨q0,q1,q2⟩:=ax ((HK.o.block _ (lt_of_block HX.o) (fun f=>f)).trans HX.o);have hD:=B.o wr xo xc k HK.o HR.o;go_wp2_with fail;refine hD.mono ?_;rintro e w5 ⟨v5,rfl,s,f5,k5⟩;obtain ⟨yo,yn,yc,rfl,x,_,_,_,_⟩:=s.open;obtain rfl:yn=n:=by rw [<- x.o,ag]
   have H:=aa s;have D:=aa f5;have F:=aa k5;clear hD s k5 f5 q0 q1 q2 x;go_wp2_with fail;go_roundw
   case rel=>exact ⟨k+1,yo,yc,by omega,by go_num,rfl,H.o,D.o,F.o⟩
   case measure=>simp [intOf];omega
  ·have g1:¬ (k:Int)<64:=by omega
   obtain rfl:k=64:=by omega
   go_wp2_with fail;go_ret;refine ⟨_,rfl,?_,HF.o.b v.o,v.o.trans HK.o⟩;have:=HR.o;rw [HY.o] at this;exact this

theorem Ip {P Y E s:Nat} (hc:Nat.Coprime P V) (hY:Y<V) (h:P*Y%V=(P*2^(E/2^(s+1))%V)*(P*2^(E/2^(s+1))%V)%V) :
  (E/2^s%2=0->Y=P*2^(E/2^s)%V)/\(E/2^s%2=1->2*Y%V=P*2^(E/2^s)%V):=by
 have e:=Iq hc hY h;have h2:E/2^(s+1)=E/2^s/2:=by rw [aG,di]
 rw [h2] at e;generalize E/2^s=d at *;constructor
 ·intro h0;rw [e,show 2*(d/2)=d by omega]
 ·intro h1;rw [e,zA];rw [show d=2*(d/2)+1 by omega];rw [show 2*((2*(d/2)+1)/2)=2*(d/2) by omega,aG]
  congr 1
  generalize 2^(2*(d/2))=q
  grind

theorem tZ (i:Nat) (hi:i<9223372036854775808):bits BinOp.and IntKind.i64 (i:Int) 1=((i%2:Nat):Int):=Go.Proofs.and_one i hi

theorem Fi (ao bo:OA) (n a rl b V Y K:Nat) (ms:LN) (w:World) (hm:Row .u64 w (.slice ao n a) ms) (j:Digs ms) (L:0<n) (hn:n<=130) (hV:V=val ms) (r:18446744073709551616^(n-1)<V) (m:V%2=1) (g:(V*K+1)%18446744073709551616=0) (hY:Y=18446744073709551616^(2*n)%V) :
  ClZ 130 #[.agg (mzA ao n a K bo rl b)] w fun e w'=>∃ v',e=.returned v'/\Row .u64 w' v' (digs Y n)/\Fresh w v'/\Kept af w w':=by
 obtain ⟨_,_,_,e1,ab,_,_,_,_⟩:=hm.open;cases e1
 have ac:0<V:=fF (aQ _) r;have o:V<18446744073709551616^n:=by rw [hV,<- ab.o];exact aE (by omega) j
 have J:Nat.Coprime (18446744073709551616^n) V:=by rw [B64];exact (ia m).symm
 obtain ⟨W,hW⟩:=aj (w.alloc (.cells (mzA ao n a K bo rl b) 71))
 have k0:Kept af w W:=by rw [hW];exact (ah af w).alloc _
 have y:W.heap[w.heap.size]? = some (.cells (mzA ao n a K bo rl b) 71 (0,0)):=by rw [hW];exact heap_alloc_new _ _
 obtain ⟨E,hE⟩:=aj (64*n)
 obtain ⟨l,hl⟩:=aj (aN E)
 have ae:l<=14:=by rw [hl];exact (bh E 14).2 (by omega)
 have G:E<2^l:=(bh E l).1 (by omega);have I:=Jw ao bo n a rl b V _ (K:Nat) ms W (hm.g k0) j L hn hV r rfl;have q:HzD (∀ W',ClZ 190 #[.int .u64 (E:Int)] W' fun e w'=>e=.returned (.int .i64 (l:Int))/\w'=W'):=fun W'=>by
  have:=LH E (by omega) W';rw [<- hl] at this;exact this
 have O:HzD (∀ W' xo xc X,X<V->Kept af W W'->Row .u64 W' (.slice xo n xc) (digs X n)->ClZ 191 #[.agg (mzA ao n a K bo rl b),.slice xo n xc] W' fun e w'=>∃ v',e=.returned v'/\Row .u64 w' v' (digs (2*X%V) n)/\Fresh W v'/\Kept af W w'):=fun W' xo xc X hX kk hr=>by
  have p:val (digs X n)=X:=by rw [ay,aB (bH hX o)]
  refine (uZ ao bo xo n a rl b xc V (2*X%V) K _ ms W' hr (hm.g (k0.trans kk)) (ak (by omega) _ _) j (by omega) hV (by rw [p];exact hX) (by rw [p])).mono ?_;rintro e w' ⟨v',rfl,h1,hf,h2⟩;exact ⟨v',rfl,h1,hf.b kk,kk.trans h2⟩
 have U:HzD (∀ W' xo xc X,X<V->Kept af W W'->Row .u64 W' (.slice xo n xc) (digs X n)->ClZ 121 #[.pointer none,.agg (mzA ao n a K bo rl b),.slice xo n xc,.slice xo n xc] W' fun e w'=>∃ v',e=.returned v'/\Kept af W w'/\Fresh W v'/\∃ Z,Z<V/\18446744073709551616^n*Z%V=X*X%V/\Row .u64 w' v' (digs Z n)):=fun W' xo xc X hX kk hr=>by
  have p:val (digs X n)=X:=by rw [ay,aB (bH hX o)]
  refine (yy none n K a rl b xc xc ao bo xo xo _ _ ms W' (TrRoom.none _ _ (by omega)) (RowT.none hr) (RowT.none hr) (RowT.none (hm.g (k0.trans kk))) (ak (by omega) _ _) (ak (by omega) _ _) j hn).mono ?_;rintro e w' ⟨v',rfl,Z,o',h1,h2,h3⟩;rw [p,<- hV] at h2;have ad:X*X<V*18446744073709551616^n:=mw hX (eH (bH hX o)) (aX);obtain ⟨z1,z2⟩:=h2 g L ad;exact ⟨v',rfl,kk.trans h3.none.2,Fresh.own h1 kk.size,Z,z1,z2,dz h1 (ag _ _ _)⟩
 obtain ⟨p0,p1,p2⟩:=ax y;have HW:=aa hW;have HX:=aa y;have A:=aa k0;have N:=aa J;have P:=aa G;have HY:HzD (18446744073709551616^n*2^(E/2^0)%V=Y):=by
  unfold HzD;rw [hY,cP,fC,hE,<- B64,<- aL,Nat.two_mul]
 have gE:(64:Int)*(n:Int)=(E:Int):=by omega
 clear hW y k0 hm j hV r hY o hl G hE J g m;delta ClZ;go_in;go_wp2_with (rw [<- HW.o]);refine I.mono ?_;rintro e w1 ⟨v1,rfl,t,f1,k1⟩;obtain ⟨yo,yn,yc,rfl,h,_,_,_,_⟩:=t.open;obtain rfl:yn=n:=by rw [<- h.o,ag]
 have q0:=k1.cellN p0;have q1:=k1.cellN p1;have q2:=k1.cellN p2;have D:=aa t;have z:=aa f1;have B:=aa k1;clear I p0 p1 p2 t k1 f1 h;go_wp2_with fail;refine (q.o _).mono ?_;rintro e w2 ⟨rfl,rfl⟩;go_wp2_with fail;clear q0 q1 q2;go_loopw [3,17] (fun rv i wr=>∃ (k:Nat) (xo:OA) (xc:Nat),k<=l/\i=.int .i64 (k:Int)/\rv=.slice xo yn xc/\HzD (Row .u64 wr (.slice xo yn xc) (digs (18446744073709551616^yn*2^(E/2^(l-k))%V) yn))/\HzD (Fresh W (.slice xo yn xc))/\HzD (Kept af W wr)) (fun _ i _=>l-(intOf i).toNat)
 case atStart=>exact ⟨0,_,_,by omega,rfl,rfl,by unfold HzD;rw [et,bJ P.o,cP,bI];exact D.o,z.o,B.o⟩
 case round=>
  obtain ⟨k,xo,xc,hk,rfl,rfl,HR,HF,HK⟩:=hrel;clear D B z;by_cases hk6:k<l
  ·have g1:(k:Int)<(l:Int):=by omega
   obtain ⟨q0,q1,q2⟩:=ax ((HK.o.block _ (lt_of_block HX.o) (fun f=>f)).trans HX.o);have hT:=U.o wr xo xc _ (aY _ ac) HK.o HR.o;obtain ⟨s,hs⟩:=aj (l-1-k)
   rw [show l-k=s+1 by omega] at hT;have gs:(l:Int)-1-(k:Int)=(s:Int):=by omega
   go_wp2_with fail;refine hT.mono ?_;rintro e w5 ⟨v5,rfl,k5,f5,Z,z1,z2,v⟩;obtain ⟨b0,b1⟩:=Ip N.o z1 z2;obtain ⟨zo,zn,zc,rfl,h,_,_,_,_⟩:=v.open;obtain rfl:zn=yn:=by rw [<- h.o,ag]
   obtain ⟨r0,r1,r2⟩:=ax ((k5.block _ (lt_of_block HX.o) (fun f=>f)).trans HX.o);have F:=aa v;have Q:=aa f5;have C:=aa k5;have B0:=aa b0;have B1:=aa b1;have HS:=aa hs;clear hT q0 q1 q2 v k5 f5 b0 b1 z2 h hs;have hD:=O.o w5 zo zc Z z1 C.o F.o;have M:l-(k+1)=s:=by have:=HS.o;omega
   have c:=tZ (E/2^s) (by have:=em E (2^s);omega);have d:((E/2^s:Nat):Int)=(E:Int)/2^s:=by simp
   rw [d] at c;clear d;have hm2:E/2^s%2=0\/E/2^s%2=1:=by omega
   rcases hm2 with hm2 | hm2
   ·rw [hm2] at c;have e0:=B0.o hm2;clear hm2 B0 B1 hD;go_wp2_with fail;go_roundw
    case rel=>exact ⟨k+1,zo,zc,by omega,by go_num,rfl,by unfold HzD;rw [M,<- e0];exact F.o,Q.o,C.o⟩
    case measure=>simp [intOf];omega
   ·rw [hm2] at c;have e1:=B1.o hm2;clear hm2 B0 B1;go_wp2_with fail;refine hD.mono ?_;rintro e w6 ⟨v6,rfl,x,f6,k6⟩;obtain ⟨am,al,ai,rfl,H,_,_,_,_⟩:=x.open;obtain rfl:al=zn:=by rw [<- H.o,ag]
    have T:=aa x;have R:=aa f6;have S:=aa k6;have E1:=aa e1;clear hD x k6 f6 H r0 r1 r2 e1;go_wp2_with fail;go_roundw
    case rel=>exact ⟨k+1,am,ai,by omega,by go_num,rfl,by unfold HzD;rw [M,<- E1.o];exact T.o,R.o,S.o⟩
    case measure=>simp [intOf];omega
  ·have g1:¬ (k:Int)<(l:Int):=by omega
   obtain rfl:k=l:=by omega
   go_wp2_with fail;go_ret;refine ⟨_,rfl,?_,HF.o.b A.o,A.o.trans HK.o⟩;have:=HR.o;rw [cj,HY.o] at this;exact this

theorem kC {a b c:Value} (h:W.heap[p]? = some (.cells #[a,b,c] t (0,0))):W.frozen? ⟨p,0,none⟩=false/\W.frozen? ⟨p,1,none⟩=false/\W.frozen? ⟨p,2,none⟩=false:=by
 simp [World.frozen?,h]

theorem FH {a b c:Value} (h:W.heap[p]? = some (.cells #[a,b,c] t (0,0))) (x y z:Value) :
  (W.setCell ⟨p,0,none⟩ x).heap[p]? = some (.cells #[x,b,c] t (0,0))/\(W.setCell ⟨p,1,none⟩ y).heap[p]? = some (.cells #[a,y,c] t (0,0))/\(W.setCell ⟨p,2,none⟩ z).heap[p]? = some (.cells #[a,b,z] t (0,0)):=by
 refine ⟨?_,?_,?_⟩
 ·have:=heap_setCell_same W p 0 #[a,b,c] t x h;simpa using this
 ·have:=heap_setCell_same W p 1 #[a,b,c] t y h;simpa using this
 ·have:=heap_setCell_same W p 2 #[a,b,c] t z h;simpa using this

theorem tE {a b c:Value} (h:W.heap[p]? = some (.cells #[a,b,c] t (0,0))) (x y z:Value) :
  (((W.setCell ⟨p,0,none⟩ x).setCell ⟨p,1,none⟩ y).setCell ⟨p,2,none⟩ z).heap[p]? = some (.cells #[x,y,z] t (0,0)):=
 (FH (FH (FH h x y z).1 x y z).2.1 x y z).2.2

theorem mO (W:World) (p:Nat) (x y z:Value):Kept (fun b=>b=p) W (((W.setCell ⟨p,0,none⟩ x).setCell ⟨p,1,none⟩ y).setCell ⟨p,2,none⟩ z):=
 (((ah (fun b=>b=p) W).setCell ⟨p,0,none⟩ (fun _=>rfl) x).setCell ⟨p,1,none⟩ (fun _=>rfl) y).setCell ⟨p,2,none⟩ (fun _=>rfl) z

theorem H6 {m0:Nat} {x:Int} (a:V%18446744073709551616=m0) (b:V%2=1) (h:uR (18446744073709551616-(m0:Int)) x):∃ K:Nat,x=(K:Int)/\K<18446744073709551616/\(V*K+1)%18446744073709551616=0:=by
 obtain ⟨x0,x1,x2,_⟩:=h;obtain ⟨K,rfl⟩:=eN x0;refine ⟨K,rfl,by omega,?_⟩;have ho:(18446744073709551616-(m0:Int))%2=1:=by omega
 obtain ⟨t,ht⟩:=x2 ho;have hV:V=18446744073709551616*(V/18446744073709551616)+m0:=by rw [<- a];exact (dD _ _).symm
 have e1:((V*K+1:Nat):Int)=18446744073709551616*(((V/18446744073709551616:Nat):Int)*(K:Int)+t+(K:Int)):=by
  generalize V/18446744073709551616=q at *;subst hV;have:(((18446744073709551616*q+m0)*K+1:Nat):Int)=(18446744073709551616*(q:Int)+(m0:Int))*(K:Int)+1:=by simp
  rw [this]
  grind
 have:(18446744073709551616:Int) ∣ ((V*K+1:Nat):Int):=⟨_,e1⟩
 omega

theorem Jv (b off n c V:Nat) (ms:LN) (w:World) (hm:Row .u64 w (.slice (some ⟨b,off,none⟩) n c) ms) (o:Digs ms) (D:0<n) (hn:n<=130) (hV:V=val ms) (B:18446744073709551616^(n-1)<V) (g:V%2=1) :
  ClZ 75 #[.slice (some ⟨b,off,none⟩) n c] w fun e w'=>∃ (K:Nat) (v:Value),e=.returned (.agg #[.slice (some ⟨b,off,none⟩) n c,.int .u64 (K:Int),v])/\K<18446744073709551616/\(V*K+1)%18446744073709551616=0/\Row .u64 w' v (digs (18446744073709551616^(2*n)%V) n)/\Fresh w v/\Kept af w w':=by
 obtain ⟨_,_,_,e1,J,_,_,_,i⟩:=hm.open;cases e1
 obtain ⟨b',O,e1,m⟩:=i 0 D;cases e1
 rw [aV] at m;have hx:ms.getD 0 0<18446744073709551616:=o.getD (by omega) _;have q:V%18446744073709551616=ms.getD 0 0:=by
  have:=dn (by omega) o 0;unfold dig at this;rw [hV]
  rwa [cP,fC] at this
 obtain ⟨m0,C⟩:=aj (ms.getD 0 0)
 rw [<- C] at m hx q;obtain ⟨W,hW⟩:=aj (w.alloc (.cells #[.slice none 0 0,.int .u64 0,.slice none 0 0] 71))
 have k0:Kept af w W:=by rw [hW];exact (ah af w).alloc _
 have G:W.heap[w.heap.size]? = some (.cells #[.slice none 0 0,.int .u64 0,.slice none 0 0] 71 (0,0)):=by rw [hW];exact heap_alloc_new _ _
 have F:W.heap.size=w.heap.size+1:=by rw [hW];simp
 have I:IntKind.u64.wrap (-(m0:Int))=18446744073709551616-(m0:Int):=eC
 have hI:=Ee (18446744073709551616-(m0:Int)) (by omega) (by omega) W;have L:=k0.cellN m;have j:HzD (∀ x,uR (18446744073709551616-(m0:Int)) x->∃ K:Nat,x=(K:Int)/\K<18446744073709551616/\(V*K+1)%18446744073709551616=0):=fun x h=>H6 q g h
 have t:HzD (∀ K:Nat,(V*K+1)%18446744073709551616=0->ClZ 130 #[.agg #[.slice (some ⟨b,off,none⟩) n c,.int .u64 (K:Int),.slice none 0 0]] (W.alloc (.cells #[.slice (some ⟨b,off,none⟩) n c,.int .u64 (K:Int),.slice none 0 0] 71)) fun e w'=>∃ v',e=.returned v'/\Row .u64 w' v' (digs (18446744073709551616^(2*n)%V) n)/\Fresh (W.alloc (.cells #[.slice (some ⟨b,off,none⟩) n c,.int .u64 (K:Int),.slice none 0 0] 71)) v'/\Kept af (W.alloc (.cells #[.slice (some ⟨b,off,none⟩) n c,.int .u64 (K:Int),.slice none 0 0] 71)) w'):=fun K hg=>
  Fi _ _ n c 0 0 V _ K ms _ (hm.g (k0.alloc _)) o D hn hV B g hg rfl
 have HX:=aa G;have p:=aa k0;have HW:=aa hW;have s:=aa F;clear hm o hn hV B g i J C q hW G k0 m hx F;delta ClZ;go_in;go_wp2_with (rw [<- HW.o]);refine hI.mono ?_;rintro e w1 ⟨⟨x,rfl,hx⟩,rfl⟩;obtain ⟨K,rfl,hK,d⟩:=j.o x hx;have hS:=t.o K d;have hB:HzD ((w1.alloc (.cells #[.slice (some ⟨b,off,none⟩) n c,.int .u64 (K:Int),.slice none 0 0] 71)).heap[w1.heap.size]? = some (.cells #[.slice (some ⟨b,off,none⟩) n c,.int .u64 (K:Int),.slice none 0 0] 71 (0,0))):=heap_alloc_new _ _;clear hI hx j t;go_wp2_with fail;refine hS.mono ?_;rintro e w2 ⟨v2,rfl,r,f2,k2⟩;obtain ⟨zo,zn,zc,rfl,_,_,_,_,_⟩:=r.open
 have kA:=(ah af w1).alloc (.cells #[.slice (some ⟨b,off,none⟩) n c,.int .u64 (K:Int),.slice none 0 0] 71);have k:=(k2.block _ (lt_of_block hB.o) (fun f=>f)).trans hB.o;have z:=((kA.trans k2).block _ (lt_of_block HX.o) (fun f=>f)).trans HX.o;have HF:=aa f2;clear f2;have M:w.heap.size≠w1.heap.size:=by have:=s.o;omega
 have N:w1.heap.size≠w.heap.size:=by omega
 obtain ⟨c0,c1,c2⟩:=ax k;obtain ⟨f0,f1,f2⟩:=kC k;have y:=(FH k (.slice zo zn zc) (.slice zo zn zc) (.slice zo zn zc)).2.2;obtain ⟨d0,d1,d2⟩:=ax y;have l:=gY z (a:=⟨w1.heap.size,2,none⟩) M (.slice zo zn zc);obtain ⟨r0,r1,r2⟩:=ax l;obtain ⟨s0,s1,s2⟩:=kC l;have A:=tE l (.slice (some ⟨b,off,none⟩) n c) (.int .u64 (K:Int)) (.slice zo zn zc);obtain ⟨t0,t1,t2⟩:=ax A
 have kk:=(((p.o.trans (kA.trans k2)).next ((ah (fun b=>b=w1.heap.size) w2).setCell ⟨w1.heap.size,2,none⟩ (fun _=>rfl) (.slice zo zn zc)) (fun x hx e=>by have:=p.o.size;omega))).next (mO (w2.setCell ⟨w1.heap.size,2,none⟩ (.slice zo zn zc)) w.heap.size (.slice (some ⟨b,off,none⟩) n c) (.int .u64 (K:Int)) (.slice zo zn zc)) (fun x hx e=>by omega)
 have j:=aa kk;have E:Row .u64 (w2.setCell ⟨w1.heap.size,2,none⟩ (.slice zo zn zc)) (.slice zo zn zc) (digs (18446744073709551616^(2*n)%V) n):=r.kept ((ah (fun b=>b=w1.heap.size) w2).setCell ⟨w1.heap.size,2,none⟩ (fun _=>rfl) (.slice zo zn zc)) (fun b' hb e=>by
  have h1:=HF.o b' hb;have h0:=((ah af w1).alloc (.cells #[.slice (some ⟨b,off,none⟩) n c,.int .u64 (K:Int),.slice none 0 0] 71)).size;have h9:=lt_of_block hB.o;omega)
 have H:=aa (E.kept (mO (w2.setCell ⟨w1.heap.size,2,none⟩ (.slice zo zn zc)) w.heap.size (.slice (some ⟨b,off,none⟩) n c) (.int .u64 (K:Int)) (.slice zo zn zc)) (fun b' hb e=>by
  have h1:=HF.o b' hb;have h2:=s.o;have h0:=((ah af w1).alloc (.cells #[.slice (some ⟨b,off,none⟩) n c,.int .u64 (K:Int),.slice none 0 0] 71)).size;omega))
 clear E;clear hS kA k z y l A kk hB r k2;go_wp2_with fail;refine bodyPost_ret (v:=.agg #[.slice (some ⟨b,off,none⟩) n c,.int .u64 (K:Int),.slice zo zn zc]) (by simp [results,results75,go_sem,t0,t1,t2]) rfl ⟨K,_,rfl,hK,d,?_,?_,j.o⟩
 ·exact H.o
 ·exact HF.o.b (p.o.alloc _)

def zl (W:World) (V:Nat) (a b:Value) (K:Nat):Prop:=Row .u64 W a (jF V)/\Row .u64 W b (j4 V)/\rM V K

theorem DF (V:Nat):rfn (am V) V=eS V:=rfl

theorem Fh (ao:OA) (L c bM bO V E:Nat) (xs:LN) (w:World) (hx:Row .u64 w (.slice ao L c) xs) (hd:Digs xs) (hL:L<=1000000) (hV:V=val xs) (hE:E=eS V)
  (hM:Box w bM (.slice ao L c) 23) (hO:w.heap[bO]? = some (.cells #[.slice none 0 0,.int .u64 0,.slice none 0 0] 71 (0,0))) :
  ClZ 72 #[.pointer (some ⟨bM,0,none⟩),.pointer (some ⟨bO,0,none⟩)] w fun e w'=>
   (E=0/\e=.returned (.tuple #[])/\∃ (a b:Value) (K:Nat) (w1:World),zl w1 V a b K/\Fresh w a/\Fresh w b/\Kept af w w1/\w'=((w1.setCell ⟨bO,0,none⟩ a).setCell ⟨bO,1,none⟩ (.int .u64 (K:Int))).setCell ⟨bO,2,none⟩ b) \/
   (E≠0/\e=.panicked [refusal (E:Nat)]/\Kept af w w'):=by
 obtain ⟨_,_,_,e1,n,Z,_,i,_⟩:=hx.open;cases e1
 obtain ⟨R,hR⟩:=aj (am V)
 have O:V<18446744073709551616^L:=by rw [hV,<- n.o];exact aE (by omega) hd
 have X:R<=L:=by rw [hR];exact (aC V L).2 O
 have t:V<18446744073709551616^R:=(aC V R).1 (by omega);have hcut:=hx.cut (m:=R) (by rw [n.o];exact X);have v:=hd.take R;have x:val (xs.take R)=V:=by rw [iQ (by omega) hd,<- hV,aB t]
 have P:(xs.take R).length=R:=by rw [aR,n.o];omega
 have N:=fun W=>CH (.slice ao L c) xs R (by rw [hR,hV]) W
 have G:HzD (∀ W,Kept af w W->ClZ 73 #[.slice ao L c] W fun e w'=>e=.returned (.int .i64 (R:Int))/\w'=W):=fun W k=>N W (hx.g k) hd (by rw [n.o];omega)
 have I:HzD (∀ W,Kept af w W->ClZ 74 #[.slice ao R c] W fun e w'=>((E=0/\e=.returned (.tuple #[]))\/(E≠0/\e=.panicked [refusal (E:Nat)]))/\w'=W):=fun W k=>by
  have:=mR ao R c (xs.take R) W (hcut.g k) v;rw [x,hR,DF,<- hE,<- hR] at this;exact this
 have U:=hM.cell;have gR:(R:Int)<=(c:Int):=by omega
 have Y:R<=c:=by omega
 have HX:=aa hcut;have A:=aa v;have C:=aa x;have B:=aa P;have HO:=aa hO;have HR:=aa hR;have HE:=aa hE;have J:=aa t;clear hx hd hV hE O t hcut v x P N hO hM hR;delta ClZ;go_in;go_wp2_with fail;go_region_held3 (fun w'=>w'.cell? ⟨bM,0,none⟩=some (.slice ao L c))
  (((try dsimp only);first | (go_keep;done) | assumption))
  (first
  | (go_at_call 73;refine (G.o _ ?_).mono ?_;(exact (ah _ _).drew);rintro e w2 ⟨rfl,rfl⟩))
 go_wp2_with fail;have kd:Kept af w w.drew:=(ah _ _).drew;refine (I.o _ kd).mono ?_;rintro e w2 ⟨⟨h0,rfl⟩ | ⟨h0,rfl⟩,rfl⟩
 ·have y:=eu (V:=V) (by rw [<- HE.o];exact h0);have o:0<R:=by
   rcases cE R with h1 | h1
   ·have h2:=J.o;rw [h1,cP] at h2;omega
   ·exact h1
  obtain ⟨_,_,_,e1,_,_,_,_,j⟩:=HX.o.open;cases e1
  obtain ⟨b1,z,e1,_⟩:=j 0 o;cases e1
  have hC:=Hm b1 z R c (xs.take R) w.drew (HX.o.g kd) (by omega);clear G I i j U;go_wp2_with fail;refine hC.mono ?_;rintro e w3 ⟨v3,rfl,p,f3,k3⟩;obtain ⟨zo,zn,zc,rfl,M,_,_,_,d⟩:=p.open;obtain rfl:zn=R:=M.o.symm.trans B.o;obtain ⟨b3,l,e3,_⟩:=d 0 o;cases e3
  have hP:=Jv b3 l zn zc V (xs.take zn) w3 p A.o o (by have:=HR.o;omega) C.o.symm (rR HR.o.symm o y.2.1 y.2.2) y.2.2;have H:=aa p;have D:=aa f3;have F:=aa k3;clear hC p f3 k3 d M;go_wp2_with fail;refine hP.mono ?_;rintro e w4 ⟨K,v4,rfl,hK,g,q,f4,k4⟩;obtain ⟨yo,yn,yc,rfl,_,_,_,_,_⟩:=q.open;have kk:=(kd.trans F.o).trans k4;have s:=(kk.block _ (lt_of_block HO.o) (fun f=>f)).trans HO.o;obtain ⟨c0,c1,c2⟩:=ax s;obtain ⟨f0,f1,f2⟩:=kC s;have HS:HzD (zl w4 V (.slice (some ⟨b3,l,none⟩) zn zc) (.slice yo yn yc) K):=by
   have r:eS V=0:=by rw [<- HE.o];exact h0
   refine ⟨?_,?_,hK,fun _=>g,fun h=>absurd r h⟩
   ·unfold jF;rw [ai r,<- HR.o,<- cS (by omega) A.o B.o (by rw [C.o,aB J.o])];exact H.o.g k4
   ·unfold j4;rw [ai r,<- HR.o];rw [B64,show 64*(2*zn)=128*zn by omega] at q;exact q
  have Q:=aa (D.o.b kd);have S:=aa (f4.b (kd.trans F.o));have T:=aa kk;clear hP s q f4 k4 kk kd H D;go_wp2_with fail;go_end0
  exact .inl ⟨h0,rfl,_,_,K,w4,HS.o,Q.o,S.o,T.o,rfl⟩
 ·exact ⟨rfl,.inr ⟨h0,rfl,kd⟩⟩

theorem pU (ao:OA) (L d:Nat) (xs:LN) (V E:Nat) (hV:V=val xs) (hE:E=eS V) (w:World) (hx:Row .u64 w (.slice ao L d) xs) (hd:Digs xs) (hL:L<=1000000:=by omega) :
  ClZ 32 #[.slice ao L d] w fun e w'=>∃ a K b,e=.returned (.tuple #[.agg (jZ a K b),.int .i64 (E:Nat)])/\Row .u64 w' a (jF V)/\Row .u64 w' b (j4 V)/\rM V K/\(Fresh w a/\Fresh w b)/\Kept af w w':=by
 have he:∀ args w,(callFunc 72 args).run prog w=.ok (.enter 72 args) w:=fun _ _=>by simp [go_sem]
 obtain ⟨W,hW⟩:=aj ((w.alloc (.cells #[.slice ao L d] 23)).alloc (.cells #[.slice none 0 0,.int .u64 0,.slice none 0 0] 71))
 have k0:Kept af w W:=by rw [hW];exact ((ah af w).alloc _).alloc _
 have F:W.heap.size=w.heap.size+1+1:=by rw [hW];simp
 have B:Box W w.heap.size (.slice ao L d) 23:=by rw [hW];exact (Box.new w _ _).alloc _
 have h:W.heap[w.heap.size+1]? = some (.cells #[.slice none 0 0,.int .u64 0,.slice none 0 0] 71 (0,0)):=by
  rw [hW];have:=heap_alloc_new (w.alloc (.cells #[.slice ao L d] 23)) (.cells #[.slice none 0 0,.int .u64 0,.slice none 0 0] 71)
  rwa [show (w.alloc (.cells #[.slice ao L d] 23)).heap.size=w.heap.size+1 by simp] at this
 have k1:=k0.alloc (.cells #[.int .i64 0] 35);have xe:=Box.new W (.int .i64 0) 35;have z:(W.alloc (.cells #[.int .i64 0] 35)).heap.size=W.heap.size+1:=by simp
 have h1:=Fh ao L d w.heap.size (w.heap.size+1) V E xs _ (hx.g k1) hd hL hV hE (B.alloc _) (aw h);have A:=qQ 72 #[.pointer (some ⟨w.heap.size,0,none⟩),.pointer (some ⟨w.heap.size+1,0,none⟩)] W
  (fun c W'=>c=(E:Nat)/\Kept af w W'/\∃ (a b:Value) (K:Nat),zl W' V a b K/\Fresh W a/\Fresh W b/\(∀ x,a.ownBlock=some x->x≠W.heap.size)/\(∀ x,b.ownBlock=some x->x≠W.heap.size)/\W'.heap[w.heap.size+1]? = some (.cells #[a,.int .u64 (K:Int),b] 71 (0,0))) he (h1.mono (by
  rintro e w' (⟨h2,rfl,a,b,K,w1,hS,fa,fb,kk,rfl⟩ | ⟨h2,rfl,kk⟩)
  ·have s:=(kk.block _ (lt_of_block (aw h)) (fun f=>f)).trans (aw (o:=.cells #[.int .i64 0] 35) h);have p:=(kk.block _ xe.lt (fun f=>f)).trans xe;have k3:=mO w1 (w.heap.size+1) a (.int .u64 (K:Int)) b;have t:∀ x,a.ownBlock=some x->W.heap.size+1<=x:=fun x hx=>by have:=fa x hx;omega
   have y:∀ x,b.ownBlock=some x->W.heap.size+1<=x:=fun x hx=>by have:=fb x hx;omega
   refine ⟨(k3.block _ (lt_of_block p) (by omega)).trans p,.inl ⟨rfl,by rw [h2];rfl,(k1.trans kk).next k3 (fun x hx e=>by omega),a,b,K,⟨hS.1.kept k3 (fun x hx e=>by have:=t x hx;omega),hS.2.1.kept k3 (fun x hx e=>by have:=y x hx;omega),hS.2.2⟩,fun x hx=>by have:=t x hx;omega,fun x hx=>by have:=y x hx;omega,fun x hx=>by have:=t x hx;omega,fun x hx=>by have:=y x hx;omega,tE s _ _ _⟩⟩
  ·have s:=(kk.block _ (lt_of_block (aw h)) (fun f=>f)).trans (aw (o:=.cells #[.int .i64 0] 35) h);have p:=(kk.block _ xe.lt (fun f=>f)).trans xe;have hb:=Fj (V:=V) (by rw [<- hE];exact h2);exact ⟨p,.inr ⟨_,rfl,rfl,k1.trans kk,.slice none 0 0,.slice none 0 0,0,⟨by rw [hb.1];exact Row.nil _ _,by rw [hb.2.1];exact Row.nil _ _,hb.2.2⟩,(fun x hx=>by cases hx),(fun x hx=>by cases hx),(fun x hx=>by cases hx),(fun x hx=>by cases hx),s⟩⟩))
 have HW:=aa hW;have g:=aa F;clear h1 hx hd hL hV hE hW k0 k1 B h xe he F z;delta ClZ;go_in;go_wp2_with (rw [<- HW.o]);refine A.mono ?_;rintro e w' ⟨c,w1,rfl,⟨⟨rfl,k2,a,b,K,hS,fa,fb,na,nb,C⟩,I⟩,rfl⟩;obtain ⟨k,j,i,rfl,_,_,_,_,_⟩:=hS.1.open;obtain ⟨n,m,l,rfl,_,_,_,_,_⟩:=hS.2.1.open;have k3:=aF w1 W.heap.size (.int .i64 (E:Nat));have J:w.heap.size+1≠W.heap.size:=by have:=g.o;omega
 have q:=gY C (a:=⟨W.heap.size,0,none⟩) J (.int .i64 (E:Nat));have r:zl (w1.setCell ⟨W.heap.size,0,none⟩ (.int .i64 (E:Nat))) V (.slice k j i) (.slice n m l) K:=⟨hS.1.kept k3 na,hS.2.1.kept k3 nb,hS.2.2⟩
 have k4:=k2.next k3 (fun x hx e=>by have:=g.o;omega)
 generalize w1.setCell ⟨W.heap.size,0,none⟩ (.int .i64 (E:Nat))=w2 at *;obtain ⟨c0,c1,c2⟩:=ax q;obtain ⟨f0,f1,f2⟩:=kC q;have D:=tE q (.slice k j i) (.int .u64 (K:Int)) (.slice n m l);obtain ⟨d0,d1,d2⟩:=ax D;have k5:=mO w2 (w.heap.size+1) (.slice k j i) (.int .u64 (K:Int)) (.slice n m l);have HA:=aa (r.1.kept k5 (fun x hx e=>by have:=fa x hx;have:=g.o;omega));have HB:=aa (r.2.1.kept k5 (fun x hx e=>by have:=fb x hx;have:=g.o;omega));have HK:=aa r.2.2;have G:HzD (Fresh w (.slice k j i)/\Fresh w (.slice n m l)):=⟨fun x hx=>by have:=fa x hx;have:=g.o;omega,fun x hx=>by have:=fb x hx;have:=g.o;omega⟩
 have H:=aa (k4.next k5 (fun x hx e=>by omega));clear A hS r C q D k2 k3 k4 k5 I fa fb na nb;go_wp2_with fail;exact bodyPost_ret (v:=.tuple #[.agg (jZ (.slice k j i) K (.slice n m l)),.int .i64 (E:Nat)]) (by simp [results,results32,go_sem,d0,d1,d2,jZ]) rfl ⟨_,K,_,rfl,HA.o,HB.o,HK.o,G.o,H.o⟩

theorem CI (ao:OA) (L c:Nat) (xs:LN) (V E:Nat) (hV:V=val xs) (hE:E=eS V) (w:World) (hx:Row .u64 w (.slice ao L c) xs) (hd:Digs xs) (hL:L<=1000000:=by omega) :
  ClZ 32 #[.slice ao L c] w fun e w'=>∃ a K b,e=.returned (.tuple #[.agg (jZ a K b),.int .i64 (E:Nat)])/\Row .u64 w' a (jF V)/\Row .u64 w' b (j4 V)/\rM V K/\Kept af w w':=by
 refine (pU ao L c xs V E hV hE w hx hd hL).mono ?_;rintro e w' ⟨a,K,b,rfl,h1,h2,h3,_,h4⟩;exact ⟨a,K,b,rfl,h1,h2,h3,h4⟩

end Go.Proofs.YtpkmoamgpjcdeaaGreatDoor
