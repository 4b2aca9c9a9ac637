/- Put together of: Mon3 Lim3 WInv. -/
import Derived.Test.YtkaojflnghfmcaaGreatDoorQC9

namespace Go.Proofs.YtkaojflnghfmcaaGreatDoor
open _root_.Go.Proofs.Tryz
set_option maxRecDepth 100000
set_option maxHeartbeats 4000000
open Go.RowKit

theorem uH (p:Addr) (w:World) :
  CallsD prog 127 #[.pointer (some p)] .returning w fun e u' w'=>e=.returned (.tuple #[])/\u'=.returning/\w'=w:=by
 refine callsD_of_wpS func127 rfl fun c₀ cs hu=>?_
 apply wpS_seq;apply wpS_region;simp [wpOpsS,go_sem,recoverD,hu,ntmps127,Exit.thenS];apply wpS_seq;apply wpS_seq;apply wpS_region;simp [wpOpsS,go_sem,Exit.thenS];refine wpS_cond (t:=true) (by simp [Act.eval,Array.replicate]) ?_;simp only [if_true];refine wpS_of_wp (wp_ret ?_);cases c₀
 simp_all [bodyPostS,results,results127,Exit.thenS]

theorem Fh (p:Addr) (x n:Int) (a:List PanicEntry) (w:World) (hc:w.cell? p=some (.int .i64 x)) (hz:w.frozen? p=false) :
  CallsD prog 127 #[.pointer (some p)] (.panicking (refusal n :: a)) w fun e u' w'=>
   e=.returned (.tuple #[])/\u'=.panicking ({ refusal n with recovered:=true } :: a)/\w'=w.setCell p (.int .i64 n):=by
 refine callsD_of_wpS func127 rfl fun c₀ cs hu=>?_
 apply wpS_seq;apply wpS_region;simp [wpOpsS,go_sem,recoverD,hu,ntmps127,Exit.thenS];apply wpS_seq;apply wpS_seq;apply wpS_region;simp [wpOpsS,go_sem,Exit.thenS];refine wpS_cond (t:=false) (by simp [Act.eval,Array.replicate]) ?_;simp only [kZ,if_false];refine wpS_of_wp (wp_skip ?_);simp only [Exit.thenS];refine wpS_of_wp ?_;have c:∀ w:World,(Instr.typeAssert (.iface 32 (.int .i64 n)) 20 32 true).run prog w=.ok (.tuple #[.int .i64 n,.bool true]) w:=fun w=>by kernel_rfl
 have b:∀ (x:Bool) (w:World),(Op.unary .not (.bool x)).run prog w=.ok (.bool (!x)) w:=fun _ _=>rfl
 have e:(#[Value.pointer (some p)] ++ ((((Array.replicate 15 undef).setIfInBounds 3 (Value.iface 32 (Value.int IntKind.i64 n))).setIfInBounds 0 (Value.iface 32 (Value.int IntKind.i64 n))).setIfInBounds 4 (Value.iface 32 (Value.int IntKind.i64 n))).setIfInBounds 5 (Value.bool false):Array Value)=#[.pointer (some p),.iface 32 (.int .i64 n),undef,undef,.iface 32 (.int .i64 n),.iface 32 (.int .i64 n),.bool false,undef,undef,undef,undef,undef,undef,undef,undef,undef]:=rfl;rw [e];clear e;go_wp2;simp [bodyPostS,results,results127]

theorem pq (f:Nat) (b:Array Value) (w:World) (Q:Int->World->Prop) (he:∀ args w,(callFunc f args).run prog w=.ok (.enter f args) w)
  (h:Calls prog f b (w.alloc (.cells #[.int .i64 0] 32)) fun e w'=>w'.heap[w.heap.size]? = some (.cells #[.int .i64 0] 32 (0,0)) /\
   ((e=.returned (.tuple #[])/\Q 0 w')\/∃ n,e=.panicked [refusal n]/\Q n w')) :
  Calls prog 68 #[.func (.func f) #[] b] w fun e w'=>∃ n w1,e=.returned (.int .i64 n)/\(Q n w1/\w1.heap[w.heap.size]? = some (.cells #[.int .i64 0] 32 (0,0)))/\w'=w1.setCell ⟨w.heap.size,0,none⟩ (.int .i64 n):=by
 have d:=im;go_enter_defers func68,ntmps68
 go_wp2_with fail;refine h.mono ?_;rintro e w1 ⟨hb,(⟨rfl,hq⟩ | ⟨n,rfl,hq⟩)⟩
 ·have hc:w1.cell? ⟨w.heap.size,0,none⟩=some (.int .i64 0):=by simp [World.cell?,hb]
  have hz:w1.frozen? ⟨w.heap.size,0,none⟩=false:=by simp [World.frozen?,hb]
  clear h;go_wp2_with fail;refine leaves_cons (f:=127) (args:=#[.pointer (some ⟨w.heap.size,0,none⟩)]) (by simp) (by simp [go_sem]) ?_;refine (uH ⟨w.heap.size,0,none⟩ _).mono ?_;rintro e u' c ⟨rfl,rfl,rfl⟩;have a:(w1.setCell ⟨w.heap.size,0,none⟩ (.int .i64 0)).cell? ⟨w.heap.size,0,none⟩=some (.int .i64 0):=World.cell?_setCell_same' _ _ _ (by rw [hc];rfl);simp [Leaves,settle,results,results68,go_sem,a];exact ⟨_,⟨hq,hb⟩,rfl⟩
 ·have hc:w1.cell? ⟨w.heap.size,0,none⟩=some (.int .i64 0):=by simp [World.cell?,hb]
  have hz:w1.frozen? ⟨w.heap.size,0,none⟩=false:=by simp [World.frozen?,hb]
  clear h;refine leaves_cons (f:=127) (args:=#[.pointer (some ⟨w.heap.size,0,none⟩)]) (by simp) (by simp [go_sem]) ?_;refine (Fh ⟨w.heap.size,0,none⟩ 0 n [] _ hc hz).mono ?_;rintro e u' c ⟨rfl,rfl,rfl⟩;have a:(w1.setCell ⟨w.heap.size,0,none⟩ (.int .i64 n)).cell? ⟨w.heap.size,0,none⟩=some (.int .i64 n):=World.cell?_setCell_same' _ _ _ (by rw [hc];rfl);simp [Leaves,settle,results,results68,go_sem,a];exact ⟨_,⟨hq,hb⟩,rfl⟩

theorem iT (n:Int) (w:World):Calls prog 128 #[.bool false,.int .i64 n] w fun e w'=>e=.returned (.tuple #[])/\w'=w:=by
 go_enter func128,ntmps128;go_wp2;go_end0
 exact ⟨rfl,rfl⟩

theorem fN (n:Int) (w:World):Calls prog 128 #[.bool true,.int .i64 n] w fun e w'=>e=.panicked [refusal n]/\w'=w:=by
 go_enter func128,ntmps128;go_wp2;exact ⟨rfl,rfl,rfl⟩

theorem nW (V:Nat):(aM V+63)/64=ar V:=by
 unfold aM ar;by_cases h:V=0
 ·rw [ah h,ah h]
 ·rw [ai h,ai h];omega

theorem AE (v:Value) (xs:List Nat) (R:Nat) (hR:R=ar (val xs)) (w:World) (h:Row .u64 w v xs) (hd:Digs xs) (hl:xs.length<=100000000) :
  Calls prog 70 #[v] w fun e w'=>e=.returned (.int .i64 (R:Nat))/\w'=w:=by
 have hB:=iw v xs w h hd hl;have hn:=nW (val xs);rw [<- hR] at hn;have hb:aM (val xs)<=100000000*64:=by
  have h1:=(aG (val xs) xs.length).2 (aE (by omega) hd);rw [<- hR] at h1;omega
 obtain ⟨b,a⟩:∃ b,b=aM (val xs):=⟨_,rfl⟩
 rw [<- a] at hB hn hb;have HN:=aa hn;clear hR h hd hl a hn;go_enter func70,ntmps70;go_wp2_with fail;refine hB.mono ?_;rintro e w' ⟨rfl,rfl⟩;go_wp2_with fail;go_ret;refine ⟨?_,rfl⟩;have hn:=HN.out;show Ending.returned (Value.int .i64 (((b:Int)+64-1)/64))=_
 rw [show ((b:Int)+64-1)/64=(R:Int) by omega]

def rfn (L V:Nat):Nat:=if 130<L then 2 else if V<2 then 1 else if V%2=0 then 60 else 0

theorem lT (ao:Option Addr) (L l:Nat) (xs:List Nat) (w:World) (h:Row .u64 w (.slice ao L l) xs) (hd:Digs xs) (hl:L<=100000000) :
  Calls prog 71 #[.slice ao L l] w fun e w'=>((rfn L (val xs)=0/\e=.returned (.tuple #[]))\/(rfn L (val xs)≠0/\e=.panicked [refusal (rfn L (val xs):Nat)]))/\w'=w:=by
 obtain ⟨_,_,_,e1,m,_,_,_,c⟩:=h.open;cases e1
 have hB:=iw _ xs w h hd (by rw [m.out];exact hl);obtain ⟨V,hV⟩:∃ V,V=val xs:=⟨_,rfl⟩
 rw [<- hV] at hB ⊢;have HX:=aa (cS (by omega) hd 0);rw [<- hV] at HX;have p:Hid (V<18446744073709551616^L):=by have:=aE (by omega) hd;rw [m.out,<- hV] at this;exact this
 have o:Hid (xs.getD 0 0<18446744073709551616):=hd.getD (by omega) _;have i:aM V<2↔V<2:=by
  unfold aM;by_cases h0:V=0
  ·simp [h0]
  ·rw [ai h0];have:=Nat.log2_lt (n:=V) (k:=1) h0;omega
 obtain ⟨b,hb⟩:∃ b,b=aM V:=⟨_,rfl⟩
 rw [<- hb] at hB i;clear hV h hd hb;unfold rfn;have g:=iT 2 w;have f:=iT 1 w;have j:=iT 60 w;by_cases h1:130<L
 ·have hY:=fN 2 w;rw [ah h1];have g1:(L:Int) > 130:=by omega
  clear c hB f g j;go_enter func71,ntmps71;go_wp2_with fail;refine hY.mono ?_;rintro e w' ⟨rfl,rfl⟩;exact ⟨rfl,.inr ⟨by omega,rfl⟩,rfl⟩
 ·rw [ai h1];have g1:¬ (L:Int) > 130:=by omega
  by_cases h2:V<2
  ·have hY:=fN 1 w;rw [ah h2];have g2:(b:Int)<2:=by have:=i.2 h2;omega
   clear c f j;go_enter func71,ntmps71;go_wp2_with fail;refine g.mono ?_;rintro e w' ⟨rfl,rfl⟩;go_wp2_with fail;refine hB.mono ?_;rintro e w' ⟨rfl,rfl⟩;go_wp2_with fail;refine hY.mono ?_;rintro e w' ⟨rfl,rfl⟩;exact ⟨rfl,.inr ⟨by omega,rfl⟩,rfl⟩
  ·rw [ai h2];have g2:¬ (b:Int)<2:=by have:=mt i.1 h2;omega
   have q:0<L:=by
    rcases cF L with h0 | h0
    ·have:=p.out;rw [h0,cw] at this;omega
    ·exact h0
   obtain ⟨b2,t,rfl,r⟩:=c 0 q;have v:=o.out;have s:V%18446744073709551616=xs.getD 0 0:=by
    have:=HX.out;unfold dig at this
    rwa [cw,eX] at this
   have d:(xs.getD 0 0)%2=V%2:=by omega
   have a:=and_one_u64 (xs.getD 0 0:Nat) (by omega) (by omega);generalize xs.getD 0 0=x at *;rw [aU] at r;clear c s HX i;by_cases h3:V%2=0
   ·have hY:=fN 60 w;rw [ah h3];have hz:bits .and .u64 (x:Int) 1=0:=by rw [a];omega
    clear a d;go_enter func71,ntmps71;go_wp2_with fail;refine g.mono ?_;rintro e w' ⟨rfl,rfl⟩;go_wp2_with fail;refine hB.mono ?_;rintro e w' ⟨rfl,rfl⟩;go_wp2_with fail;rw [show decide ((b:Int)<2)=false from cP (by omega)];refine f.mono ?_;rintro e w' ⟨rfl,rfl⟩;go_wp2_with fail;refine hY.mono ?_;rintro e w' ⟨rfl,rfl⟩;exact ⟨rfl,.inr ⟨by omega,rfl⟩,rfl⟩
   ·rw [ai h3];have hz:bits .and .u64 (x:Int) 1=1:=by rw [a];omega
    clear a d;go_enter func71,ntmps71;go_wp2_with fail;refine g.mono ?_;rintro e w' ⟨rfl,rfl⟩;go_wp2_with fail;refine hB.mono ?_;rintro e w' ⟨rfl,rfl⟩;go_wp2_with fail;rw [show decide ((b:Int)<2)=false from cP (by omega)];refine f.mono ?_;rintro e w' ⟨rfl,rfl⟩;go_wp2_with fail;refine j.mono ?_;rintro e w' ⟨rfl,rfl⟩;go_wp2_with fail;go_end0
    exact ⟨.inl ⟨trivial,rfl⟩,rfl⟩

theorem zw (N:Nat):(List.replicate (N+1) 0).set N 1=List.replicate N 0 ++ [1]:=by
 rw [gG,gH _ _ (by simp)];simp

theorem BW (N:Nat):val (List.replicate N 0 ++ [1])=18446744073709551616^N:=by
 rw [cZ,ep _ (fun d hd=>(eu.1 hd).2),be];omega

theorem zu (N:Nat):Digs (List.replicate N 0 ++ [1]):=fun d hd=>by
 rw [List.mem_append,eu,List.mem_singleton] at hd;omega

def n9 (V K R n:Nat):Nat:=if (V*K+1)%18446744073709551616=0/\R=18446744073709551616^(2*n)%V then 1 else 0

theorem r8 (a b:Bool):bits .and .u64 ((cY a:Nat):Int) ((cY b:Nat):Int)=((cY (a && b):Nat):Int):=by
 cases a <;> cases b <;> decide

theorem Ca (x:Nat):zer (x:Int)=((cY (decide (x=0)):Nat):Int):=by
 unfold zer cY;by_cases h:x=0
 ·rw [ah (by omega),dL h,ah rfl];rfl
 ·rw [ai (by omega),cP h,ai (by decide)];rfl

theorem yR {V K R n Q A c:Nat} (hn:0<n) (hV:V<18446744073709551616^n) (e:18446744073709551616^(n-1)<V) (b:V%2=1) (hv:A+18446744073709551616^(n+(n+1))*c=R+V*Q) (hQ:Q<18446744073709551616^(n+1)) (a:(V*K+1)%18446744073709551616=0->0<n->A%18446744073709551616^(n+1)=0) :
  cY (decide ((V*K+1)%18446744073709551616=0) && decide (R<V) && decide (A=18446744073709551616^(2*n)))=n9 V K R n:=by
 unfold n9 cY;have d:0<V:=by omega
 by_cases h1:(V*K+1)%18446744073709551616=0
 ·by_cases h2:R<V
  ·have i:Nat.Coprime V (18446744073709551616^(n+1)):=by rw [B64];exact fT b
   obtain ⟨n',rfl⟩:∃ n',n=n'+1:=⟨n-1,by omega⟩
   have hW:18446744073709551616^(2*(n'+1))%18446744073709551616^(n'+1+1)=0:=by
    rw [show 2*(n'+1)=(n'+1+1)+n' by omega,aN];exact Nat.mul_mod_right _ _
   have g:18446744073709551616^(2*(n'+1))/V<18446744073709551616^(n'+1+1):=by
    rw [cj d];rw [ij] at e;have h3:18446744073709551616^(n'+1+1)*18446744073709551616^n'<18446744073709551616^(n'+1+1)*V:=lC e (aC (by omega));rw [<- aN,show n'+1+1+n'=2*(n'+1) by omega] at h3;exact h3
   have hE:V*18446744073709551616^(n'+1+1)<=18446744073709551616^(n'+1+(n'+1+1)):=by
    rw [aN _ (n'+1) (n'+1+1)];exact bI _ (fE hV)
   have f:=A6 h2 hQ hE hv (a h1 hn) i hW g;by_cases h3:A=18446744073709551616^(2*(n'+1))
   ·rw [dL h1,dL h2,dL h3,ah (by decide),ah ⟨h1,f.1 h3⟩]
   ·rw [dL h1,dL h2,cP h3,ai (by decide),ai (fun h=>h3 (f.2 h.2))]
  ·rw [dL h1,cP h2,ai (by simp),ai];rintro ⟨_,h3⟩;apply h2;rw [h3];exact ay _ d
 ·rw [cP h1,ai (by simp),ai (fun h=>h1 h.1)]

theorem yI (ao bo:Option Addr) (n K g a:Nat) (ms rs:List Nat) (P:Nat) (w:World) (hm:Row .u64 w (.slice ao n g) ms) (hr:Row .u64 w (.slice bo n a) rs) (B:Digs ms) (C:Digs rs) (hn:0<n) (aQ:n<=130)
  (U:18446744073709551616^(n-1)<val ms) (s:val ms%2=1) (hP:P=n9 (val ms) K (val rs) n) :
  Calls prog 196 #[.agg #[.slice ao n g,.int .u64 (K:Nat),.slice bo n a]] w fun e w'=>e=.returned (.int .u64 (P:Nat))/\Kept af w w':=by
 obtain ⟨i0,aG,aM,aN,aO⟩:=info_parts Tryz.info24;obtain ⟨_,_,_,e1,M,_,_,_,q⟩:=hm.open;cases e1
 obtain ⟨_,_,_,e1,O,_,_,_,_⟩:=hr.open;cases e1
 obtain ⟨bm,off,rfl,I⟩:=q 0 hn;rw [aU] at I;have hV:val ms<18446744073709551616^n:=by rw [<- M.out];exact aE (by omega) B
 have T:val rs<18446744073709551616^n:=by rw [<- O.out];exact aE (by omega) C
 obtain ⟨W0,v⟩:∃ W0,W0=w.alloc (.cells #[.slice (some ⟨bm,off,none⟩) n g,.int .u64 (K:Nat),.slice bo n a] 70):=⟨_,rfl⟩
 have k0:Kept af w W0:=by rw [v];exact (aj af w).alloc _
 have l:W0.heap[w.heap.size]? = some (.cells #[.slice (some ⟨bm,off,none⟩) n g,.int .u64 (K:Nat),.slice bo n a] 70 (0,0)):=by rw [v];exact heap_alloc_new _ _
 obtain ⟨N,hN⟩:∃ N,N=2*n+1:=⟨_,rfl⟩
 have hF:=yH (.slice bo n a) rs N W0 (hr.grew k0) C (by omega);have hA:=fun W (k:Kept af W0 W) (ho:OwnN .u64 24 W W0.heap.size (.slice (some ⟨W0.heap.size,0,none⟩) N N) N (digs (val rs) N))=>sQ W0 none none [] W0.heap.size W0.heap.size N N n (n+1) K g n a _ bo _ ms W (Did.of_kept k trivial) (TrRoom.none _ _ (by simp;omega)) (leR _) ho (ag _ _ _) (ak (by omega) _ _) (by omega) (by omega) (RowT.none (hm.grew k0)) B w.heap.size _ _ ((k.block _ (lt_of_block l) (fun f=>f)).trans l) (by decide) (by decide) (by have:=lt_of_block l;omega)
 rw [aB,ax (bd T (aY (by omega) (by omega)))] at hA;have HF:=aa hF;have HA:=aa hA;have HM:=aa (hm.grew k0);have HR:=aa (hr.grew k0);have HX:=aa l;have ar:=aa k0;have D:=aa B;have az:=aa C;have aA:=aa v;have p:=k0.cellN I;obtain ⟨p0,p1,p2⟩:=aw l;have gN:(2:Int)*(n:Int)+1=(N:Int):=by omega
 have aC:((n+1:Nat):Int)=(n:Int)+1:=by omega
 have HN:=aa hN;have aP:N<=300:=by omega
 have L:=aa hV;clear v l k0 hm hr hA hF q I B C hN hV T;go_enter func196,ntmps196;go_wp2_with (rw [<- aA.out]);refine HF.out.mono ?_;rintro e w1 ⟨rfl,ae,k1⟩;have E:=HA.out w1 k1 ae;rw [aC,show aL none=.pointer none from rfl] at E;have q0:=k1.cellN p0;have q1:=k1.cellN p1;have q2:=k1.cellN p2;clear HF HA p0 p1 p2 ae;go_wp2_with fail;refine E.mono ?_;rintro e w2 ⟨c,rfl,⟨hc,t,Q,o1,ai,ad,Y,ab,S,i,D2⟩,o⟩;have k2:=D2.none.2;have HE:=aa ab;have HQ:=aa S;have m:=aa i;have av:=aa ai;have J:=aa ad;have aq:=aa Y;have aK:2*n<N:=by have:=HN.out;omega
 clear E q0 q1 q2 ab S i ai D2 o ad Y k1;have au:=aa k2;clear k2;go_wp2_with (at_make;refine wpList_make_full _ rfl _ _ 23 rfl w2.heap.size 24 i0 _ 1 underlying23 aG aM aN _ _ _ _ N rfl rfl (by first | exact gN | rfl) (by first | exact gN | rfl) (by rw [aO];omega) (by unfold maxLen;omega) (leR _) ?_;intro w3 r ac;rw [bg] at r;have k3:=aV ac;have X:=World.ownsRow.cellAt r (2*n) (by omega);have aD:=World.ownsRow.frozenAt r (2*n);rw [bu,ee,ah aK] at X;clear ac)
 have al:OwnN .u64 24 (w3.setCell ⟨w2.heap.size,2*n,none⟩ (.int .u64 1)) w2.heap.size (.slice (some ⟨w2.heap.size,0,none⟩) N N) N (List.replicate (2*n) 0 ++ [1]):=by
  have:=(World.ownsRow.stored r (2*n) (.int .u64 1)).1;unfold OwnN;rw [<- zw,bZ,<- HN.out];exact this
 have k4:Kept af w2 (w3.setCell ⟨w2.heap.size,2*n,none⟩ (.int .u64 1)):=eZ k3 ((aj (fun b=>b=w2.heap.size) w3).setCell ⟨w2.heap.size,2*n,none⟩ (fun _=>rfl) _) (leR _);generalize w3.setCell ⟨w2.heap.size,2*n,none⟩ (.int .u64 1)=w4 at *;have K4:=au.out.trans k4;have an:=(K4.block _ (lt_of_block HX.out) (fun f=>f)).trans HX.out;obtain ⟨r0,r1,r2⟩:=aw an;have r3:=K4.cellN p;have j:Row .u64 w4 (.slice (some ⟨w2.heap.size,0,none⟩) N N) (List.replicate (2*n) 0 ++ [1]):=cW al (by rw [aZ,be,HN.out];rfl);have am:Row .u64 w4 (.slice (some ⟨W0.heap.size,0,none⟩) N N) t:=cW (k4.own av.out (fun _ _ f=>f)) J.out
 have hx:ms.getD 0 0<18446744073709551616:=D.out.getD (by omega) _;have Z:val ms%18446744073709551616=ms.getD 0 0:=by
  have:=cS (by omega) D.out 0;unfold dig at this
  rwa [cw,eX] at this
 have aI:ms.length<=100000000:=by rw [M.out];omega
 have aH:rs.length<=100000000:=by rw [O.out];omega
 have aJ:t.length<=100000000:=by rw [J.out];omega
 have hL:=fun W (k:Kept af w4 W)=>qC none _ _ rs ms W (TrRoom.none _ _ (by omega)) (RowT.none (HR.out.grew (K4.trans k))) (RowT.none (HM.out.grew (K4.trans k))) az.out D.out aH aI
 have hE:=fun W (k:Kept af w4 W)=>pn none _ _ t _ W (TrRoom.none _ _ (by omega)) (RowT.none (am.grew k)) (RowT.none (j.grew k)) aq.out (zu (2*n)) aJ (by simp;omega)
 rw [BW] at hE;have h:=yR (V:=val ms) (K:=K) (R:=val rs) (n:=n) (Q:=Q) (A:=val t) (c:=c) hn L.out U s (by rw [show n+(n+1)=N by have:=HN.out;omega];exact HE.out) HQ.out m.out;rw [<- hP] at h;obtain ⟨y,hy⟩:∃ y,y=K*ms.getD 0 0%18446744073709551616:=⟨_,rfl⟩
 obtain ⟨z,hz⟩:∃ z,z=(y+1)%18446744073709551616:=⟨_,rfl⟩
 have ap:decide (z=0)=decide ((val ms*K+1)%18446744073709551616=0):=by
  have:z=(val ms*K+1)%18446744073709551616:=by
   rw [hz,hy,<- Z,Nat.add_mod,fG,<- Nat.add_mod,aF (val ms),Nat.add_mod,eh,fG,<- eh,<- Nat.add_mod]
  rw [this]
 rw [<- ap] at h;have gy:IntKind.u64.wrap ((K:Int)*((ms.getD 0 0:Nat):Int))=(y:Int):=by rw [IntKind.wrap_u64,hy];omega
 have gz:IntKind.u64.wrap ((y:Int)+1)=(z:Int):=by rw [IntKind.wrap_u64,hz];omega
 have aR:z<18446744073709551616:=by rw [hz];exact ay _ (by omega)
 obtain ⟨b0,F⟩:∃ b,b=cY (decide (z=0)):=⟨_,rfl⟩
 obtain ⟨b1,G⟩:∃ b,b=cY (decide (val rs<val ms)):=⟨_,rfl⟩
 obtain ⟨b2,o⟩:∃ b,b=cY (decide (val t=18446744073709551616^(2*n))):=⟨_,rfl⟩
 obtain ⟨b3,H⟩:∃ b,b=cY (decide (z=0) && decide (val rs<val ms)):=⟨_,rfl⟩
 have g1:bits .and .u64 (b0:Int) (b1:Int)=(b3:Int):=by rw [F,G,H];exact r8 _ _
 have g2:bits .and .u64 (b3:Int) (b2:Int)=(P:Int):=by rw [H,o,<- h];exact r8 _ _
 have hZ:Hid (∀ W,Calls prog 151 #[.int .u64 (z:Int)] W fun e w'=>e=.returned (.int .u64 (b0:Int))/\w'=W):=fun W=>by
  have:=BV (z:Int) (by omega) (by omega) W;rw [Ca,<- F] at this;exact this
 have JL:Hid (∀ W,Kept af w4 W->Calls prog 133 #[.pointer none,.slice bo n a,.slice (some ⟨bm,off,none⟩) n g] W fun e w'=>e=.returned (.int .u64 (b1:Int))/\Kept af w4 w'):=fun W k=>by
  refine (hL W k).mono ?_;rintro e w' ⟨rfl,o',d⟩;exact ⟨by rw [G],k.trans d.none.2⟩
 have JE:Hid (∀ W,Kept af w4 W->Calls prog 93 #[.pointer none,.slice (some ⟨W0.heap.size,0,none⟩) N N,.slice (some ⟨w2.heap.size,0,none⟩) N N] W fun e w'=>e=.returned (.int .u64 (b2:Int))/\Kept af w4 w'):=fun W k=>by
  refine (hE W k).mono ?_;rintro e w' ⟨rfl,o',d⟩;exact ⟨by rw [o],k.trans d.none.2⟩
 have KF:=aa (ar.out.trans K4);clear hL hE h ap Z F G o H hy hz j am an al k4 r X aD k3 K4 p hP U s HE m HQ L;generalize ms.getD 0 0=x at *;go_region_held3 (fun w'=>w'.cell? ⟨w.heap.size,0,none⟩=some (.slice (some ⟨bm,off,none⟩) n g)/\w'.cell? ⟨w.heap.size,1,none⟩=some (.int .u64 (K:Int))/\w'.cell? ⟨w.heap.size,2,none⟩=some (.slice bo n a)/\w'.cell? ⟨bm,off,none⟩=some (.int .u64 (x:Int)))
  (((try dsimp only);(repeat' apply And.intro) <;> first | (go_keep;done) | assumption))
  (first
  | (go_at_call 151;refine (hZ.out _).mono ?_;rintro e w5 ⟨rfl,rfl⟩)
  | (go_at_call 133;refine (JL.out _ ?_).mono ?_;(exact (aj _ _).drew);rintro e w6 ⟨rfl,k6⟩;have s0:=k6.cellN r0;have s1:=k6.cellN r1;have s2:=k6.cellN r2;have s3:=k6.cellN r3)
  | (go_at_call 93;refine (JE.out _ ?_).mono ?_;(exact k6);rintro e w7 ⟨rfl,k7⟩;have t0:=k7.cellN r0;have t1:=k7.cellN r1;have t2:=k7.cellN r2;have t3:=k7.cellN r3))
 all_goals
  go_wp2_with fail;go_ret;exact ⟨rfl,KF.out.trans k7⟩

theorem oF {ms rs:List Nat} {K n l:Nat} (hn:ms.length=n) (hl:rs.length=l) (c:Digs ms) (d:Digs rs) (hK:K<18446744073709551616) :
  okMod ms K rs↔(rfn n (val ms)=0/\ar (val ms)=n/\l=n/\n9 (val ms) K (val rs) n=1):=by
 have a:val ms<18446744073709551616^n:=by rw [<- hn];exact aE (by omega) c
 have b:18446744073709551616^(2*n)=2^(128*n):=by rw [B64];congr 1;omega
 obtain ⟨V,hV⟩:∃ V,V=val ms:=⟨_,rfl⟩
 unfold okMod rfn n9;rw [<- hV] at a ⊢;constructor
 ·rintro ⟨h1,h2,h3,h4⟩;obtain ⟨m1,m2,m3⟩:=dm h1;unfold je at h2;unfold jy at h4;rw [ah h1] at h2 h4;have hw:ar V=n:=by rw [<- hn,<- h2,ag]
  rw [hw] at h4 m1;refine ⟨?_,hw,by rw [<- hl,<- h4,ag],?_⟩
  ·rw [ai (by omega),ai (by omega),ai (by omega)]
  ·rw [ah];refine ⟨h3.2.1 h1,?_⟩;rw [<- h4,aB,b,ax (bk (ay _ (by omega)) a)]
 ·rintro ⟨h1,h2,h3,h4⟩;have g1:¬ 130<n:=fun h=>by rw [ah h] at h1;omega
  rw [ai g1] at h1;have g2:¬ V<2:=fun h=>by rw [ah h] at h1;omega
  rw [ai g2] at h1;have g3:¬ V%2=0:=fun h=>by rw [ah h] at h1;omega
  have hE:el V=0:=by
   unfold el;rw [h2,ai g1,ai g2,ai g3]
  by_cases h5:(V*K+1)%18446744073709551616=0/\val rs=18446744073709551616^(2*n)%V
  ·refine ⟨hE,?_,⟨hK,fun _=>h5.1,fun h=>absurd hE h⟩,?_⟩
   ·unfold je;rw [ah hE,h2];exact (b8 (by omega) c hn (by rw [<- hV,ax a])).symm
   ·unfold jy;rw [ah hE,h2,<- b];exact (b8 (by omega) d (hl.trans h3) (by rw [h5.2,ax (bk (ay _ (by omega)) a)])).symm
  ·rw [ai h5] at h4;omega

theorem pY {V n:Nat} (h:ar V=n) (hn:0<n) (h2:2<=V) (ho:V%2=1):18446744073709551616^(n-1)<V:=by
 have h1:¬ ar V<=n-1:=by omega
 rw [aG] at h1;rcases jE (18446744073709551616^(n-1)) V with h3 | h3
 ·exact h3
 ·exfalso
  have e:V=18446744073709551616^(n-1):=by omega
  rcases cF (n-1) with h4 | h4
  ·rw [h4,cw] at e;omega
  ·obtain ⟨k,hk⟩:∃ k,n-1=k+1:=⟨n-1-1,by omega⟩
   rw [hk,aH] at e;omega

theorem CX (ao bo:Option Addr) (n l K d g b:Nat) (ms rs:List Nat) (w:World) (hm:Row .u64 w (.slice ao n d) ms) (hr:Row .u64 w (.slice bo l g) rs) (o:Digs ms) (s:Digs rs) (hK:K<18446744073709551616) (I:n<=1000000)
  (hb:w.heap[b]? = some (.cells #[.slice ao n d,.int .u64 (K:Nat),.slice bo l g] 70 (0,0))) :
  Calls prog 195 #[.pointer (some ⟨b,0,none⟩)] w fun e w'=>Kept af w w'/\((okMod ms K rs/\e=.returned (.tuple #[]))\/(¬ okMod ms K rs/\∃ c:Nat,c≠0/\e=.panicked [refusal (c:Nat)])):=by
 obtain ⟨_,_,_,e1,v,_,_,_,_⟩:=hm.open;cases e1
 obtain ⟨_,_,_,e1,F,_,_,_,_⟩:=hr.open;cases e1
 have HI:=aa (oF (K:=K) v.out F.out o s hK);have i:=lT ao n d ms w hm o (by omega);obtain ⟨R,hR⟩:∃ R,R=ar (val ms):=⟨_,rfl⟩
 have q:=AE (.slice ao n d) ms R hR w hm o (by rw [v.out];omega);obtain ⟨E,hE⟩:∃ E,E=rfn n (val ms):=⟨_,rfl⟩
 rw [<- hE] at i;have H:=iT 1 w;have k:=fN 1 w;obtain ⟨p0,p1,p2⟩:=aw hb;have HM:=aa hm;have HR:=aa hr;have A:=aa o;have C:=aa s;have p:=aa hR;have HE:=aa hE;clear hb hm hr o s hR hE;by_cases h1:E=0
 ·subst h1;by_cases h2:R=n
  ·by_cases h3:l=n
   ·subst h2 h3;have a:2<=val ms/\val ms%2=1/\l<=130:=by
     have:=HE.out;unfold rfn at this;by_cases g1:130<l
     ·rw [ah g1] at this;omega
     ·rw [ai g1] at this;by_cases g2:val ms<2
      ·rw [ah g2] at this;omega
      ·rw [ai g2] at this;by_cases g3:val ms%2=0
       ·rw [ah g3] at this;omega
       ·omega
    have y:0<l:=by
     rcases cF l with h0 | h0
     ·have hw:=p.out;have h5:=(aG (val ms) 0).1 (by omega);rw [cw] at h5;omega
     ·exact h0
    obtain ⟨P,hP⟩:∃ P,P=n9 (val ms) K (val rs) l:=⟨_,rfl⟩
    have x:=yI ao bo l K d g ms rs P w HM.out HR.out A.out C.out y a.2.2 (pY p.out.symm y a.1 a.2.1) a.2.1 hP;have r:P=0\/P=1:=by rw [hP];unfold n9;split <;> simp
    have z:okMod ms K rs↔P=1:=by
     rw [HI.out,<- hP];exact ⟨fun h=>h.2.2.2,fun h=>⟨HE.out.symm,p.out.symm,rfl,h⟩⟩
    have t:=aa z;have f:=fun W=>iT 1 W
    have m:=fun W=>fN 1 W
    clear hP z HI a;rcases r with rfl | rfl
    ·go_enter func195,ntmps195;go_wp2_with fail;refine i.mono ?_;rintro e w1 ⟨⟨_,rfl⟩ | ⟨h,_⟩,rfl⟩
     ·go_wp2_with fail;refine q.mono ?_;rintro e w2 ⟨rfl,rfl⟩;go_wp2_with fail;refine (f _).mono ?_;rintro e w3 ⟨rfl,rfl⟩;go_wp2_with fail;refine x.mono ?_;rintro e w4 ⟨rfl,k4⟩;go_wp2_with fail;refine (m _).mono ?_;rintro e w5 ⟨rfl,rfl⟩;exact ⟨rfl,k4,.inr ⟨fun h=>by have:=t.out.1 h;omega,1,by omega,rfl⟩⟩
     ·exact absurd rfl h
    ·go_enter func195,ntmps195;go_wp2_with fail;refine i.mono ?_;rintro e w1 ⟨⟨_,rfl⟩ | ⟨h,_⟩,rfl⟩
     ·go_wp2_with fail;refine q.mono ?_;rintro e w2 ⟨rfl,rfl⟩;go_wp2_with fail;refine (f _).mono ?_;rintro e w3 ⟨rfl,rfl⟩;go_wp2_with fail;refine x.mono ?_;rintro e w4 ⟨rfl,k4⟩;go_wp2_with fail;refine (f _).mono ?_;rintro e w5 ⟨rfl,rfl⟩;go_wp2_with fail;go_end0
      exact ⟨k4,.inl ⟨t.out.2 (by first | rfl | trivial),rfl⟩⟩
     ·exact absurd rfl h
   ·subst h2;have D:¬ (l:Int)=(R:Int):=by omega
    have B:Hid ((((l:Nat):Int) != ((R:Nat):Int))=true):=bne_iff_ne.2 D;have j:Hid (¬ okMod ms K rs):=fun h=>h3 (HI.out.1 h).2.2.1
    clear HI;go_enter func195,ntmps195;go_wp2_with fail;refine i.mono ?_;rintro e w1 ⟨⟨_,rfl⟩ | ⟨h,_⟩,rfl⟩
    ·go_wp2_with fail;refine q.mono ?_;rintro e w2 ⟨rfl,rfl⟩;go_wp2_with fail;rw [B.out];refine k.mono ?_;rintro e w3 ⟨rfl,rfl⟩;exact ⟨rfl,aj _ _,.inr ⟨j.out,1,by omega,rfl⟩⟩
    ·exact absurd rfl h
  ·have G:¬ (R:Int)=(n:Int):=by omega
   have j:Hid (¬ okMod ms K rs):=fun h=>h2 (p.out.trans (HI.out.1 h).2.1)
   clear HI;go_enter func195,ntmps195;go_wp2_with fail;refine i.mono ?_;rintro e w1 ⟨⟨_,rfl⟩ | ⟨h,_⟩,rfl⟩
   ·go_wp2_with fail;refine q.mono ?_;rintro e w2 ⟨rfl,rfl⟩;go_wp2_with fail;refine k.mono ?_;rintro e w3 ⟨rfl,rfl⟩;exact ⟨rfl,aj _ _,.inr ⟨j.out,1,by omega,rfl⟩⟩
   ·exact absurd rfl h
 ·have j:Hid (¬ okMod ms K rs):=fun h=>h1 (HE.out.trans (HI.out.1 h).1)
  clear HI;go_enter func195,ntmps195;go_wp2_with fail;refine i.mono ?_;rintro e w1 ⟨⟨h,_⟩ | ⟨h,rfl⟩,rfl⟩
  ·exact absurd h h1
  ·exact ⟨rfl,aj _ _,.inr ⟨j.out,E,h,rfl⟩⟩

theorem nE (ao bo:Option Addr) (n l K a b:Nat) (ms rs:List Nat) (R:Bool) (hR:R=true↔okMod ms K rs) (w:World) (hm:Row .u64 w (.slice ao n a) ms) (hr:Row .u64 w (.slice bo l b) rs) (g:Digs ms) (i:Digs rs) (hK:K<18446744073709551616) (o:n<=1000000) :
  Calls prog 135 #[.agg #[.slice ao n a,.int .u64 (K:Nat),.slice bo l b]] w fun e w'=>e=.returned (.bool R)/\Kept af w w':=by
 have p:=im;obtain ⟨W,hW⟩:∃ W,W=w.alloc (.cells #[.slice ao n a,.int .u64 (K:Nat),.slice bo l b] 70):=⟨_,rfl⟩
 have k0:Kept af w W:=by rw [hW];exact (aj af w).alloc _
 have j:W.heap[w.heap.size]? = some (.cells #[.slice ao n a,.int .u64 (K:Nat),.slice bo l b] 70 (0,0)):=by rw [hW];exact heap_alloc_new _ _
 have he:∀ args w,(callFunc 195 args).run prog w=.ok (.enter 195 args) w:=fun _ _=>by simp [go_sem]
 have k1:=k0.alloc (.cells #[.int .i64 0] 32);have xe:=Box.new W (.int .i64 0) 32;have h1:=CX ao bo n l K a b w.heap.size ms rs _ (hm.grew k1) (hr.grew k1) g i hK o (au j);have d:=pq 195 #[.pointer (some ⟨w.heap.size,0,none⟩)] W (fun c W'=>Kept af w W'/\(c=0↔okMod ms K rs)) he (h1.mono (by
  rintro e w' ⟨k,(⟨h2,rfl⟩ | ⟨h2,c,hc,rfl⟩)⟩
  ·exact ⟨(k.block _ xe.lt (fun f=>f)).trans xe,.inl ⟨rfl,k1.trans k,⟨fun _=>h2,fun _=>rfl⟩⟩⟩
  ·exact ⟨(k.block _ xe.lt (fun f=>f)).trans xe,.inr ⟨_,rfl,k1.trans k,⟨fun h=>absurd (by omega) hc,fun h=>absurd h h2⟩⟩⟩))
 have HR:=aa hR;have HW:=aa hW;have q:w.heap.size<=W.heap.size:=k0.size;clear h1 hm hr g i hR hW k0 k1 j xe he;go_enter func135,ntmps135;go_wp2_with (rw [<- HW.out]);refine d.mono ?_;rintro e w' ⟨c,w1,rfl,⟨⟨k2,h2⟩,m⟩,rfl⟩;have k3:=k2.next (aD w1 W.heap.size (.int .i64 c)) (fun x hx e=>by omega)
 have HC:Hid (decide (c=0)=R):=by
  unfold Hid;have h3:=HR.out;by_cases h4:c=0
  ·rw [dL h4];exact (h3.2 (h2.1 h4)).symm
  ·rw [cP h4];cases R
   ·rfl
   ·exact absurd (h2.2 (h3.1 rfl)) h4
 clear d h2 k2 m;generalize w1.setCell ⟨W.heap.size,0,none⟩ (.int .i64 c)=w2 at *;go_wp2_with fail;go_ret;rw [<- HC.out];exact ⟨rfl,k3⟩

theorem BU (k x y:Nat) (hk:k<18446744073709551616) (hx:x<18446744073709551616) (hy:y<18446744073709551616) (w:World) :
  Calls prog 152 #[.int .u64 (k:Nat),.int .u64 (x:Nat),.int .u64 (y:Nat)] w fun e w'=>e=.returned (.int .u64 (cC k x y:Nat))/\w'=w:=by
 refine (DY (k:Int) (x:Int) (y:Int) (by omega) (by omega) (by omega) (by omega) (by omega) (by omega) w).mono ?_;rintro e w' ⟨rfl,rfl⟩;refine ⟨xD ?_,rfl⟩;unfold sel cC;by_cases h:k%2=1
 ·rw [ah h,ah (by omega)]
 ·rw [ai h,ai (by omega)]

theorem Cp (B X Y bit k:Nat):dig (cC bit X Y) k B=cC bit (dig X k B) (dig Y k B):=by
 unfold cC;by_cases h:bit%2=1
 ·rw [ah h,ah h]
 ·rw [ai h,ai h]

theorem mS (o:Tr) (bit:Nat) (s:bit<18446744073709551616) (u v:Value) (xs ys:List Nat) (w:World) (ht:TrRoom w o 1) (hu:RowT w o u xs) (hv:RowT w o v ys) (N:Digs xs) (O:Digs ys) (hL:xs.length<=100000000) (hM:ys.length<=100000000) :
  Calls prog 94 #[aL o,.int .u64 (bit:Nat),u,v] w fun e w'=>∃ v',e=.returned v' /\
   OwnN .u64 24 w' w.heap.size v' (max xs.length ys.length) (digs (cC bit (val xs) (val ys)) (max xs.length ys.length))/\∃ o',Did w o [(1,(max xs.length ys.length:Nat),0)] w' o':=by
 obtain ⟨i0,ad,ai,aj,ak⟩:=info_parts Tryz.info24;obtain ⟨ao,L,p,rfl,G,_,_,_,_⟩:=hu.1.open;obtain ⟨bo,M,q,rfl,H,_,_,_,_⟩:=hv.1.open;have eL:=G.out;have eM:=H.out;have hC:=mH ao bo L M p q w;have E:=fun o' W g (t:TrIn W o') (r:RowT W o' (.slice ao L p) xs) hg=>pW o' _ xs (max L M) g W t r N (by omega) (by omega) hg
 have F:=fun o' W g (t:TrIn W o') (r:RowT W o' (.slice bo M q) ys) hg=>pW o' _ ys (max L M) g W t r O (by omega) (by omega) hg
 have au:max L M<=100000000:=by omega
 rw [eL,eM] at *;have HU:Hid (RowT w o (.slice ao L p) xs):=hu;have HV:Hid (RowT w o (.slice bo M q) ys):=hv;have HT:Hid (TrRoom w o 1):=ht;obtain ⟨tp,D⟩:∃ tp,tp=aL o:=⟨_,rfl⟩
 rw [<- D];have ab:Hid (tp=aL o):=D;clear hu hv ht G H eL eM N O hL hM D;generalize val xs=X at *;generalize val ys=Y at *;generalize max L M=n at *;go_enter func94,ntmps94;go_wp2_with fail;refine hC.mono ?_;rintro e w1 ⟨g,rfl,A,ac,k1⟩;have hS:=fz o n w1 (HT.out.1.grew k1);rw [<- ab.out] at hS;clear hC;go_wp2_with fail;refine hS.mono ?_;rintro e w2 ⟨rfl,o2,d2⟩;have d:w2.heap[g]? = _:=(d2.kept.block g (lt_of_block A) (fun f=>by have:=HT.out.1.foot g f;omega)).trans A;have a:=Did.after k1 d2;have m:TrIn w2 o2:=(a.room (k:=0) HT.out).1;have U:=HU.out.did a;have V:=HV.out.did a;clear hS d2 k1 A;go_wp2_with fail
 refine (E o2 w2 g m U d).mono ?_;rintro e w3 ⟨v1,rfl,R,k3⟩;have P:=(k3.block g (lt_of_block d) (fun f=>f)).trans d;go_wp2_with fail;refine (F o2 w3 g (m.grew k3) (V.grew k3) P).mono ?_;rintro e w4 ⟨v2,rfl,S,k4⟩;have c:=R.1.grew k4;have d4:=aa ((a.grew k3).grew k4);have av:=aa ((m.grew k3).grew k4);obtain ⟨a1,n1,c1,rfl,I,_,_,_,B⟩:=c.open;obtain ⟨a2,n2,c2,rfl,J,_,_,_,C⟩:=S.1.open;obtain rfl:n1=n:=by rw [<- I.out,ag]
 obtain rfl:n2=n1:=by rw [<- J.out,ag]
 have ah:Hid (w.heap.size<=w4.heap.size):=d4.out.size;clear E F m U V d P R c S k3 k4 a I J ac;go_wp2_with (at_make;refine wpList_make_full _ rfl _ _ 23 rfl w4.heap.size 24 i0 _ 1 underlying23 ad ai aj _ _ _ _ n2 rfl rfl rfl rfl (by rw [ak];omega) (by unfold maxLen;omega) (leR _) ?_;intro w5 l Q);rw [bg] at l;have k5:=aV Q;clear Q;go_loopw [32] (fun i wr=>∃ (k:Nat),k<=n2/\i=.int .i64 (k:Int)/\OwnN .u64 24 wr w4.heap.size (.slice (some ⟨w4.heap.size,0,none⟩) n2 n2) n2 (digs (cC bit X Y) k ++ List.replicate (n2-k) 0)/\Kept af w4 wr) (fun i _=>n2-(intOf i).toNat)
 case atStart=>exact ⟨0,aP _,rfl,by rw [digs,bw,dK];exact l,k5⟩
 case round=>
  obtain ⟨k,hk,rfl,ho,j⟩:=hrel;by_cases hkn:k<n2
  ·have ar:(0:Int)<=(k:Int):=bY _;have ae:(k:Int)<(n2:Int):=by omega
   obtain ⟨b1,al,rfl,ap⟩:=eC ((B k hkn).grew j) hkn;obtain ⟨b2,am,rfl,aq⟩:=eC ((C k hkn).grew j) hkn;have an:=iR ho (ag _ _ _) hkn;have hf:=World.ownsRow.frozenAt ho k;have T:=fun u=>(World.ownsRow.stored ho k u).1
   have hx:dig X k<18446744073709551616:=ay _ (by omega);have hy:dig Y k<18446744073709551616:=ay _ (by omega);have Z:Hid (OwnN .u64 24 (wr.setCell ⟨w4.heap.size,k,none⟩ (.int .u64 (cC bit (dig X k) (dig Y k):Nat))) w4.heap.size (.slice (some ⟨w4.heap.size,0,none⟩) n2 n2) n2 (digs (cC bit X Y) (k+1) ++ List.replicate (n2-(k+1)) 0)):=by
    have:=T (.int .u64 (cC bit (dig X k) (dig Y k):Nat));unfold Hid OwnN;rw [<- Bx _ n2 k hkn,bZ,Cp];exact this
   clear B C T l k5;generalize dig X k=x at *;generalize dig Y k=y at *;have hS:=fun W=>BU bit x y s hx hy W
   generalize cC bit x y=z at *;go_wp2_with fail;go_region_with (go_at_call 152;refine (hS _).mono ?_;rintro e w7 ⟨rfl,rfl⟩)
   all_goals
    go_wp2_with fail;go_roundw
    case rel=>exact ⟨k+1,by omega,by go_num,Z.out,(j.setCell _ (fun h=>by simp at h) _).drew⟩
    case measure=>simp [intOf];omega
  ·have ae:¬ (k:Int)<(n2:Int):=by omega
   have e:k=n2:=by omega
   subst e;rw [bJ,eH,dI] at ho;clear B C l k5;go_wp2_with fail;go_ret;exact ⟨_,rfl,cE ho (fun b hb=>aR ah.out (ho.lt b hb).1),o2,d4.out.grew j⟩

theorem FO (x c:Nat) (hc:c<=1):bits .or .u64 (((2*x)%18446744073709551616:Nat):Int) (c:Int)=(((2*x)%18446744073709551616+c:Nat):Int):=by
 rw [u64_or_nat _ _ (by omega) (by omega)]
 congr 1
 have h0:c=0\/c=1:=by omega
 rcases h0 with rfl | rfl
 ·rw [Nat.or_zero,aU]
 ·have e:(2*x)%18446744073709551616=2^1*(x%9223372036854775808):=by omega
  rw [e,<- ki (by omega:1<2^1)]

theorem yD {X k c z c' t:Nat} {os:List Nat} (hl:os.length=k) (h:val os+18446744073709551616^k*c=2*(X%18446744073709551616^k)+t) (hz:z+18446744073709551616*c'=2*dig X k+c) :
  val (os ++ [z])+18446744073709551616^(k+1)*c'=2*(X%18446744073709551616^(k+1))+t:=by
 rw [cZ,hl,eK,aH,bf];have e:18446744073709551616^k*(z+18446744073709551616*c')=18446744073709551616^k*(2*dig X k+c):=by rw [hz]
 rw [aJ,aJ,gO (18446744073709551616^k) 2] at e;omega

theorem Az {n X c t:Nat} {os:List Nat} (hl:os.length=n) (hd:Digs os) (hX:X<18446744073709551616^n) (h:val os+18446744073709551616^n*c=2*(X%18446744073709551616^n)+t) :
  os=digs (2*X+t) n/\c=(2*X+t)/18446744073709551616^n:=by
 have hv:=aE (by omega) hd;rw [hl] at hv;rw [ax hX] at h;have hp:0<18446744073709551616^n:=aC (by omega);rw [<- h];refine ⟨b8 (by omega) hd hl ?_,?_⟩
 ·rw [eW,ax hv]
 ·rw [jm _ _ hp,bj hv,dz]

theorem jN {xs:List Nat} (hd:Digs xs):digs (val xs) xs.length=xs:=
 (b8 (by omega) hd rfl (ax (aE (by omega) hd)).symm).symm

theorem Em (o:Tr) (u:Value) (xs:List Nat) (bit:Nat) (G:bit<18446744073709551616) (w:World) (ht:TrRoom w o 1) (hu:RowT w o u xs) (m:Digs xs) (hL:xs.length<=100000000) :
  Calls prog 228 #[aL o,u,.int .u64 (bit:Nat)] w fun e w'=>∃ v',e=.returned (.tuple #[v',.int .u64 ((2*val xs+bit%2)/18446744073709551616^xs.length:Nat)]) /\
   OwnN .u64 24 w' w.heap.size v' xs.length (digs (2*val xs+bit%2) xs.length)/\∃ o',Did w o [(1,(xs.length:Nat),0)] w' o':=by
 obtain ⟨i0,H,L,M,N⟩:=info_parts Tryz.info24;have l:=and_one_u64 (bit:Int) (by omega) (by omega);obtain ⟨bt,q⟩:∃ bt,bt=bit%2:=⟨_,rfl⟩
 rw [show (bit:Int)%2=(bt:Int) by omega] at l;rw [<- q];have F:bt<=1:=by omega
 clear q;have a:=aa (jN m);have hX:Hid (val xs<18446744073709551616^xs.length):=em m (leR _);obtain ⟨ao,n,D,rfl,j,_,_,_,_⟩:=hu.1.open;have S:n<=100000000:=by rw [<- j.out];exact hL
 rw [j.out] at hX a ⊢;have HU:Hid (RowT w o (.slice ao n D) xs):=hu;have HT:Hid (TrRoom w o 1):=ht;have hS:=fz o n w ht.1;obtain ⟨tp,y⟩:∃ tp,tp=aL o:=⟨_,rfl⟩
 rw [<- y] at hS ⊢;clear hu ht j m y hL;generalize val xs=X at *;obtain ⟨C,hC⟩:∃ C,C=(2*X+bt)/18446744073709551616^n:=⟨_,rfl⟩
 rw [<- hC];have HC:=aa hC;clear hC;go_enter func228,ntmps228;go_wp2_with fail;refine hS.mono ?_;rintro e w4 ⟨rfl,o2,d2⟩;have d4:=aa d2;have t:=HU.out.did d2;obtain ⟨a1,n1,c1,e1,E,_,_,_,f⟩:=t.1.open;simp only [Value.slice.injEq] at e1;obtain ⟨rfl,rfl,rfl⟩:=e1;have J:Hid (w.heap.size<=w4.heap.size):=d2.size;rw [<- a.out] at f;clear hS d2 t E;go_wp2_with (at_make;refine wpList_make_full _ rfl _ _ 23 rfl w4.heap.size 24 i0 _ 1 underlying23 H L M _ _ _ _ n rfl rfl rfl rfl (by rw [N];omega) (by unfold maxLen;omega) (leR _) ?_;intro w5 g r);rw [bg] at g;have k5:=aV r;clear r
 go_loopw [10,22] (fun c i wr=>∃ (k c':Nat) (os:List Nat),k<=n/\c'<=1/\i=.int .i64 (k:Int)/\c=.int .u64 (c':Int)/\Hid (os.length=k)/\Digs os/\OwnN .u64 24 wr w4.heap.size (.slice (some ⟨w4.heap.size,0,none⟩) n n) n (os ++ List.replicate (n-k) 0)/\Kept af w4 wr /\
   Hid (val os+18446744073709551616^k*c'=2*(X%18446744073709551616^k)+bt)) (fun _ i _=>n-(intOf i).toNat)
 case atStart=>exact ⟨0,bt,[],aP _,F,rfl,rfl,rfl,Digs.nil _,by rw [bw,dK];exact g,k5,by unfold Hid;simp [val,gM]⟩
 case round=>
  obtain ⟨k,c,os,hk,hc,rfl,rfl,HL,s,ho,p,d⟩:=hrel;by_cases hkn:k<n
  ·have R:(0:Int)<=(k:Int):=bY _;have I:(k:Int)<(n:Int):=by omega
   obtain ⟨b1,O,rfl,Q⟩:=eC ((f k hkn).grew p) hkn;have P:=iR ho HL.out hkn;have hf:=World.ownsRow.frozenAt ho k;have v:=fun u=>(World.ownsRow.stored ho k u).1
   have hx:dig X k<18446744073709551616:=ay _ (by omega);have HS:Hid (∀ z c',z+18446744073709551616*c'=2*dig X k+c->val (os ++ [z])+18446744073709551616^(k+1)*c'=2*(X%18446744073709551616^(k+1))+bt):=fun z c' h=>yD HL.out d.out h
   have B:Hid (∀ u:Nat,OwnN .u64 24 (wr.setCell ⟨w4.heap.size,k,none⟩ (.int .u64 (u:Int))) w4.heap.size (.slice (some ⟨w4.heap.size,0,none⟩) n n) n ((os ++ [u]) ++ List.replicate (n-(k+1)) 0)):=fun u=>by
    have:=v (.int .u64 (u:Int));unfold OwnN;rw [<- jV os n k u HL.out hkn,bZ];exact this
   clear f d v g k5;generalize dig X k=x at *;obtain ⟨z,hz⟩:∃ z:Nat,z=(2*x)%18446744073709551616+c:=⟨_,rfl⟩
   have A:Hid (bits .or .u64 (IntKind.u64.wrap ((x:Int)*2)) (c:Int)=(z:Int)):=by
    unfold Hid;rw [IntKind.wrap_u64,show ((x:Int)*2)%18446744073709551616=(((2*x)%18446744073709551616:Nat):Int) by omega,FO x c hc,hz]
   have HZ:=aa hz;clear hz;go_wp2_with fail;go_region
   all_goals
    go_wp2_with fail;rw [A.out];have hz:=HZ.out;go_roundw
    case rel=>exact ⟨k+1,x/9223372036854775808,os ++ [z],by omega,by omega,by go_num,rfl,by unfold Hid;rw [aZ,HL.out];rfl,s.append (Digs.one (by omega)),B.out _,(p.setCell _ (fun h=>by simp at h) _).drew,HS.out _ _ (by omega)⟩
    case measure=>simp [intOf];omega
  ·have I:¬ (k:Int)<(n:Int):=by omega
   have e:k=n:=by omega
   subst e;rw [bJ,eH,dI] at ho;obtain ⟨e1,e2⟩:=Az HL.out s hX.out d.out;have E1:=aa e1;have E2:=aa (HC.out.trans e2.symm);clear e1 e2 f d g k5;go_wp2_with fail;go_ret2;rw [<- E1.out,E2.out];exact ⟨_,rfl,cE ho (fun b hb=>aR J.out (ho.lt b hb).1),o2,d4.out.grew p⟩

theorem zI (x a:Int) (x0:0<=x) (x1:x<18446744073709551616):bits .and .u64 x (msk a)=if a%2=1 then x else 0:=by
 obtain ⟨X,rfl⟩:=dY x0;unfold msk;have:a%2=0\/a%2=1:=by omega
 rcases this with h | h
 ·rw [h,ai (by decide)];have e:=u64_and_nat X 0 (by omega) (by omega);rw [Nat.and_zero] at e;exact e
 ·rw [h,ah rfl];have e:=u64_and_nat X 18446744073709551615 (by omega) (by omega);rw [show (18446744073709551615:Nat)=2^64-1 from rfl,qX (by omega)] at e;exact e

theorem BT (a:Int) (a0:0<=a) (a1:a<18446744073709551616) (w:World) :
  Calls prog 129 #[.int .u64 a] w fun e w'=>(∃ x,e=.returned (.int .u64 x)/\sJ a x)/\w'=w:=by
 go_enter func129,ntmps129;go_wp2_with (fail);go_loop [3,5] (fun x i=>∃ (X:Int) (k:Nat),k<=5/\x=.int .u64 X/\i=.int .i64 (k:Int)/\0<=X/\X<18446744073709551616/\Hid (a%2=1->(2:Int)^(min 64 (3*2^k)) ∣ 1-a*X)) (fun _ i=>(5-intOf i).toNat)
 case atStart=>exact ⟨a,0,by omega,rfl,rfl,a0,a1,yz a⟩
 case round=>
  obtain ⟨X,k,hk,rfl,rfl,X0,X1,HX⟩:=hrel;by_cases hp:k<5
  ·go_wp2_with (fail);go_round
   case rel=>
    refine ⟨_,k+1,by omega,rfl,by go_num,?_,?_,?_⟩
    ·rw [IntKind.wrap_u64];omega
    ·rw [IntKind.wrap_u64];omega
    ·intro h;have h1:=HX.out h;simp only [IntKind.wrap_u64];exact As a X _ _ h1 (zA a X) _ (by rw [aH];omega) (by omega)
   case measure=>simp [intOf];omega
  ·obtain rfl:k=5:=by omega
   obtain ⟨Y,hY,hi⟩:∃ Y,bits .and .u64 X (msk a)=Y/\sJ a Y:=by
    refine ⟨_,zI X a X0 X1,?_⟩;have:a%2=0\/a%2=1:=by omega
    rcases this with h | h
    ·rw [ai (by omega)];exact ⟨by omega,by omega,by omega,fun _=>rfl⟩
    ·rw [ah h];exact ⟨X0,X1,HX.out,by omega⟩
   have HI:Hid (sJ a Y):=hi;clear hi;go_wp2_with (go_at_call 182;refine (qQ a a0 a1 _).mono ?_;rintro e w' ⟨rfl,rfl⟩);go_ret;exact ⟨⟨Y,rfl,HI.out⟩,rfl⟩

end Go.Proofs.YtkaojflnghfmcaaGreatDoor
