/- Put together of: Mon3 Mir1. -/
import Derived.Test.YtcemlfokmjjiaaaGreatDoorPf8
import Derived.Test.YtcemlfokmjjiaaaGreatDoorPf15

namespace Go.Proofs.YtcemlfokmjjiaaaGreatDoor
set_option maxRecDepth 100000
set_option maxHeartbeats 4000000
open Go.RowKit

theorem oJ (p:Addr) (w:World) :
  CallsD Tryz.prog 179 #[.pointer (some p)] .returning w fun e u' w'=>e=.returned (.tuple #[])∧u'=.returning∧w'=w:=by
 refine callsD_of_wpS Tryz.func179 rfl fun c₀ cs hu=>?_
 apply wpS_seq;apply wpS_region;simp [wpOpsS,go_sem,recoverD,hu,Tryz.ntmps179,Exit.thenS];apply wpS_seq;apply wpS_seq;apply wpS_region;simp [wpOpsS,go_sem,Exit.thenS];refine wpS_cond (t:=true) (by simp [Act.eval,Array.replicate]) ?_;simp only [if_true];refine wpS_of_wp (wp_ret ?_);cases c₀
 simp_all [bodyPostS,results,Tryz.results179,Exit.thenS]

theorem AY (p:Addr) (x n:Int) (a:List PanicEntry) (w:World) (hc:w.cell? p=some (.int .i64 x)) (hz:w.frozen? p=false) :
  CallsD Tryz.prog 179 #[.pointer (some p)] (.panicking (refusal n :: a)) w fun e u' w'=>
   e=.returned (.tuple #[])∧u'=.panicking ({ refusal n with recovered:=true } :: a)∧w'=w.setCell p (.int .i64 n):=by
 refine callsD_of_wpS Tryz.func179 rfl fun c₀ cs hu=>?_
 apply wpS_seq;apply wpS_region;simp [wpOpsS,go_sem,recoverD,hu,Tryz.ntmps179,Exit.thenS];apply wpS_seq;apply wpS_seq;apply wpS_region;simp [wpOpsS,go_sem,Exit.thenS];refine wpS_cond (t:=false) (by simp [Act.eval,Array.replicate]) ?_;simp only [Bool.false_eq_true,if_false];refine wpS_of_wp (wp_skip ?_);simp only [Exit.thenS];refine wpS_of_wp ?_;have c:∀ w:World,(Instr.typeAssert (.iface 33 (.int .i64 n)) 20 33 true).run Tryz.prog w=.ok (.tuple #[.int .i64 n,.bool true]) w:=fun w=>by kernel_rfl
 have b:∀ (x:Bool) (w:World),(Op.unary .not (.bool x)).run Tryz.prog w=.ok (.bool (!x)) w:=fun _ _=>rfl
 have e:(#[Value.pointer (some p)] ++ ((((Array.replicate 15 undef).setIfInBounds 3 (Value.iface 33 (Value.int IntKind.i64 n))).setIfInBounds 0 (Value.iface 33 (Value.int IntKind.i64 n))).setIfInBounds 4 (Value.iface 33 (Value.int IntKind.i64 n))).setIfInBounds 5 (Value.bool false):Array Value)=#[.pointer (some p),.iface 33 (.int .i64 n),undef,undef,.iface 33 (.int .i64 n),.iface 33 (.int .i64 n),.bool false,undef,undef,undef,undef,undef,undef,undef,undef,undef]:=rfl;rw [e];clear e;go_wp2;simp [bodyPostS,results,Tryz.results179]

theorem kh (f:Nat) (cap:Array Value) (w:World) (Q:Int→World→Prop) (he:∀ args w,(callFunc f args).run Tryz.prog w=.ok (.enter f args) w)
  (h:Calls Tryz.prog f cap (w.alloc (.cells #[.int .i64 0] 33)) fun e w'=>w'.heap[w.heap.size]? = some (.cells #[.int .i64 0] 33 (0,0)) ∧
   ((e=.returned (.tuple #[])∧Q 0 w')∨∃ n,e=.panicked [refusal n]∧Q n w')) :
  Calls Tryz.prog 137 #[.func (.func f) #[] cap] w fun e w'=>∃ n w1,e=.returned (.int .i64 n)∧(Q n w1∧w1.heap[w.heap.size]? = some (.cells #[.int .i64 0] 33 (0,0)))∧w'=w1.setCell ⟨w.heap.size,0,none⟩ (.int .i64 n):=by
 have c:=eR;go_enter_defers Tryz.func137,Tryz.ntmps137
 go_wp2_with fail;refine h.mono ?_;rintro e w1 ⟨hb,(⟨rfl,hq⟩ | ⟨n,rfl,hq⟩)⟩
 ·have hc:w1.cell? ⟨w.heap.size,0,none⟩=some (.int .i64 0):=by simp [World.cell?,hb]
  have hz:w1.frozen? ⟨w.heap.size,0,none⟩=false:=by simp [World.frozen?,hb]
  clear h;go_wp2_with fail;refine leaves_cons (f:=179) (args:=#[.pointer (some ⟨w.heap.size,0,none⟩)]) (by simp) (by simp [go_sem]) ?_;refine (oJ ⟨w.heap.size,0,none⟩ _).mono ?_;rintro e u' b ⟨rfl,rfl,rfl⟩;have a:(w1.setCell ⟨w.heap.size,0,none⟩ (.int .i64 0)).cell? ⟨w.heap.size,0,none⟩=some (.int .i64 0):=World.cell?_setCell_same' _ _ _ (by rw [hc];rfl);simp [Leaves,settle,results,Tryz.results137,go_sem,a];exact ⟨_,⟨hq,hb⟩,rfl⟩
 ·have hc:w1.cell? ⟨w.heap.size,0,none⟩=some (.int .i64 0):=by simp [World.cell?,hb]
  have hz:w1.frozen? ⟨w.heap.size,0,none⟩=false:=by simp [World.frozen?,hb]
  clear h;refine leaves_cons (f:=179) (args:=#[.pointer (some ⟨w.heap.size,0,none⟩)]) (by simp) (by simp [go_sem]) ?_;refine (AY ⟨w.heap.size,0,none⟩ 0 n [] _ hc hz).mono ?_;rintro e u' b ⟨rfl,rfl,rfl⟩;have a:(w1.setCell ⟨w.heap.size,0,none⟩ (.int .i64 n)).cell? ⟨w.heap.size,0,none⟩=some (.int .i64 n):=World.cell?_setCell_same' _ _ _ (by rw [hc];rfl);simp [Leaves,settle,results,Tryz.results137,go_sem,a];exact ⟨_,⟨hq,hb⟩,rfl⟩

theorem em (n:Int) (w:World):Calls Tryz.prog 180 #[.bool false,.int .i64 n] w fun e w'=>e=.returned (.tuple #[])∧w'=w:=by
 go_enter Tryz.func180,Tryz.ntmps180;go_wp2;go_end0
 exact ⟨rfl,rfl⟩

theorem di (n:Int) (w:World):Calls Tryz.prog 180 #[.bool true,.int .i64 n] w fun e w'=>e=.panicked [refusal n]∧w'=w:=by
 go_enter Tryz.func180,Tryz.ntmps180;go_wp2;exact ⟨rfl,rfl,rfl⟩

theorem gM (V:Nat):(au V+63)/64=aj V:=by
 unfold au aj;by_cases h:V=0
 ·rw [if_pos h,if_pos h]
 ·rw [if_neg h,if_neg h];omega

theorem tJ (v:Value) (xs:List Nat) (R:Nat) (hR:R=aj (val xs)) (w:World) (h:Row .u64 w v xs) (hd:Digs xs) (hl:xs.length≤100000000) :
  Calls Tryz.prog 139 #[v] w fun e w'=>e=.returned (.int .i64 (R:Nat))∧w'=w:=by
 have hB:=dG v xs w h hd hl;have hn:=gM (val xs);rw [← hR] at hn;have hb:au (val xs)≤100000000*64:=by
  have h1:=(am (val xs) xs.length).2 (aq (by omega) hd);rw [← hR] at h1;omega
 obtain ⟨b,a⟩:∃ b,b=au (val xs):=⟨_,rfl⟩
 rw [← a] at hB hn hb;have HN:=aa hn;clear hR h hd hl a hn;go_enter Tryz.func139,Tryz.ntmps139;go_wp2_with fail;refine hB.mono ?_;rintro e w' ⟨rfl,rfl⟩;go_wp2_with fail;go_ret;refine ⟨?_,rfl⟩;have hn:=HN.out;show Ending.returned (Value.int .i64 (((b:Int)+64-1)/64))=_
 rw [show ((b:Int)+64-1)/64=(R:Int) by omega]

def rfn (L V:Nat):Nat:=if 130<L then 2 else if V<2 then 1 else if V%2=0 then 60 else 0

theorem iq (ao:Option Addr) (L cap:Nat) (xs:List Nat) (w:World) (h:Row .u64 w (.slice ao L cap) xs) (hd:Digs xs) (hl:L≤100000000) :
  Calls Tryz.prog 140 #[.slice ao L cap] w fun e w'=>((rfn L (val xs)=0∧e=.returned (.tuple #[]))∨(rfn L (val xs)≠0∧e=.panicked [refusal (rfn L (val xs):Nat)]))∧w'=w:=by
 obtain ⟨_,_,_,e1,l,_,_,_,c⟩:=h.open;cases e1
 have hB:=dG _ xs w h hd (by rw [l.out];exact hl);obtain ⟨V,hV⟩:∃ V,V=val xs:=⟨_,rfl⟩
 rw [← hV] at hB ⊢;have HX:=aa (aR (by omega) hd 0);rw [← hV] at HX;have o:Hid (V<18446744073709551616^L):=by have:=aq (by omega) hd;rw [l.out,← hV] at this;exact this
 have s:Hid (xs.getD 0 0<18446744073709551616):=hd.getD (by omega) _;have g:au V<2↔V<2:=by
  unfold au;by_cases h0:V=0
  ·simp [h0]
  ·rw [if_neg h0];have:=Nat.log2_lt (n:=V) (k:=1) h0;omega
 obtain ⟨b,hb⟩:∃ b,b=au V:=⟨_,rfl⟩
 rw [← hb] at hB g;clear hV h hd hb;unfold rfn;have i:=em 2 w;have f:=em 1 w;have j:=em 60 w;by_cases h1:130<L
 ·have hY:=di 2 w;rw [if_pos h1];have g1:(L:Int) > 130:=by omega
  clear c hB f i j;go_enter Tryz.func140,Tryz.ntmps140;go_wp2_with fail;refine hY.mono ?_;rintro e w' ⟨rfl,rfl⟩;exact ⟨rfl,.inr ⟨by omega,rfl⟩,rfl⟩
 ·rw [if_neg h1];have g1:¬ (L:Int) > 130:=by omega
  by_cases h2:V<2
  ·have hY:=di 1 w;rw [if_pos h2];have g2:(b:Int)<2:=by have:=g.2 h2;omega
   clear c f j;go_enter Tryz.func140,Tryz.ntmps140;go_wp2_with fail;refine i.mono ?_;rintro e w' ⟨rfl,rfl⟩;go_wp2_with fail;refine hB.mono ?_;rintro e w' ⟨rfl,rfl⟩;go_wp2_with fail;refine hY.mono ?_;rintro e w' ⟨rfl,rfl⟩;exact ⟨rfl,.inr ⟨by omega,rfl⟩,rfl⟩
  ·rw [if_neg h2];have g2:¬ (b:Int)<2:=by have:=mt g.1 h2;omega
   have p:0<L:=by
    rcases Nat.eq_zero_or_pos L with h0 | h0
    ·have:=o.out;rw [h0,Nat.pow_zero] at this;omega
    ·exact h0
   obtain ⟨b2,m,rfl,q⟩:=c 0 p;have t:=s.out;have r:V%18446744073709551616=xs.getD 0 0:=by
    have:=HX.out;unfold dig at this
    rwa [Nat.pow_zero,Nat.div_one] at this
   have d:(xs.getD 0 0)%2=V%2:=by omega
   have a:=and_one_u64 (xs.getD 0 0:Nat) (by omega) (by omega);generalize xs.getD 0 0=x at *;rw [Nat.add_zero] at q;clear c r HX g;by_cases h3:V%2=0
   ·have hY:=di 60 w;rw [if_pos h3];have hz:bits .and .u64 (x:Int) 1=0:=by rw [a];omega
    clear a d;go_enter Tryz.func140,Tryz.ntmps140;go_wp2_with fail;refine i.mono ?_;rintro e w' ⟨rfl,rfl⟩;go_wp2_with fail;refine hB.mono ?_;rintro e w' ⟨rfl,rfl⟩;go_wp2_with fail;rw [show decide ((b:Int)<2)=false from aC (by omega)];refine f.mono ?_;rintro e w' ⟨rfl,rfl⟩;go_wp2_with fail;refine hY.mono ?_;rintro e w' ⟨rfl,rfl⟩;exact ⟨rfl,.inr ⟨by omega,rfl⟩,rfl⟩
   ·rw [if_neg h3];have hz:bits .and .u64 (x:Int) 1=1:=by rw [a];omega
    clear a d;go_enter Tryz.func140,Tryz.ntmps140;go_wp2_with fail;refine i.mono ?_;rintro e w' ⟨rfl,rfl⟩;go_wp2_with fail;refine hB.mono ?_;rintro e w' ⟨rfl,rfl⟩;go_wp2_with fail;rw [show decide ((b:Int)<2)=false from aC (by omega)];refine f.mono ?_;rintro e w' ⟨rfl,rfl⟩;go_wp2_with fail;refine j.mono ?_;rintro e w' ⟨rfl,rfl⟩;go_wp2_with fail;go_end0
    exact ⟨.inl ⟨trivial,rfl⟩,rfl⟩

theorem rh (N:Nat):(List.replicate (N+1) 0).set N 1=List.replicate N 0 ++ [1]:=by
 rw [List.replicate_succ',List.set_append_right _ _ (by simp)];simp

theorem sy (N:Nat):val (List.replicate N 0 ++ [1])=18446744073709551616^N:=by
 rw [aS,cN _ (fun d hd=>(List.mem_replicate.1 hd).2),List.length_replicate];omega

theorem r8 (N:Nat):Digs (List.replicate N 0 ++ [1]):=fun d hd=>by
 rw [List.mem_append,List.mem_replicate,List.mem_singleton] at hd;omega

def jo (V K R n:Nat):Nat:=if (V*K+1)%18446744073709551616=0∧R=18446744073709551616^(2*n)%V then 1 else 0

theorem nY (a b:Bool):bits .and .u64 ((bi a:Nat):Int) ((bi b:Nat):Int)=((bi (a && b):Nat):Int):=by
 cases a <;> cases b <;> decide

theorem tP (x:Nat):zer (x:Int)=((bi (decide (x=0)):Nat):Int):=by
 unfold zer bi;by_cases h:x=0
 ·rw [if_pos (by omega),aT h,if_pos rfl];rfl
 ·rw [if_neg (by omega),aC h,if_neg (by decide)];rfl

theorem rS {V K R n Q A c:Nat} (hn:0<n) (hV:V<18446744073709551616^n) (d:18446744073709551616^(n-1)<V) (a:V%2=1) (hv:A+18446744073709551616^(n+(n+1))*c=R+V*Q) (hQ:Q<18446744073709551616^(n+1)) (b:(V*K+1)%18446744073709551616=0→0<n→A%18446744073709551616^(n+1)=0) :
  bi (decide ((V*K+1)%18446744073709551616=0) && decide (R<V) && decide (A=18446744073709551616^(2*n)))=jo V K R n:=by
 unfold jo bi;have e:0<V:=by omega
 by_cases h1:(V*K+1)%18446744073709551616=0
 ·by_cases h2:R<V
  ·have i:Nat.Coprime V (18446744073709551616^(n+1)):=by rw [B64];exact dS a
   obtain ⟨n',rfl⟩:∃ n',n=n'+1:=⟨n-1,by omega⟩
   have hW:18446744073709551616^(2*(n'+1))%18446744073709551616^(n'+1+1)=0:=by
    rw [show 2*(n'+1)=(n'+1+1)+n' by omega,Nat.pow_add];exact Nat.mul_mod_right _ _
   have g:18446744073709551616^(2*(n'+1))/V<18446744073709551616^(n'+1+1):=by
    rw [Nat.div_lt_iff_lt_mul e];rw [Nat.add_sub_cancel] at d;have h3:18446744073709551616^(n'+1+1)*18446744073709551616^n'<18446744073709551616^(n'+1+1)*V:=Nat.mul_lt_mul_of_pos_left d (Nat.pow_pos (by omega));rw [← Nat.pow_add,show n'+1+1+n'=2*(n'+1) by omega] at h3;exact h3
   have hE:V*18446744073709551616^(n'+1+1)≤18446744073709551616^(n'+1+(n'+1+1)):=by
    rw [Nat.pow_add _ (n'+1) (n'+1+1)];exact Nat.mul_le_mul_right _ (Nat.le_of_lt hV)
   have f:=tG h2 hQ hE hv (b h1 hn) i hW g;by_cases h3:A=18446744073709551616^(2*(n'+1))
   ·rw [aT h1,aT h2,aT h3,if_pos (by decide),if_pos ⟨h1,f.1 h3⟩]
   ·rw [aT h1,aT h2,aC h3,if_neg (by decide),if_neg (fun h=>h3 (f.2 h.2))]
  ·rw [aT h1,aC h2,if_neg (by simp),if_neg];rintro ⟨_,h3⟩;apply h2;rw [h3];exact Nat.mod_lt _ e
 ·rw [aC h1,if_neg (by simp),if_neg (fun h=>h1 h.1)]

theorem rG (ao bo:Option Addr) (n K g a:Nat) (ms rs:List Nat) (P:Nat) (w:World) (hm:Row .u64 w (.slice ao n g) ms) (hr:Row .u64 w (.slice bo n a) rs) (B:Digs ms) (v:Digs rs) (hn:0<n) (aP:n≤130)
  (ae:18446744073709551616^(n-1)<val ms) (o:val ms%2=1) (hP:P=jo (val ms) K (val rs) n) :
  Calls Tryz.prog 191 #[.agg #[.slice ao n g,.int .u64 (K:Nat),.slice bo n a]] w fun e w'=>e=.returned (.int .u64 (P:Nat))∧Kept af w w':=by
 obtain ⟨i0,aK,aF,aM,aL⟩:=info_parts Tryz.info23;obtain ⟨_,_,_,e1,M,_,_,_,s⟩:=hm.open;cases e1
 obtain ⟨_,_,_,e1,Z,_,_,_,_⟩:=hr.open;cases e1
 obtain ⟨bm,off,rfl,G⟩:=s 0 hn;rw [Nat.add_zero] at G;have hV:val ms<18446744073709551616^n:=by rw [← M.out];exact aq (by omega) B
 have S:val rs<18446744073709551616^n:=by rw [← Z.out];exact aq (by omega) v
 obtain ⟨W0,C⟩:∃ W0,W0=w.alloc (.cells #[.slice (some ⟨bm,off,none⟩) n g,.int .u64 (K:Nat),.slice bo n a] 130):=⟨_,rfl⟩
 have k0:Kept af w W0:=by rw [C];exact (ai af w).alloc _
 have l:W0.heap[w.heap.size]? = some (.cells #[.slice (some ⟨bm,off,none⟩) n g,.int .u64 (K:Nat),.slice bo n a] 130 (0,0)):=by rw [C];exact heap_alloc_new _ _
 obtain ⟨N,hN⟩:∃ N,N=2*n+1:=⟨_,rfl⟩
 have hF:=rZ (.slice bo n a) rs N W0 (hr.grew k0) v (by omega);have hA:=fun W (k:Kept af W0 W) (ho:OwnN .u64 23 W W0.heap.size (.slice (some ⟨W0.heap.size,0,none⟩) N N) N (digs (val rs) N))=>mH W0 none none [] W0.heap.size W0.heap.size N N n (n+1) K g n a _ bo _ ms W (Did.of_kept k trivial) (TrRoom.none _ _ (by simp;omega)) (leR _) ho (ag _ _ _) (ah (by omega) _ _) (by omega) (by omega) (RowT.none (hm.grew k0)) B w.heap.size _ _ ((k.block _ (lt_of_block l) (fun f=>f)).trans l) (by decide) (by decide) (by have:=lt_of_block l;omega)
 rw [ak,al (Nat.lt_of_lt_of_le S (Nat.pow_le_pow_right (by omega) (by omega)))] at hA;have HF:=aa hF;have HA:=aa hA;have HM:=aa (hm.grew k0);have HR:=aa (hr.grew k0);have HX:=aa l;have ay:=aa k0;have F:=aa B;have aw:=aa v;have aI:=aa C;have r:=k0.cellN G;obtain ⟨p0,p1,p2⟩:=ax l;have gN:(2:Int)*(n:Int)+1=(N:Int):=by omega
 have aJ:((n+1:Nat):Int)=(n:Int)+1:=by omega
 have HN:=aa hN;have aO:N≤300:=by omega
 have aj:=aa hV;clear C l k0 hm hr hA hF s G B v hN hV S;go_enter Tryz.func191,Tryz.ntmps191;go_wp2_with (rw [← aI.out]);refine HF.out.mono ?_;rintro e w1 ⟨rfl,am,k1⟩;have D:=HA.out w1 k1 am;rw [aJ,show aE none=.pointer none from rfl] at D;have q0:=k1.cellN p0;have q1:=k1.cellN p1;have q2:=k1.cellN p2;clear HF HA p0 p1 p2 am;go_wp2_with fail;refine D.mono ?_;rintro e w2 ⟨c,rfl,⟨hc,p,Q,o1,L,O,X,an,J,i,D2⟩,t⟩;have k2:=D2.none.2;have HE:=aa an;have HQ:=aa J;have q:=aa i;have az:=aa L;have U:=aa O;have aN:=aa X;have aC:2*n<N:=by have:=HN.out;omega
 clear D q0 q1 q2 an J i L D2 t O X k1;have aB:=aa k2;clear k2;go_wp2_with (at_make;refine wpList_make_full _ rfl _ _ 32 rfl w2.heap.size 23 i0 _ 1 Tryz.underlying32 aK aF aM _ _ _ _ N rfl rfl (by first | exact gN | rfl) (by first | exact gN | rfl) (by rw [aL];omega) (by unfold maxLen;omega) (leR _) ?_;intro w3 m T;rw [aG] at m;have k3:=aD T;have ab:=World.ownsRow.cellAt m (2*n) (by omega);have av:=World.ownsRow.frozenAt m (2*n);rw [List.getElem?_map,List.getElem?_replicate,if_pos aC] at ab;clear T)
 have ad:OwnN .u64 23 (w3.setCell ⟨w2.heap.size,2*n,none⟩ (.int .u64 1)) w2.heap.size (.slice (some ⟨w2.heap.size,0,none⟩) N N) N (List.replicate (2*n) 0 ++ [1]):=by
  have:=(World.ownsRow.stored m (2*n) (.int .u64 1)).1;unfold OwnN;rw [← rh,List.map_set,← HN.out];exact this
 have k4:Kept af w2 (w3.setCell ⟨w2.heap.size,2*n,none⟩ (.int .u64 1)):=cP k3 ((ai (fun b=>b=w2.heap.size) w3).setCell ⟨w2.heap.size,2*n,none⟩ (fun _=>rfl) _) (leR _);generalize w3.setCell ⟨w2.heap.size,2*n,none⟩ (.int .u64 1)=w4 at *;have K4:=aB.out.trans k4;have ac:=(K4.block _ (lt_of_block HX.out) (fun f=>f)).trans HX.out;obtain ⟨r0,r1,r2⟩:=ax ac;have r3:=K4.cellN r;have j:Row .u64 w4 (.slice (some ⟨w2.heap.size,0,none⟩) N N) (List.replicate (2*n) 0 ++ [1]):=aY ad (by rw [List.length_append,List.length_replicate,HN.out];rfl);have Y:Row .u64 w4 (.slice (some ⟨W0.heap.size,0,none⟩) N N) p:=aY (k4.own az.out (fun _ _ f=>f)) U.out
 have hx:ms.getD 0 0<18446744073709551616:=F.out.getD (by omega) _;have ap:val ms%18446744073709551616=ms.getD 0 0:=by
  have:=aR (by omega) F.out 0;unfold dig at this
  rwa [Nat.pow_zero,Nat.div_one] at this
 have au:ms.length≤100000000:=by rw [M.out];omega
 have aH:rs.length≤100000000:=by rw [Z.out];omega
 have aA:p.length≤100000000:=by rw [U.out];omega
 have hL:=fun W (k:Kept af w4 W)=>mL none _ _ rs ms W (TrRoom.none _ _ (by omega)) (RowT.none (HR.out.grew (K4.trans k))) (RowT.none (HM.out.grew (K4.trans k))) aw.out F.out aH au
 have hE:=fun W (k:Kept af w4 W)=>my none _ _ p _ W (TrRoom.none _ _ (by omega)) (RowT.none (Y.grew k)) (RowT.none (j.grew k)) aN.out (r8 (2*n)) aA (by simp;omega)
 rw [sy] at hE;have h:=rS (V:=val ms) (K:=K) (R:=val rs) (n:=n) (Q:=Q) (A:=val p) (c:=c) hn aj.out ae o (by rw [show n+(n+1)=N by have:=HN.out;omega];exact HE.out) HQ.out q.out;rw [← hP] at h;obtain ⟨y,hy⟩:∃ y,y=K*ms.getD 0 0%18446744073709551616:=⟨_,rfl⟩
 obtain ⟨z,hz⟩:∃ z,z=(y+1)%18446744073709551616:=⟨_,rfl⟩
 have ar:decide (z=0)=decide ((val ms*K+1)%18446744073709551616=0):=by
  have:z=(val ms*K+1)%18446744073709551616:=by
   rw [hz,hy,← ap,Nat.add_mod,Nat.mod_mod,← Nat.add_mod,Nat.mul_comm (val ms),Nat.add_mod,Nat.mul_mod,Nat.mod_mod,← Nat.mul_mod,← Nat.add_mod]
  rw [this]
 rw [← ar] at h;have gy:IntKind.u64.wrap ((K:Int)*((ms.getD 0 0:Nat):Int))=(y:Int):=by rw [IntKind.wrap_u64,hy];omega
 have gz:IntKind.u64.wrap ((y:Int)+1)=(z:Int):=by rw [IntKind.wrap_u64,hz];omega
 have aQ:z<18446744073709551616:=by rw [hz];exact Nat.mod_lt _ (by omega)
 obtain ⟨b0,H⟩:∃ b,b=bi (decide (z=0)):=⟨_,rfl⟩
 obtain ⟨b1,E⟩:∃ b,b=bi (decide (val rs<val ms)):=⟨_,rfl⟩
 obtain ⟨b2,t⟩:∃ b,b=bi (decide (val p=18446744073709551616^(2*n))):=⟨_,rfl⟩
 obtain ⟨b3,I⟩:∃ b,b=bi (decide (z=0) && decide (val rs<val ms)):=⟨_,rfl⟩
 have g1:bits .and .u64 (b0:Int) (b1:Int)=(b3:Int):=by rw [H,E,I];exact nY _ _
 have g2:bits .and .u64 (b3:Int) (b2:Int)=(P:Int):=by rw [I,t,← h];exact nY _ _
 have hZ:Hid (∀ W,Calls Tryz.prog 229 #[.int .u64 (z:Int)] W fun e w'=>e=.returned (.int .u64 (b0:Int))∧w'=W):=fun W=>by
  have:=ze (z:Int) (by omega) (by omega) W;rw [tP,← H] at this;exact this
 have JL:Hid (∀ W,Kept af w4 W→Calls Tryz.prog 144 #[.pointer none,.slice bo n a,.slice (some ⟨bm,off,none⟩) n g] W fun e w'=>e=.returned (.int .u64 (b1:Int))∧Kept af w4 w'):=fun W k=>by
  refine (hL W k).mono ?_;rintro e w' ⟨rfl,o',d⟩;exact ⟨by rw [E],k.trans d.none.2⟩
 have JE:Hid (∀ W,Kept af w4 W→Calls Tryz.prog 188 #[.pointer none,.slice (some ⟨W0.heap.size,0,none⟩) N N,.slice (some ⟨w2.heap.size,0,none⟩) N N] W fun e w'=>e=.returned (.int .u64 (b2:Int))∧Kept af w4 w'):=fun W k=>by
  refine (hE W k).mono ?_;rintro e w' ⟨rfl,o',d⟩;exact ⟨by rw [t],k.trans d.none.2⟩
 have KF:=aa (ay.out.trans K4);clear hL hE h ar ap H E t I hy hz j Y ac ad k4 m ab av k3 K4 r hP ae o HE q HQ aj;generalize ms.getD 0 0=x at *;go_region_held3 (fun w'=>w'.cell? ⟨w.heap.size,0,none⟩=some (.slice (some ⟨bm,off,none⟩) n g)∧w'.cell? ⟨w.heap.size,1,none⟩=some (.int .u64 (K:Int))∧w'.cell? ⟨w.heap.size,2,none⟩=some (.slice bo n a)∧w'.cell? ⟨bm,off,none⟩=some (.int .u64 (x:Int)))
  (((try dsimp only);(repeat' apply And.intro) <;> first | (go_keep;done) | assumption))
  (first
  | (go_at_call 229;refine (hZ.out _).mono ?_;rintro e w5 ⟨rfl,rfl⟩)
  | (go_at_call 144;refine (JL.out _ ?_).mono ?_;(exact (ai _ _).drew);rintro e w6 ⟨rfl,k6⟩;have s0:=k6.cellN r0;have s1:=k6.cellN r1;have s2:=k6.cellN r2;have s3:=k6.cellN r3)
  | (go_at_call 188;refine (JE.out _ ?_).mono ?_;(exact k6);rintro e w7 ⟨rfl,k7⟩;have t0:=k7.cellN r0;have t1:=k7.cellN r1;have t2:=k7.cellN r2;have t3:=k7.cellN r3))
 all_goals
  go_wp2_with fail;go_ret;exact ⟨rfl,KF.out.trans k7⟩

theorem jw {ms rs:List Nat} {K n l:Nat} (hn:ms.length=n) (hl:rs.length=l) (b:Digs ms) (d:Digs rs) (hK:K<18446744073709551616) :
  okMod ms K rs↔(rfn n (val ms)=0∧aj (val ms)=n∧l=n∧jo (val ms) K (val rs) n=1):=by
 have a:val ms<18446744073709551616^n:=by rw [← hn];exact aq (by omega) b
 have c:18446744073709551616^(2*n)=2^(128*n):=by rw [B64];congr 1;omega
 obtain ⟨V,hV⟩:∃ V,V=val ms:=⟨_,rfl⟩
 unfold okMod rfn jo;rw [← hV] at a ⊢;constructor
 ·rintro ⟨h1,h2,h3,h4⟩;obtain ⟨m1,m2,m3⟩:=eF h1;unfold eP at h2;unfold eI at h4;rw [if_pos h1] at h2 h4;have hw:aj V=n:=by rw [← hn,← h2,ag]
  rw [hw] at h4 m1;refine ⟨?_,hw,by rw [← hl,← h4,ag],?_⟩
  ·rw [if_neg (by omega),if_neg (by omega),if_neg (by omega)]
  ·rw [if_pos];refine ⟨h3.2.1 h1,?_⟩;rw [← h4,ak,c,al (Nat.lt_trans (Nat.mod_lt _ (by omega)) a)]
 ·rintro ⟨h1,h2,h3,h4⟩;have g1:¬ 130<n:=fun h=>by rw [if_pos h] at h1;omega
  rw [if_neg g1] at h1;have g2:¬ V<2:=fun h=>by rw [if_pos h] at h1;omega
  rw [if_neg g2] at h1;have g3:¬ V%2=0:=fun h=>by rw [if_pos h] at h1;omega
  have hE:dD V=0:=by
   unfold dD;rw [h2,if_neg g1,if_neg g2,if_neg g3]
  by_cases h5:(V*K+1)%18446744073709551616=0∧val rs=18446744073709551616^(2*n)%V
  ·refine ⟨hE,?_,⟨hK,fun _=>h5.1,fun h=>absurd hE h⟩,?_⟩
   ·unfold eP;rw [if_pos hE,h2];exact (aW (by omega) b hn (by rw [← hV,al a])).symm
   ·unfold eI;rw [if_pos hE,h2,← c];exact (aW (by omega) d (hl.trans h3) (by rw [h5.2,al (Nat.lt_trans (Nat.mod_lt _ (by omega)) a)])).symm
  ·rw [if_neg h5] at h4;omega

theorem kX {V n:Nat} (h:aj V=n) (hn:0<n) (h2:2≤V) (ho:V%2=1):18446744073709551616^(n-1)<V:=by
 have h1:¬ aj V≤n-1:=by omega
 rw [am] at h1;rcases Nat.lt_or_ge (18446744073709551616^(n-1)) V with h3 | h3
 ·exact h3
 ·exfalso
  have e:V=18446744073709551616^(n-1):=by omega
  rcases Nat.eq_zero_or_pos (n-1) with h4 | h4
  ·rw [h4,Nat.pow_zero] at e;omega
  ·obtain ⟨k,hk⟩:∃ k,n-1=k+1:=⟨n-1-1,by omega⟩
   rw [hk,Nat.pow_succ] at e;omega

theorem xZ (ao bo:Option Addr) (n l K d g b:Nat) (ms rs:List Nat) (w:World) (hm:Row .u64 w (.slice ao n d) ms) (hr:Row .u64 w (.slice bo l g) rs) (o:Digs ms) (s:Digs rs) (hK:K<18446744073709551616) (I:n≤1000000)
  (hb:w.heap[b]? = some (.cells #[.slice ao n d,.int .u64 (K:Nat),.slice bo l g] 130 (0,0))) :
  Calls Tryz.prog 190 #[.pointer (some ⟨b,0,none⟩)] w fun e w'=>Kept af w w'∧((okMod ms K rs∧e=.returned (.tuple #[]))∨(¬ okMod ms K rs∧∃ c:Nat,c≠0∧e=.panicked [refusal (c:Nat)])):=by
 obtain ⟨_,_,_,e1,x,_,_,_,_⟩:=hm.open;cases e1
 obtain ⟨_,_,_,e1,D,_,_,_,_⟩:=hr.open;cases e1
 have HI:=aa (jw (K:=K) x.out D.out o s hK);have i:=iq ao n d ms w hm o (by omega);obtain ⟨R,hR⟩:∃ R,R=aj (val ms):=⟨_,rfl⟩
 have q:=tJ (.slice ao n d) ms R hR w hm o (by rw [x.out];omega);obtain ⟨E,hE⟩:∃ E,E=rfn n (val ms):=⟨_,rfl⟩
 rw [← hE] at i;have G:=em 1 w;have j:=di 1 w;obtain ⟨p0,p1,p2⟩:=ax hb;have HM:=aa hm;have HR:=aa hr;have F:=aa o;have C:=aa s;have p:=aa hR;have HE:=aa hE;clear hb hm hr o s hR hE;by_cases h1:E=0
 ·subst h1;by_cases h2:R=n
  ·by_cases h3:l=n
   ·subst h2 h3;have a:2≤val ms∧val ms%2=1∧l≤130:=by
     have:=HE.out;unfold rfn at this;by_cases g1:130<l
     ·rw [if_pos g1] at this;omega
     ·rw [if_neg g1] at this;by_cases g2:val ms<2
      ·rw [if_pos g2] at this;omega
      ·rw [if_neg g2] at this;by_cases g3:val ms%2=0
       ·rw [if_pos g3] at this;omega
       ·omega
    have t:0<l:=by
     rcases Nat.eq_zero_or_pos l with h0 | h0
     ·have hw:=p.out;have h5:=(am (val ms) 0).1 (by omega);rw [Nat.pow_zero] at h5;omega
     ·exact h0
    obtain ⟨P,hP⟩:∃ P,P=jo (val ms) K (val rs) l:=⟨_,rfl⟩
    have z:=rG ao bo l K d g ms rs P w HM.out HR.out F.out C.out t a.2.2 (kX p.out.symm t a.1 a.2.1) a.2.1 hP;have r:P=0∨P=1:=by rw [hP];unfold jo;split <;> simp
    have v:okMod ms K rs↔P=1:=by
     rw [HI.out,← hP];exact ⟨fun h=>h.2.2.2,fun h=>⟨HE.out.symm,p.out.symm,rfl,h⟩⟩
    have y:=aa v;have f:=fun W=>em 1 W
    have k:=fun W=>di 1 W
    clear hP v HI a;rcases r with rfl | rfl
    ·go_enter Tryz.func190,Tryz.ntmps190;go_wp2_with fail;refine i.mono ?_;rintro e w1 ⟨⟨_,rfl⟩ | ⟨h,_⟩,rfl⟩
     ·go_wp2_with fail;refine q.mono ?_;rintro e w2 ⟨rfl,rfl⟩;go_wp2_with fail;refine (f _).mono ?_;rintro e w3 ⟨rfl,rfl⟩;go_wp2_with fail;refine z.mono ?_;rintro e w4 ⟨rfl,k4⟩;go_wp2_with fail;refine (k _).mono ?_;rintro e w5 ⟨rfl,rfl⟩;exact ⟨rfl,k4,.inr ⟨fun h=>by have:=y.out.1 h;omega,1,by omega,rfl⟩⟩
     ·exact absurd rfl h
    ·go_enter Tryz.func190,Tryz.ntmps190;go_wp2_with fail;refine i.mono ?_;rintro e w1 ⟨⟨_,rfl⟩ | ⟨h,_⟩,rfl⟩
     ·go_wp2_with fail;refine q.mono ?_;rintro e w2 ⟨rfl,rfl⟩;go_wp2_with fail;refine (f _).mono ?_;rintro e w3 ⟨rfl,rfl⟩;go_wp2_with fail;refine z.mono ?_;rintro e w4 ⟨rfl,k4⟩;go_wp2_with fail;refine (f _).mono ?_;rintro e w5 ⟨rfl,rfl⟩;go_wp2_with fail;go_end0
      exact ⟨k4,.inl ⟨y.out.2 (by first | rfl | trivial),rfl⟩⟩
     ·exact absurd rfl h
   ·subst h2;have B:¬ (l:Int)=(R:Int):=by omega
    have A:Hid ((((l:Nat):Int) != ((R:Nat):Int))=true):=bne_iff_ne.2 B;have m:Hid (¬ okMod ms K rs):=fun h=>h3 (HI.out.1 h).2.2.1
    clear HI;go_enter Tryz.func190,Tryz.ntmps190;go_wp2_with fail;refine i.mono ?_;rintro e w1 ⟨⟨_,rfl⟩ | ⟨h,_⟩,rfl⟩
    ·go_wp2_with fail;refine q.mono ?_;rintro e w2 ⟨rfl,rfl⟩;go_wp2_with fail;rw [A.out];refine j.mono ?_;rintro e w3 ⟨rfl,rfl⟩;exact ⟨rfl,ai _ _,.inr ⟨m.out,1,by omega,rfl⟩⟩
    ·exact absurd rfl h
  ·have H:¬ (R:Int)=(n:Int):=by omega
   have m:Hid (¬ okMod ms K rs):=fun h=>h2 (p.out.trans (HI.out.1 h).2.1)
   clear HI;go_enter Tryz.func190,Tryz.ntmps190;go_wp2_with fail;refine i.mono ?_;rintro e w1 ⟨⟨_,rfl⟩ | ⟨h,_⟩,rfl⟩
   ·go_wp2_with fail;refine q.mono ?_;rintro e w2 ⟨rfl,rfl⟩;go_wp2_with fail;refine j.mono ?_;rintro e w3 ⟨rfl,rfl⟩;exact ⟨rfl,ai _ _,.inr ⟨m.out,1,by omega,rfl⟩⟩
   ·exact absurd rfl h
 ·have m:Hid (¬ okMod ms K rs):=fun h=>h1 (HE.out.trans (HI.out.1 h).1)
  clear HI;go_enter Tryz.func190,Tryz.ntmps190;go_wp2_with fail;refine i.mono ?_;rintro e w1 ⟨⟨h,_⟩ | ⟨h,rfl⟩,rfl⟩
  ·exact absurd h h1
  ·exact ⟨rfl,ai _ _,.inr ⟨m.out,E,h,rfl⟩⟩

theorem iS (ao bo:Option Addr) (n l K a b:Nat) (ms rs:List Nat) (R:Bool) (hR:R=true↔okMod ms K rs) (w:World) (hm:Row .u64 w (.slice ao n a) ms) (hr:Row .u64 w (.slice bo l b) rs) (j:Digs ms) (g:Digs rs) (hK:K<18446744073709551616) (o:n≤1000000) :
  Calls Tryz.prog 146 #[.agg #[.slice ao n a,.int .u64 (K:Nat),.slice bo l b]] w fun e w'=>e=.returned (.bool R)∧Kept af w w':=by
 have q:=eR;obtain ⟨W,hW⟩:∃ W,W=w.alloc (.cells #[.slice ao n a,.int .u64 (K:Nat),.slice bo l b] 130):=⟨_,rfl⟩
 have k0:Kept af w W:=by rw [hW];exact (ai af w).alloc _
 have i:W.heap[w.heap.size]? = some (.cells #[.slice ao n a,.int .u64 (K:Nat),.slice bo l b] 130 (0,0)):=by rw [hW];exact heap_alloc_new _ _
 have he:∀ args w,(callFunc 190 args).run Tryz.prog w=.ok (.enter 190 args) w:=fun _ _=>by simp [go_sem]
 have k1:=k0.alloc (.cells #[.int .i64 0] 33);have xe:=Box.new W (.int .i64 0) 33;have h1:=xZ ao bo n l K a b w.heap.size ms rs _ (hm.grew k1) (hr.grew k1) j g hK o (ap i);have d:=kh 190 #[.pointer (some ⟨w.heap.size,0,none⟩)] W (fun c W'=>Kept af w W'∧(c=0↔okMod ms K rs)) he (h1.mono (by
  rintro e w' ⟨k,(⟨h2,rfl⟩ | ⟨h2,c,hc,rfl⟩)⟩
  ·exact ⟨(k.block _ xe.lt (fun f=>f)).trans xe,.inl ⟨rfl,k1.trans k,⟨fun _=>h2,fun _=>rfl⟩⟩⟩
  ·exact ⟨(k.block _ xe.lt (fun f=>f)).trans xe,.inr ⟨_,rfl,k1.trans k,⟨fun h=>absurd (by omega) hc,fun h=>absurd h h2⟩⟩⟩))
 have HR:=aa hR;have HW:=aa hW;have p:w.heap.size≤W.heap.size:=k0.size;clear h1 hm hr j g hR hW k0 k1 i xe he;go_enter Tryz.func146,Tryz.ntmps146;go_wp2_with (rw [← HW.out]);refine d.mono ?_;rintro e w' ⟨c,w1,rfl,⟨⟨k2,h2⟩,m⟩,rfl⟩;have k3:=k2.next (ar w1 W.heap.size (.int .i64 c)) (fun x hx e=>by omega)
 have HC:Hid (decide (c=0)=R):=by
  unfold Hid;have h3:=HR.out;by_cases h4:c=0
  ·rw [aT h4];exact (h3.2 (h2.1 h4)).symm
  ·rw [aC h4];cases R
   ·rfl
   ·exact absurd (h2.2 (h3.1 rfl)) h4
 clear d h2 k2 m;generalize w1.setCell ⟨W.heap.size,0,none⟩ (.int .i64 c)=w2 at *;go_wp2_with fail;go_ret;rw [← HC.out];exact ⟨rfl,k3⟩

theorem oM (p:Addr) (w:World) :
  CallsD Tryz.prog 167 #[.pointer (some p)] .returning w fun e u' w'=>e=.returned (.tuple #[])∧u'=.returning∧w'=w:=by
 refine callsD_of_wpS Tryz.func167 rfl fun c₀ cs hu=>?_
 apply wpS_seq;apply wpS_region;simp [wpOpsS,go_sem,recoverD,hu,Tryz.ntmps167,Exit.thenS];apply wpS_seq;apply wpS_seq;apply wpS_region;simp [wpOpsS,go_sem,Exit.thenS];refine wpS_cond (t:=true) (by simp [Act.eval,Array.replicate]) ?_;simp only [if_true];refine wpS_of_wp (wp_ret ?_);cases c₀
 simp_all [bodyPostS,results,Tryz.results167,Exit.thenS]

theorem AM (p:Addr) (x n:Int) (a:List PanicEntry) (w:World) (hc:w.cell? p=some (.int .i64 x)) (hz:w.frozen? p=false) :
  CallsD Tryz.prog 167 #[.pointer (some p)] (.panicking (refusal n :: a)) w fun e u' w'=>
   e=.returned (.tuple #[])∧u'=.panicking ({ refusal n with recovered:=true } :: a)∧w'=w.setCell p (.int .i64 n):=by
 refine callsD_of_wpS Tryz.func167 rfl fun c₀ cs hu=>?_
 apply wpS_seq;apply wpS_region;simp [wpOpsS,go_sem,recoverD,hu,Tryz.ntmps167,Exit.thenS];apply wpS_seq;apply wpS_seq;apply wpS_region;simp [wpOpsS,go_sem,Exit.thenS];refine wpS_cond (t:=false) (by simp [Act.eval,Array.replicate]) ?_;simp only [Bool.false_eq_true,if_false];refine wpS_of_wp (wp_skip ?_);simp only [Exit.thenS];refine wpS_of_wp ?_;have c:∀ w:World,(Instr.typeAssert (.iface 33 (.int .i64 n)) 20 33 true).run Tryz.prog w=.ok (.tuple #[.int .i64 n,.bool true]) w:=fun w=>by kernel_rfl
 have b:∀ (x:Bool) (w:World),(Op.unary .not (.bool x)).run Tryz.prog w=.ok (.bool (!x)) w:=fun _ _=>rfl
 have e:(#[Value.pointer (some p)] ++ ((((Array.replicate 15 undef).setIfInBounds 3 (Value.iface 33 (Value.int IntKind.i64 n))).setIfInBounds 0 (Value.iface 33 (Value.int IntKind.i64 n))).setIfInBounds 4 (Value.iface 33 (Value.int IntKind.i64 n))).setIfInBounds 5 (Value.bool false):Array Value)=#[.pointer (some p),.iface 33 (.int .i64 n),undef,undef,.iface 33 (.int .i64 n),.iface 33 (.int .i64 n),.bool false,undef,undef,undef,undef,undef,undef,undef,undef,undef]:=rfl;rw [e];clear e;go_wp2;simp [bodyPostS,results,Tryz.results167]

theorem uN (f:Nat) (cap:Array Value) (w:World) (Q:Int→World→Prop) (he:∀ args w,(callFunc f args).run Tryz.prog w=.ok (.enter f args) w)
  (h:Calls Tryz.prog f cap (w.alloc (.cells #[.int .i64 0] 33)) fun e w'=>w'.heap[w.heap.size]? = some (.cells #[.int .i64 0] 33 (0,0)) ∧
   ((e=.returned (.tuple #[])∧Q 0 w')∨∃ n,e=.panicked [refusal n]∧Q n w')) :
  Calls Tryz.prog 122 #[.func (.func f) #[] cap] w fun e w'=>∃ n w1,e=.returned (.int .i64 n)∧(Q n w1∧w1.heap[w.heap.size]? = some (.cells #[.int .i64 0] 33 (0,0)))∧w'=w1.setCell ⟨w.heap.size,0,none⟩ (.int .i64 n):=by
 have c:=eR;go_enter_defers Tryz.func122,Tryz.ntmps122
 go_wp2_with fail;refine h.mono ?_;rintro e w1 ⟨hb,(⟨rfl,hq⟩ | ⟨n,rfl,hq⟩)⟩
 ·have hc:w1.cell? ⟨w.heap.size,0,none⟩=some (.int .i64 0):=by simp [World.cell?,hb]
  have hz:w1.frozen? ⟨w.heap.size,0,none⟩=false:=by simp [World.frozen?,hb]
  clear h;go_wp2_with fail;refine leaves_cons (f:=167) (args:=#[.pointer (some ⟨w.heap.size,0,none⟩)]) (by simp) (by simp [go_sem]) ?_;refine (oM ⟨w.heap.size,0,none⟩ _).mono ?_;rintro e u' b ⟨rfl,rfl,rfl⟩;have a:(w1.setCell ⟨w.heap.size,0,none⟩ (.int .i64 0)).cell? ⟨w.heap.size,0,none⟩=some (.int .i64 0):=World.cell?_setCell_same' _ _ _ (by rw [hc];rfl);simp [Leaves,settle,results,Tryz.results122,go_sem,a];exact ⟨_,⟨hq,hb⟩,rfl⟩
 ·have hc:w1.cell? ⟨w.heap.size,0,none⟩=some (.int .i64 0):=by simp [World.cell?,hb]
  have hz:w1.frozen? ⟨w.heap.size,0,none⟩=false:=by simp [World.frozen?,hb]
  clear h;refine leaves_cons (f:=167) (args:=#[.pointer (some ⟨w.heap.size,0,none⟩)]) (by simp) (by simp [go_sem]) ?_;refine (AM ⟨w.heap.size,0,none⟩ 0 n [] _ hc hz).mono ?_;rintro e u' b ⟨rfl,rfl,rfl⟩;have a:(w1.setCell ⟨w.heap.size,0,none⟩ (.int .i64 n)).cell? ⟨w.heap.size,0,none⟩=some (.int .i64 n):=World.cell?_setCell_same' _ _ _ (by rw [hc];rfl);simp [Leaves,settle,results,Tryz.results122,go_sem,a];exact ⟨_,⟨hq,hb⟩,rfl⟩

theorem eX (n:Int) (w:World):Calls Tryz.prog 125 #[.bool false,.int .i64 n] w fun e w'=>e=.returned (.tuple #[])∧w'=w:=by
 go_enter Tryz.func125,Tryz.ntmps125;go_wp2;go_end0
 exact ⟨rfl,rfl⟩

theorem e8 (n:Int) (w:World):Calls Tryz.prog 125 #[.bool true,.int .i64 n] w fun e w'=>e=.panicked [refusal n]∧w'=w:=by
 go_enter Tryz.func125,Tryz.ntmps125;go_wp2;exact ⟨rfl,rfl,rfl⟩

theorem pD (ao:Option Addr) (n cap:Nat) (w:World):Calls Tryz.prog 171 #[.slice ao n cap,.int .i64 0] w fun e w'=>e=.returned (.slice ao n cap)∧w'=w:=by
 have hR:=eX 0 w;go_enter Tryz.func171,Tryz.ntmps171;go_wp2_with fail;refine hR.mono ?_;rintro e w' ⟨rfl,rfl⟩;go_wp2;go_ret;exact ⟨rfl,rfl⟩

theorem Aw (u v:Value) (xs ys:List Nat) (R:Bool) (hR:R=decide (val xs=val ys)) (w:World) (hu:Row .u64 w u xs) (hv:Row .u64 w v ys) (a:Digs xs) (b:Digs ys) (hL:xs.length≤100000000) (hM:ys.length≤100000000) :
  Calls Tryz.prog 175 #[u,v] w fun e w'=>e=.returned (.bool R)∧Kept af w w':=by
 have hE:=my none u v xs ys w (TrRoom.none w 1 (by omega)) (RowT.none hu) (RowT.none hv) a b hL hM;rw [← hR] at hE;obtain ⟨ao,L,cap,rfl,_⟩:=hu.open;obtain ⟨bo,M,c,rfl,_⟩:=hv.open;clear hu hv a b hL hM hR;cases R with
 | true=>
  go_enter Tryz.func175,Tryz.ntmps175;go_wp2_with fail;refine hE.mono ?_;rintro e w' ⟨rfl,o',d⟩;have k:=d.none.2;clear hE d;go_wp2_with fail;go_ret;exact ⟨rfl,k⟩
 | false=>
  go_enter Tryz.func175,Tryz.ntmps175;go_wp2_with fail;refine hE.mono ?_;rintro e w' ⟨rfl,o',d⟩;have k:=d.none.2;clear hE d;go_wp2_with fail;go_ret;exact ⟨rfl,k⟩

theorem uD (X:Nat):(8320<au X↔130<aj X)∧(au X<3↔X≤3):=by
 have h1:=gM X;have h2:=aA X 2;constructor
 ·omega
 ·have:(2:Nat)^2=4:=by decide
  omega

theorem ky (ao:Option Addr) (L cap:Nat) (xs:List Nat) (E:Nat) (hE:E=jJ (val xs)) (w:World) (h:Row .u64 w (.slice ao L cap) xs) (hd:Digs xs) (hl:L≤1000000) :
  Calls Tryz.prog 124 #[.slice ao L cap] w fun e w'=>((E=0∧e=.returned (.tuple #[]))∨(E≠0∧e=.panicked [refusal (E:Nat)]))∧w'=w:=by
 obtain ⟨_,_,_,e1,l,_,_,_,c⟩:=h.open;cases e1
 have hB:=dG _ xs w h hd (by rw [l.out];omega);obtain ⟨V,hV⟩:∃ V,V=val xs:=⟨_,rfl⟩
 rw [← hV] at hB hE;have HX:=aa (aR (by omega) hd 0);rw [← hV] at HX;have n:Hid (V<18446744073709551616^L):=by have:=aq (by omega) hd;rw [l.out,← hV] at this;exact this
 have r:Hid (xs.getD 0 0<18446744073709551616):=hd.getD (by omega) _;obtain ⟨d,f⟩:=uD V;obtain ⟨b,hb⟩:∃ b,b=au V:=⟨_,rfl⟩
 rw [← hb] at hB d f;unfold jJ at hE;clear hV h hd hb;have i:=eX 2 w;have j:=eX 1 w;by_cases h1:130<aj V
 ·have hY:=e8 2 w;rw [if_pos h1] at hE;subst hE;have g1:(b:Int) > 8320:=by have:=d.2 h1;omega
  have k:(8320:Int)<(b:Int):=g1;clear c j i d f h1;go_enter Tryz.func124,Tryz.ntmps124;go_wp2_with fail;refine hB.mono ?_;rintro e w' ⟨rfl,rfl⟩;go_wp2_with fail;refine hY.mono ?_;rintro e w' ⟨rfl,rfl⟩;exact ⟨rfl,.inr ⟨by omega,rfl⟩,rfl⟩
 ·rw [if_neg h1] at hE;have g1:¬ (b:Int) > 8320:=by have:=mt d.1 h1;omega
  have k:¬ (8320:Int)<(b:Int):=g1;have q1:decide ((8320:Int)<(b:Int))=false:=aC k;by_cases h2:V≤3
  ·have hY:=e8 1 w;rw [if_pos (.inl h2)] at hE;subst hE;have g2:(b:Int)<3:=by have:=f.2 h2;omega
   clear c j d f h1;go_enter Tryz.func124,Tryz.ntmps124;go_wp2_with fail;refine hB.mono ?_;rintro e w' ⟨rfl,rfl⟩;go_wp2_with fail;refine i.mono ?_;rintro e w' ⟨rfl,rfl⟩;go_wp2_with fail;refine hY.mono ?_;rintro e w' ⟨rfl,rfl⟩;exact ⟨rfl,.inr ⟨by omega,rfl⟩,rfl⟩
  ·have g2:¬ (b:Int)<3:=by have:=mt f.1 h2;omega
   have o:0<L:=by
    rcases Nat.eq_zero_or_pos L with h0 | h0
    ·have:=n.out;rw [h0,Nat.pow_zero] at this;omega
    ·exact h0
   obtain ⟨b2,m,rfl,p⟩:=c 0 o;have s:=r.out;have q:V%18446744073709551616=xs.getD 0 0:=by
    have:=HX.out;unfold dig at this
    rwa [Nat.pow_zero,Nat.div_one] at this
   have g:(xs.getD 0 0)%2=V%2:=by omega
   have a:=and_one_u64 (xs.getD 0 0:Nat) (by omega) (by omega);generalize xs.getD 0 0=x at *;rw [Nat.add_zero] at p;clear c q HX d f h1;by_cases h3:V%2=0
   ·have hY:=e8 1 w;rw [if_pos (.inr h3)] at hE;subst hE;have hz:bits .and .u64 (x:Int) 1=0:=by rw [a];omega
    clear a g;go_enter Tryz.func124,Tryz.ntmps124;go_wp2_with fail;refine hB.mono ?_;rintro e w' ⟨rfl,rfl⟩;go_wp2_with fail;refine i.mono ?_;rintro e w' ⟨rfl,rfl⟩;go_wp2_with fail;refine hY.mono ?_;rintro e w' ⟨rfl,rfl⟩;exact ⟨rfl,.inr ⟨by omega,rfl⟩,rfl⟩
   ·rw [if_neg (by omega)] at hE;subst hE;have hz:bits .and .u64 (x:Int) 1=1:=by rw [a];omega
    clear a g;go_enter Tryz.func124,Tryz.ntmps124;go_wp2_with fail;refine hB.mono ?_;rintro e w' ⟨rfl,rfl⟩;go_wp2_with fail;refine i.mono ?_;rintro e w' ⟨rfl,rfl⟩;go_wp2_with fail;rw [show decide ((b:Int)<3)=false from aC (by omega)];refine j.mono ?_;rintro e w' ⟨rfl,rfl⟩;go_wp2_with fail;go_end0
    exact ⟨.inl ⟨trivial,rfl⟩,rfl⟩

end Go.Proofs.YtcemlfokmjjiaaaGreatDoor
