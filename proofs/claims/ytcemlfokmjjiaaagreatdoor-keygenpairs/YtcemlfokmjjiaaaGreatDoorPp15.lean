/- Put together of: Mon3 Mir1. -/
import Derived.Test.YtcemlfokmjjiaaaGreatDoorPp14

namespace Go.Proofs.YtcemlfokmjjiaaaGreatDoor
set_option maxRecDepth 100000
set_option maxHeartbeats 4000000
open Go.RowKit

theorem oO (p:Addr) (w:World) :
  CallsD Tryz.prog 179 #[.pointer (some p)] .returning w fun e u' w'=>e=.returned (.tuple #[])∧u'=.returning∧w'=w:=by
 refine callsD_of_wpS Tryz.func179 rfl fun c₀ cs hu=>?_
 apply wpS_seq;apply wpS_region;simp [wpOpsS,go_sem,recoverD,hu,Tryz.ntmps179,Exit.thenS];apply wpS_seq;apply wpS_seq;apply wpS_region;simp [wpOpsS,go_sem,Exit.thenS];refine wpS_cond (t:=true) (by simp [Act.eval,Array.replicate]) ?_;simp only [if_true];refine wpS_of_wp (wp_ret ?_);cases c₀
 simp_all [bodyPostS,results,Tryz.results179,Exit.thenS]

theorem zm (p:Addr) (x n:Int) (a:List PanicEntry) (w:World) (hc:w.cell? p=some (.int .i64 x)) (hz:w.frozen? p=false) :
  CallsD Tryz.prog 179 #[.pointer (some p)] (.panicking (refusal n :: a)) w fun e u' w'=>
   e=.returned (.tuple #[])∧u'=.panicking ({ refusal n with recovered:=true } :: a)∧w'=w.setCell p (.int .i64 n):=by
 refine callsD_of_wpS Tryz.func179 rfl fun c₀ cs hu=>?_
 apply wpS_seq;apply wpS_region;simp [wpOpsS,go_sem,recoverD,hu,Tryz.ntmps179,Exit.thenS];apply wpS_seq;apply wpS_seq;apply wpS_region;simp [wpOpsS,go_sem,Exit.thenS];refine wpS_cond (t:=false) (by simp [Act.eval,Array.replicate]) ?_;simp only [Bool.false_eq_true,if_false];refine wpS_of_wp (wp_skip ?_);simp only [Exit.thenS];refine wpS_of_wp ?_;have c:∀ w:World,(Instr.typeAssert (.iface 33 (.int .i64 n)) 20 33 true).run Tryz.prog w=.ok (.tuple #[.int .i64 n,.bool true]) w:=fun w=>by kernel_rfl
 have b:∀ (x:Bool) (w:World),(Op.unary .not (.bool x)).run Tryz.prog w=.ok (.bool (!x)) w:=fun _ _=>rfl
 have e:(#[Value.pointer (some p)] ++ ((((Array.replicate 15 undef).setIfInBounds 3 (Value.iface 33 (Value.int IntKind.i64 n))).setIfInBounds 0 (Value.iface 33 (Value.int IntKind.i64 n))).setIfInBounds 4 (Value.iface 33 (Value.int IntKind.i64 n))).setIfInBounds 5 (Value.bool false):Array Value)=#[.pointer (some p),.iface 33 (.int .i64 n),undef,undef,.iface 33 (.int .i64 n),.iface 33 (.int .i64 n),.bool false,undef,undef,undef,undef,undef,undef,undef,undef,undef]:=rfl;rw [e];clear e;go_wp2;simp [bodyPostS,results,Tryz.results179]

theorem jD (f:Nat) (cap:Array Value) (w:World) (Q:Int→World→Prop) (he:∀ args w,(callFunc f args).run Tryz.prog w=.ok (.enter f args) w)
  (h:Calls Tryz.prog f cap (w.alloc (.cells #[.int .i64 0] 33)) fun e w'=>w'.heap[w.heap.size]? = some (.cells #[.int .i64 0] 33 (0,0)) ∧
   ((e=.returned (.tuple #[])∧Q 0 w')∨∃ n,e=.panicked [refusal n]∧Q n w')) :
  Calls Tryz.prog 137 #[.func (.func f) #[] cap] w fun e w'=>∃ n w1,e=.returned (.int .i64 n)∧(Q n w1∧w1.heap[w.heap.size]? = some (.cells #[.int .i64 0] 33 (0,0)))∧w'=w1.setCell ⟨w.heap.size,0,none⟩ (.int .i64 n):=by
 have c:=eI;go_enter_defers Tryz.func137,Tryz.ntmps137
 go_wp2_with fail;refine h.mono ?_;rintro e w1 ⟨hb,(⟨rfl,hq⟩ | ⟨n,rfl,hq⟩)⟩
 ·have hc:w1.cell? ⟨w.heap.size,0,none⟩=some (.int .i64 0):=by simp [World.cell?,hb]
  have hz:w1.frozen? ⟨w.heap.size,0,none⟩=false:=by simp [World.frozen?,hb]
  clear h;go_wp2_with fail;refine leaves_cons (f:=179) (args:=#[.pointer (some ⟨w.heap.size,0,none⟩)]) (by simp) (by simp [go_sem]) ?_;refine (oO ⟨w.heap.size,0,none⟩ _).mono ?_;rintro e u' b ⟨rfl,rfl,rfl⟩;have a:(w1.setCell ⟨w.heap.size,0,none⟩ (.int .i64 0)).cell? ⟨w.heap.size,0,none⟩=some (.int .i64 0):=World.cell?_setCell_same' _ _ _ (by rw [hc];rfl);simp [Leaves,settle,results,Tryz.results137,go_sem,a];exact ⟨_,⟨hq,hb⟩,rfl⟩
 ·have hc:w1.cell? ⟨w.heap.size,0,none⟩=some (.int .i64 0):=by simp [World.cell?,hb]
  have hz:w1.frozen? ⟨w.heap.size,0,none⟩=false:=by simp [World.frozen?,hb]
  clear h;refine leaves_cons (f:=179) (args:=#[.pointer (some ⟨w.heap.size,0,none⟩)]) (by simp) (by simp [go_sem]) ?_;refine (zm ⟨w.heap.size,0,none⟩ 0 n [] _ hc hz).mono ?_;rintro e u' b ⟨rfl,rfl,rfl⟩;have a:(w1.setCell ⟨w.heap.size,0,none⟩ (.int .i64 n)).cell? ⟨w.heap.size,0,none⟩=some (.int .i64 n):=World.cell?_setCell_same' _ _ _ (by rw [hc];rfl);simp [Leaves,settle,results,Tryz.results137,go_sem,a];exact ⟨_,⟨hq,hb⟩,rfl⟩

theorem eh (n:Int) (w:World):Calls Tryz.prog 180 #[.bool false,.int .i64 n] w fun e w'=>e=.returned (.tuple #[])∧w'=w:=by
 go_enter Tryz.func180,Tryz.ntmps180;go_wp2;go_end0
 exact ⟨rfl,rfl⟩

theorem dh (n:Int) (w:World):Calls Tryz.prog 180 #[.bool true,.int .i64 n] w fun e w'=>e=.panicked [refusal n]∧w'=w:=by
 go_enter Tryz.func180,Tryz.ntmps180;go_wp2;exact ⟨rfl,rfl,rfl⟩

theorem fZ (V:Nat):(au V+63)/64=aj V:=by
 unfold au aj;by_cases h:V=0
 ·rw [if_pos h,if_pos h]
 ·rw [if_neg h,if_neg h];omega

theorem sZ (v:Value) (xs:List Nat) (R:Nat) (hR:R=aj (val xs)) (w:World) (h:Row .u64 w v xs) (hd:Digs xs) (hl:xs.length≤100000000) :
  Calls Tryz.prog 139 #[v] w fun e w'=>e=.returned (.int .i64 (R:Nat))∧w'=w:=by
 have hB:=dy v xs w h hd hl;have hn:=fZ (val xs);rw [← hR] at hn;have hb:au (val xs)≤100000000*64:=by
  have h1:=(ap (val xs) xs.length).2 (aq (by omega) hd);rw [← hR] at h1;omega
 obtain ⟨b,a⟩:∃ b,b=au (val xs):=⟨_,rfl⟩
 rw [← a] at hB hn hb;have HN:=aa hn;clear hR h hd hl a hn;go_enter Tryz.func139,Tryz.ntmps139;go_wp2_with fail;refine hB.mono ?_;rintro e w' ⟨rfl,rfl⟩;go_wp2_with fail;go_ret;refine ⟨?_,rfl⟩;have hn:=HN.out;show Ending.returned (Value.int .i64 (((b:Int)+64-1)/64))=_
 rw [show ((b:Int)+64-1)/64=(R:Int) by omega]

def rfn (L V:Nat):Nat:=if 130<L then 2 else if V<2 then 1 else if V%2=0 then 60 else 0

theorem ie (ao:Option Addr) (L cap:Nat) (xs:List Nat) (w:World) (h:Row .u64 w (.slice ao L cap) xs) (hd:Digs xs) (hl:L≤100000000) :
  Calls Tryz.prog 140 #[.slice ao L cap] w fun e w'=>((rfn L (val xs)=0∧e=.returned (.tuple #[]))∨(rfn L (val xs)≠0∧e=.panicked [refusal (rfn L (val xs):Nat)]))∧w'=w:=by
 obtain ⟨_,_,_,e1,l,_,_,_,c⟩:=h.open;cases e1
 have hB:=dy _ xs w h hd (by rw [l.out];exact hl);obtain ⟨V,hV⟩:∃ V,V=val xs:=⟨_,rfl⟩
 rw [← hV] at hB ⊢;have HX:=aa (aN (by omega) hd 0);rw [← hV] at HX;have r:Hid (V<18446744073709551616^L):=by have:=aq (by omega) hd;rw [l.out,← hV] at this;exact this
 have p:Hid (xs.getD 0 0<18446744073709551616):=hd.getD (by omega) _;have i:au V<2↔V<2:=by
  unfold au;by_cases h0:V=0
  ·simp [h0]
  ·rw [if_neg h0];have:=Nat.log2_lt (n:=V) (k:=1) h0;omega
 obtain ⟨b,hb⟩:∃ b,b=au V:=⟨_,rfl⟩
 rw [← hb] at hB i;clear hV h hd hb;unfold rfn;have f:=eh 2 w;have g:=eh 1 w;have j:=eh 60 w;by_cases h1:130<L
 ·have hY:=dh 2 w;rw [if_pos h1];have g1:(L:Int) > 130:=by omega
  clear c hB g f j;go_enter Tryz.func140,Tryz.ntmps140;go_wp2_with fail;refine hY.mono ?_;rintro e w' ⟨rfl,rfl⟩;exact ⟨rfl,.inr ⟨by omega,rfl⟩,rfl⟩
 ·rw [if_neg h1];have g1:¬ (L:Int) > 130:=by omega
  by_cases h2:V<2
  ·have hY:=dh 1 w;rw [if_pos h2];have g2:(b:Int)<2:=by have:=i.2 h2;omega
   clear c g j;go_enter Tryz.func140,Tryz.ntmps140;go_wp2_with fail;refine f.mono ?_;rintro e w' ⟨rfl,rfl⟩;go_wp2_with fail;refine hB.mono ?_;rintro e w' ⟨rfl,rfl⟩;go_wp2_with fail;refine hY.mono ?_;rintro e w' ⟨rfl,rfl⟩;exact ⟨rfl,.inr ⟨by omega,rfl⟩,rfl⟩
  ·rw [if_neg h2];have g2:¬ (b:Int)<2:=by have:=mt i.1 h2;omega
   have o:0<L:=by
    rcases Nat.eq_zero_or_pos L with h0 | h0
    ·have:=r.out;rw [h0,Nat.pow_zero] at this;omega
    ·exact h0
   obtain ⟨b2,m,rfl,s⟩:=c 0 o;have t:=p.out;have q:V%18446744073709551616=xs.getD 0 0:=by
    have:=HX.out;unfold dig at this
    rwa [Nat.pow_zero,Nat.div_one] at this
   have d:(xs.getD 0 0)%2=V%2:=by omega
   have a:=and_one_u64 (xs.getD 0 0:Nat) (by omega) (by omega);generalize xs.getD 0 0=x at *;rw [Nat.add_zero] at s;clear c q HX i;by_cases h3:V%2=0
   ·have hY:=dh 60 w;rw [if_pos h3];have hz:bits .and .u64 (x:Int) 1=0:=by rw [a];omega
    clear a d;go_enter Tryz.func140,Tryz.ntmps140;go_wp2_with fail;refine f.mono ?_;rintro e w' ⟨rfl,rfl⟩;go_wp2_with fail;refine hB.mono ?_;rintro e w' ⟨rfl,rfl⟩;go_wp2_with fail;rw [show decide ((b:Int)<2)=false from aF (by omega)];refine g.mono ?_;rintro e w' ⟨rfl,rfl⟩;go_wp2_with fail;refine hY.mono ?_;rintro e w' ⟨rfl,rfl⟩;exact ⟨rfl,.inr ⟨by omega,rfl⟩,rfl⟩
   ·rw [if_neg h3];have hz:bits .and .u64 (x:Int) 1=1:=by rw [a];omega
    clear a d;go_enter Tryz.func140,Tryz.ntmps140;go_wp2_with fail;refine f.mono ?_;rintro e w' ⟨rfl,rfl⟩;go_wp2_with fail;refine hB.mono ?_;rintro e w' ⟨rfl,rfl⟩;go_wp2_with fail;rw [show decide ((b:Int)<2)=false from aF (by omega)];refine g.mono ?_;rintro e w' ⟨rfl,rfl⟩;go_wp2_with fail;refine j.mono ?_;rintro e w' ⟨rfl,rfl⟩;go_wp2_with fail;go_end0
    exact ⟨.inl ⟨trivial,rfl⟩,rfl⟩

theorem pX (N:Nat):(List.replicate (N+1) 0).set N 1=List.replicate N 0 ++ [1]:=by
 rw [List.replicate_succ',List.set_append_right _ _ (by simp)];simp

theorem uK (N:Nat):val (List.replicate N 0 ++ [1])=18446744073709551616^N:=by
 rw [aO,cH _ (fun d hd=>(List.mem_replicate.1 hd).2),List.length_replicate];omega

theorem qO (N:Nat):Digs (List.replicate N 0 ++ [1]):=fun d hd=>by
 rw [List.mem_append,List.mem_replicate,List.mem_singleton] at hd;omega

def jd (V K R n:Nat):Nat:=if (V*K+1)%18446744073709551616=0∧R=18446744073709551616^(2*n)%V then 1 else 0

theorem nC (a b:Bool):bits .and .u64 ((be a:Nat):Int) ((be b:Nat):Int)=((be (a && b):Nat):Int):=by
 cases a <;> cases b <;> decide

theorem sJ (x:Nat):zer (x:Int)=((be (decide (x=0)):Nat):Int):=by
 unfold zer be;by_cases h:x=0
 ·rw [if_pos (by omega),bd h,if_pos rfl];rfl
 ·rw [if_neg (by omega),aF h,if_neg (by decide)];rfl

theorem rD {V K R n Q A c:Nat} (hn:0<n) (hV:V<18446744073709551616^n) (e:18446744073709551616^(n-1)<V) (b:V%2=1) (hv:A+18446744073709551616^(n+(n+1))*c=R+V*Q) (hQ:Q<18446744073709551616^(n+1)) (a:(V*K+1)%18446744073709551616=0→0<n→A%18446744073709551616^(n+1)=0) :
  be (decide ((V*K+1)%18446744073709551616=0) && decide (R<V) && decide (A=18446744073709551616^(2*n)))=jd V K R n:=by
 unfold jd be;have d:0<V:=by omega
 by_cases h1:(V*K+1)%18446744073709551616=0
 ·by_cases h2:R<V
  ·have g:Nat.Coprime V (18446744073709551616^(n+1)):=by rw [B64];exact dL b
   obtain ⟨n',rfl⟩:∃ n',n=n'+1:=⟨n-1,by omega⟩
   have hW:18446744073709551616^(2*(n'+1))%18446744073709551616^(n'+1+1)=0:=by
    rw [show 2*(n'+1)=(n'+1+1)+n' by omega,Nat.pow_add];exact Nat.mul_mod_right _ _
   have i:18446744073709551616^(2*(n'+1))/V<18446744073709551616^(n'+1+1):=by
    rw [Nat.div_lt_iff_lt_mul d];rw [Nat.add_sub_cancel] at e;have h3:18446744073709551616^(n'+1+1)*18446744073709551616^n'<18446744073709551616^(n'+1+1)*V:=Nat.mul_lt_mul_of_pos_left e (Nat.pow_pos (by omega));rw [← Nat.pow_add,show n'+1+1+n'=2*(n'+1) by omega] at h3;exact h3
   have hE:V*18446744073709551616^(n'+1+1)≤18446744073709551616^(n'+1+(n'+1+1)):=by
    rw [Nat.pow_add _ (n'+1) (n'+1+1)];exact Nat.mul_le_mul_right _ (Nat.le_of_lt hV)
   have f:=ue h2 hQ hE hv (a h1 hn) g hW i;by_cases h3:A=18446744073709551616^(2*(n'+1))
   ·rw [bd h1,bd h2,bd h3,if_pos (by decide),if_pos ⟨h1,f.1 h3⟩]
   ·rw [bd h1,bd h2,aF h3,if_neg (by decide),if_neg (fun h=>h3 (f.2 h.2))]
  ·rw [bd h1,aF h2,if_neg (by simp),if_neg];rintro ⟨_,h3⟩;apply h2;rw [h3];exact Nat.mod_lt _ d
 ·rw [aF h1,if_neg (by simp),if_neg (fun h=>h1 h.1)]

theorem qx (ao bo:Option Addr) (n K g a:Nat) (ms rs:List Nat) (P:Nat) (w:World) (hm:Row .u64 w (.slice ao n g) ms) (hr:Row .u64 w (.slice bo n a) rs) (C:Digs ms) (v:Digs rs) (hn:0<n) (aR:n≤130)
  (ab:18446744073709551616^(n-1)<val ms) (p:val ms%2=1) (hP:P=jd (val ms) K (val rs) n) :
  Calls Tryz.prog 191 #[.agg #[.slice ao n g,.int .u64 (K:Nat),.slice bo n a]] w fun e w'=>e=.returned (.int .u64 (P:Nat))∧Kept ae w w':=by
 obtain ⟨i0,aB,aM,aI,aH⟩:=info_parts Tryz.info23;obtain ⟨_,_,_,e1,ap,_,_,_,r⟩:=hm.open;cases e1
 obtain ⟨_,_,_,e1,Y,_,_,_,_⟩:=hr.open;cases e1
 obtain ⟨bm,off,rfl,D⟩:=r 0 hn;rw [Nat.add_zero] at D;have hV:val ms<18446744073709551616^n:=by rw [← ap.out];exact aq (by omega) C
 have M:val rs<18446744073709551616^n:=by rw [← Y.out];exact aq (by omega) v
 obtain ⟨W0,B⟩:∃ W0,W0=w.alloc (.cells #[.slice (some ⟨bm,off,none⟩) n g,.int .u64 (K:Nat),.slice bo n a] 130):=⟨_,rfl⟩
 have k0:Kept ae w W0:=by rw [B];exact (ah ae w).alloc _
 have l:W0.heap[w.heap.size]? = some (.cells #[.slice (some ⟨bm,off,none⟩) n g,.int .u64 (K:Nat),.slice bo n a] 130 (0,0)):=by rw [B];exact heap_alloc_new _ _
 obtain ⟨N,hN⟩:∃ N,N=2*n+1:=⟨_,rfl⟩
 have hF:=qN (.slice bo n a) rs N W0 (hr.grew k0) v (by omega);have hA:=fun W (k:Kept ae W0 W) (ho:OwnN .u64 23 W W0.heap.size (.slice (some ⟨W0.heap.size,0,none⟩) N N) N (ag (val rs) N))=>nE W0 none none [] W0.heap.size W0.heap.size N N n (n+1) K g n a _ bo _ ms W (Did.of_kept k trivial) (TrRoom.none _ _ (by simp;omega)) (leR _) ho (af _ _ _) (ai (by omega) _ _) (by omega) (by omega) (RowT.none (hm.grew k0)) C w.heap.size _ _ ((k.block _ (lt_of_block l) (fun f=>f)).trans l) (by decide) (by decide) (by have:=lt_of_block l;omega)
 rw [ak,al (Nat.lt_of_lt_of_le M (Nat.pow_le_pow_right (by omega) (by omega)))] at hA;have HF:=aa hF;have HA:=aa hA;have HM:=aa (hm.grew k0);have HR:=aa (hr.grew k0);have HX:=aa l;have aw:=aa k0;have I:=aa C;have aL:=aa v;have aO:=aa B;have t:=k0.cellN D;obtain ⟨p0,p1,p2⟩:=ay l;have gN:(2:Int)*(n:Int)+1=(N:Int):=by omega
 have aP:((n+1:Nat):Int)=(n:Int)+1:=by omega
 have HN:=aa hN;have aQ:N≤300:=by omega
 have Z:=aa hV;clear B l k0 hm hr hA hF r D C v hN hV M;go_enter Tryz.func191,Tryz.ntmps191;go_wp2_with (rw [← aO.out]);refine HF.out.mono ?_;rintro e w1 ⟨rfl,am,k1⟩;have E:=HA.out w1 k1 am;rw [aP,show aD none=.pointer none from rfl] at E;have q0:=k1.cellN p0;have q1:=k1.cellN p1;have q2:=k1.cellN p2;clear HF HA p0 p1 p2 am;go_wp2_with fail;refine E.mono ?_;rintro e w2 ⟨c,rfl,⟨hc,s,Q,o1,ar,O,au,ac,an,i,D2⟩,o⟩;have k2:=D2.none.2;have HE:=aa ac;have HQ:=aa an;have q:=aa i;have ax:=aa ar;have U:=aa O;have aG:=aa au;have aJ:2*n<N:=by have:=HN.out;omega
 clear E q0 q1 q2 ac an i ar D2 o O au k1;have aF:=aa k2;clear k2;go_wp2_with (at_make;refine wpList_make_full _ rfl _ _ 32 rfl w2.heap.size 23 i0 _ 1 Tryz.underlying32 aB aM aI _ _ _ _ N rfl rfl (by first | exact gN | rfl) (by first | exact gN | rfl) (by rw [aH];omega) (by unfold maxLen;omega) (leR _) ?_;intro w3 m S;rw [aE] at m;have k3:=aC S;have J:=World.ownsRow.cellAt m (2*n) (by omega);have az:=World.ownsRow.frozenAt m (2*n);rw [List.getElem?_map,List.getElem?_replicate,if_pos aJ] at J;clear S)
 have T:OwnN .u64 23 (w3.setCell ⟨w2.heap.size,2*n,none⟩ (.int .u64 1)) w2.heap.size (.slice (some ⟨w2.heap.size,0,none⟩) N N) N (List.replicate (2*n) 0 ++ [1]):=by
  have:=(World.ownsRow.stored m (2*n) (.int .u64 1)).1;unfold OwnN;rw [← pX,List.map_set,← HN.out];exact this
 have k4:Kept ae w2 (w3.setCell ⟨w2.heap.size,2*n,none⟩ (.int .u64 1)):=cG k3 ((ah (fun b=>b=w2.heap.size) w3).setCell ⟨w2.heap.size,2*n,none⟩ (fun _=>rfl) _) (leR _);generalize w3.setCell ⟨w2.heap.size,2*n,none⟩ (.int .u64 1)=w4 at *;have K4:=aF.out.trans k4;have X:=(K4.block _ (lt_of_block HX.out) (fun f=>f)).trans HX.out;obtain ⟨r0,r1,r2⟩:=ay X;have r3:=K4.cellN t;have j:Row .u64 w4 (.slice (some ⟨w2.heap.size,0,none⟩) N N) (List.replicate (2*n) 0 ++ [1]):=aS T (by rw [List.length_append,List.length_replicate,HN.out];rfl);have L:Row .u64 w4 (.slice (some ⟨W0.heap.size,0,none⟩) N N) s:=aS (k4.own ax.out (fun _ _ f=>f)) U.out
 have hx:ms.getD 0 0<18446744073709551616:=I.out.getD (by omega) _;have ad:val ms%18446744073709551616=ms.getD 0 0:=by
  have:=aN (by omega) I.out 0;unfold dig at this
  rwa [Nat.pow_zero,Nat.div_one] at this
 have aK:ms.length≤100000000:=by rw [ap.out];omega
 have av:rs.length≤100000000:=by rw [Y.out];omega
 have aA:s.length≤100000000:=by rw [U.out];omega
 have hL:=fun W (k:Kept ae w4 W)=>nV none _ _ rs ms W (TrRoom.none _ _ (by omega)) (RowT.none (HR.out.grew (K4.trans k))) (RowT.none (HM.out.grew (K4.trans k))) aL.out I.out av aK
 have hE:=fun W (k:Kept ae w4 W)=>lZ none _ _ s _ W (TrRoom.none _ _ (by omega)) (RowT.none (L.grew k)) (RowT.none (j.grew k)) aG.out (qO (2*n)) aA (by simp;omega)
 rw [uK] at hE;have h:=rD (V:=val ms) (K:=K) (R:=val rs) (n:=n) (Q:=Q) (A:=val s) (c:=c) hn Z.out ab p (by rw [show n+(n+1)=N by have:=HN.out;omega];exact HE.out) HQ.out q.out;rw [← hP] at h;obtain ⟨y,hy⟩:∃ y,y=K*ms.getD 0 0%18446744073709551616:=⟨_,rfl⟩
 obtain ⟨z,hz⟩:∃ z,z=(y+1)%18446744073709551616:=⟨_,rfl⟩
 have aj:decide (z=0)=decide ((val ms*K+1)%18446744073709551616=0):=by
  have:z=(val ms*K+1)%18446744073709551616:=by
   rw [hz,hy,← ad,Nat.add_mod,Nat.mod_mod,← Nat.add_mod,Nat.mul_comm (val ms),Nat.add_mod,Nat.mul_mod,Nat.mod_mod,← Nat.mul_mod,← Nat.add_mod]
  rw [this]
 rw [← aj] at h;have gy:IntKind.u64.wrap ((K:Int)*((ms.getD 0 0:Nat):Int))=(y:Int):=by rw [IntKind.wrap_u64,hy];omega
 have gz:IntKind.u64.wrap ((y:Int)+1)=(z:Int):=by rw [IntKind.wrap_u64,hz];omega
 have aT:z<18446744073709551616:=by rw [hz];exact Nat.mod_lt _ (by omega)
 obtain ⟨b0,G⟩:∃ b,b=be (decide (z=0)):=⟨_,rfl⟩
 obtain ⟨b1,H⟩:∃ b,b=be (decide (val rs<val ms)):=⟨_,rfl⟩
 obtain ⟨b2,o⟩:∃ b,b=be (decide (val s=18446744073709551616^(2*n))):=⟨_,rfl⟩
 obtain ⟨b3,F⟩:∃ b,b=be (decide (z=0) && decide (val rs<val ms)):=⟨_,rfl⟩
 have g1:bits .and .u64 (b0:Int) (b1:Int)=(b3:Int):=by rw [G,H,F];exact nC _ _
 have g2:bits .and .u64 (b3:Int) (b2:Int)=(P:Int):=by rw [F,o,← h];exact nC _ _
 have hZ:Hid (∀ W,Calls Tryz.prog 229 #[.int .u64 (z:Int)] W fun e w'=>e=.returned (.int .u64 (b0:Int))∧w'=W):=fun W=>by
  have:=yE (z:Int) (by omega) (by omega) W;rw [sJ,← G] at this;exact this
 have JL:Hid (∀ W,Kept ae w4 W→Calls Tryz.prog 144 #[.pointer none,.slice bo n a,.slice (some ⟨bm,off,none⟩) n g] W fun e w'=>e=.returned (.int .u64 (b1:Int))∧Kept ae w4 w'):=fun W k=>by
  refine (hL W k).mono ?_;rintro e w' ⟨rfl,o',d⟩;exact ⟨by rw [H],k.trans d.none.2⟩
 have JE:Hid (∀ W,Kept ae w4 W→Calls Tryz.prog 188 #[.pointer none,.slice (some ⟨W0.heap.size,0,none⟩) N N,.slice (some ⟨w2.heap.size,0,none⟩) N N] W fun e w'=>e=.returned (.int .u64 (b2:Int))∧Kept ae w4 w'):=fun W k=>by
  refine (hE W k).mono ?_;rintro e w' ⟨rfl,o',d⟩;exact ⟨by rw [o],k.trans d.none.2⟩
 have KF:=aa (aw.out.trans K4);clear hL hE h aj ad G H o F hy hz j L X T k4 m J az k3 K4 t hP ab p HE q HQ Z;generalize ms.getD 0 0=x at *;go_region_held3 (fun w'=>w'.cell? ⟨w.heap.size,0,none⟩=some (.slice (some ⟨bm,off,none⟩) n g)∧w'.cell? ⟨w.heap.size,1,none⟩=some (.int .u64 (K:Int))∧w'.cell? ⟨w.heap.size,2,none⟩=some (.slice bo n a)∧w'.cell? ⟨bm,off,none⟩=some (.int .u64 (x:Int)))
  (((try dsimp only);(repeat' apply And.intro) <;> first | (go_keep;done) | assumption))
  (first
  | (go_at_call 229;refine (hZ.out _).mono ?_;rintro e w5 ⟨rfl,rfl⟩)
  | (go_at_call 144;refine (JL.out _ ?_).mono ?_;(exact (ah _ _).drew);rintro e w6 ⟨rfl,k6⟩;have s0:=k6.cellN r0;have s1:=k6.cellN r1;have s2:=k6.cellN r2;have s3:=k6.cellN r3)
  | (go_at_call 188;refine (JE.out _ ?_).mono ?_;(exact k6);rintro e w7 ⟨rfl,k7⟩;have t0:=k7.cellN r0;have t1:=k7.cellN r1;have t2:=k7.cellN r2;have t3:=k7.cellN r3))
 all_goals
  go_wp2_with fail;go_ret;exact ⟨rfl,KF.out.trans k7⟩

theorem jo {ms rs:List Nat} {K n l:Nat} (hn:ms.length=n) (hl:rs.length=l) (c:Digs ms) (d:Digs rs) (hK:K<18446744073709551616) :
  okMod ms K rs↔(rfn n (val ms)=0∧aj (val ms)=n∧l=n∧jd (val ms) K (val rs) n=1):=by
 have a:val ms<18446744073709551616^n:=by rw [← hn];exact aq (by omega) c
 have b:18446744073709551616^(2*n)=2^(128*n):=by rw [B64];congr 1;omega
 obtain ⟨V,hV⟩:∃ V,V=val ms:=⟨_,rfl⟩
 unfold okMod rfn jd;rw [← hV] at a ⊢;constructor
 ·rintro ⟨h1,h2,h3,h4⟩;obtain ⟨m1,m2,m3⟩:=eu h1;unfold eH at h2;unfold eF at h4;rw [if_pos h1] at h2 h4;have hw:aj V=n:=by rw [← hn,← h2,af]
  rw [hw] at h4 m1;refine ⟨?_,hw,by rw [← hl,← h4,af],?_⟩
  ·rw [if_neg (by omega),if_neg (by omega),if_neg (by omega)]
  ·rw [if_pos];refine ⟨h3.2.1 h1,?_⟩;rw [← h4,ak,b,al (Nat.lt_trans (Nat.mod_lt _ (by omega)) a)]
 ·rintro ⟨h1,h2,h3,h4⟩;have g1:¬ 130<n:=fun h=>by rw [if_pos h] at h1;omega
  rw [if_neg g1] at h1;have g2:¬ V<2:=fun h=>by rw [if_pos h] at h1;omega
  rw [if_neg g2] at h1;have g3:¬ V%2=0:=fun h=>by rw [if_pos h] at h1;omega
  have hE:dF V=0:=by
   unfold dF;rw [h2,if_neg g1,if_neg g2,if_neg g3]
  by_cases h5:(V*K+1)%18446744073709551616=0∧val rs=18446744073709551616^(2*n)%V
  ·refine ⟨hE,?_,⟨hK,fun _=>h5.1,fun h=>absurd hE h⟩,?_⟩
   ·unfold eH;rw [if_pos hE,h2];exact (aT (by omega) c hn (by rw [← hV,al a])).symm
   ·unfold eF;rw [if_pos hE,h2,← b];exact (aT (by omega) d (hl.trans h3) (by rw [h5.2,al (Nat.lt_trans (Nat.mod_lt _ (by omega)) a)])).symm
  ·rw [if_neg h5] at h4;omega

theorem kq {V n:Nat} (h:aj V=n) (hn:0<n) (h2:2≤V) (ho:V%2=1):18446744073709551616^(n-1)<V:=by
 have h1:¬ aj V≤n-1:=by omega
 rw [ap] at h1;rcases Nat.lt_or_ge (18446744073709551616^(n-1)) V with h3 | h3
 ·exact h3
 ·exfalso
  have e:V=18446744073709551616^(n-1):=by omega
  rcases Nat.eq_zero_or_pos (n-1) with h4 | h4
  ·rw [h4,Nat.pow_zero] at e;omega
  ·obtain ⟨k,hk⟩:∃ k,n-1=k+1:=⟨n-1-1,by omega⟩
   rw [hk,Nat.pow_succ] at e;omega

theorem x9 (ao bo:Option Addr) (n l K d g b:Nat) (ms rs:List Nat) (w:World) (hm:Row .u64 w (.slice ao n d) ms) (hr:Row .u64 w (.slice bo l g) rs) (m:Digs ms) (s:Digs rs) (hK:K<18446744073709551616) (H:n≤1000000)
  (hb:w.heap[b]? = some (.cells #[.slice ao n d,.int .u64 (K:Nat),.slice bo l g] 130 (0,0))) :
  Calls Tryz.prog 190 #[.pointer (some ⟨b,0,none⟩)] w fun e w'=>Kept ae w w'∧((okMod ms K rs∧e=.returned (.tuple #[]))∨(¬ okMod ms K rs∧∃ c:Nat,c≠0∧e=.panicked [refusal (c:Nat)])):=by
 obtain ⟨_,_,_,e1,z,_,_,_,_⟩:=hm.open;cases e1
 obtain ⟨_,_,_,e1,D,_,_,_,_⟩:=hr.open;cases e1
 have HI:=aa (jo (K:=K) z.out D.out m s hK);have i:=ie ao n d ms w hm m (by omega);obtain ⟨R,hR⟩:∃ R,R=aj (val ms):=⟨_,rfl⟩
 have p:=sZ (.slice ao n d) ms R hR w hm m (by rw [z.out];omega);obtain ⟨E,hE⟩:∃ E,E=rfn n (val ms):=⟨_,rfl⟩
 rw [← hE] at i;have I:=eh 1 w;have j:=dh 1 w;obtain ⟨p0,p1,p2⟩:=ay hb;have HM:=aa hm;have HR:=aa hr;have F:=aa m;have B:=aa s;have q:=aa hR;have HE:=aa hE;clear hb hm hr m s hR hE;by_cases h1:E=0
 ·subst h1;by_cases h2:R=n
  ·by_cases h3:l=n
   ·subst h2 h3;have a:2≤val ms∧val ms%2=1∧l≤130:=by
     have:=HE.out;unfold rfn at this;by_cases g1:130<l
     ·rw [if_pos g1] at this;omega
     ·rw [if_neg g1] at this;by_cases g2:val ms<2
      ·rw [if_pos g2] at this;omega
      ·rw [if_neg g2] at this;by_cases g3:val ms%2=0
       ·rw [if_pos g3] at this;omega
       ·omega
    have t:0<l:=by
     rcases Nat.eq_zero_or_pos l with h0 | h0
     ·have hw:=q.out;have h5:=(ap (val ms) 0).1 (by omega);rw [Nat.pow_zero] at h5;omega
     ·exact h0
    obtain ⟨P,hP⟩:∃ P,P=jd (val ms) K (val rs) l:=⟨_,rfl⟩
    have y:=qx ao bo l K d g ms rs P w HM.out HR.out F.out B.out t a.2.2 (kq q.out.symm t a.1 a.2.1) a.2.1 hP;have r:P=0∨P=1:=by rw [hP];unfold jd;split <;> simp
    have x:okMod ms K rs↔P=1:=by
     rw [HI.out,← hP];exact ⟨fun h=>h.2.2.2,fun h=>⟨HE.out.symm,q.out.symm,rfl,h⟩⟩
    have v:=aa x;have f:=fun W=>eh 1 W
    have k:=fun W=>dh 1 W
    clear hP x HI a;rcases r with rfl | rfl
    ·go_enter Tryz.func190,Tryz.ntmps190;go_wp2_with fail;refine i.mono ?_;rintro e w1 ⟨⟨_,rfl⟩ | ⟨h,_⟩,rfl⟩
     ·go_wp2_with fail;refine p.mono ?_;rintro e w2 ⟨rfl,rfl⟩;go_wp2_with fail;refine (f _).mono ?_;rintro e w3 ⟨rfl,rfl⟩;go_wp2_with fail;refine y.mono ?_;rintro e w4 ⟨rfl,k4⟩;go_wp2_with fail;refine (k _).mono ?_;rintro e w5 ⟨rfl,rfl⟩;exact ⟨rfl,k4,.inr ⟨fun h=>by have:=v.out.1 h;omega,1,by omega,rfl⟩⟩
     ·exact absurd rfl h
    ·go_enter Tryz.func190,Tryz.ntmps190;go_wp2_with fail;refine i.mono ?_;rintro e w1 ⟨⟨_,rfl⟩ | ⟨h,_⟩,rfl⟩
     ·go_wp2_with fail;refine p.mono ?_;rintro e w2 ⟨rfl,rfl⟩;go_wp2_with fail;refine (f _).mono ?_;rintro e w3 ⟨rfl,rfl⟩;go_wp2_with fail;refine y.mono ?_;rintro e w4 ⟨rfl,k4⟩;go_wp2_with fail;refine (f _).mono ?_;rintro e w5 ⟨rfl,rfl⟩;go_wp2_with fail;go_end0
      exact ⟨k4,.inl ⟨v.out.2 (by first | rfl | trivial),rfl⟩⟩
     ·exact absurd rfl h
   ·subst h2;have C:¬ (l:Int)=(R:Int):=by omega
    have A:Hid ((((l:Nat):Int) != ((R:Nat):Int))=true):=bne_iff_ne.2 C;have o:Hid (¬ okMod ms K rs):=fun h=>h3 (HI.out.1 h).2.2.1
    clear HI;go_enter Tryz.func190,Tryz.ntmps190;go_wp2_with fail;refine i.mono ?_;rintro e w1 ⟨⟨_,rfl⟩ | ⟨h,_⟩,rfl⟩
    ·go_wp2_with fail;refine p.mono ?_;rintro e w2 ⟨rfl,rfl⟩;go_wp2_with fail;rw [A.out];refine j.mono ?_;rintro e w3 ⟨rfl,rfl⟩;exact ⟨rfl,ah _ _,.inr ⟨o.out,1,by omega,rfl⟩⟩
    ·exact absurd rfl h
  ·have G:¬ (R:Int)=(n:Int):=by omega
   have o:Hid (¬ okMod ms K rs):=fun h=>h2 (q.out.trans (HI.out.1 h).2.1)
   clear HI;go_enter Tryz.func190,Tryz.ntmps190;go_wp2_with fail;refine i.mono ?_;rintro e w1 ⟨⟨_,rfl⟩ | ⟨h,_⟩,rfl⟩
   ·go_wp2_with fail;refine p.mono ?_;rintro e w2 ⟨rfl,rfl⟩;go_wp2_with fail;refine j.mono ?_;rintro e w3 ⟨rfl,rfl⟩;exact ⟨rfl,ah _ _,.inr ⟨o.out,1,by omega,rfl⟩⟩
   ·exact absurd rfl h
 ·have o:Hid (¬ okMod ms K rs):=fun h=>h1 (HE.out.trans (HI.out.1 h).1)
  clear HI;go_enter Tryz.func190,Tryz.ntmps190;go_wp2_with fail;refine i.mono ?_;rintro e w1 ⟨⟨h,_⟩ | ⟨h,rfl⟩,rfl⟩
  ·exact absurd h h1
  ·exact ⟨rfl,ah _ _,.inr ⟨o.out,E,h,rfl⟩⟩

theorem iP (ao bo:Option Addr) (n l K a b:Nat) (ms rs:List Nat) (R:Bool) (hR:R=true↔okMod ms K rs) (w:World) (hm:Row .u64 w (.slice ao n a) ms) (hr:Row .u64 w (.slice bo l b) rs) (d:Digs ms) (g:Digs rs) (hK:K<18446744073709551616) (o:n≤1000000) :
  Calls Tryz.prog 146 #[.agg #[.slice ao n a,.int .u64 (K:Nat),.slice bo l b]] w fun e w'=>e=.returned (.bool R)∧Kept ae w w':=by
 have q:=eI;obtain ⟨W,hW⟩:∃ W,W=w.alloc (.cells #[.slice ao n a,.int .u64 (K:Nat),.slice bo l b] 130):=⟨_,rfl⟩
 have k0:Kept ae w W:=by rw [hW];exact (ah ae w).alloc _
 have j:W.heap[w.heap.size]? = some (.cells #[.slice ao n a,.int .u64 (K:Nat),.slice bo l b] 130 (0,0)):=by rw [hW];exact heap_alloc_new _ _
 have he:∀ args w,(callFunc 190 args).run Tryz.prog w=.ok (.enter 190 args) w:=fun _ _=>by simp [go_sem]
 have k1:=k0.alloc (.cells #[.int .i64 0] 33);have xe:=Box.new W (.int .i64 0) 33;have h1:=x9 ao bo n l K a b w.heap.size ms rs _ (hm.grew k1) (hr.grew k1) d g hK o (am j);have i:=jD 190 #[.pointer (some ⟨w.heap.size,0,none⟩)] W (fun c W'=>Kept ae w W'∧(c=0↔okMod ms K rs)) he (h1.mono (by
  rintro e w' ⟨k,(⟨h2,rfl⟩ | ⟨h2,c,hc,rfl⟩)⟩
  ·exact ⟨(k.block _ xe.lt (fun f=>f)).trans xe,.inl ⟨rfl,k1.trans k,⟨fun _=>h2,fun _=>rfl⟩⟩⟩
  ·exact ⟨(k.block _ xe.lt (fun f=>f)).trans xe,.inr ⟨_,rfl,k1.trans k,⟨fun h=>absurd (by omega) hc,fun h=>absurd h h2⟩⟩⟩))
 have HR:=aa hR;have HW:=aa hW;have p:w.heap.size≤W.heap.size:=k0.size;clear h1 hm hr d g hR hW k0 k1 j xe he;go_enter Tryz.func146,Tryz.ntmps146;go_wp2_with (rw [← HW.out]);refine i.mono ?_;rintro e w' ⟨c,w1,rfl,⟨⟨k2,h2⟩,m⟩,rfl⟩;have k3:=k2.next (ar w1 W.heap.size (.int .i64 c)) (fun x hx e=>by omega)
 have HC:Hid (decide (c=0)=R):=by
  unfold Hid;have h3:=HR.out;by_cases h4:c=0
  ·rw [bd h4];exact (h3.2 (h2.1 h4)).symm
  ·rw [aF h4];cases R
   ·rfl
   ·exact absurd (h2.2 (h3.1 rfl)) h4
 clear i h2 k2 m;generalize w1.setCell ⟨W.heap.size,0,none⟩ (.int .i64 c)=w2 at *;go_wp2_with fail;go_ret;rw [← HC.out];exact ⟨rfl,k3⟩

theorem oW (p:Addr) (w:World) :
  CallsD Tryz.prog 167 #[.pointer (some p)] .returning w fun e u' w'=>e=.returned (.tuple #[])∧u'=.returning∧w'=w:=by
 refine callsD_of_wpS Tryz.func167 rfl fun c₀ cs hu=>?_
 apply wpS_seq;apply wpS_region;simp [wpOpsS,go_sem,recoverD,hu,Tryz.ntmps167,Exit.thenS];apply wpS_seq;apply wpS_seq;apply wpS_region;simp [wpOpsS,go_sem,Exit.thenS];refine wpS_cond (t:=true) (by simp [Act.eval,Array.replicate]) ?_;simp only [if_true];refine wpS_of_wp (wp_ret ?_);cases c₀
 simp_all [bodyPostS,results,Tryz.results167,Exit.thenS]

theorem zk (p:Addr) (x n:Int) (a:List PanicEntry) (w:World) (hc:w.cell? p=some (.int .i64 x)) (hz:w.frozen? p=false) :
  CallsD Tryz.prog 167 #[.pointer (some p)] (.panicking (refusal n :: a)) w fun e u' w'=>
   e=.returned (.tuple #[])∧u'=.panicking ({ refusal n with recovered:=true } :: a)∧w'=w.setCell p (.int .i64 n):=by
 refine callsD_of_wpS Tryz.func167 rfl fun c₀ cs hu=>?_
 apply wpS_seq;apply wpS_region;simp [wpOpsS,go_sem,recoverD,hu,Tryz.ntmps167,Exit.thenS];apply wpS_seq;apply wpS_seq;apply wpS_region;simp [wpOpsS,go_sem,Exit.thenS];refine wpS_cond (t:=false) (by simp [Act.eval,Array.replicate]) ?_;simp only [Bool.false_eq_true,if_false];refine wpS_of_wp (wp_skip ?_);simp only [Exit.thenS];refine wpS_of_wp ?_;have c:∀ w:World,(Instr.typeAssert (.iface 33 (.int .i64 n)) 20 33 true).run Tryz.prog w=.ok (.tuple #[.int .i64 n,.bool true]) w:=fun w=>by kernel_rfl
 have b:∀ (x:Bool) (w:World),(Op.unary .not (.bool x)).run Tryz.prog w=.ok (.bool (!x)) w:=fun _ _=>rfl
 have e:(#[Value.pointer (some p)] ++ ((((Array.replicate 15 undef).setIfInBounds 3 (Value.iface 33 (Value.int IntKind.i64 n))).setIfInBounds 0 (Value.iface 33 (Value.int IntKind.i64 n))).setIfInBounds 4 (Value.iface 33 (Value.int IntKind.i64 n))).setIfInBounds 5 (Value.bool false):Array Value)=#[.pointer (some p),.iface 33 (.int .i64 n),undef,undef,.iface 33 (.int .i64 n),.iface 33 (.int .i64 n),.bool false,undef,undef,undef,undef,undef,undef,undef,undef,undef]:=rfl;rw [e];clear e;go_wp2;simp [bodyPostS,results,Tryz.results167]

theorem uw (f:Nat) (cap:Array Value) (w:World) (Q:Int→World→Prop) (he:∀ args w,(callFunc f args).run Tryz.prog w=.ok (.enter f args) w)
  (h:Calls Tryz.prog f cap (w.alloc (.cells #[.int .i64 0] 33)) fun e w'=>w'.heap[w.heap.size]? = some (.cells #[.int .i64 0] 33 (0,0)) ∧
   ((e=.returned (.tuple #[])∧Q 0 w')∨∃ n,e=.panicked [refusal n]∧Q n w')) :
  Calls Tryz.prog 122 #[.func (.func f) #[] cap] w fun e w'=>∃ n w1,e=.returned (.int .i64 n)∧(Q n w1∧w1.heap[w.heap.size]? = some (.cells #[.int .i64 0] 33 (0,0)))∧w'=w1.setCell ⟨w.heap.size,0,none⟩ (.int .i64 n):=by
 have c:=eI;go_enter_defers Tryz.func122,Tryz.ntmps122
 go_wp2_with fail;refine h.mono ?_;rintro e w1 ⟨hb,(⟨rfl,hq⟩ | ⟨n,rfl,hq⟩)⟩
 ·have hc:w1.cell? ⟨w.heap.size,0,none⟩=some (.int .i64 0):=by simp [World.cell?,hb]
  have hz:w1.frozen? ⟨w.heap.size,0,none⟩=false:=by simp [World.frozen?,hb]
  clear h;go_wp2_with fail;refine leaves_cons (f:=167) (args:=#[.pointer (some ⟨w.heap.size,0,none⟩)]) (by simp) (by simp [go_sem]) ?_;refine (oW ⟨w.heap.size,0,none⟩ _).mono ?_;rintro e u' b ⟨rfl,rfl,rfl⟩;have a:(w1.setCell ⟨w.heap.size,0,none⟩ (.int .i64 0)).cell? ⟨w.heap.size,0,none⟩=some (.int .i64 0):=World.cell?_setCell_same' _ _ _ (by rw [hc];rfl);simp [Leaves,settle,results,Tryz.results122,go_sem,a];exact ⟨_,⟨hq,hb⟩,rfl⟩
 ·have hc:w1.cell? ⟨w.heap.size,0,none⟩=some (.int .i64 0):=by simp [World.cell?,hb]
  have hz:w1.frozen? ⟨w.heap.size,0,none⟩=false:=by simp [World.frozen?,hb]
  clear h;refine leaves_cons (f:=167) (args:=#[.pointer (some ⟨w.heap.size,0,none⟩)]) (by simp) (by simp [go_sem]) ?_;refine (zk ⟨w.heap.size,0,none⟩ 0 n [] _ hc hz).mono ?_;rintro e u' b ⟨rfl,rfl,rfl⟩;have a:(w1.setCell ⟨w.heap.size,0,none⟩ (.int .i64 n)).cell? ⟨w.heap.size,0,none⟩=some (.int .i64 n):=World.cell?_setCell_same' _ _ _ (by rw [hc];rfl);simp [Leaves,settle,results,Tryz.results122,go_sem,a];exact ⟨_,⟨hq,hb⟩,rfl⟩

theorem eN (n:Int) (w:World):Calls Tryz.prog 125 #[.bool false,.int .i64 n] w fun e w'=>e=.returned (.tuple #[])∧w'=w:=by
 go_enter Tryz.func125,Tryz.ntmps125;go_wp2;go_end0
 exact ⟨rfl,rfl⟩

theorem eS (n:Int) (w:World):Calls Tryz.prog 125 #[.bool true,.int .i64 n] w fun e w'=>e=.panicked [refusal n]∧w'=w:=by
 go_enter Tryz.func125,Tryz.ntmps125;go_wp2;exact ⟨rfl,rfl,rfl⟩

theorem pS (ao:Option Addr) (n cap:Nat) (w:World):Calls Tryz.prog 171 #[.slice ao n cap,.int .i64 0] w fun e w'=>e=.returned (.slice ao n cap)∧w'=w:=by
 have hR:=eN 0 w;go_enter Tryz.func171,Tryz.ntmps171;go_wp2_with fail;refine hR.mono ?_;rintro e w' ⟨rfl,rfl⟩;go_wp2;go_ret;exact ⟨rfl,rfl⟩

theorem Ao (u v:Value) (xs ys:List Nat) (R:Bool) (hR:R=decide (val xs=val ys)) (w:World) (hu:Row .u64 w u xs) (hv:Row .u64 w v ys) (a:Digs xs) (b:Digs ys) (hL:xs.length≤100000000) (hM:ys.length≤100000000) :
  Calls Tryz.prog 175 #[u,v] w fun e w'=>e=.returned (.bool R)∧Kept ae w w':=by
 have hE:=lZ none u v xs ys w (TrRoom.none w 1 (by omega)) (RowT.none hu) (RowT.none hv) a b hL hM;rw [← hR] at hE;obtain ⟨ao,L,cap,rfl,_⟩:=hu.open;obtain ⟨bo,M,c,rfl,_⟩:=hv.open;clear hu hv a b hL hM hR;cases R with
 | true=>
  go_enter Tryz.func175,Tryz.ntmps175;go_wp2_with fail;refine hE.mono ?_;rintro e w' ⟨rfl,o',d⟩;have k:=d.none.2;clear hE d;go_wp2_with fail;go_ret;exact ⟨rfl,k⟩
 | false=>
  go_enter Tryz.func175,Tryz.ntmps175;go_wp2_with fail;refine hE.mono ?_;rintro e w' ⟨rfl,o',d⟩;have k:=d.none.2;clear hE d;go_wp2_with fail;go_ret;exact ⟨rfl,k⟩

theorem tT (X:Nat):(8320<au X↔130<aj X)∧(au X<3↔X≤3):=by
 have h1:=fZ X;have h2:=aA X 2;constructor
 ·omega
 ·have:(2:Nat)^2=4:=by decide
  omega

theorem kf (ao:Option Addr) (L cap:Nat) (xs:List Nat) (E:Nat) (hE:E=fX (val xs)) (w:World) (h:Row .u64 w (.slice ao L cap) xs) (hd:Digs xs) (hl:L≤1000000) :
  Calls Tryz.prog 124 #[.slice ao L cap] w fun e w'=>((E=0∧e=.returned (.tuple #[]))∨(E≠0∧e=.panicked [refusal (E:Nat)]))∧w'=w:=by
 obtain ⟨_,_,_,e1,l,_,_,_,c⟩:=h.open;cases e1
 have hB:=dy _ xs w h hd (by rw [l.out];omega);obtain ⟨V,hV⟩:∃ V,V=val xs:=⟨_,rfl⟩
 rw [← hV] at hB hE;have HX:=aa (aN (by omega) hd 0);rw [← hV] at HX;have q:Hid (V<18446744073709551616^L):=by have:=aq (by omega) hd;rw [l.out,← hV] at this;exact this
 have o:Hid (xs.getD 0 0<18446744073709551616):=hd.getD (by omega) _;obtain ⟨d,f⟩:=tT V;obtain ⟨b,hb⟩:∃ b,b=au V:=⟨_,rfl⟩
 rw [← hb] at hB d f;unfold fX at hE;clear hV h hd hb;have i:=eN 2 w;have j:=eN 1 w;by_cases h1:130<aj V
 ·have hY:=eS 2 w;rw [if_pos h1] at hE;subst hE;have g1:(b:Int) > 8320:=by have:=d.2 h1;omega
  have k:(8320:Int)<(b:Int):=g1;clear c j i d f h1;go_enter Tryz.func124,Tryz.ntmps124;go_wp2_with fail;refine hB.mono ?_;rintro e w' ⟨rfl,rfl⟩;go_wp2_with fail;refine hY.mono ?_;rintro e w' ⟨rfl,rfl⟩;exact ⟨rfl,.inr ⟨by omega,rfl⟩,rfl⟩
 ·rw [if_neg h1] at hE;have g1:¬ (b:Int) > 8320:=by have:=mt d.1 h1;omega
  have k:¬ (8320:Int)<(b:Int):=g1;have q1:decide ((8320:Int)<(b:Int))=false:=aF k;by_cases h2:V≤3
  ·have hY:=eS 1 w;rw [if_pos (.inl h2)] at hE;subst hE;have g2:(b:Int)<3:=by have:=f.2 h2;omega
   clear c j d f h1;go_enter Tryz.func124,Tryz.ntmps124;go_wp2_with fail;refine hB.mono ?_;rintro e w' ⟨rfl,rfl⟩;go_wp2_with fail;refine i.mono ?_;rintro e w' ⟨rfl,rfl⟩;go_wp2_with fail;refine hY.mono ?_;rintro e w' ⟨rfl,rfl⟩;exact ⟨rfl,.inr ⟨by omega,rfl⟩,rfl⟩
  ·have g2:¬ (b:Int)<3:=by have:=mt f.1 h2;omega
   have n:0<L:=by
    rcases Nat.eq_zero_or_pos L with h0 | h0
    ·have:=q.out;rw [h0,Nat.pow_zero] at this;omega
    ·exact h0
   obtain ⟨b2,m,rfl,r⟩:=c 0 n;have s:=o.out;have p:V%18446744073709551616=xs.getD 0 0:=by
    have:=HX.out;unfold dig at this
    rwa [Nat.pow_zero,Nat.div_one] at this
   have g:(xs.getD 0 0)%2=V%2:=by omega
   have a:=and_one_u64 (xs.getD 0 0:Nat) (by omega) (by omega);generalize xs.getD 0 0=x at *;rw [Nat.add_zero] at r;clear c p HX d f h1;by_cases h3:V%2=0
   ·have hY:=eS 1 w;rw [if_pos (.inr h3)] at hE;subst hE;have hz:bits .and .u64 (x:Int) 1=0:=by rw [a];omega
    clear a g;go_enter Tryz.func124,Tryz.ntmps124;go_wp2_with fail;refine hB.mono ?_;rintro e w' ⟨rfl,rfl⟩;go_wp2_with fail;refine i.mono ?_;rintro e w' ⟨rfl,rfl⟩;go_wp2_with fail;refine hY.mono ?_;rintro e w' ⟨rfl,rfl⟩;exact ⟨rfl,.inr ⟨by omega,rfl⟩,rfl⟩
   ·rw [if_neg (by omega)] at hE;subst hE;have hz:bits .and .u64 (x:Int) 1=1:=by rw [a];omega
    clear a g;go_enter Tryz.func124,Tryz.ntmps124;go_wp2_with fail;refine hB.mono ?_;rintro e w' ⟨rfl,rfl⟩;go_wp2_with fail;refine i.mono ?_;rintro e w' ⟨rfl,rfl⟩;go_wp2_with fail;rw [show decide ((b:Int)<3)=false from aF (by omega)];refine j.mono ?_;rintro e w' ⟨rfl,rfl⟩;go_wp2_with fail;go_end0
    exact ⟨.inl ⟨trivial,rfl⟩,rfl⟩

end Go.Proofs.YtcemlfokmjjiaaaGreatDoor
