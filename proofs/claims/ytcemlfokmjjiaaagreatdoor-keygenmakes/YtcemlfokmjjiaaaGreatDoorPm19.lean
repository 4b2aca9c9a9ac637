/- Put together of: Mon3 Mir1. -/
import Derived.Test.YtcemlfokmjjiaaaGreatDoorPm11
import Derived.Test.YtcemlfokmjjiaaaGreatDoorPm18

namespace Go.Proofs.YtcemlfokmjjiaaaGreatDoor
set_option maxRecDepth 100000
set_option maxHeartbeats 4000000
open Go.RowKit

theorem pB (p:Addr) (w:World) :
  CallsD Tryz.prog 179 #[.pointer (some p)] .returning w fun e u' w'=>e=.returned (.tuple #[])∧u'=.returning∧w'=w:=by
 refine callsD_of_wpS Tryz.func179 rfl fun c₀ cs hu=>?_
 apply wpS_seq;apply wpS_region;simp [wpOpsS,go_sem,recoverD,hu,Tryz.ntmps179,Exit.thenS];apply wpS_seq;apply wpS_seq;apply wpS_region;simp [wpOpsS,go_sem,Exit.thenS];refine wpS_cond (t:=true) (by simp [Act.eval,Array.replicate]) ?_;simp only [if_true];refine wpS_of_wp (wp_ret ?_);cases c₀
 simp_all [bodyPostS,results,Tryz.results179,Exit.thenS]

theorem Au (p:Addr) (x n:Int) (a:List PanicEntry) (w:World) (hc:w.cell? p=some (.int .i64 x)) (hz:w.frozen? p=false) :
  CallsD Tryz.prog 179 #[.pointer (some p)] (.panicking (refusal n :: a)) w fun e u' w'=>
   e=.returned (.tuple #[])∧u'=.panicking ({ refusal n with recovered:=true } :: a)∧w'=w.setCell p (.int .i64 n):=by
 refine callsD_of_wpS Tryz.func179 rfl fun c₀ cs hu=>?_
 apply wpS_seq;apply wpS_region;simp [wpOpsS,go_sem,recoverD,hu,Tryz.ntmps179,Exit.thenS];apply wpS_seq;apply wpS_seq;apply wpS_region;simp [wpOpsS,go_sem,Exit.thenS];refine wpS_cond (t:=false) (by simp [Act.eval,Array.replicate]) ?_;simp only [Bool.false_eq_true,if_false];refine wpS_of_wp (wp_skip ?_);simp only [Exit.thenS];refine wpS_of_wp ?_;have c:∀ w:World,(Instr.typeAssert (.iface 33 (.int .i64 n)) 20 33 true).run Tryz.prog w=.ok (.tuple #[.int .i64 n,.bool true]) w:=fun w=>by kernel_rfl
 have b:∀ (x:Bool) (w:World),(Op.unary .not (.bool x)).run Tryz.prog w=.ok (.bool (!x)) w:=fun _ _=>rfl
 have e:(#[Value.pointer (some p)] ++ ((((Array.replicate 15 undef).setIfInBounds 3 (Value.iface 33 (Value.int IntKind.i64 n))).setIfInBounds 0 (Value.iface 33 (Value.int IntKind.i64 n))).setIfInBounds 4 (Value.iface 33 (Value.int IntKind.i64 n))).setIfInBounds 5 (Value.bool false):Array Value)=#[.pointer (some p),.iface 33 (.int .i64 n),undef,undef,.iface 33 (.int .i64 n),.iface 33 (.int .i64 n),.bool false,undef,undef,undef,undef,undef,undef,undef,undef,undef]:=rfl;rw [e];clear e;go_wp2;simp [bodyPostS,results,Tryz.results179]

theorem kr (f:Nat) (cap:Array Value) (w:World) (Q:Int→World→Prop) (he:∀ args w,(callFunc f args).run Tryz.prog w=.ok (.enter f args) w)
  (h:Calls Tryz.prog f cap (w.alloc (.cells #[.int .i64 0] 33)) fun e w'=>w'.heap[w.heap.size]? = some (.cells #[.int .i64 0] 33 (0,0)) ∧
   ((e=.returned (.tuple #[])∧Q 0 w')∨∃ n,e=.panicked [refusal n]∧Q n w')) :
  Calls Tryz.prog 137 #[.func (.func f) #[] cap] w fun e w'=>∃ n w1,e=.returned (.int .i64 n)∧(Q n w1∧w1.heap[w.heap.size]? = some (.cells #[.int .i64 0] 33 (0,0)))∧w'=w1.setCell ⟨w.heap.size,0,none⟩ (.int .i64 n):=by
 have c:=fd;go_enter_defers Tryz.func137,Tryz.ntmps137
 go_wp2_with fail;refine h.mono ?_;rintro e w1 ⟨hb,(⟨rfl,hq⟩ | ⟨n,rfl,hq⟩)⟩
 ·have hc:w1.cell? ⟨w.heap.size,0,none⟩=some (.int .i64 0):=by simp [World.cell?,hb]
  have hz:w1.frozen? ⟨w.heap.size,0,none⟩=false:=by simp [World.frozen?,hb]
  clear h;go_wp2_with fail;refine leaves_cons (f:=179) (args:=#[.pointer (some ⟨w.heap.size,0,none⟩)]) (by simp) (by simp [go_sem]) ?_;refine (pB ⟨w.heap.size,0,none⟩ _).mono ?_;rintro e u' b ⟨rfl,rfl,rfl⟩;have a:(w1.setCell ⟨w.heap.size,0,none⟩ (.int .i64 0)).cell? ⟨w.heap.size,0,none⟩=some (.int .i64 0):=World.cell?_setCell_same' _ _ _ (by rw [hc];rfl);simp [Leaves,settle,results,Tryz.results137,go_sem,a];exact ⟨_,⟨hq,hb⟩,rfl⟩
 ·have hc:w1.cell? ⟨w.heap.size,0,none⟩=some (.int .i64 0):=by simp [World.cell?,hb]
  have hz:w1.frozen? ⟨w.heap.size,0,none⟩=false:=by simp [World.frozen?,hb]
  clear h;refine leaves_cons (f:=179) (args:=#[.pointer (some ⟨w.heap.size,0,none⟩)]) (by simp) (by simp [go_sem]) ?_;refine (Au ⟨w.heap.size,0,none⟩ 0 n [] _ hc hz).mono ?_;rintro e u' b ⟨rfl,rfl,rfl⟩;have a:(w1.setCell ⟨w.heap.size,0,none⟩ (.int .i64 n)).cell? ⟨w.heap.size,0,none⟩=some (.int .i64 n):=World.cell?_setCell_same' _ _ _ (by rw [hc];rfl);simp [Leaves,settle,results,Tryz.results137,go_sem,a];exact ⟨_,⟨hq,hb⟩,rfl⟩

theorem eC (n:Int) (w:World):Calls Tryz.prog 180 #[.bool false,.int .i64 n] w fun e w'=>e=.returned (.tuple #[])∧w'=w:=by
 go_enter Tryz.func180,Tryz.ntmps180;go_wp2;go_end0
 exact ⟨rfl,rfl⟩

theorem dG (n:Int) (w:World):Calls Tryz.prog 180 #[.bool true,.int .i64 n] w fun e w'=>e=.panicked [refusal n]∧w'=w:=by
 go_enter Tryz.func180,Tryz.ntmps180;go_wp2;exact ⟨rfl,rfl,rfl⟩

theorem gV (V:Nat):(aw V+63)/64=ak V:=by
 unfold aw ak;by_cases h:V=0
 ·rw [if_pos h,if_pos h]
 ·rw [if_neg h,if_neg h];omega

theorem sR (v:Value) (xs:List Nat) (R:Nat) (hR:R=ak (val xs)) (w:World) (h:Row .u64 w v xs) (hd:Digs xs) (hl:xs.length≤100000000) :
  Calls Tryz.prog 139 #[v] w fun e w'=>e=.returned (.int .i64 (R:Nat))∧w'=w:=by
 have hB:=dY v xs w h hd hl;have hn:=gV (val xs);rw [← hR] at hn;have hb:aw (val xs)≤100000000*64:=by
  have h1:=(ap (val xs) xs.length).2 (ar (by omega) hd);rw [← hR] at h1;omega
 obtain ⟨b,a⟩:∃ b,b=aw (val xs):=⟨_,rfl⟩
 rw [← a] at hB hn hb;have HN:=aa hn;clear hR h hd hl a hn;go_enter Tryz.func139,Tryz.ntmps139;go_wp2_with fail;refine hB.mono ?_;rintro e w' ⟨rfl,rfl⟩;go_wp2_with fail;go_ret;refine ⟨?_,rfl⟩;have hn:=HN.out;show Ending.returned (Value.int .i64 (((b:Int)+64-1)/64))=_
 rw [show ((b:Int)+64-1)/64=(R:Int) by omega]

def rfn (L V:Nat):Nat:=if 130<L then 2 else if V<2 then 1 else if V%2=0 then 60 else 0

theorem iw (ao:Option Addr) (L cap:Nat) (xs:List Nat) (w:World) (h:Row .u64 w (.slice ao L cap) xs) (hd:Digs xs) (hl:L≤100000000) :
  Calls Tryz.prog 140 #[.slice ao L cap] w fun e w'=>((rfn L (val xs)=0∧e=.returned (.tuple #[]))∨(rfn L (val xs)≠0∧e=.panicked [refusal (rfn L (val xs):Nat)]))∧w'=w:=by
 obtain ⟨_,_,_,e1,l,_,_,_,c⟩:=h.open;cases e1
 have hB:=dY _ xs w h hd (by rw [l.out];exact hl);obtain ⟨V,hV⟩:∃ V,V=val xs:=⟨_,rfl⟩
 rw [← hV] at hB ⊢;have HX:=aa (aR (by omega) hd 0);rw [← hV] at HX;have r:Hid (V<18446744073709551616^L):=by have:=ar (by omega) hd;rw [l.out,← hV] at this;exact this
 have q:Hid (xs.getD 0 0<18446744073709551616):=hd.getD (by omega) _;have g:aw V<2↔V<2:=by
  unfold aw;by_cases h0:V=0
  ·simp [h0]
  ·rw [if_neg h0];have:=Nat.log2_lt (n:=V) (k:=1) h0;omega
 obtain ⟨b,hb⟩:∃ b,b=aw V:=⟨_,rfl⟩
 rw [← hb] at hB g;clear hV h hd hb;unfold rfn;have f:=eC 2 w;have i:=eC 1 w;have j:=eC 60 w;by_cases h1:130<L
 ·have hY:=dG 2 w;rw [if_pos h1];have g1:(L:Int) > 130:=by omega
  clear c hB i f j;go_enter Tryz.func140,Tryz.ntmps140;go_wp2_with fail;refine hY.mono ?_;rintro e w' ⟨rfl,rfl⟩;exact ⟨rfl,.inr ⟨by omega,rfl⟩,rfl⟩
 ·rw [if_neg h1];have g1:¬ (L:Int) > 130:=by omega
  by_cases h2:V<2
  ·have hY:=dG 1 w;rw [if_pos h2];have g2:(b:Int)<2:=by have:=g.2 h2;omega
   clear c i j;go_enter Tryz.func140,Tryz.ntmps140;go_wp2_with fail;refine f.mono ?_;rintro e w' ⟨rfl,rfl⟩;go_wp2_with fail;refine hB.mono ?_;rintro e w' ⟨rfl,rfl⟩;go_wp2_with fail;refine hY.mono ?_;rintro e w' ⟨rfl,rfl⟩;exact ⟨rfl,.inr ⟨by omega,rfl⟩,rfl⟩
  ·rw [if_neg h2];have g2:¬ (b:Int)<2:=by have:=mt g.1 h2;omega
   have p:0<L:=by
    rcases Nat.eq_zero_or_pos L with h0 | h0
    ·have:=r.out;rw [h0,Nat.pow_zero] at this;omega
    ·exact h0
   obtain ⟨b2,o,rfl,m⟩:=c 0 p;have t:=q.out;have s:V%18446744073709551616=xs.getD 0 0:=by
    have:=HX.out;unfold dig at this
    rwa [Nat.pow_zero,Nat.div_one] at this
   have d:(xs.getD 0 0)%2=V%2:=by omega
   have a:=and_one_u64 (xs.getD 0 0:Nat) (by omega) (by omega);generalize xs.getD 0 0=x at *;rw [Nat.add_zero] at m;clear c s HX g;by_cases h3:V%2=0
   ·have hY:=dG 60 w;rw [if_pos h3];have hz:bits .and .u64 (x:Int) 1=0:=by rw [a];omega
    clear a d;go_enter Tryz.func140,Tryz.ntmps140;go_wp2_with fail;refine f.mono ?_;rintro e w' ⟨rfl,rfl⟩;go_wp2_with fail;refine hB.mono ?_;rintro e w' ⟨rfl,rfl⟩;go_wp2_with fail;rw [show decide ((b:Int)<2)=false from aD (by omega)];refine i.mono ?_;rintro e w' ⟨rfl,rfl⟩;go_wp2_with fail;refine hY.mono ?_;rintro e w' ⟨rfl,rfl⟩;exact ⟨rfl,.inr ⟨by omega,rfl⟩,rfl⟩
   ·rw [if_neg h3];have hz:bits .and .u64 (x:Int) 1=1:=by rw [a];omega
    clear a d;go_enter Tryz.func140,Tryz.ntmps140;go_wp2_with fail;refine f.mono ?_;rintro e w' ⟨rfl,rfl⟩;go_wp2_with fail;refine hB.mono ?_;rintro e w' ⟨rfl,rfl⟩;go_wp2_with fail;rw [show decide ((b:Int)<2)=false from aD (by omega)];refine i.mono ?_;rintro e w' ⟨rfl,rfl⟩;go_wp2_with fail;refine j.mono ?_;rintro e w' ⟨rfl,rfl⟩;go_wp2_with fail;go_end0
    exact ⟨.inl ⟨trivial,rfl⟩,rfl⟩

theorem rI (N:Nat):(List.replicate (N+1) 0).set N 1=List.replicate N 0 ++ [1]:=by
 rw [List.replicate_succ',List.set_append_right _ _ (by simp)];simp

theorem tx (N:Nat):val (List.replicate N 0 ++ [1])=18446744073709551616^N:=by
 rw [aS,cY _ (fun d hd=>(List.mem_replicate.1 hd).2),List.length_replicate];omega

theorem sk (N:Nat):Digs (List.replicate N 0 ++ [1]):=fun d hd=>by
 rw [List.mem_append,List.mem_replicate,List.mem_singleton] at hd;omega

def jB (V K R n:Nat):Nat:=if (V*K+1)%18446744073709551616=0∧R=18446744073709551616^(2*n)%V then 1 else 0

theorem nV (a b:Bool):bits .and .u64 ((bC a:Nat):Int) ((bC b:Nat):Int)=((bC (a && b):Nat):Int):=by
 cases a <;> cases b <;> decide

theorem uY (x:Nat):zer (x:Int)=((bC (decide (x=0)):Nat):Int):=by
 unfold zer bC;by_cases h:x=0
 ·rw [if_pos (by omega),aQ h,if_pos rfl];rfl
 ·rw [if_neg (by omega),aD h,if_neg (by decide)];rfl

theorem sj {V K R n Q A c:Nat} (hn:0<n) (hV:V<18446744073709551616^n) (e:18446744073709551616^(n-1)<V) (b:V%2=1) (hv:A+18446744073709551616^(n+(n+1))*c=R+V*Q) (hQ:Q<18446744073709551616^(n+1)) (a:(V*K+1)%18446744073709551616=0→0<n→A%18446744073709551616^(n+1)=0) :
  bC (decide ((V*K+1)%18446744073709551616=0) && decide (R<V) && decide (A=18446744073709551616^(2*n)))=jB V K R n:=by
 unfold jB bC;have d:0<V:=by omega
 by_cases h1:(V*K+1)%18446744073709551616=0
 ·by_cases h2:R<V
  ·have i:Nat.Coprime V (18446744073709551616^(n+1)):=by rw [B64];exact et b
   obtain ⟨n',rfl⟩:∃ n',n=n'+1:=⟨n-1,by omega⟩
   have hW:18446744073709551616^(2*(n'+1))%18446744073709551616^(n'+1+1)=0:=by
    rw [show 2*(n'+1)=(n'+1+1)+n' by omega,Nat.pow_add];exact Nat.mul_mod_right _ _
   have g:18446744073709551616^(2*(n'+1))/V<18446744073709551616^(n'+1+1):=by
    rw [Nat.div_lt_iff_lt_mul d];rw [Nat.add_sub_cancel] at e;have h3:18446744073709551616^(n'+1+1)*18446744073709551616^n'<18446744073709551616^(n'+1+1)*V:=Nat.mul_lt_mul_of_pos_left e (Nat.pow_pos (by omega));rw [← Nat.pow_add,show n'+1+1+n'=2*(n'+1) by omega] at h3;exact h3
   have hE:V*18446744073709551616^(n'+1+1)≤18446744073709551616^(n'+1+(n'+1+1)):=by
    rw [Nat.pow_add _ (n'+1) (n'+1+1)];exact Nat.mul_le_mul_right _ (Nat.le_of_lt hV)
   have f:=vO h2 hQ hE hv (a h1 hn) i hW g;by_cases h3:A=18446744073709551616^(2*(n'+1))
   ·rw [aQ h1,aQ h2,aQ h3,if_pos (by decide),if_pos ⟨h1,f.1 h3⟩]
   ·rw [aQ h1,aQ h2,aD h3,if_neg (by decide),if_neg (fun h=>h3 (f.2 h.2))]
  ·rw [aQ h1,aD h2,if_neg (by simp),if_neg];rintro ⟨_,h3⟩;apply h2;rw [h3];exact Nat.mod_lt _ d
 ·rw [aD h1,if_neg (by simp),if_neg (fun h=>h1 h.1)]

theorem su (ao bo:Option Addr) (n K g a:Nat) (ms rs:List Nat) (P:Nat) (w:World) (hm:Row .u64 w (.slice ao n g) ms) (hr:Row .u64 w (.slice bo n a) rs) (B:Digs ms) (v:Digs rs) (hn:0<n) (aS:n≤130)
  (au:18446744073709551616^(n-1)<val ms) (q:val ms%2=1) (hP:P=jB (val ms) K (val rs) n) :
  Calls Tryz.prog 191 #[.agg #[.slice ao n g,.int .u64 (K:Nat),.slice bo n a]] w fun e w'=>e=.returned (.int .u64 (P:Nat))∧Kept af w w':=by
 obtain ⟨i0,aH,aw,aC,aN⟩:=info_parts Tryz.info23;obtain ⟨_,_,_,e1,X,_,_,_,s⟩:=hm.open;cases e1
 obtain ⟨_,_,_,e1,O,_,_,_,_⟩:=hr.open;cases e1
 obtain ⟨bm,off,rfl,D⟩:=s 0 hn;rw [Nat.add_zero] at D;have hV:val ms<18446744073709551616^n:=by rw [← X.out];exact ar (by omega) B
 have an:val rs<18446744073709551616^n:=by rw [← O.out];exact ar (by omega) v
 obtain ⟨W0,C⟩:∃ W0,W0=w.alloc (.cells #[.slice (some ⟨bm,off,none⟩) n g,.int .u64 (K:Nat),.slice bo n a] 130):=⟨_,rfl⟩
 have k0:Kept af w W0:=by rw [C];exact (ah af w).alloc _
 have l:W0.heap[w.heap.size]? = some (.cells #[.slice (some ⟨bm,off,none⟩) n g,.int .u64 (K:Nat),.slice bo n a] 130 (0,0)):=by rw [C];exact heap_alloc_new _ _
 obtain ⟨N,hN⟩:∃ N,N=2*n+1:=⟨_,rfl⟩
 have hF:=rf (.slice bo n a) rs N W0 (hr.grew k0) v (by omega);have hA:=fun W (k:Kept af W0 W) (ho:OwnN .u64 23 W W0.heap.size (.slice (some ⟨W0.heap.size,0,none⟩) N N) N (ai (val rs) N))=>nM W0 none none [] W0.heap.size W0.heap.size N N n (n+1) K g n a _ bo _ ms W (Did.of_kept k trivial) (TrRoom.none _ _ (by simp;omega)) (leR _) ho (ag _ _ _) (aj (by omega) _ _) (by omega) (by omega) (RowT.none (hm.grew k0)) B w.heap.size _ _ ((k.block _ (lt_of_block l) (fun f=>f)).trans l) (by decide) (by decide) (by have:=lt_of_block l;omega)
 rw [al,am (Nat.lt_of_lt_of_le an (Nat.pow_le_pow_right (by omega) (by omega)))] at hA;have HF:=aa hF;have HA:=aa hA;have HM:=aa (hm.grew k0);have HR:=aa (hr.grew k0);have HX:=aa l;have aA:=aa k0;have E:=aa B;have aB:=aa v;have aK:=aa C;have r:=k0.cellN D;obtain ⟨p0,p1,p2⟩:=ay l;have gN:(2:Int)*(n:Int)+1=(N:Int):=by omega
 have aI:((n+1:Nat):Int)=(n:Int)+1:=by omega
 have HN:=aa hN;have aQ:N≤300:=by omega
 have ac:=aa hV;clear C l k0 hm hr hA hF s D B v hN hV an;go_enter Tryz.func191,Tryz.ntmps191;go_wp2_with (rw [← aK.out]);refine HF.out.mono ?_;rintro e w1 ⟨rfl,ab,k1⟩;have G:=HA.out w1 k1 ab;rw [aI,show aG none=.pointer none from rfl] at G;have q0:=k1.cellN p0;have q1:=k1.cellN p1;have q2:=k1.cellN p2;clear HF HA p0 p1 p2 ab;go_wp2_with fail;refine G.mono ?_;rintro e w2 ⟨c,rfl,⟨hc,m,Q,o1,S,ad,M,Z,aq,j,D2⟩,t⟩;have k2:=D2.none.2;have HE:=aa Z;have HQ:=aa aq;have p:=aa j;have aF:=aa S;have L:=aa ad;have av:=aa M;have aO:2*n<N:=by have:=HN.out;omega
 clear G q0 q1 q2 Z aq j S D2 t ad M k1;have ax:=aa k2;clear k2;go_wp2_with (at_make;refine wpList_make_full _ rfl _ _ 32 rfl w2.heap.size 23 i0 _ 1 Tryz.underlying32 aH aw aC _ _ _ _ N rfl rfl (by first | exact gN | rfl) (by first | exact gN | rfl) (by rw [aN];omega) (by unfold maxLen;omega) (leR _) ?_;intro w3 o Y;rw [aJ] at o;have k3:=aE Y;have T:=World.ownsRow.cellAt o (2*n) (by omega);have az:=World.ownsRow.frozenAt o (2*n);rw [List.getElem?_map,List.getElem?_replicate,if_pos aO] at T;clear Y)
 have ak:OwnN .u64 23 (w3.setCell ⟨w2.heap.size,2*n,none⟩ (.int .u64 1)) w2.heap.size (.slice (some ⟨w2.heap.size,0,none⟩) N N) N (List.replicate (2*n) 0 ++ [1]):=by
  have:=(World.ownsRow.stored o (2*n) (.int .u64 1)).1;unfold OwnN;rw [← rI,List.map_set,← HN.out];exact this
 have k4:Kept af w2 (w3.setCell ⟨w2.heap.size,2*n,none⟩ (.int .u64 1)):=cZ k3 ((ah (fun b=>b=w2.heap.size) w3).setCell ⟨w2.heap.size,2*n,none⟩ (fun _=>rfl) _) (leR _);generalize w3.setCell ⟨w2.heap.size,2*n,none⟩ (.int .u64 1)=w4 at *;have K4:=ax.out.trans k4;have J:=(K4.block _ (lt_of_block HX.out) (fun f=>f)).trans HX.out;obtain ⟨r0,r1,r2⟩:=ay J;have r3:=K4.cellN r;have i:Row .u64 w4 (.slice (some ⟨w2.heap.size,0,none⟩) N N) (List.replicate (2*n) 0 ++ [1]):=bf ak (by rw [List.length_append,List.length_replicate,HN.out];rfl);have ap:Row .u64 w4 (.slice (some ⟨W0.heap.size,0,none⟩) N N) m:=bf (k4.own aF.out (fun _ _ f=>f)) L.out
 have hx:ms.getD 0 0<18446744073709551616:=E.out.getD (by omega) _;have ae:val ms%18446744073709551616=ms.getD 0 0:=by
  have:=aR (by omega) E.out 0;unfold dig at this
  rwa [Nat.pow_zero,Nat.div_one] at this
 have aD:ms.length≤100000000:=by rw [X.out];omega
 have aL:rs.length≤100000000:=by rw [O.out];omega
 have aM:m.length≤100000000:=by rw [L.out];omega
 have hL:=fun W (k:Kept af w4 W)=>oJ none _ _ rs ms W (TrRoom.none _ _ (by omega)) (RowT.none (HR.out.grew (K4.trans k))) (RowT.none (HM.out.grew (K4.trans k))) aB.out E.out aL aD
 have hE:=fun W (k:Kept af w4 W)=>mH none _ _ m _ W (TrRoom.none _ _ (by omega)) (RowT.none (ap.grew k)) (RowT.none (i.grew k)) av.out (sk (2*n)) aM (by simp;omega)
 rw [tx] at hE;have h:=sj (V:=val ms) (K:=K) (R:=val rs) (n:=n) (Q:=Q) (A:=val m) (c:=c) hn ac.out au q (by rw [show n+(n+1)=N by have:=HN.out;omega];exact HE.out) HQ.out p.out;rw [← hP] at h;obtain ⟨y,hy⟩:∃ y,y=K*ms.getD 0 0%18446744073709551616:=⟨_,rfl⟩
 obtain ⟨z,hz⟩:∃ z,z=(y+1)%18446744073709551616:=⟨_,rfl⟩
 have U:decide (z=0)=decide ((val ms*K+1)%18446744073709551616=0):=by
  have:z=(val ms*K+1)%18446744073709551616:=by
   rw [hz,hy,← ae,Nat.add_mod,Nat.mod_mod,← Nat.add_mod,Nat.mul_comm (val ms),Nat.add_mod,Nat.mul_mod,Nat.mod_mod,← Nat.mul_mod,← Nat.add_mod]
  rw [this]
 rw [← U] at h;have gy:IntKind.u64.wrap ((K:Int)*((ms.getD 0 0:Nat):Int))=(y:Int):=by rw [IntKind.wrap_u64,hy];omega
 have gz:IntKind.u64.wrap ((y:Int)+1)=(z:Int):=by rw [IntKind.wrap_u64,hz];omega
 have aP:z<18446744073709551616:=by rw [hz];exact Nat.mod_lt _ (by omega)
 obtain ⟨b0,F⟩:∃ b,b=bC (decide (z=0)):=⟨_,rfl⟩
 obtain ⟨b1,H⟩:∃ b,b=bC (decide (val rs<val ms)):=⟨_,rfl⟩
 obtain ⟨b2,t⟩:∃ b,b=bC (decide (val m=18446744073709551616^(2*n))):=⟨_,rfl⟩
 obtain ⟨b3,I⟩:∃ b,b=bC (decide (z=0) && decide (val rs<val ms)):=⟨_,rfl⟩
 have g1:bits .and .u64 (b0:Int) (b1:Int)=(b3:Int):=by rw [F,H,I];exact nV _ _
 have g2:bits .and .u64 (b3:Int) (b2:Int)=(P:Int):=by rw [I,t,← h];exact nV _ _
 have hZ:Hid (∀ W,Calls Tryz.prog 229 #[.int .u64 (z:Int)] W fun e w'=>e=.returned (.int .u64 (b0:Int))∧w'=W):=fun W=>by
  have:=zi (z:Int) (by omega) (by omega) W;rw [uY,← F] at this;exact this
 have JL:Hid (∀ W,Kept af w4 W→Calls Tryz.prog 144 #[.pointer none,.slice bo n a,.slice (some ⟨bm,off,none⟩) n g] W fun e w'=>e=.returned (.int .u64 (b1:Int))∧Kept af w4 w'):=fun W k=>by
  refine (hL W k).mono ?_;rintro e w' ⟨rfl,o',d⟩;exact ⟨by rw [H],k.trans d.none.2⟩
 have JE:Hid (∀ W,Kept af w4 W→Calls Tryz.prog 188 #[.pointer none,.slice (some ⟨W0.heap.size,0,none⟩) N N,.slice (some ⟨w2.heap.size,0,none⟩) N N] W fun e w'=>e=.returned (.int .u64 (b2:Int))∧Kept af w4 w'):=fun W k=>by
  refine (hE W k).mono ?_;rintro e w' ⟨rfl,o',d⟩;exact ⟨by rw [t],k.trans d.none.2⟩
 have KF:=aa (aA.out.trans K4);clear hL hE h U ae F H t I hy hz i ap J ak k4 o T az k3 K4 r hP au q HE p HQ ac;generalize ms.getD 0 0=x at *;go_region_held3 (fun w'=>w'.cell? ⟨w.heap.size,0,none⟩=some (.slice (some ⟨bm,off,none⟩) n g)∧w'.cell? ⟨w.heap.size,1,none⟩=some (.int .u64 (K:Int))∧w'.cell? ⟨w.heap.size,2,none⟩=some (.slice bo n a)∧w'.cell? ⟨bm,off,none⟩=some (.int .u64 (x:Int)))
  (((try dsimp only);(repeat' apply And.intro) <;> first | (go_keep;done) | assumption))
  (first
  | (go_at_call 229;refine (hZ.out _).mono ?_;rintro e w5 ⟨rfl,rfl⟩)
  | (go_at_call 144;refine (JL.out _ ?_).mono ?_;(exact (ah _ _).drew);rintro e w6 ⟨rfl,k6⟩;have s0:=k6.cellN r0;have s1:=k6.cellN r1;have s2:=k6.cellN r2;have s3:=k6.cellN r3)
  | (go_at_call 188;refine (JE.out _ ?_).mono ?_;(exact k6);rintro e w7 ⟨rfl,k7⟩;have t0:=k7.cellN r0;have t1:=k7.cellN r1;have t2:=k7.cellN r2;have t3:=k7.cellN r3))
 all_goals
  go_wp2_with fail;go_ret;exact ⟨rfl,KF.out.trans k7⟩

theorem jI {ms rs:List Nat} {K n l:Nat} (hn:ms.length=n) (hl:rs.length=l) (b:Digs ms) (d:Digs rs) (hK:K<18446744073709551616) :
  okMod ms K rs↔(rfn n (val ms)=0∧ak (val ms)=n∧l=n∧jB (val ms) K (val rs) n=1):=by
 have a:val ms<18446744073709551616^n:=by rw [← hn];exact ar (by omega) b
 have c:18446744073709551616^(2*n)=2^(128*n):=by rw [B64];congr 1;omega
 obtain ⟨V,hV⟩:∃ V,V=val ms:=⟨_,rfl⟩
 unfold okMod rfn jB;rw [← hV] at a ⊢;constructor
 ·rintro ⟨h1,h2,h3,h4⟩;obtain ⟨m1,m2,m3⟩:=eO h1;unfold e8 at h2;unfold eX at h4;rw [if_pos h1] at h2 h4;have hw:ak V=n:=by rw [← hn,← h2,ag]
  rw [hw] at h4 m1;refine ⟨?_,hw,by rw [← hl,← h4,ag],?_⟩
  ·rw [if_neg (by omega),if_neg (by omega),if_neg (by omega)]
  ·rw [if_pos];refine ⟨h3.2.1 h1,?_⟩;rw [← h4,al,c,am (Nat.lt_trans (Nat.mod_lt _ (by omega)) a)]
 ·rintro ⟨h1,h2,h3,h4⟩;have g1:¬ 130<n:=fun h=>by rw [if_pos h] at h1;omega
  rw [if_neg g1] at h1;have g2:¬ V<2:=fun h=>by rw [if_pos h] at h1;omega
  rw [if_neg g2] at h1;have g3:¬ V%2=0:=fun h=>by rw [if_pos h] at h1;omega
  have hE:dU V=0:=by
   unfold dU;rw [h2,if_neg g1,if_neg g2,if_neg g3]
  by_cases h5:(V*K+1)%18446744073709551616=0∧val rs=18446744073709551616^(2*n)%V
  ·refine ⟨hE,?_,⟨hK,fun _=>h5.1,fun h=>absurd hE h⟩,?_⟩
   ·unfold e8;rw [if_pos hE,h2];exact (bd (by omega) b hn (by rw [← hV,am a])).symm
   ·unfold eX;rw [if_pos hE,h2,← c];exact (bd (by omega) d (hl.trans h3) (by rw [h5.2,am (Nat.lt_trans (Nat.mod_lt _ (by omega)) a)])).symm
  ·rw [if_neg h5] at h4;omega

theorem lL {V n:Nat} (h:ak V=n) (hn:0<n) (h2:2≤V) (ho:V%2=1):18446744073709551616^(n-1)<V:=by
 have h1:¬ ak V≤n-1:=by omega
 rw [ap] at h1;rcases Nat.lt_or_ge (18446744073709551616^(n-1)) V with h3 | h3
 ·exact h3
 ·exfalso
  have e:V=18446744073709551616^(n-1):=by omega
  rcases Nat.eq_zero_or_pos (n-1) with h4 | h4
  ·rw [h4,Nat.pow_zero] at e;omega
  ·obtain ⟨k,hk⟩:∃ k,n-1=k+1:=⟨n-1-1,by omega⟩
   rw [hk,Nat.pow_succ] at e;omega

theorem yz (ao bo:Option Addr) (n l K d f b:Nat) (ms rs:List Nat) (w:World) (hm:Row .u64 w (.slice ao n d) ms) (hr:Row .u64 w (.slice bo l f) rs) (j:Digs ms) (r:Digs rs) (hK:K<18446744073709551616) (H:n≤1000000)
  (hb:w.heap[b]? = some (.cells #[.slice ao n d,.int .u64 (K:Nat),.slice bo l f] 130 (0,0))) :
  Calls Tryz.prog 190 #[.pointer (some ⟨b,0,none⟩)] w fun e w'=>Kept af w w'∧((okMod ms K rs∧e=.returned (.tuple #[]))∨(¬ okMod ms K rs∧∃ c:Nat,c≠0∧e=.panicked [refusal (c:Nat)])):=by
 obtain ⟨_,_,_,e1,y,_,_,_,_⟩:=hm.open;cases e1
 obtain ⟨_,_,_,e1,C,_,_,_,_⟩:=hr.open;cases e1
 have HI:=aa (jI (K:=K) y.out C.out j r hK);have i:=iw ao n d ms w hm j (by omega);obtain ⟨R,hR⟩:∃ R,R=ak (val ms):=⟨_,rfl⟩
 have q:=sR (.slice ao n d) ms R hR w hm j (by rw [y.out];omega);obtain ⟨E,hE⟩:∃ E,E=rfn n (val ms):=⟨_,rfl⟩
 rw [← hE] at i;have I:=eC 1 w;have o:=dG 1 w;obtain ⟨p0,p1,p2⟩:=ay hb;have HM:=aa hm;have HR:=aa hr;have B:=aa j;have F:=aa r;have p:=aa hR;have HE:=aa hE;clear hb hm hr j r hR hE;by_cases h1:E=0
 ·subst h1;by_cases h2:R=n
  ·by_cases h3:l=n
   ·subst h2 h3;have a:2≤val ms∧val ms%2=1∧l≤130:=by
     have:=HE.out;unfold rfn at this;by_cases g1:130<l
     ·rw [if_pos g1] at this;omega
     ·rw [if_neg g1] at this;by_cases g2:val ms<2
      ·rw [if_pos g2] at this;omega
      ·rw [if_neg g2] at this;by_cases g3:val ms%2=0
       ·rw [if_pos g3] at this;omega
       ·omega
    have t:0<l:=by
     rcases Nat.eq_zero_or_pos l with h0 | h0
     ·have hw:=p.out;have h5:=(ap (val ms) 0).1 (by omega);rw [Nat.pow_zero] at h5;omega
     ·exact h0
    obtain ⟨P,hP⟩:∃ P,P=jB (val ms) K (val rs) l:=⟨_,rfl⟩
    have x:=su ao bo l K d f ms rs P w HM.out HR.out B.out F.out t a.2.2 (lL p.out.symm t a.1 a.2.1) a.2.1 hP;have s:P=0∨P=1:=by rw [hP];unfold jB;split <;> simp
    have z:okMod ms K rs↔P=1:=by
     rw [HI.out,← hP];exact ⟨fun h=>h.2.2.2,fun h=>⟨HE.out.symm,p.out.symm,rfl,h⟩⟩
    have v:=aa z;have g:=fun W=>eC 1 W
    have k:=fun W=>dG 1 W
    clear hP z HI a;rcases s with rfl | rfl
    ·go_enter Tryz.func190,Tryz.ntmps190;go_wp2_with fail;refine i.mono ?_;rintro e w1 ⟨⟨_,rfl⟩ | ⟨h,_⟩,rfl⟩
     ·go_wp2_with fail;refine q.mono ?_;rintro e w2 ⟨rfl,rfl⟩;go_wp2_with fail;refine (g _).mono ?_;rintro e w3 ⟨rfl,rfl⟩;go_wp2_with fail;refine x.mono ?_;rintro e w4 ⟨rfl,k4⟩;go_wp2_with fail;refine (k _).mono ?_;rintro e w5 ⟨rfl,rfl⟩;exact ⟨rfl,k4,.inr ⟨fun h=>by have:=v.out.1 h;omega,1,by omega,rfl⟩⟩
     ·exact absurd rfl h
    ·go_enter Tryz.func190,Tryz.ntmps190;go_wp2_with fail;refine i.mono ?_;rintro e w1 ⟨⟨_,rfl⟩ | ⟨h,_⟩,rfl⟩
     ·go_wp2_with fail;refine q.mono ?_;rintro e w2 ⟨rfl,rfl⟩;go_wp2_with fail;refine (g _).mono ?_;rintro e w3 ⟨rfl,rfl⟩;go_wp2_with fail;refine x.mono ?_;rintro e w4 ⟨rfl,k4⟩;go_wp2_with fail;refine (g _).mono ?_;rintro e w5 ⟨rfl,rfl⟩;go_wp2_with fail;go_end0
      exact ⟨k4,.inl ⟨v.out.2 (by first | rfl | trivial),rfl⟩⟩
     ·exact absurd rfl h
   ·subst h2;have D:¬ (l:Int)=(R:Int):=by omega
    have A:Hid ((((l:Nat):Int) != ((R:Nat):Int))=true):=bne_iff_ne.2 D;have m:Hid (¬ okMod ms K rs):=fun h=>h3 (HI.out.1 h).2.2.1
    clear HI;go_enter Tryz.func190,Tryz.ntmps190;go_wp2_with fail;refine i.mono ?_;rintro e w1 ⟨⟨_,rfl⟩ | ⟨h,_⟩,rfl⟩
    ·go_wp2_with fail;refine q.mono ?_;rintro e w2 ⟨rfl,rfl⟩;go_wp2_with fail;rw [A.out];refine o.mono ?_;rintro e w3 ⟨rfl,rfl⟩;exact ⟨rfl,ah _ _,.inr ⟨m.out,1,by omega,rfl⟩⟩
    ·exact absurd rfl h
  ·have G:¬ (R:Int)=(n:Int):=by omega
   have m:Hid (¬ okMod ms K rs):=fun h=>h2 (p.out.trans (HI.out.1 h).2.1)
   clear HI;go_enter Tryz.func190,Tryz.ntmps190;go_wp2_with fail;refine i.mono ?_;rintro e w1 ⟨⟨_,rfl⟩ | ⟨h,_⟩,rfl⟩
   ·go_wp2_with fail;refine q.mono ?_;rintro e w2 ⟨rfl,rfl⟩;go_wp2_with fail;refine o.mono ?_;rintro e w3 ⟨rfl,rfl⟩;exact ⟨rfl,ah _ _,.inr ⟨m.out,1,by omega,rfl⟩⟩
   ·exact absurd rfl h
 ·have m:Hid (¬ okMod ms K rs):=fun h=>h1 (HE.out.trans (HI.out.1 h).1)
  clear HI;go_enter Tryz.func190,Tryz.ntmps190;go_wp2_with fail;refine i.mono ?_;rintro e w1 ⟨⟨h,_⟩ | ⟨h,rfl⟩,rfl⟩
  ·exact absurd h h1
  ·exact ⟨rfl,ah _ _,.inr ⟨m.out,E,h,rfl⟩⟩

theorem jv (ao bo:Option Addr) (n l K a b:Nat) (ms rs:List Nat) (R:Bool) (hR:R=true↔okMod ms K rs) (w:World) (hm:Row .u64 w (.slice ao n a) ms) (hr:Row .u64 w (.slice bo l b) rs) (g:Digs ms) (d:Digs rs) (hK:K<18446744073709551616) (m:n≤1000000) :
  Calls Tryz.prog 146 #[.agg #[.slice ao n a,.int .u64 (K:Nat),.slice bo l b]] w fun e w'=>e=.returned (.bool R)∧Kept af w w':=by
 have q:=fd;obtain ⟨W,hW⟩:∃ W,W=w.alloc (.cells #[.slice ao n a,.int .u64 (K:Nat),.slice bo l b] 130):=⟨_,rfl⟩
 have k0:Kept af w W:=by rw [hW];exact (ah af w).alloc _
 have i:W.heap[w.heap.size]? = some (.cells #[.slice ao n a,.int .u64 (K:Nat),.slice bo l b] 130 (0,0)):=by rw [hW];exact heap_alloc_new _ _
 have he:∀ args w,(callFunc 190 args).run Tryz.prog w=.ok (.enter 190 args) w:=fun _ _=>by simp [go_sem]
 have k1:=k0.alloc (.cells #[.int .i64 0] 33);have xe:=Box.new W (.int .i64 0) 33;have h1:=yz ao bo n l K a b w.heap.size ms rs _ (hm.grew k1) (hr.grew k1) g d hK m (aq i);have j:=kr 190 #[.pointer (some ⟨w.heap.size,0,none⟩)] W (fun c W'=>Kept af w W'∧(c=0↔okMod ms K rs)) he (h1.mono (by
  rintro e w' ⟨k,(⟨h2,rfl⟩ | ⟨h2,c,hc,rfl⟩)⟩
  ·exact ⟨(k.block _ xe.lt (fun f=>f)).trans xe,.inl ⟨rfl,k1.trans k,⟨fun _=>h2,fun _=>rfl⟩⟩⟩
  ·exact ⟨(k.block _ xe.lt (fun f=>f)).trans xe,.inr ⟨_,rfl,k1.trans k,⟨fun h=>absurd (by omega) hc,fun h=>absurd h h2⟩⟩⟩))
 have HR:=aa hR;have HW:=aa hW;have p:w.heap.size≤W.heap.size:=k0.size;clear h1 hm hr g d hR hW k0 k1 i xe he;go_enter Tryz.func146,Tryz.ntmps146;go_wp2_with (rw [← HW.out]);refine j.mono ?_;rintro e w' ⟨c,w1,rfl,⟨⟨k2,h2⟩,o⟩,rfl⟩;have k3:=k2.next (au w1 W.heap.size (.int .i64 c)) (fun x hx e=>by omega)
 have HC:Hid (decide (c=0)=R):=by
  unfold Hid;have h3:=HR.out;by_cases h4:c=0
  ·rw [aQ h4];exact (h3.2 (h2.1 h4)).symm
  ·rw [aD h4];cases R
   ·rfl
   ·exact absurd (h2.2 (h3.1 rfl)) h4
 clear j h2 k2 o;generalize w1.setCell ⟨W.heap.size,0,none⟩ (.int .i64 c)=w2 at *;go_wp2_with fail;go_ret;rw [← HC.out];exact ⟨rfl,k3⟩

theorem pp (p:Addr) (w:World) :
  CallsD Tryz.prog 167 #[.pointer (some p)] .returning w fun e u' w'=>e=.returned (.tuple #[])∧u'=.returning∧w'=w:=by
 refine callsD_of_wpS Tryz.func167 rfl fun c₀ cs hu=>?_
 apply wpS_seq;apply wpS_region;simp [wpOpsS,go_sem,recoverD,hu,Tryz.ntmps167,Exit.thenS];apply wpS_seq;apply wpS_seq;apply wpS_region;simp [wpOpsS,go_sem,Exit.thenS];refine wpS_cond (t:=true) (by simp [Act.eval,Array.replicate]) ?_;simp only [if_true];refine wpS_of_wp (wp_ret ?_);cases c₀
 simp_all [bodyPostS,results,Tryz.results167,Exit.thenS]

theorem Aq (p:Addr) (x n:Int) (a:List PanicEntry) (w:World) (hc:w.cell? p=some (.int .i64 x)) (hz:w.frozen? p=false) :
  CallsD Tryz.prog 167 #[.pointer (some p)] (.panicking (refusal n :: a)) w fun e u' w'=>
   e=.returned (.tuple #[])∧u'=.panicking ({ refusal n with recovered:=true } :: a)∧w'=w.setCell p (.int .i64 n):=by
 refine callsD_of_wpS Tryz.func167 rfl fun c₀ cs hu=>?_
 apply wpS_seq;apply wpS_region;simp [wpOpsS,go_sem,recoverD,hu,Tryz.ntmps167,Exit.thenS];apply wpS_seq;apply wpS_seq;apply wpS_region;simp [wpOpsS,go_sem,Exit.thenS];refine wpS_cond (t:=false) (by simp [Act.eval,Array.replicate]) ?_;simp only [Bool.false_eq_true,if_false];refine wpS_of_wp (wp_skip ?_);simp only [Exit.thenS];refine wpS_of_wp ?_;have c:∀ w:World,(Instr.typeAssert (.iface 33 (.int .i64 n)) 20 33 true).run Tryz.prog w=.ok (.tuple #[.int .i64 n,.bool true]) w:=fun w=>by kernel_rfl
 have b:∀ (x:Bool) (w:World),(Op.unary .not (.bool x)).run Tryz.prog w=.ok (.bool (!x)) w:=fun _ _=>rfl
 have e:(#[Value.pointer (some p)] ++ ((((Array.replicate 15 undef).setIfInBounds 3 (Value.iface 33 (Value.int IntKind.i64 n))).setIfInBounds 0 (Value.iface 33 (Value.int IntKind.i64 n))).setIfInBounds 4 (Value.iface 33 (Value.int IntKind.i64 n))).setIfInBounds 5 (Value.bool false):Array Value)=#[.pointer (some p),.iface 33 (.int .i64 n),undef,undef,.iface 33 (.int .i64 n),.iface 33 (.int .i64 n),.bool false,undef,undef,undef,undef,undef,undef,undef,undef,undef]:=rfl;rw [e];clear e;go_wp2;simp [bodyPostS,results,Tryz.results167]

theorem uf (f:Nat) (cap:Array Value) (w:World) (Q:Int→World→Prop) (he:∀ args w,(callFunc f args).run Tryz.prog w=.ok (.enter f args) w)
  (h:Calls Tryz.prog f cap (w.alloc (.cells #[.int .i64 0] 33)) fun e w'=>w'.heap[w.heap.size]? = some (.cells #[.int .i64 0] 33 (0,0)) ∧
   ((e=.returned (.tuple #[])∧Q 0 w')∨∃ n,e=.panicked [refusal n]∧Q n w')) :
  Calls Tryz.prog 122 #[.func (.func f) #[] cap] w fun e w'=>∃ n w1,e=.returned (.int .i64 n)∧(Q n w1∧w1.heap[w.heap.size]? = some (.cells #[.int .i64 0] 33 (0,0)))∧w'=w1.setCell ⟨w.heap.size,0,none⟩ (.int .i64 n):=by
 have c:=fd;go_enter_defers Tryz.func122,Tryz.ntmps122
 go_wp2_with fail;refine h.mono ?_;rintro e w1 ⟨hb,(⟨rfl,hq⟩ | ⟨n,rfl,hq⟩)⟩
 ·have hc:w1.cell? ⟨w.heap.size,0,none⟩=some (.int .i64 0):=by simp [World.cell?,hb]
  have hz:w1.frozen? ⟨w.heap.size,0,none⟩=false:=by simp [World.frozen?,hb]
  clear h;go_wp2_with fail;refine leaves_cons (f:=167) (args:=#[.pointer (some ⟨w.heap.size,0,none⟩)]) (by simp) (by simp [go_sem]) ?_;refine (pp ⟨w.heap.size,0,none⟩ _).mono ?_;rintro e u' b ⟨rfl,rfl,rfl⟩;have a:(w1.setCell ⟨w.heap.size,0,none⟩ (.int .i64 0)).cell? ⟨w.heap.size,0,none⟩=some (.int .i64 0):=World.cell?_setCell_same' _ _ _ (by rw [hc];rfl);simp [Leaves,settle,results,Tryz.results122,go_sem,a];exact ⟨_,⟨hq,hb⟩,rfl⟩
 ·have hc:w1.cell? ⟨w.heap.size,0,none⟩=some (.int .i64 0):=by simp [World.cell?,hb]
  have hz:w1.frozen? ⟨w.heap.size,0,none⟩=false:=by simp [World.frozen?,hb]
  clear h;refine leaves_cons (f:=167) (args:=#[.pointer (some ⟨w.heap.size,0,none⟩)]) (by simp) (by simp [go_sem]) ?_;refine (Aq ⟨w.heap.size,0,none⟩ 0 n [] _ hc hz).mono ?_;rintro e u' b ⟨rfl,rfl,rfl⟩;have a:(w1.setCell ⟨w.heap.size,0,none⟩ (.int .i64 n)).cell? ⟨w.heap.size,0,none⟩=some (.int .i64 n):=World.cell?_setCell_same' _ _ _ (by rw [hc];rfl);simp [Leaves,settle,results,Tryz.results122,go_sem,a];exact ⟨_,⟨hq,hb⟩,rfl⟩

theorem fg (n:Int) (w:World):Calls Tryz.prog 125 #[.bool false,.int .i64 n] w fun e w'=>e=.returned (.tuple #[])∧w'=w:=by
 go_enter Tryz.func125,Tryz.ntmps125;go_wp2;go_end0
 exact ⟨rfl,rfl⟩

theorem fs (n:Int) (w:World):Calls Tryz.prog 125 #[.bool true,.int .i64 n] w fun e w'=>e=.panicked [refusal n]∧w'=w:=by
 go_enter Tryz.func125,Tryz.ntmps125;go_wp2;exact ⟨rfl,rfl,rfl⟩

theorem pJ (ao:Option Addr) (n cap:Nat) (w:World):Calls Tryz.prog 171 #[.slice ao n cap,.int .i64 0] w fun e w'=>e=.returned (.slice ao n cap)∧w'=w:=by
 have hR:=fg 0 w;go_enter Tryz.func171,Tryz.ntmps171;go_wp2_with fail;refine hR.mono ?_;rintro e w' ⟨rfl,rfl⟩;go_wp2;go_ret;exact ⟨rfl,rfl⟩

theorem Al (u v:Value) (xs ys:List Nat) (R:Bool) (hR:R=decide (val xs=val ys)) (w:World) (hu:Row .u64 w u xs) (hv:Row .u64 w v ys) (b:Digs xs) (a:Digs ys) (hL:xs.length≤100000000) (hM:ys.length≤100000000) :
  Calls Tryz.prog 175 #[u,v] w fun e w'=>e=.returned (.bool R)∧Kept af w w':=by
 have hE:=mH none u v xs ys w (TrRoom.none w 1 (by omega)) (RowT.none hu) (RowT.none hv) b a hL hM;rw [← hR] at hE;obtain ⟨ao,L,cap,rfl,_⟩:=hu.open;obtain ⟨bo,M,c,rfl,_⟩:=hv.open;clear hu hv b a hL hM hR;cases R with
 | true=>
  go_enter Tryz.func175,Tryz.ntmps175;go_wp2_with fail;refine hE.mono ?_;rintro e w' ⟨rfl,o',d⟩;have k:=d.none.2;clear hE d;go_wp2_with fail;go_ret;exact ⟨rfl,k⟩
 | false=>
  go_enter Tryz.func175,Tryz.ntmps175;go_wp2_with fail;refine hE.mono ?_;rintro e w' ⟨rfl,o',d⟩;have k:=d.none.2;clear hE d;go_wp2_with fail;go_ret;exact ⟨rfl,k⟩

theorem uR (X:Nat):(8320<aw X↔130<ak X)∧(aw X<3↔X≤3):=by
 have h1:=gV X;have h2:=aB X 2;constructor
 ·omega
 ·have:(2:Nat)^2=4:=by decide
  omega

theorem kH (ao:Option Addr) (L cap:Nat) (xs:List Nat) (E:Nat) (hE:E=gQ (val xs)) (w:World) (h:Row .u64 w (.slice ao L cap) xs) (hd:Digs xs) (hl:L≤1000000) :
  Calls Tryz.prog 124 #[.slice ao L cap] w fun e w'=>((E=0∧e=.returned (.tuple #[]))∨(E≠0∧e=.panicked [refusal (E:Nat)]))∧w'=w:=by
 obtain ⟨_,_,_,e1,l,_,_,_,c⟩:=h.open;cases e1
 have hB:=dY _ xs w h hd (by rw [l.out];omega);obtain ⟨V,hV⟩:∃ V,V=val xs:=⟨_,rfl⟩
 rw [← hV] at hB hE;have HX:=aa (aR (by omega) hd 0);rw [← hV] at HX;have q:Hid (V<18446744073709551616^L):=by have:=ar (by omega) hd;rw [l.out,← hV] at this;exact this
 have p:Hid (xs.getD 0 0<18446744073709551616):=hd.getD (by omega) _;obtain ⟨f,d⟩:=uR V;obtain ⟨b,hb⟩:∃ b,b=aw V:=⟨_,rfl⟩
 rw [← hb] at hB f d;unfold gQ at hE;clear hV h hd hb;have i:=fg 2 w;have j:=fg 1 w;by_cases h1:130<ak V
 ·have hY:=fs 2 w;rw [if_pos h1] at hE;subst hE;have g1:(b:Int) > 8320:=by have:=f.2 h1;omega
  have k:(8320:Int)<(b:Int):=g1;clear c j i f d h1;go_enter Tryz.func124,Tryz.ntmps124;go_wp2_with fail;refine hB.mono ?_;rintro e w' ⟨rfl,rfl⟩;go_wp2_with fail;refine hY.mono ?_;rintro e w' ⟨rfl,rfl⟩;exact ⟨rfl,.inr ⟨by omega,rfl⟩,rfl⟩
 ·rw [if_neg h1] at hE;have g1:¬ (b:Int) > 8320:=by have:=mt f.1 h1;omega
  have k:¬ (8320:Int)<(b:Int):=g1;have q1:decide ((8320:Int)<(b:Int))=false:=aD k;by_cases h2:V≤3
  ·have hY:=fs 1 w;rw [if_pos (.inl h2)] at hE;subst hE;have g2:(b:Int)<3:=by have:=d.2 h2;omega
   clear c j f d h1;go_enter Tryz.func124,Tryz.ntmps124;go_wp2_with fail;refine hB.mono ?_;rintro e w' ⟨rfl,rfl⟩;go_wp2_with fail;refine i.mono ?_;rintro e w' ⟨rfl,rfl⟩;go_wp2_with fail;refine hY.mono ?_;rintro e w' ⟨rfl,rfl⟩;exact ⟨rfl,.inr ⟨by omega,rfl⟩,rfl⟩
  ·have g2:¬ (b:Int)<3:=by have:=mt d.1 h2;omega
   have o:0<L:=by
    rcases Nat.eq_zero_or_pos L with h0 | h0
    ·have:=q.out;rw [h0,Nat.pow_zero] at this;omega
    ·exact h0
   obtain ⟨b2,n,rfl,m⟩:=c 0 o;have s:=p.out;have r:V%18446744073709551616=xs.getD 0 0:=by
    have:=HX.out;unfold dig at this
    rwa [Nat.pow_zero,Nat.div_one] at this
   have g:(xs.getD 0 0)%2=V%2:=by omega
   have a:=and_one_u64 (xs.getD 0 0:Nat) (by omega) (by omega);generalize xs.getD 0 0=x at *;rw [Nat.add_zero] at m;clear c r HX f d h1;by_cases h3:V%2=0
   ·have hY:=fs 1 w;rw [if_pos (.inr h3)] at hE;subst hE;have hz:bits .and .u64 (x:Int) 1=0:=by rw [a];omega
    clear a g;go_enter Tryz.func124,Tryz.ntmps124;go_wp2_with fail;refine hB.mono ?_;rintro e w' ⟨rfl,rfl⟩;go_wp2_with fail;refine i.mono ?_;rintro e w' ⟨rfl,rfl⟩;go_wp2_with fail;refine hY.mono ?_;rintro e w' ⟨rfl,rfl⟩;exact ⟨rfl,.inr ⟨by omega,rfl⟩,rfl⟩
   ·rw [if_neg (by omega)] at hE;subst hE;have hz:bits .and .u64 (x:Int) 1=1:=by rw [a];omega
    clear a g;go_enter Tryz.func124,Tryz.ntmps124;go_wp2_with fail;refine hB.mono ?_;rintro e w' ⟨rfl,rfl⟩;go_wp2_with fail;refine i.mono ?_;rintro e w' ⟨rfl,rfl⟩;go_wp2_with fail;rw [show decide ((b:Int)<3)=false from aD (by omega)];refine j.mono ?_;rintro e w' ⟨rfl,rfl⟩;go_wp2_with fail;go_end0
    exact ⟨.inl ⟨trivial,rfl⟩,rfl⟩

end Go.Proofs.YtcemlfokmjjiaaaGreatDoor
