/- Put together of: Pri1 Held1 Pri4 Pri7 Pri5. -/
import Derived.Test.YtcemlfokmjjiaaaGreatDoorPf26

namespace Go.Proofs.YtcemlfokmjjiaaaGreatDoor
set_option maxRecDepth 100000
set_option maxHeartbeats 4000000
open Go.RowKit

theorem vF (k:Int) (R:Bool) (hR:R=decide (16≤k∧k≤4096)) (w:World) :
  Calls Tryz.prog 39 #[.int .i64 k] w fun e w'=>e=.returned (.bool R)∧w'=w:=by
 by_cases h1:k≥16
 ·by_cases h2:k≤4096
  ·obtain rfl:R=true:=by rw [hR];exact aT ⟨h1,h2⟩
   clear hR;go_enter Tryz.func39,Tryz.ntmps39;go_wp2_with fail;go_ret;exact ⟨rfl,rfl⟩
  ·obtain rfl:R=false:=by rw [hR];exact aC fun h=>h2 h.2
   clear hR;go_enter Tryz.func39,Tryz.ntmps39;go_wp2_with fail;go_ret;exact ⟨rfl,rfl⟩
 ·obtain rfl:R=false:=by rw [hR];exact aC fun h=>h1 h.1
  clear hR;go_enter Tryz.func39,Tryz.ntmps39;go_wp2_with fail;go_ret;exact ⟨rfl,rfl⟩

theorem oD (n s q:Nat) (hq:q=(n+s-1)/s) (hn:n≤4096) (a:0<s) (hs:s≤64) (w:World) :
  Calls Tryz.prog 74 #[.int .i64 (n:Int),.int .i64 (s:Int)] w fun e w'=>e=.returned (.int .i64 (q:Int))∧w'=w:=by
 have g1:((n:Int)+(s:Int)-1)/(s:Int)=(q:Int):=by
  rw [hq];have e:(n:Int)+(s:Int)-1=((n+s-1:Nat):Int):=by omega
  rw [e];rfl
 have g2:((n:Int)+(s:Int)-1).tdiv (s:Int)=(q:Int):=by rw [Int.tdiv_eq_ediv_of_nonneg (by omega)];exact g1
 have g3:¬ (s:Int)=0:=by omega
 have g4:((s:Int) == 0)=false:=by simpa using g3
 have b:q≤5000:=by rw [hq];exact Nat.le_trans (Nat.div_le_self _ _) (by omega)
 clear hq;go_enter Tryz.func74,Tryz.ntmps74;go_wp2_with fail;go_ret;exact ⟨rfl,rfl⟩

def fh (X n:Nat):Nat→Nat
 | 0=>X%2^n
 | 1=>X%2^n ||| 2^(n-1)
 | 2=>X%2^n ||| 2^(n-1) ||| 2^(n-2)
 | _=>X%2^n ||| 2^(n-1) ||| 2^(n-2) ||| 1

theorem oY {w:World} {base n:Nat} {e:TypeId} {g cap:Nat} {xs:List Value} (h:w.ownsRow base e 1 (.slice (some ⟨g,0,none⟩) n cap) n xs):base≤g:=(h.lt g rfl).1

theorem pE {w:World} {base L cap g:Nat} {Y j:Nat} (h:OwnN .u64 23 w base (.slice (some ⟨g,0,none⟩) L cap) L (digs Y L)) (hj:j<L):w.cell? ⟨g,j,none⟩=some (.int .u64 (dig Y j:Nat)):=by
 rw [World.ownsRow.cellAt h j (by omega),List.getElem?_map,List.getElem?_eq_getElem (by rw [ag];exact hj)];have e:=de 18446744073709551616 Y L j hj;rw [List.getD_eq_getElem?_getD,List.getElem?_eq_getElem (by rw [ag];exact hj)] at e;simp only [Option.getD_some] at e;rw [e];rfl

theorem BA (v:Value) (bs:List Nat) (k:Int) (h0:-9223372036854775808≤k) (h1:k≤9223372036854775807) (E:Nat) (RL:List Nat) (hE:E=py bs k) (d:RL=if E=0 then digs (dr bs k.toNat) ((k.toNat+63)/64) else []) (w:World) (hu:Row .u8 w v bs) (hd:Digs bs 256) :
  Calls Tryz.prog 76 #[v,.int .i64 k] w fun e w'=>∃ v',e=.returned (.tuple #[v',.int .i64 (E:Nat)])∧Row .u64 w' v' RL∧(∀ b,v'.ownBlock=some b→w.heap.size≤b)∧Kept af w w':=by
 have HU:=aa hu;obtain ⟨ao,m,cap,rfl,hm,-,-,-,-⟩:=hu.open;have o:Hid (k<16∨4096<k∨(m:Int)≠(k+7)/8→E=1∧RL=[]):=fun h=>by
  have e1:E=1:=by rw [hE,py,hm.out,if_pos h]
  exact ⟨e1,by rw [d,if_neg (by omega)]⟩
 by_cases hr:16≤k∧k≤4096
 ·have JM:=vF k true (aT hr).symm w;obtain ⟨n,rfl⟩:=Int.eq_ofNat_of_zero_le (show 0≤k by omega);obtain ⟨z,hz⟩:∃ z,z=(n+7)/8:=⟨_,rfl⟩
  obtain ⟨L,hL⟩:∃ L,L=(n+63)/64:=⟨_,rfl⟩
  have JZ:=oD n 8 z (by omega) (by omega) (by omega) (by omega) w;have JL:=oD n 64 L (by omega) (by omega) (by omega) (by omega) w;by_cases hmz:m=z
  ·have V:E=0:=by
    rw [hE,py,if_neg];rw [hm.out];omega
   subst V;rw [if_pos rfl] at d;have hlt:bev bs<2^(64*L):=by
    refine Nat.lt_of_lt_of_le (px hd) ?_;rw [hm.out,show (256:Nat)=2^8 from rfl,← Nat.pow_mul];exact Nat.pow_le_pow_right (by omega) (by omega)
   have hw:aj (bev bs)≤L:=by
    rw [am,show (18446744073709551616:Nat)=2^64 from rfl,← Nat.pow_mul];exact hlt
   have av:L≤64:=by omega
   have aA:1≤L:=by omega
   have JO:=BL (.slice ao m cap) bs (L:Int) w hu hd;rw [(i8 (by omega) hw).1,(i8 (by omega) hw).2,ag] at JO;have N:Hid (RL=digs (fh (bev bs) n 3) L):=by
    unfold Hid;rw [d,hL]
    congr 1
    exact (rH bs n (by omega)).symm
   obtain ⟨X,hX⟩:∃ X,X=bev bs:=⟨_,rfl⟩
   rw [← hX] at JO N;obtain ⟨L1,B⟩:∃ L1,L=L1+1:=⟨L-1,by omega⟩
   have gL:(L:Int)-1=(L1:Int):=by omega
   obtain ⟨s,hs⟩:∃ s,s=64*L-n:=⟨_,rfl⟩
   have gs:64*(L:Int)-(n:Int)=(s:Int):=by omega
   have aq:s<64:=by omega
   obtain ⟨y,hy⟩:∃ y,y=18446744073709551615/2^s:=⟨_,rfl⟩
   have gy:(18446744073709551615:Int)/2^s=(y:Int):=by rw [hy];simp
   have Z:y<18446744073709551616:=by rw [hy];exact Nat.lt_of_le_of_lt (Nat.div_le_self _ _) (by omega)
   have T:dig X L1<18446744073709551616:=Nat.mod_lt _ (by omega);have x:Hid ((digs X L).set L1 (dig X L1 &&& y)=digs (fh X n 0) L):=by
    have:=tR X n L (by omega) (by omega) (by omega);rw [← hs,← hy,show L-1=L1 by omega] at this;exact this
   have C:=u64_and_nat (dig X L1) y T Z;obtain ⟨p1,G⟩:∃ p1,p1=n-1:=⟨_,rfl⟩
   obtain ⟨p2,J⟩:∃ p2,p2=n-2:=⟨_,rfl⟩
   have an:(n:Int)-1=(p1:Int):=by omega
   have ar:(n:Int)-2=(p2:Int):=by omega
   have ak:Hid (∀ i p,i<3→(p=p1∧i=0∨p=p2∧i=1∨p=0∧i=2)→p≤4096∧p/64<L∧fh X n (i+1)=fh X n i ||| 2^p):=by
    rintro i p hi (⟨rfl,rfl⟩ | ⟨rfl,rfl⟩ | ⟨rfl,rfl⟩)
    ·exact ⟨by omega,by omega,by rw [G];rfl⟩
    ·exact ⟨by omega,by omega,by rw [J];rfl⟩
    ·exact ⟨by omega,by omega,rfl⟩
   have ac:((m:Int) == (z:Int))=true:=by rw [hmz];simp
   have D:((m:Int) != (z:Int))=false:=by rw [hmz];simp
   have A:L1<L:=by omega
   have au:n≤4096:=by omega
   have P:p1≤4096:=by omega
   have Q:p2≤4096:=by omega
   clear hE d hu hd o hr hlt hw hX hs hy G J hL hz B;subst hmz;go_enter Tryz.func76,Tryz.ntmps76;go_wp2_with fail;refine JM.mono ?_;rintro e w1 ⟨rfl,rfl⟩;go_wp2_with fail;refine JZ.mono ?_;rintro e w2 ⟨rfl,rfl⟩;go_wp2_with fail;refine JL.mono ?_;rintro e w3 ⟨rfl,rfl⟩;go_wp2_with fail;refine JO.mono ?_;rintro e w4 ⟨u,rfl,hO,k4⟩;obtain ⟨g,c,rfl⟩:∃ g c,u=.slice (some ⟨g,0,none⟩) L c:=by
    rcases hO.2 with ⟨_,e⟩ | ⟨g,c,_,e,_⟩
    ·omega
    ·exact ⟨g,c,e⟩
   have R:=oY hO;have hc:=pE hO A;have hf:=World.ownsRow.frozenAt hO L1;have r:=(World.ownsRow.stored hO L1 (.int .u64 ((dig X L1 &&& y:Nat):Int))).1;have O:OwnN .u64 23 (w4.setCell ⟨g,L1,none⟩ (.int .u64 ((dig X L1 &&& y:Nat):Int))) w3.heap.size (.slice (some ⟨g,0,none⟩) L c) L (digs (fh X n 0) L):=by
    rw [← x.out];unfold OwnN;rw [List.map_set];exact r
   have ad:=aa O;have U:=aa (k4.setCell ⟨g,L1,none⟩ (fun h=>absurd h (by show ¬ g<_;omega)) (.int .u64 ((dig X L1 &&& y:Nat):Int)));clear JM JZ JL JO hO r O k4 x;generalize dig X L1 &&& y=d5 at *;generalize dig X L1=d4 at *;go_wp2_with fail;go_region
   all_goals
    go_wp2_with fail;clear hc hf C;go_loopw [49] (fun iv wr=>∃ i:Nat,i≤3∧iv=.int .i64 (i:Int)∧Hid (OwnN .u64 23 wr w3.heap.size (.slice (some ⟨g,0,none⟩) L c) L (digs (fh X n i) L))∧Hid (Kept af w3 wr)) (fun iv _=>3-(intOf iv).toNat)
    case atStart=>exact ⟨0,by omega,rfl,(ai af _).drew.own ad.out (fun _ _ f=>f),U.out.drew⟩
    case round=>
     obtain ⟨i,hi,rfl,HO,HK⟩:=hrel;by_cases hi3:i<3
     ·obtain ⟨p,ab,H⟩:∃ p:Nat,(∀ W,Sem.run Tryz.prog (Instr.index 144 (.agg #[.int .i64 (p1:Int),.int .i64 (p2:Int),.int .i64 0]) (.int .i64 (i:Int))) W=.ok (.int .i64 (p:Int)) W)∧(p=p1∧i=0∨p=p2∧i=1∨p=0∧i=2):=by
       obtain rfl | rfl | rfl:i=0∨i=1∨i=2:=by omega
       ·exact ⟨p1,fun W=>(by first | rfl | (change _=_;kernel_rfl)),.inl ⟨rfl,rfl⟩⟩
       ·exact ⟨p2,fun W=>(by first | rfl | (change _=_;kernel_rfl)),.inr (.inl ⟨rfl,rfl⟩)⟩
       ·exact ⟨0,fun W=>(by first | rfl | (change _=_;kernel_rfl)),.inr (.inr ⟨rfl,rfl⟩)⟩
      obtain ⟨ap,F,hY⟩:=ak.out i p hi3 H;have l:=xW (fh X n i) p L F;rw [← hY] at l;obtain ⟨j,hj⟩:∃ j,j=p/64:=⟨_,rfl⟩
      obtain ⟨t,ht⟩:∃ t,t=p%64:=⟨_,rfl⟩
      rw [← hj,← ht] at l;rw [← hj] at F;have gj:(p:Int)/64=(j:Int):=by omega
      have az:(p:Int).tdiv 64=(j:Int):=by rw [Int.tdiv_eq_ediv_of_nonneg (by omega)];exact gj
      have gt:(p:Int)%64=(t:Int):=by omega
      have ax:(p:Int).tmod 64=(t:Int):=by rw [Int.tmod_eq_emod_of_nonneg (by omega)];exact gt
      have ae:t<64:=by omega
      obtain ⟨q,hq⟩:∃ q,q=2^t:=⟨_,rfl⟩
      have S:q<18446744073709551616:=by rw [hq];exact Nat.pow_lt_pow_right (a:=2) (m:=t) (n:=64) (by omega) ae
      have gq:IntKind.u64.wrap (2^t)=(q:Int):=by
       have e0:((2^t:Nat):Int)=2^t:=by simp
       rw [← e0,← hq,IntKind.wrap_u64];omega
      rw [← hq] at l;have M:dig (fh X n i) j<18446744073709551616:=Nat.mod_lt _ (by omega);have al:=u64_or_nat (dig (fh X n i) j) q M S;have hc:=pE HO.out F;have hf:=World.ownsRow.frozenAt HO.out j;have r:=(World.ownsRow.stored HO.out j (.int .u64 ((dig (fh X n i) j ||| q:Nat):Int))).1;have I:OwnN .u64 23 (wr.setCell ⟨g,j,none⟩ (.int .u64 ((dig (fh X n i) j ||| q:Nat):Int))) w3.heap.size (.slice (some ⟨g,0,none⟩) L c) L (digs (fh X n (i+1)) L):=by
       rw [← l];unfold OwnN;rw [List.map_set];exact r
      have Y:=aa I;have ah:=aa (HK.out.setCell ⟨g,j,none⟩ (fun h=>absurd h (by show ¬ g<_;omega)) (.int .u64 ((dig (fh X n i) j ||| q:Nat):Int)));have gi:(i:Int)<3:=by omega
      have aw:(0:Int)≤(i:Int):=by omega
      clear r I l hY H hj ht hq M;generalize dig (fh X n i) j ||| q=d7 at *;generalize dig (fh X n i) j=d6 at *;go_wp2_with fail;go_region
      all_goals
       go_wp2_with fail;go_roundw
       case rel=>exact ⟨i+1,by omega,by go_num,(ai af _).drew.own Y.out (fun _ _ f=>f),ah.out.drew⟩
       case measure=>simp [intOf];omega
     ·obtain rfl:i=3:=by omega
      go_wp2_with fail;refine bodyPost_ret (v:=.tuple #[.slice (some ⟨g,0,none⟩) L c,.int .i64 0]) (by simp [results,Tryz.results76,go_sem]) rfl ?_;exact ⟨_,rfl,by rw [N.out];exact Row.of_own (base:=w3.heap.size) (e:=23) (by rw [ag];exact HO.out),fun b hb=>by cases hb;exact R,HK.out⟩
  ·have HB:=aa (o.out (.inr (.inr (by rw [show ((n:Int)+7)/8=(z:Int) by omega];omega))));have ac:((m:Int) == (z:Int))=false:=by simp;omega
   have D:((m:Int) != (z:Int))=true:=by simp;omega
   have ay:¬ (m:Int)=(z:Int):=by omega
   clear hE d hu hd o hr hz hL hmz;go_enter Tryz.func76,Tryz.ntmps76;go_wp2_with fail;refine JM.mono ?_;rintro e w1 ⟨rfl,rfl⟩;go_wp2_with fail;refine JZ.mono ?_;rintro e w2 ⟨rfl,rfl⟩;go_wp2_with fail;refine bodyPost_ret (v:=.tuple #[.slice none 0 0,.int .i64 1]) (by simp [results,Tryz.results76,go_sem]) rfl ?_;exact ⟨_,by rw [HB.out.1];rfl,by rw [HB.out.2];exact Row.nil _ _,(fun b hb=>by cases hb),ai _ _⟩
 ·have JM:=vF k false (aC hr).symm w;have HB:=aa (o.out (by omega));clear hE d hu hd o hr;go_enter Tryz.func76,Tryz.ntmps76;go_wp2_with fail;refine JM.mono ?_;rintro e w1 ⟨rfl,rfl⟩;go_wp2_with fail;refine bodyPost_ret (v:=.tuple #[.slice none 0 0,.int .i64 1]) (by simp [results,Tryz.results76,go_sem]) rfl ?_;exact ⟨_,by rw [HB.out.1];rfl,by rw [HB.out.2];exact Row.nil _ _,(fun b hb=>by cases hb),ai _ _⟩

theorem fY {P:Program} {md:Region.Mode} {ops:Array Oper} {Q:Exit→Act→World→Prop} {S:World→Prop} {d:Nat} {b:Array Bool} {a:Act} {w:World} (i:Nat) {o:Oper} (hr:Region.ready md ops b=[i]) (hi:ops[i]? = some o) (hg:o.guard=none) (f:Nat) (args:List Operand) (g:Array TypeId) (c:List Value)
  (ho:o.op=.call { callee:=.value (.func f),args:=args.toArray,argTypes:=g }) (hv:args.map a.eval=c) (he:∀ args w,(callFunc f args).run P w=.ok (.enter f args) w) {R:Ending→World→Prop} (hc:Calls P f c.toArray w R)
  (h:∀ e w',R e w'→(∃ v,e=.returned v∧S w'∧wpAnyH P md ops Q S d (b.setIfInBounds i true) (a.put o.dst v) w')∨∃ ch,e=.panicked ch∧Q (.panic ch) a w') :
  wpAnyH P md ops Q S (d+1) b a w:=by
 refine wpAnyH_all hr (by simp) fun j hj=>?_
 obtain rfl:j=i:=by simpa using hj
 have hw:Region.wanted o (yielded ops a.tmps)=true:=by simp [Region.wanted,hg]
 unfold wpOp;rw [hi];dsimp only;rw [if_pos hw];refine .inl ?_;have k:Calls P f c.toArray w fun
   | .returned v,w''=>S w''∧wpAnyH P md ops Q S d (b.setIfInBounds j true) (a.put o.dst v) w''
   | .panicked chain,w''=>Q (.panic chain) a w''
   | .outgrown,_=>LetsOut Q:=hc.mono (fun e w' r=>by
  rcases h e w' r with ⟨v,rfl,hk⟩ | ⟨ch,rfl,hk⟩
  ·exact hk
  ·exact hk)
 unfold Oper.wp;simp [execOp,ho,resolve,invoke,hv,he,go_sem];exact k

theorem nN {P:Program} {md:Region.Mode} {ops:Array Oper} {Q:Exit→Act→World→Prop} {S:World→Prop} {c:Nat} {b:Array Bool} {a:Act} {w:World} (i:Nat) {o:Oper} (hr:Region.ready md ops b=[i]) (hi:ops[i]? = some o)
  (hw:Region.wanted o (yielded ops a.tmps)=false) (hS:S w) (h:wpAnyH P md ops Q S c (b.setIfInBounds i true) (a.put o.dst undef) w):wpAnyH P md ops Q S (c+1) b a w:=by
 refine wpAnyH_all hr (by simp) fun j hj=>?_
 obtain rfl:j=i:=by simpa using hj
 unfold wpOp;rw [hi];dsimp only;rw [if_neg (by rw [hw];decide)];exact ⟨hS,h⟩

theorem sS {P:Program} {md:Region.Mode} {ops:Array Oper} {Q:Exit→Act→World→Prop} {S:World→Prop} {e:Nat} {b:Array Bool} {a:Act} {w:World} {oi:Oper} (i:Nat) (d:Option Tmp) (v:Value) (hi:ops[i]? = some oi) (hd:oi.dst=d)
  (hs:Region.noSelect ops=true) (hf:Region.free md ops b i=true) (hr:(Region.ready md ops b).contains i=true)
  (hQ:∀ c a w,Q (.panic c) (a.put d v) w→Q (.panic c) a w) (hy:YieldsIf P ops S oi v a) (hS:S w)
  (h:wpAnyH P md ops Q S e (b.setIfInBounds i true) (a.put d v) w):wpAnyH P md ops Q S (e+1) b a w:=by
 subst hd;exact wpAnyH_take hi hs hf hr hQ hy hS h

theorem BS {P:Program} {md:Region.Mode} {ops:Array Oper} {Q:Exit→Act→World→Prop} {S:World→Prop} {c:Nat} {b:Array Bool} {a:Act} {w:World} {o:Oper} (i:Nat) (d:Option Tmp) (hr:Region.ready md ops b=[i]) (hi:ops[i]? = some o) (hd:o.dst=d)
  (hw:Region.wanted o (yielded ops a.tmps)=false) (hS:S w) (h:wpAnyH P md ops Q S c (b.setIfInBounds i true) (a.put d undef) w):wpAnyH P md ops Q S (c+1) b a w:=by
 subst hd;exact nN i hr hi hw hS h

theorem bk {P:Program} {md:Region.Mode} {ops:Array Oper} {Q:Exit→Act→World→Prop} {S:World→Prop} {g:Nat} {b:Array Bool} {a:Act} {w:World} {o:Oper} (i:Nat) (d:Option Tmp) (hr:Region.ready md ops b=[i]) (hi:ops[i]? = some o) (hd:o.dst=d) (hw:Region.wanted o (yielded ops a.tmps)=true) (f:Nat) (args:List Operand) (k:Array TypeId) (c:List Value)
  (ho:o.op=.call { callee:=.value (.func f),args:=args.toArray,argTypes:=k }) (hv:args.map a.eval=c) (he:∀ args w,(callFunc f args).run P w=.ok (.enter f args) w) {R:Ending→World→Prop} (hc:Calls P f c.toArray w R)
  (h:∀ e w',R e w'→(∃ v,e=.returned v∧S w'∧wpAnyH P md ops Q S g (b.setIfInBounds i true) (a.put d v) w')∨∃ ch,e=.panicked ch∧Q (.panic ch) a w') :
  wpAnyH P md ops Q S (g+1) b a w:=by
 subst hd;refine wpAnyH_all hr (by simp) fun j hj=>?_
 obtain rfl:j=i:=by simpa using hj
 unfold wpOp;rw [hi];dsimp only;rw [if_pos hw];refine .inl ?_;have l:Calls P f c.toArray w fun
   | .returned v,w''=>S w''∧wpAnyH P md ops Q S g (b.setIfInBounds j true) (a.put o.dst v) w''
   | .panicked chain,w''=>Q (.panic chain) a w''
   | .outgrown,_=>LetsOut Q:=hc.mono (fun e w' r=>by
  rcases h e w' r with ⟨v,rfl,hk⟩ | ⟨ch,rfl,hk⟩
  ·exact hk
  ·exact hk)
 unfold Oper.wp;simp [execOp,ho,resolve,invoke,hv,he,go_sem];exact l

theorem aB {P:Program} {md:Region.Mode} {ops:Array Oper} {Q:Exit→Act→World→Prop} {S:World→Prop} {e:Nat} {b:Array Bool} {a:Act} {w:World} {oi:Oper} (i:Nat) (d:Option Tmp) (v:Value) (hi:ops[i]? = some oi:=by exact rfl) (hd:oi.dst=d:=by exact rfl)
  (hs:Region.noSelect ops=true:=by kernel_rfl) (hf:Region.free md ops b i=true:=by kernel_rfl) (hr:(Region.ready md ops b).contains i=true:=by kernel_rfl)
  (hQ:∀ c a w,Q (.panic c) (a.put d v) w→Q (.panic c) a w:=by exact fun _ _ _ h=>h) (y:YieldsIf P ops S oi v a) (s:S w)
  (k:wpAnyH P md ops Q S e (b.setIfInBounds i true) (a.put d v) w):wpAnyH P md ops Q S (e+1) b a w:=sS i d v hi hd hs hf hr hQ y s k

theorem A6 {P:Program} {md:Region.Mode} {ops:Array Oper} {Q:Exit→Act→World→Prop} {S:World→Prop} {c:Nat} {b:Array Bool} {a:Act} {w:World} {o:Oper} (i:Nat) (d:Option Tmp) (hr:Region.ready md ops b=[i]:=by kernel_rfl) (hi:ops[i]? = some o:=by exact rfl) (hd:o.dst=d:=by exact rfl)
  (hw:Region.wanted o (yielded ops a.tmps)=false:=by rfl) (s:S w) (k:wpAnyH P md ops Q S c (b.setIfInBounds i true) (a.put d undef) w):wpAnyH P md ops Q S (c+1) b a w:=BS i d hr hi hd hw s k

open Go.RowKit Go.Shelf

attribute [local go_sem] Oper.semAt_some

def Nxt (n e r:Nat) (bs:List Nat) (k:Nat) (ds:List Nat):Prop:=∃ f,f+k=100001∧∀ o,DrawR n e r f ds k o→DrawR n e r 100000 bs 1 o

theorem Nxt.first (n e r:Nat) (bs:List Nat):Nxt n e r bs 1 bs:=⟨100000,rfl,fun _ h=>h⟩

theorem Nxt.many {n e r k:Nat} {bs ds:List Nat} (h:Nxt n e r bs k ds) (hk:k=100001):DrawR n e r 100000 bs 1 ([],0,180,ds):=by
 obtain ⟨f,h1,h2⟩:=h;obtain rfl:f=0:=by omega
 exact h2 _ rfl

theorem Nxt.some {n e r k:Nat} {bs ds:List Nat} (h:Nxt n e r bs k ds) (hk:k≤100000):∃ f,f+(k+1)=100001∧∀ o,DrawR n e r (f+1) ds k o→DrawR n e r 100000 bs 1 o:=by
 obtain ⟨f,h1,h2⟩:=h;obtain ⟨f',rfl⟩:∃ f',f=f'+1:=⟨f-1,by omega⟩
 exact ⟨f',by omega,h2⟩

theorem Nxt.spent {n e r k:Nat} {bs ds:List Nat} (h:Nxt n e r bs k ds) (hk:k≤100000) (hl:ds.length<(n+7)/8):DrawR n e r 100000 bs 1 ([],0,150,[]):=by
 obtain ⟨f,_,h2⟩:=h.some hk;exact h2 _ (.inl ⟨hl,rfl⟩)

theorem Nxt.bad {n e r k:Nat} {bs ds:List Nat} (h:Nxt n e r bs k ds) (hk:k≤100000) (hl:(n+7)/8≤ds.length) (hg:¬ fd (dr (ds.take ((n+7)/8)) n) e):Nxt n e r bs (k+1) (ds.drop ((n+7)/8)):=by
 obtain ⟨f,h1,h2⟩:=h.some hk;exact ⟨f,h1,fun o ho=>h2 o (.inr (.inl ⟨by omega,hg,ho⟩))⟩

theorem Nxt.good {n e r k:Nat} {bs ds:List Nat} {is:Bool} {ls:List (List Nat)} {E:Nat} {rest:List Nat} (h:Nxt n e r bs k ds) (hk:k≤100000) (hl:(n+7)/8≤ds.length) (hg:fd (dr (ds.take ((n+7)/8)) n) e) (hr:f8 (cC ds n) (r:Int) (ds.drop ((n+7)/8))=(is,ls,E,rest)) :
  (E≠0→DrawR n e r 100000 bs 1 ([],0,E,rest))∧(E=0→is=true→DrawR n e r 100000 bs 1 (cC ds n,k,0,rest))∧(E=0→is=false→Nxt n e r bs (k+1) rest):=by
 obtain ⟨f,h1,h2⟩:=h.some hk;refine ⟨fun hE=>?_,fun hE hi=>?_,fun hE hi=>⟨f,h1,fun o ho=>?_⟩⟩
 ·exact h2 _ (.inr (.inr ⟨by omega,hg,is,ls,E,rest,hr,.inl ⟨hE,rfl⟩⟩))
 ·exact h2 _ (.inr (.inr ⟨by omega,hg,is,ls,E,rest,hr,.inr (.inl ⟨hE,hi,rfl⟩)⟩))
 ·exact h2 _ (.inr (.inr ⟨by omega,hg,is,ls,E,rest,hr,.inr (.inr ⟨hE,hi,ho⟩)⟩))

def CSt (p:Option Addr) (B n e r:Nat) (bs:List Nat) (s:Nat × List Nat) (A:World):Prop:=Lsc A p B s.2∧Digs s.2 256∧Nxt n e r bs s.1 s.2∧s.1≤100001

def CX (p:Option Addr) (B n e r:Nat) (bs:List Nat) (N:Nat) (s:Nat × List Nat) (x:Nat × Value) (A:World):Prop:=
 x.1=s.1∧s.1≤100000∧(n+7)/8≤s.2.length∧Nxt n e r bs s.1 s.2∧Digs s.2 256∧(Row .u64 A x.2 (cC s.2 n)∧∀ b,x.2.ownBlock=some b→N≤b)∧Lsc A p B (s.2.drop ((n+7)/8))

def PanR (p:Option Addr) (B n e r:Nat) (bs:List Nat) (ch:List PanicEntry) (A:World):Prop:=∃ E R,ch=[refusal ((E:Nat):Int)]∧E≠0∧DrawR n e r 100000 bs 1 ([],0,E,R)∧Lsc A p B R

theorem CX.put {p:Option Addr} {B n e r l N:Nat} {bs:List Nat} {s:Nat × List Nat} {x:Nat × Value} {A:World} {o:Obj} (o':Obj) (h:CX p B n e r bs N s x A) (hl:A.heap[l]? = some o) (ho:o.isCells=false):CX p B n e r bs N s x (A.putObj l o'):=
 ⟨h.1,h.2.1,h.2.2.1,h.2.2.2.1,h.2.2.2.2.1,⟨iM o' h.2.2.2.2.2.1.1 hl ho,h.2.2.2.2.2.1.2⟩,h.2.2.2.2.2.2.put o' hl ho⟩

theorem yF (m:Nat) (hm:1≤m) (p:Option Addr) (B n e_ r bp bb:Nat) (bs:List Nat) (w:World) (hn:16≤n) (aD:n≤4096)
  (g:Lsc w p B bs) (hp:Boxed w bp 26 (.pointer p)) (hb:Boxed w bb 3 (.int .i64 (n:Nat))) (hB:B≤w.heap.size) (lp:B≤bp) (lb:B≤bb) :
  A5 m Tryz.prog 71 #[.pointer (some ⟨bp,0,none⟩),.pointer (some ⟨bb,0,none⟩)] (fun x:Nat × Value=>#[.int .i64 (x.1:Nat),x.2]) (CX p B n e_ r bs w.heap.size) (CSt p B n e_ r bs) (fun s s'=>s'.1=s.1+1) (fun _=>PanR p B n e_ r bs) (ofP p) (1,bs) w:=by
 rintro l J Jx Jp W D ab T hJ hY h0 ac;have Z:=hp.lt;have Y:=hb.lt;have V:=aa (bC hp D);have I:=aa (bC hb D);have N:=aa h0;have P:=aa ac;have c:Hid (∀ x,ofP p x→x<B):=fun x hx=>(g.inP hx).1
 have a:Hid (B≤w.heap.size∧B≤bp∧B≤bb∧bp<w.heap.size∧bb<w.heap.size∧l=w.heap.size+1∧W.heap.size=w.heap.size+2):=⟨hB,lp,lb,Z,Y,ab,T⟩
 obtain ⟨z,hz⟩:∃ z,z=(n+7)/8:=⟨_,rfl⟩
 have aJ:z≤512:=by omega
 have HZ:=aa hz;have C:∀ W,Calls Tryz.prog 74 #[.int .i64 (n:Int),.int .i64 8] W fun e w'=>e=.returned (.int .i64 (z:Int))∧w'=W:=fun W=>oD n 8 z (by omega) aD (by omega) (by omega) W
 clear g hp hb D h0 ac hB lp lb Z Y ab T hz;refine callsIn_of_wp Tryz.func71 rfl trivial ?_ rfl;simp only [Tryz.ntmps71,List.size_toArray,List.length_cons,List.length_nil,Nat.reduceAdd,Nat.reduceSub,Array.replicate_succ,Array.replicate_zero,List.push_toArray,List.append_toArray,List.nil_append,List.cons_append];refine wpIn_wide.2 ?_;go_wp2_with fail;refine (wpIn_wide (n:=m)).1 ?_
 gi_loopw [4] (fun iv wr=>∃ (k:Nat) (ds:List Nat),iv=.int .i64 ((k:Nat):Int)∧k≤100001∧Hid (J wr)∧Hid (CSt p B n e_ r bs (k,ds) wr)∧Hid (Boxed wr bp 26 (.pointer p))∧Hid (Boxed wr bb 3 (.int .i64 (n:Nat)))∧Hid (W.heap.size≤wr.heap.size)) (fun iv _=>100002-(intOf iv).toNat)
 case atStart=>exact ⟨1,bs,rfl,by omega,N.out,P.out,V.out,I.out,leR _⟩
 case round=>
  clear N P V I;obtain ⟨k,ds,rfl,hk,HJ,HS,o,q,Q⟩:=hrel;by_cases hk1:k=100001
  ·subst hk1;have j:=fW 180 wr;have aK:=HJ
   gi_wp2_with fail
   refine ⟨trivial,?_⟩;refine (callsIn_wide.2 j).mono ?_;rintro e w3 ⟨rfl,rfl⟩;exact ⟨rfl,.inr ⟨_,rfl,.inr ⟨(0,[]),⟨180,ds,rfl,by omega,HS.out.2.2.1.many rfl,HS.out.1⟩,HJ.out⟩⟩⟩
  ·have F:k≤100000:=by omega
   have g1:¬ (k:Int) > 100000:=by omega
   have X:¬ (100000:Int)<(k:Int):=by omega
   have d1:decide ((100000:Int)<(k:Int))=false:=aC X;have j:=eZ 180 wr;have gk:IntKind.i64.wrap ((k:Int)+1)=(k:Int)+1:=by rw [IntKind.wrap_i64];omega
   clear hk hk1
   gi_wp2_with fail
   refine ⟨trivial,?_⟩;try rw [d1]
   refine (callsIn_wide.2 j).mono ?_;rintro e w3 ⟨rfl,rfl⟩;clear j g1 X d1;have cp:=o.out.cell;have cb:=q.out.cell;have g:=HS.out.1;have d:Hid (Kept af w3 w3.drew):=(ai af w3).drew;have J1:=yT p B ds z w3.drew (g.grew d.out);clear g;by_cases hlen:ds.length<z
   ·have t1:cL ds (z:Int)=150:=by unfold cL;rw [if_neg (by omega),if_pos (by omega)]
    have t2:dH ds (z:Int)=[]:=by unfold dH;rw [if_neg (by omega)];exact List.drop_of_length_le (by show _≤((z:Int)).toNat;omega)
    have t3:dt ds (z:Int)=[]:=by unfold dt;rw [t1];rfl
    rw [t1,t2,t3] at J1;have az:Hid (DrawR n e_ r 100000 bs 1 ([],0,150,[])):=HS.out.2.2.1.spent F (by show ds.length<_;have:=HZ.out;omega);clear t1 t2 t3 hlen
    gi_wp2_with fail
    refine wpIn_wide.2 ?_;have y:∀ f args w,f=74∨f=73∨f=72→(callFunc f args).run Tryz.prog w=.ok (.enter f args) w:=fun f args w h=>by
     rcases h with rfl | rfl | rfl <;> simp [go_sem]
    refine wp_region_held_drew (S:=fun w'=>w'.cell? ⟨bp,0,none⟩=some (.pointer p)∧w'.cell? ⟨bb,0,none⟩=some (.int .i64 (n:Int))) (by kernel_rfl) ⟨cp,cb⟩ (fun hS=>?_);refine wpAnyH_take (i:=0) (v:=.pointer p) rfl (by kernel_rfl) (by kernel_rfl) (by kernel_rfl) (fun _ _ _ h=>h) (.inl ⟨by rfl,fun w h=>by simp [execOp,go_sem,h.1]⟩) hS ?_;refine wpAnyH_take (i:=1) (v:=.int .i64 (n:Int)) rfl (by kernel_rfl) (by kernel_rfl) (by kernel_rfl) (fun _ _ _ h=>h) (.inl ⟨by rfl,fun w h=>by simp [execOp,go_sem,h.2]⟩) hS ?_;refine fY 2 (by kernel_rfl) rfl rfl 74 _ _ [.int .i64 (n:Int),.int .i64 8] rfl rfl (fun _ _=>y _ _ _ (.inl rfl)) (C _) ?_;rintro e w4 ⟨rfl,rfl⟩;refine .inl ⟨_,rfl,hS,?_⟩
    refine fY 3 (by kernel_rfl) rfl rfl 73 _ _ [.pointer p,.int .i64 (z:Int)] rfl rfl (fun _ _=>y _ _ _ (.inr (.inl rfl))) J1 ?_;rintro e w5 ⟨u,rfl,hO,h5,k5⟩;obtain ⟨xo,xn,xc,rfl,_⟩:=hO.row.open;have K5:=d.out.any.trans k5;have A:Hid (J w5):=hJ _ _ HJ.out (K5.mono fun _ _ e=>.inl e);have t:w5.cell? ⟨bp,0,none⟩=some (.pointer p)∧w5.cell? ⟨bb,0,none⟩=some (.int .i64 (n:Int)):=⟨(aH o.out K5 (fun e=>by have:=c.out _ e;have:=a.out;omega)).cell,(aH q.out K5 (fun e=>by have:=c.out _ e;have:=a.out;omega)).cell⟩
    refine .inl ⟨_,rfl,t,?_⟩;refine wpAnyH_take (i:=4) (v:=.slice xo xn xc) rfl (by kernel_rfl) (by kernel_rfl) (by kernel_rfl) (fun _ _ _ h=>h) (.inl ⟨by rfl,fun w h=>by simp [execOp,go_sem]⟩) t ?_;refine wpAnyH_take (i:=5) (v:=.int .i64 150) rfl (by kernel_rfl) (by kernel_rfl) (by kernel_rfl) (fun _ _ _ h=>h) (.inl ⟨by rfl,fun w h=>by simp [execOp,go_sem]⟩) t ?_;refine fY 6 (by kernel_rfl) rfl rfl 72 _ _ [.slice xo xn xc,.int .i64 150] rfl rfl (fun _ _=>y _ _ _ (.inr (.inr rfl))) (yI xo xn xc 150 (by omega) w5) ?_;rintro e w6 ⟨rfl,rfl⟩;exact .inr ⟨_,rfl,rfl,.inr ⟨_,rfl,.inr ⟨(0,[]),⟨150,[],rfl,by omega,az.out,h5⟩,A.out⟩⟩⟩
   ·have t1:cL ds (z:Int)=0:=by unfold cL;rw [if_neg (by omega),if_neg (by omega)]
    have t2:dH ds (z:Int)=ds.drop z:=by unfold dH;rw [if_neg (by omega)];rfl
    have t3:dt ds (z:Int)=ds.take z:=by unfold dt;rw [t1];rfl
    rw [t1,t2,t3] at J1;have H:=zu;have ad:Hid (Digs ds 256):=HS.out.2.1;have M:Hid (z≤ds.length):=by unfold Hid;omega
    clear t1 t2 t3 hlen
    gi_wp2_with fail
    refine wpIn_wide.2 ?_;go_region_held3 (fun w'=>w'.cell? ⟨bp,0,none⟩=some (.pointer p)∧w'.cell? ⟨bb,0,none⟩=some (.int .i64 (n:Int)))
     (((try dsimp only);(repeat' apply And.intro) <;> first | (go_keep;done) | assumption))
     (first
     | (go_at_call 72;refine (H xo xn xc w5).mono ?_;rintro e w6 ⟨rfl,rfl⟩)
     | (go_at_call 73;refine J1.mono ?_;rintro e w5 ⟨u,rfl,hO,h5,k5⟩;have ag:=hO.row;obtain ⟨xo,xn,xc,rfl,_⟩:=hO.row.open;have ar:w5.cell? ⟨bp,0,none⟩=some (.pointer p):=(aH o.out (d.out.any.trans k5) (fun e=>by have:=c.out _ e;have:=a.out;omega)).cell;have ax:w5.cell? ⟨bb,0,none⟩=some (.int .i64 (n:Int)):=(aH q.out (d.out.any.trans k5) (fun e=>by have:=c.out _ e;have:=a.out;omega)).cell)
     | (go_at_call 74;refine (C _).mono ?_;rintro e w4 ⟨rfl,rfl⟩))
    have K5:=aa (d.out.any.trans k5);have au:=aa (aH o.out K5.out (fun e=>by have:=c.out _ e;have:=a.out;omega));have O:=aa (aH q.out K5.out (fun e=>by have:=c.out _ e;have:=a.out;omega));have A:=aa (hJ _ _ HJ.out (K5.out.mono fun _ _ e=>.inl e));have aI:=aa h5;have R:=BA (.slice xo xn xc) (ds.take z) (n:Int) (by omega) (by omega) 0 (cC ds n) (by unfold py;rw [if_neg];have:=M.out;have:=HZ.out;rw [List.length_take];omega) (by rw [if_pos rfl,Int.toNat_natCast,HZ.out];rfl) w6 ag (ad.out.take _);clear J1 hO h5 k5 ag cp cb ar ax C H;have al:=O.out.cell
    gi_wp2_with fail
    refine ⟨trivial,?_⟩;refine (callsIn_wide.2 R).mono ?_;rintro e w7 ⟨v7,rfl,r7,f7,k7⟩;have aj:CX p B n e_ r bs w.heap.size (k,ds) (k,v7) w7:=⟨rfl,F,by rw [← HZ.out];exact M.out,HS.out.2.2.1,ad.out,⟨r7,fun b hb=>by have h1:=f7 b hb;have h2:=K5.out.size;have h3:=Q.out;have h4:=a.out;omega⟩,by show Lsc w7 p B (ds.drop ((n+7)/8));rw [← HZ.out];exact aI.out.grew k7⟩
    obtain ⟨fn,tmps,assign,body,hy,hR⟩:=hY (k,ds) (k,v7) w7 (hJ _ _ A.out k7.any) aj;obtain ⟨aE,aF,av,rfl,_⟩:=r7.open;have G:=AS aE aF av w7;have ah:=aa (bC au.out k7);have ae:=aa (bC O.out k7);have an:Hid (W.heap.size≤w7.heap.size):=Nat.le_trans Q.out (Nat.le_trans K5.out.size k7.size);clear R r7 f7 aj k7 al
    gi_wp2_with fail
    refine ⟨trivial,?_⟩;refine (callsIn_wide.2 G).mono ?_;rintro e w8 ⟨rfl,rfl⟩;clear G
    gi_wp2_with fail
    refine hR.mono ?_;rintro e w9 (⟨rfl,U,⟨⟨k',aq⟩,ap,ak⟩,k9⟩ | ⟨rfl,am⟩ | ⟨ch,rfl,ay⟩)
    ·have E:k'=k+1:=ap;subst E;have L:Hid (∀ x,B≤x→x<w.heap.size→¬ (ofP p x∨x=l∨x+1=l)):=fun x h1 h2 h3=>by
      have h4:=a.out;rcases h3 with h3 | h3 | h3
      ·have:=c.out _ h3;omega
      ·omega
      ·omega
     have aB:=aa (aH ah.out k9 (L.out _ (by have:=a.out;omega) (by have:=a.out;omega)));have aw:=aa (aH ae.out k9 (L.out _ (by have:=a.out;omega) (by have:=a.out;omega)));have aA:=aa U;have aG:=aa ak;have ao:Hid (W.heap.size≤w9.heap.size):=Nat.le_trans an.out k9.size;clear hR hy U ak k9 ah ae
     gi_wp2_with fail
     go_roundw
     case rel=>exact ⟨k+1,aq,by first | rfl | (rw [gk];rfl),by omega,aA,aG,aB,aw,ao⟩
     case measure=>simp [intOf];omega
    ·gi_wp2_with fail
     refine bodyPost_ret (results_none rfl _ _ _) rfl ?_;exact .inl ⟨⟨_,rfl⟩,am⟩
    ·exact ⟨rfl,.inr ⟨ch,rfl,.inl ay⟩⟩

theorem DrawR.tells {n e r:Nat}:∀ {f:Nat} {bs:List Nat} {k:Nat} {P:List Nat} {K E:Nat} {R:List Nat},DrawR n e r f bs k (P,K,E,R) →
  (E≠0∧P=[]∧K=0)∨(E=0∧k≤K∧∃ ds,P=cC ds n∧fd (dr (ds.take ((n+7)/8)) n) e)
 | 0,bs,k,P,K,E,R,h=>by
  have h':(P,K,E,R)=([],0,180,bs):=h;simp only [Prod.mk.injEq] at h';obtain ⟨rfl,rfl,rfl,rfl⟩:=h';exact .inl ⟨by omega,rfl,rfl⟩
 | f+1,bs,k,P,K,E,R,h=>by
  rcases h with ⟨_,h2⟩ | ⟨_,_,h3⟩ | ⟨_,h2,is,ls,E',rest,_,h4⟩
  ·simp only [Prod.mk.injEq] at h2;obtain ⟨rfl,rfl,rfl,rfl⟩:=h2;exact .inl ⟨by omega,rfl,rfl⟩
  ·rcases DrawR.tells h3 with g | ⟨g1,g2,g3⟩
   ·exact .inl g
   ·exact .inr ⟨g1,by omega,g3⟩
  ·rcases h4 with ⟨hE,h5⟩ | ⟨hE,_,h5⟩ | ⟨_,_,h5⟩
   ·simp only [Prod.mk.injEq] at h5;obtain ⟨rfl,rfl,rfl,rfl⟩:=h5;exact .inl ⟨hE,rfl,rfl⟩
   ·simp only [Prod.mk.injEq] at h5;obtain ⟨rfl,rfl,rfl,rfl⟩:=h5;exact .inr ⟨rfl,leR _,bs,rfl,h2⟩
   ·rcases DrawR.tells h5 with g | ⟨g1,g2,g3⟩
    ·exact .inl g
    ·exact .inr ⟨g1,by omega,g3⟩

theorem i9 (ds:List Nat) {n:Nat} (hn:16≤n):val (cC ds n)=dr (ds.take ((n+7)/8)) n:=by
 unfold cC;rw [ak];refine al (Nat.lt_of_lt_of_le (uI hn) ?_);rw [show (18446744073709551616:Nat)=2^64 from rfl,← Nat.pow_mul];exact Nat.pow_le_pow_right (by omega) (by omega)

theorem jS (bs:List Nat) {n:Nat} (hn:16≤n):∃ m s,n=m+2∧dr bs n=3*2^m+s∧s<2^m∧s%2=1∧2^m%2=0:=by
 obtain ⟨m,rfl⟩:∃ m,n=m+2:=⟨n-2,by omega⟩
 have hr:bev bs%2^m<2^m:=Nat.mod_lt _ (Nat.pow_pos (by omega));have h2:2^m%2=0:=by
  rw [show m=(m-1)+1 by omega,Nat.pow_succ];omega
 refine ⟨m,bev bs%2^m+(if bev bs%2^m%2=0 then 1 else 0),rfl,?_,?_,?_,h2⟩
 ·unfold dr;rw [show m+2-2=m by omega];omega
 ·split <;> omega
 ·split <;> omega

attribute [local go_sem] Oper.semAt_some

theorem PanR.put {p:Option Addr} {B n e r l:Nat} {bs:List Nat} {ch:List PanicEntry} {A:World} {o:Obj} (o':Obj) (h:PanR p B n e r bs ch A) (hl:A.heap[l]? = some o) (ho:o.isCells=false):PanR p B n e r bs ch (A.putObj l o'):=by
 obtain ⟨E,R,h1,h2,h3,h4⟩:=h;exact ⟨E,R,h1,h2,h3,h4.put o' hl ho⟩

def DrwEnd (w:World) (p:Option Addr) (B bP bM n e r:Nat) (bs:List Nat) (A:World):Prop:=
 ∃ v P K R,DrawR n e r 100000 bs 1 (P,K,0,R)∧(Row .u64 A v P∧∀ b,v.ownBlock=some b→w.heap.size≤b)∧Lsc A p B R∧(Box A bP v 32∧Box A bM (.int .i64 ((K:Nat):Int)) 3)∧Kept (fun x=>ofP p x∨x=bP∨x=bM) w A

theorem DrwEnd.put {w A:World} {p:Option Addr} {B bP bM n e r l:Nat} {bs:List Nat} {o:Obj} (o':Obj) (h:DrwEnd w p B bP bM n e r bs A) (hl:A.heap[l]? = some o) (ho:o.isCells=false) (hw:w.heap.size≤l) (hP:bP<w.heap.size) (hM:bM<w.heap.size):DrwEnd w p B bP bM n e r bs (A.putObj l o'):=by
 obtain ⟨v,P,K,R,h1,⟨h2,h3⟩,h4,⟨h5,h6⟩,h7⟩:=h;exact ⟨v,P,K,R,h1,⟨iM o' h2 hl ho,h3⟩,h4.put o' hl ho,⟨(World.putObj_heap_other (by omega)).trans h5,(World.putObj_heap_other (by omega)).trans h6⟩,h7.next (dF A l o') (fun x hx e=>by have e':x=l:=e;omega)⟩

theorem AT (p:Option Addr) (B bN bE bR bS bP bM n ee r:Nat) (bs:List Nat) (w:World) (hn:16≤n) (ao:n≤4096) (aP:3≤ee) (aO:ee%2≠0) (he:ee<18446744073709551616) (al:1≤r) (av:r≤100)
  (hs:Lsc w p B bs) (hd:Digs bs 256) (lN:B≤bN) (lE:B≤bE) (lR:B≤bR) (lS:B≤bS) (lP:B≤bP) (lM:B≤bM) (az:bP≠bM)
  (S:Box w bN (.int .i64 ((n:Nat):Int)) 3) (an:Box w bE (.int .u64 ((ee:Nat):Int)) 23) (aE:Box w bR (.int .i64 ((r:Nat):Int)) 3) (aw:Box w bS (.pointer p) 26) (X:Box w bP (.slice none 0 0) 32) (V:Box w bM (.int .i64 0) 3) :
  Calls Tryz.prog 37 #[.pointer (some ⟨bN,0,none⟩),.pointer (some ⟨bE,0,none⟩),.pointer (some ⟨bR,0,none⟩),.pointer (some ⟨bS,0,none⟩),.pointer (some ⟨bP,0,none⟩),.pointer (some ⟨bM,0,none⟩)] w fun e w'=>
   (e=.returned (.tuple #[])∧DrwEnd w p B bP bM n ee r bs w')∨∃ ch,e=.panicked ch∧PanR p B n ee r bs ch w'∧Kept (ofP p) w w':=by
 have P:Hid (∀ x,ofP p x→x<B):=fun x hx=>(hs.inP hx).1
 have v:∀ b,B≤b→¬ ofP p b:=fun b hb e=>by have:=P.out b e;omega
 have JB:Hid (∀ W,Kept (ofP p) w W→W.cell? ⟨bN,0,none⟩=some (.int .i64 (n:Int))∧W.cell? ⟨bE,0,none⟩=some (.int .u64 (ee:Int))∧W.cell? ⟨bR,0,none⟩=some (.int .i64 (r:Int))∧W.cell? ⟨bS,0,none⟩=some (.pointer p)):=fun W kk=>⟨(S.kept kk (v _ lN)).cell,(an.kept kk (v _ lE)).cell,(aE.kept kk (v _ lR)).cell,(aw.kept kk (v _ lS)).cell⟩
 have JO:Hid (∀ W,Kept (ofP p) w W→Box W bP (.slice none 0 0) 32∧Box W bM (.int .i64 0) 3):=fun W kk=>⟨X.kept kk (v _ lP),V.kept kk (v _ lM)⟩
 have a:Hid (B≤w.heap.size∧bP<w.heap.size∧bM<w.heap.size∧bP≠bM∧B≤bP∧B≤bM):=⟨Nat.le_of_lt (Nat.lt_of_le_of_lt lN S.lt),X.lt,V.lt,az,lP,lM⟩
 have J0:=vF (n:Int) true (by symm;exact aT ⟨by omega,by omega⟩) w;have I:=eZ 1 w;have JC:=zx p (n:Int) w;have HS:=aa hs;have HD:=aa hd;have HN:Hid (16≤n∧n≤4096):=⟨hn,ao⟩
 have aD:Hid (ee<18446744073709551616):=he;have aN:Hid (1≤r∧r≤100):=⟨al,av⟩
 obtain ⟨b0,b1,b2,b3⟩:=JB.out _ (ai _ w);have g3:¬ (ee:Int)<3:=by omega
 have g4:¬ (ee:Int)%2=0:=by omega
 have aM:¬ (ee:Int).tmod 2=0:=by rw [Int.tmod_eq_emod_of_nonneg (by omega)];omega
 have g5:¬ (r:Int)<1:=by omega
 have g6:¬ (r:Int) > 100:=by omega
 have ax:¬ (100:Int)<(r:Int):=by omega
 have d3:decide ((ee:Int)<3)=false:=aC g3;have d4:((ee:Int)%2 == 0)=false:=by simp;omega
 have d5:decide ((r:Int)<1)=false:=aC g5;have d6:decide ((r:Int) > 100)=false:=aC g6;have aJ:decide ((100:Int)<(r:Int))=false:=aC ax;clear v hs hd hn ao aP aO he al av lN lE lR lS lP lM az S an aE aw X V;refine (callsIn_wide (n:=9)).1 ?_;refine dV Tryz.func37 rfl ?_;simp only [Tryz.ntmps37,List.size_toArray,List.length_cons,List.length_nil,Nat.reduceAdd,Nat.reduceSub,Array.replicate_succ,Array.replicate_zero,List.push_toArray,List.append_toArray,List.nil_append,List.cons_append];refine ew (n:=9) fun K hK=>?_
 refine wpIn_wide.2 ?_;go_wp2_with fail;refine J0.mono ?_;rintro e w1 ⟨rfl,rfl⟩;go_wp2_with fail;refine I.mono ?_;rintro e w2 ⟨rfl,rfl⟩;go_wp2_with fail;clear J0;refine ew (n:=9) fun K hK=>?_
 refine wpIn_wide.2 ?_;go_wp2_with fail;try rw [d3]
 try rw [d4]
 refine I.mono ?_;rintro e w3 ⟨rfl,rfl⟩;go_wp2_with fail;refine ew (n:=9) fun K hK=>?_
 refine wpIn_wide.2 ?_;go_wp2_with fail;try rw [d5]
 try rw [d6]
 refine I.mono ?_;rintro e w4 ⟨rfl,rfl⟩;go_wp2_with fail;clear I g3 g4 aM g5 g6 ax d3 d4 d5 d6 aJ;refine ew (n:=9) fun K hK=>?_
 refine wpIn_wide.2 ?_;go_wp2_with fail;refine JC.mono ?_;rintro e W2 ⟨rfl,q0,q1,k2,s2⟩;have aG:=aa k2;have am:=aa (HS.out.grew k2);have d:=aa s2;have aK:=aa q0;have aR:=aa q1;clear JC k2 s2 q0 q1;go_wp2_with fail;clear b0 b1 b2 b3;refine rx ?_;refine qu (n:=9) Tryz.func37 (gf:=71) (lb:=#[.pointer (some ⟨w4.heap.size,0,none⟩),.pointer (some ⟨w4.heap.size+1,0,none⟩)]) rfl (enters_of Tryz.func71 (by kernel_rfl) rfl)
  (yF 8 (by omega) p B n ee r w4.heap.size (w4.heap.size+1) bs W2 HN.out.1 HN.out.2 am.out aK.out aR.out ?q0 ?q1 ?q2) (fun _=>rfl) ?hT (Sb:=fun b=>ofP p b∨b=bP∨b=bM) ?hSb (fun _ _ _ _ _ o' hx hl ho=>hx.put o' hl ho)
  (fun A=>Kept (ofP p) w4 A) (DrwEnd w4 p B bP bM n ee r bs) (fun ch A=>PanR p B n ee r bs ch A∧Kept (ofP p) w4 A) ?low ?lowx ?lows aG.out.any ?st0 ?act ?assign ?body ?stop ?pan
 case q0=>have:=d.out;have:=a.out;omega
 case q1=>exact a.out.1
 case q2=>have:=a.out;omega
 case hT=>
  intro b hb;have:=P.out b hb;have:=a.out;have:=d.out;omega
 case hSb=>
  have:=a.out;have:=d.out;rintro b (hb | rfl | rfl)
  ·have:=P.out b hb;omega
  ·omega
  ·omega
 case low=>
  intro A C h k;exact h.next k (fun x hx e=>by
   rcases e with e | e
   ·exact e
   ·have:=d.out;omega)
 case lowx=>
  intro A l o o' h hl hA ho;have:=a.out;have:=d.out;exact h.put o' hA ho (by omega) (by omega) (by omega)
 case lows=>
  rintro s A l o o' ⟨h1,h2⟩ hl hA ho;exact ⟨h1.put o' hA ho,h2⟩
 case st0=>
  intro W k;exact ⟨am.out.grew k,HD.out,Nxt.first _ _ _ _,by show 1≤100001;omega⟩
 case assign=>
  intro l x W K hK
  gi_wp2
  exact hK
 case stop=>
  intro D W hD h H;have hF:=h.put (.deferred none) H rfl (by have:=d.out;omega) a.out.2.1 a.out.2.2.1;refine ⟨by simp,.inl ⟨_,_,rfl,run_takeDeferred H,?_⟩⟩;refine ⟨.tuple #[],?_,.inl ⟨rfl,hF⟩⟩;simp [results,Tryz.f37,go_sem]
 case pan=>
  intro D ch W hD h H;have h':PanR p B n ee r bs ch W∧Kept (ofP p) w4 W:=by
   rcases h with h | ⟨_,h1,h2⟩
   ·exact h
   ·exact ⟨h1,h2⟩
  refine ⟨by simp,.inl ⟨_,_,rfl,run_takeDeferred H,?_⟩⟩;exact .inr ⟨ch,rfl,h'.1.put _ H rfl,h'.2.next (dF W D _) (fun x hx e=>by have e':x=D:=e;have:=d.out;omega)⟩
 case body=>
  rintro l ⟨k,ds⟩ ⟨k',xv⟩ W U hI ⟨aH,aB,Q,R,O,⟨c,m⟩,q⟩;obtain rfl:k'=k:=aH;have E:Digs (cC ds n):=ah (by omega) _ _;have L:=i9 ds HN.out.1;have T:(cC ds n).length=(n+63)/64:=ag _ _ _;obtain ⟨xo,xn,xc,rfl,ab,_⟩:=c.open;have af:xn≤999999:=by have h1:(cC ds n).length=xn:=ab.out;rw [T] at h1;have:=HN.out;omega
  obtain ⟨c0,c1,c2,c3⟩:=JB.out _ hI;have HI:=aa hI;have z:=aa c;have F:=aa q;have f:=aa m;have ap:=aa O;have aF:=aa E;have aU:=aa U;by_cases hg:fd (dr (ds.take ((n+7)/8)) n) ee
  ·have hG:=yZ xo xn xc (cC ds n) ee aD.out true (by rw [L];simp [hg]) W c E af;obtain ⟨r1,r2,r3,r4,J⟩:∃ r1 r2 r3 r4,f8 (cC ds n) (r:Int) (ds.drop ((n+7)/8))=(r1,r2,r3,r4):=⟨_,_,_,_,rfl⟩
   obtain ⟨aL,Y⟩:=gH (cC ds n) (r:Int) (ds.drop ((n+7)/8));rw [J] at Y;have aI:Hid (Digs r4 256):=by
    have e4:r4=(ds.drop ((n+7)/8)).drop aL:=Y;unfold Hid;rw [e4];exact (O.drop _).drop _
   have G:=aa (R.good aB Q hg J);have aQ:=aa J;clear hI c q m O E U R hg L T ab J Q Y
   gi_wp2_with fail
   refine ⟨trivial,?_⟩;refine (CallsIn.inRound l (callsIn_wide.2 hG)).mono ?_;rintro e w5 ⟨rfl,k5⟩;have N:=aa (HI.out.trans k5.any);have t:=aa k5;obtain ⟨d0,d1,d2,d3⟩:=JB.out _ N.out;have ay:=xE xo p xn xc B (r:Int) (cC ds n) (ds.drop ((n+7)/8)) r1 r2 r3 r4 aQ.out (by omega) (by have:=aN.out;omega) w5 (z.out.grew k5) aF.out (by omega) (F.out.grew k5) (by have:=N.out.size;have:=a.out;omega) (ap.out.drop _);clear hG k5 c0 c1 c2 c3
   gi_wp2_with fail
   refine ⟨trivial,?_⟩;refine (CallsIn.inRound l (callsIn_wide.2 ay)).mono ?_;rintro e w6 ⟨(⟨y,rfl⟩ | ⟨y,rfl⟩),Z,k6⟩
   ·have au:=aa Z;have ad:=aa k6;have ae:=aa (N.out.trans k6);have aA:=aa y;clear ay Z k6 d0 d1 d2 d3 y;cases r1 with
    | true=>
     have j:=JO.out _ ae.out;have cI:=j.1.cell;have fI:=j.1.free;have M:=j.2.other ⟨bP,0,none⟩ (fun e=>a.out.2.2.2.1 e.symm) (.slice xo xn xc);have cR:=M.cell;have fR:=M.free;have aS:=j.2.cell;have aV:=j.2.free;have g:=((z.out.grew t.out).kept' ad.out (fun _ x hx e=>by have:=P.out x e;have:=f.out x hx;have:=d.out;have:=a.out;omega))
     have i:=(g.kept' (ar w6 bP (.slice xo xn xc)) (fun _ x hx e=>by have e':x=bP:=e;have:=f.out x hx;have:=d.out;have:=a.out;omega)).kept' (ar _ bM (.int .i64 (k':Int))) (fun _ x hx e=>by have e':x=bM:=e;have:=f.out x hx;have:=d.out;have:=a.out;omega);have ak:=(au.out.box (b:=bP) a.out.2.2.2.2.1 (.slice xo xn xc)).box (b:=bM) a.out.2.2.2.2.2 (.int .i64 (k':Int));have aq:=(j.1.set (.slice xo xn xc)).other ⟨bM,0,none⟩ a.out.2.2.2.1 (.int .i64 (k':Int));have aj:=M.set (.int .i64 (k':Int))
     have ac:∀ A,Kept (ofP p) A w6→Kept (fun x=>ofP p x∨x=bP∨x=bM) A ((w6.setCell ⟨bP,0,none⟩ (.slice xo xn xc)).setCell ⟨bM,0,none⟩ (.int .i64 (k':Int))):=fun A kk=>((kk.mono (fun _ _ e=>.inl e)).next (ar w6 bP (.slice xo xn xc)) (fun _ _ e=>.inr (.inl e))).next (ar _ bM (.int .i64 (k':Int))) (fun _ _ e=>.inr (.inr e))
     have HF:Hid (Kept (fun x=>ofP p x∨x=bP∨x=bM) W ((w6.setCell ⟨bP,0,none⟩ (.slice xo xn xc)).setCell ⟨bM,0,none⟩ (.int .i64 (k':Int)))∧DrwEnd w4 p B bP bM n ee r bs ((w6.setCell ⟨bP,0,none⟩ (.slice xo xn xc)).setCell ⟨bM,0,none⟩ (.int .i64 (k':Int)))):=
      ⟨ac _ (t.out.any.trans ad.out),_,_,_,_,G.out.2.1 aA.out (by first | rfl | trivial),⟨i,fun b hb=>by have:=f.out b hb;have:=d.out;omega⟩,ak,⟨aq,aj⟩,ac _ ae.out⟩
     clear j M g i ak aq aj ac
     gi_wp2_with fail
     exact HF.out
    | false=>
     gi_wp2_with fail
     exact ⟨t.out.any.trans ad.out,(k'+1,r4),rfl,au.out,aI.out,G.out.2.2 aA.out (by first | rfl | trivial),by show k'+1≤100001;omega⟩
   ·exact ⟨rfl,(t.out.any.trans k6).mono (fun _ _ e=>.inl e),⟨r3,r4,rfl,y,G.out.1 y,Z⟩,N.out.trans k6⟩
  ·have hG:=yZ xo xn xc (cC ds n) ee aD.out false (by rw [L];simp [hg]) W c E af;have G:=aa (R.bad aB Q hg);clear hI c q m O E U R hg L T ab Q
   gi_wp2_with fail
   refine ⟨trivial,?_⟩;refine (CallsIn.inRound l (callsIn_wide.2 hG)).mono ?_;rintro e w5 ⟨rfl,k5⟩;have t:=aa k5;clear hG k5 c0 c1 c2 c3
   gi_wp2_with fail
   refine ⟨trivial,?_⟩
   gi_wp2_with fail
   exact ⟨t.out.any,(k'+1,ds.drop ((n+7)/8)),rfl,F.out.grew t.out,ap.out.drop _,G.out,by show k'+1≤100001;omega⟩

end Go.Proofs.YtcemlfokmjjiaaaGreatDoor
