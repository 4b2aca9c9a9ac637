/- Put together of: Lsc5 Nob1 Lsc6 Law20. -/
import Derived.Test.YtcemlfokmjjiaaaGreatDoorPm12

namespace Go.Proofs.YtcemlfokmjjiaaaGreatDoor
set_option maxRecDepth 100000
set_option maxHeartbeats 4000000
open Go.RowKit Go.Shelf

attribute [local go_sem] Oper.semAt_some

theorem jf {k:IntKind} {w:World} {b:Nat} {cs:Array Value} {t:TypeId} {v:Value} {xs:List Nat} (hb:w.heap[b]? = some (.cells cs t (0,0))) (hc:∀ u ∈ cs,∀ z,u≠.int k z) (hv:Row k w v xs) (hx:xs≠[]):v.ownBlock≠some b:=by
 intro e;obtain ⟨ao,L,cap,rfl,hL,_,_,_,c⟩:=hv.open;have d:0<L:=by
  rw [← hL.out];exact List.length_pos_iff.2 hx
 obtain ⟨b',off,rfl,a⟩:=c 0 d;cases e
 rw [cell_of_row w b' (off+0) _ _ _ hb] at a;exact hc _ (Array.mem_of_getElem? a) _ rfl

theorem Lsc.apart {k:IntKind} {w:World} {p:Option Addr} {B:Nat} {bs xs:List Nat} {v:Value} (h:Lsc w p B bs) (hv:Row k w v xs) (hx:xs≠[]) (hk:k≠.i64:=by decide):∀ x,v.ownBlock=some x→¬ ofP p x:=by
 intro x e hp;rcases h with ⟨rfl,_⟩ | ⟨b,v',ps,pl,rfl,_,h⟩
 ·cases hp
 ·cases hp
  refine jf h.1 ?_ hv hx e;obtain ⟨_,_,rfl,_⟩:=h.2.1;intro u hu z;simp at hu;rcases hu with rfl | rfl
  ·simp
  ·intro e;cases e
   exact hk rfl

theorem gZ {w:World} {b:Nat} {t:TypeId} {u v:Value} {xs:List Nat} (hb:Boxed w b t u) (hu:∀ z,u≠.int .u64 z) (hv:Row .u64 w v xs) (hx:xs≠[]):v.ownBlock≠some b:=
 jf hb (fun y hy z=>by simp at hy;rw [hy];exact hu z) hv hx

structure BtwB (w W:World) (p:Option Addr) (v:Value) (gm gx gk ge:Nat):Prop where
 mb:Boxed W gm 32 v
 xb:Boxed W gx 32 (.slice none 0 0)
 kb:Boxed W gk 3 (.int .i64 0)
 eb:Boxed W ge 33 (.int .i64 0)
 old:Kept (ofP p) w W

theorem BtwB.kept {S:Nat→Prop} {w W W':World} {p:Option Addr} {v:Value} {gm gx gk ge:Nat} (b:BtwB w W p v gm gx gk ge) (k:Kept S W W') (h0:¬ S gm) (h1:¬ S gx) (h2:¬ S gk) (h3:¬ S ge) (ho:∀ x,x<w.heap.size→S x→ofP p x):BtwB w W' p v gm gx gk ge:=
 ⟨aL b.mb k h0,aL b.xb k h1,aL b.kb k h2,aL b.eb k h3,b.old.next k ho⟩

structure EndB (w W:World) (p:Option Addr) (B:Nat) (gx gk ge:Nat) (X:List Nat) (K E:Nat) (r:List Nat) (u:Value):Prop where
 xb:Boxed W gx 32 u
 kb:Boxed W gk 3 (.int .i64 (K:Nat))
 eb:Boxed W ge 33 (.int .i64 (E:Nat))
 row:Row .u64 W u X
 scr:Lsc W p B r
 old:Kept (ofP p) w W
 new:∀ b,u.ownBlock=some b→w.heap.size≤b

theorem EndB.put {w W:World} {p:Option Addr} {B gx gk ge K E l:Nat} {X r:List Nat} {u:Value} {o:Obj} (o':Obj) (h:EndB w W p B gx gk ge X K E r u) (hl:W.heap[l]? = some o) (ho:o.isCells=false) (hw:w.heap.size≤l):EndB w (W.putObj l o') p B gx gk ge X K E r u:=by
 have a:∀ {b:Nat} {t:TypeId} {v:Value},Boxed W b t v→Boxed (W.putObj l o') b t v:=fun {b t v} hb=>(World.putObj_heap_other fun e=>by
  subst e;have c:W.heap[_]? = some (Obj.cells _ _ _):=hb;rw [hl] at c;cases c
  cases ho).trans hb
 exact ⟨a h.xb,a h.kb,a h.eb,iJ o' h.row hl ho,h.scr.put o' hl ho,h.old.next (dS W l o') (fun x hx e=>by
  have e':x=l:=e;omega),h.new⟩

theorem ep {w:World} {b:Nat} {t:TypeId} {v:Value} (h:Boxed w b t v) (c:Nat) (u:Value) (d:b≠c):Boxed (w.setCell ⟨c,0,none⟩ u) b t v:=dF (a:=⟨c,0,none⟩) h d u

theorem BtwB.ends {w W:World} {p:Option Addr} {v u:Value} {gm gx gk ge B:Nat} {X r:List Nat} (I:BtwB w W p v gm gx gk ge) (a:Row .u64 W u X) (d:∀ b,u.ownBlock=some b→w.heap.size≤b) (f:Lsc W p B r) (n1:gx≠gk) (n2:gx≠ge) (n3:gk≠ge) (lx:w.heap.size≤gx) (lk:w.heap.size≤gk) (le:w.heap.size≤ge) (hB:B≤w.heap.size) (K E:Nat) :
  EndB w (((W.setCell ⟨gx,0,none⟩ u).setCell ⟨gk,0,none⟩ (.int .i64 (K:Nat))).setCell ⟨ge,0,none⟩ (.int .i64 (E:Nat))) p B gx gk ge X K E r u∧Kept (fun b=>b=gx∨b=gk∨b=ge) W (((W.setCell ⟨gx,0,none⟩ u).setCell ⟨gk,0,none⟩ (.int .i64 (K:Nat))).setCell ⟨ge,0,none⟩ (.int .i64 (E:Nat))):=by
 have kS:Kept (fun b=>b=gx∨b=gk∨b=ge) W (((W.setCell ⟨gx,0,none⟩ u).setCell ⟨gk,0,none⟩ (.int .i64 (K:Nat))).setCell ⟨ge,0,none⟩ (.int .i64 (E:Nat))):=
  (((ah _ _).setCell ⟨gx,0,none⟩ (fun _=>.inl rfl) _).setCell ⟨gk,0,none⟩ (fun _=>.inr (.inl rfl)) _).setCell ⟨ge,0,none⟩ (fun _=>.inr (.inr rfl)) _
 have x1:Boxed (W.setCell ⟨gx,0,none⟩ u) gx 32 u:=I.xb.set u;have k1:=ep I.kb gx u n1.symm;have e1:=ep I.eb gx u n2.symm;have x2:=ep x1 gk (.int .i64 (K:Nat)) n1;have k2:Boxed _ gk 3 (.int .i64 (K:Nat)):=k1.set (.int .i64 (K:Nat));have e2:=ep e1 gk (.int .i64 (K:Nat)) n3.symm;have x3:=ep x2 ge (.int .i64 (E:Nat)) n2;have k3:=ep k2 ge (.int .i64 (E:Nat)) n3;have e3:Boxed _ ge 33 (.int .i64 (E:Nat)):=e2.set (.int .i64 (E:Nat));refine ⟨⟨x3,k3,e3,a.kept' kS ?_,f.kept kS ?_,I.old.next kS ?_,d⟩,kS⟩
 ·rintro c x hx (rfl | rfl | rfl)
  ·exact gZ I.xb (fun z e=>by cases e) a c hx
  ·exact gZ I.kb (fun z e=>by cases e) a c hx
  ·exact gZ I.eb (fun z e=>by cases e) a c hx
 ·rintro x hx (e | e | e) <;> omega
 ·rintro x hx (e | e | e) <;> omega

def BelK (M t z:Nat) (bs:List Nat) (k:Nat):Prop:=∃ f,(bs.drop (k*z)).length<f∧dR M t z (bs.length+1) bs 1=dR M t z f (bs.drop (k*z)) (k+1)

theorem BelK.zero (M t z:Nat) (bs:List Nat):BelK M t z bs 0:=⟨bs.length+1,by simp,by simp⟩

theorem BelK.step {M t z k:Nat} {bs:List Nat} (h:BelK M t z bs k) (hz:0<z) (hl:(k+1)*z≤bs.length) :
  (0<kM t z bs k∧kM t z bs k<M∧dR M t z (bs.length+1) bs 1=(kM t z bs k,k+1,bs.drop ((k+1)*z)))∨(¬ (0<kM t z bs k∧kM t z bs k<M)∧BelK M t z bs (k+1)):=by
 obtain ⟨f,hf,e⟩:=h;have hd:(bs.drop (k*z)).drop z=bs.drop ((k+1)*z):=by rw [List.drop_drop,Nat.succ_mul]
 have a:¬ (bs.drop (k*z)).length<z:=by rw [List.length_drop];rw [Nat.succ_mul] at hl;omega
 rcases im (M:=M) (t:=t) (k:=k+1) hf hz with ⟨h1,_⟩ | ⟨_,h2,h3⟩ | ⟨_,h2,f',hf',h3⟩
 ·exact absurd h1 a
 ·rw [hd] at h3;exact .inl ⟨h2.1,h2.2,e.trans h3⟩
 ·rw [hd] at h3 hf';exact .inr ⟨h2,f',hf',e.trans h3⟩

theorem BelK.spent {M t z k:Nat} {bs:List Nat} (h:BelK M t z bs k) (hz:0<z) (h0:k*z≤bs.length) (hl:bs.length<(k+1)*z):dR M t z (bs.length+1) bs 1=(0,0,[]):=by
 obtain ⟨f,hf,e⟩:=h;have a:(bs.drop (k*z)).length<z:=by rw [List.length_drop];rw [Nat.succ_mul] at hl;omega
 rcases im (M:=M) (t:=t) (k:=k+1) hf hz with ⟨_,h3⟩ | ⟨h1,_⟩ | ⟨h1,_⟩
 ·exact e.trans h3
 ·exact absurd a h1
 ·exact absurd a h1

theorem ll (p:Option Addr) (B:Nat) (bs xs:List Nat) (v:Value) (w:World) (h:Lsc w p B bs) (hv:Row .u64 w v xs) (hd:Digs xs) (hl:xs.length≤1000000) (a:300<xs.length∨val xs<2) :
  Calls Tryz.prog 169 #[.pointer p,v] w fun e w'=>e=.returned (.tuple #[.slice none 0 0,.int .i64 0,.int .i64 (cf xs bs:Nat)])∧Lsc w' p B bs∧Kept af w w':=by
 have HS:=aa h;have JB:=aa fun W (k:Kept af w W)=>dY v xs W (hv.grew k) hd (by omega)
 obtain ⟨ao,L,cap,rfl,hL,i,d,f,_⟩:=hv.open;have j:L≤1000000:=by have:=hL.out;omega
 have bM:=(((Boxed.new w 32 (.slice ao L cap)).alloc (.cells #[.slice none 0 0] 32)).alloc (.cells #[.int .i64 0] 3)).alloc (.cells #[.int .i64 0] 33);have bR:∀ E:Int,((((w.alloc (.cells #[.slice ao L cap] 32)).alloc (.cells #[.slice none 0 0] 32)).alloc (.cells #[.int .i64 0] 3)).alloc (.cells #[.int .i64 E] 33)).cell? ⟨w.heap.size+1,0,none⟩=some (.slice none 0 0) ∧
   ((((w.alloc (.cells #[.slice ao L cap] 32)).alloc (.cells #[.slice none 0 0] 32)).alloc (.cells #[.int .i64 0] 3)).alloc (.cells #[.int .i64 E] 33)).cell? ⟨w.heap.size+1+1,0,none⟩=some (.int .i64 0) ∧
   ((((w.alloc (.cells #[.slice ao L cap] 32)).alloc (.cells #[.slice none 0 0] 32)).alloc (.cells #[.int .i64 0] 3)).alloc (.cells #[.int .i64 E] 33)).cell? ⟨w.heap.size+1+1+1,0,none⟩=some (.int .i64 E):=fun E=>by
  have bX:=(((Boxed.new (w.alloc (.cells #[.slice ao L cap] 32)) 32 (.slice none 0 0)).alloc (.cells #[.int .i64 0] 3)).alloc (.cells #[.int .i64 E] 33)).cell;have bK:=((Boxed.new ((w.alloc (.cells #[.slice ao L cap] 32)).alloc (.cells #[.slice none 0 0] 32)) 3 (.int .i64 0)).alloc (.cells #[.int .i64 E] 33)).cell;have bE:=(Boxed.new (((w.alloc (.cells #[.slice ao L cap] 32)).alloc (.cells #[.slice none 0 0] 32)).alloc (.cells #[.int .i64 0] 3)) 33 (.int .i64 E)).cell;simp only [World.size_alloc] at bX bK bE;exact ⟨bX,bK,bE⟩
 have kR:∀ E:Int,Kept af w ((((w.alloc (.cells #[.slice ao L cap] 32)).alloc (.cells #[.slice none 0 0] 32)).alloc (.cells #[.int .i64 0] 3)).alloc (.cells #[.int .i64 E] 33)):=fun E=>((((ah af w).alloc _).alloc _).alloc _).alloc _
 have cM:=bM.cell;have c:=aa bR;have b:=aa kR;clear bR kR;by_cases h1:300<L
 ·have e1:cf xs bs=2:=by unfold cf;rw [hL.out,if_pos h1]
  rw [e1];have g1:(L:Int) > 300:=by omega
  have g2:(300:Int)<(L:Int):=by omega
  clear e1 a JB bM h hv hd;go_enter Tryz.func169,Tryz.ntmps169;go_wp2_with fail;obtain ⟨q1,q2,q3⟩:=c.out 2;refine bodyPost_ret (v:=.tuple #[.slice none 0 0,.int .i64 0,.int .i64 2]) (by simp [results,Tryz.results169,go_sem,q1,q2,q3]) rfl ?_;exact ⟨rfl,HS.out.grew (b.out 2),b.out 2⟩
 ·have hV:val xs<2:=by
   have:=hL.out;rcases a with h | h
   ·omega
   ·exact h
  have e1:cf xs bs=1:=by unfold cf;rw [hL.out,if_neg h1,if_pos hV]
  rw [e1];have g1:¬ (L:Int) > 300:=by omega
  have g2:¬ (300:Int)<(L:Int):=by omega
  have g:aw (val xs)≤1:=(aB _ 1).2 (by omega);generalize aw (val xs)=t at *;have g3:(t:Int)<2:=by omega
  clear e1 a hV bM h hv hd;go_enter Tryz.func169,Tryz.ntmps169;go_wp2_with fail;refine (JB.out _ (b.out 0)).mono ?_;rintro e w1 ⟨rfl,rfl⟩;clear JB;obtain ⟨p1,p2,p3⟩:=c.out 0;go_wp2_with fail;obtain ⟨q1,q2,q3⟩:=c.out 1;refine bodyPost_ret (v:=.tuple #[.slice none 0 0,.int .i64 0,.int .i64 1]) (by simp [results,Tryz.results169,go_sem,q1,q2,q3]) rfl ?_;exact ⟨rfl,HS.out.grew (b.out 1),b.out 1⟩

theorem qC (p:Option Addr) (B:Nat) (bs xs:List Nat) (v:Value) (w:World) (h:Lsc w p B bs) (hB:B≤w.heap.size) (aL:Digs bs 256) (hv:Row .u64 w v xs) (hd:Digs xs) (hl:xs.length≤300) (U:2≤val xs) :
  Calls Tryz.prog 169 #[.pointer p,v] w fun e w'=>∃ u,e=.returned (.tuple #[u,.int .i64 (fq xs bs:Nat),.int .i64 (cf xs bs:Nat)])∧(Row .u64 w' u (dz xs bs)∧∀ b,u.ownBlock=some b→w.heap.size≤b)∧Lsc w' p B (dD xs bs)∧Kept (ofP p) w w':=by
 obtain ⟨M,hM⟩:∃ M,M=val xs:=⟨_,rfl⟩
 obtain ⟨t,ht⟩:∃ t,t=aw M:=⟨_,rfl⟩
 obtain ⟨z,hz⟩:∃ z,z=(t+7)/8:=⟨_,rfl⟩
 rw [← hM] at U;have ay:M<18446744073709551616^xs.length:=by rw [hM];exact ar (by omega) hd
 have au:t≤64*xs.length:=by rw [ht,hM];exact nJ hd
 have ba:2≤t:=by
  have:=(aB M 1).1;rw [← ht] at this;by_cases h1:t≤1
  ·have:=this h1;omega
  ·omega
 have N:xs≠[]:=by
  rintro rfl;have:val []=0:=rfl;omega
 have aT:Hid (∀ x,v.ownBlock=some x→¬ ofP p x):=h.apart hv N;have G:Hid (∀ W,Kept (ofP p) w W→Row .u64 W v xs):=fun W k=>hv.kept' k (fun _=>aT.out)
 have JB:=aa fun W (k:Kept (ofP p) w W)=>dY v xs W (G.out W k) hd (by omega)
 have JC:=aa fun u ys W (k:Kept (ofP p) w W) (hu:Row .u64 W u ys) (hdu:Digs ys)=>gY u v ys xs W hu (G.out W k) hdu hd
 rw [← hM] at JB JC;rw [← ht] at JB;have aG:Hid (∀ x,ofP p x→x<B):=fun x hx=>(h.inP hx).1
 have I:Hid (iT M bs=dR M t z (bs.length+1) bs 1):=by unfold Hid iT;rw [← ht,← hz]
 have HE:Hid (cf xs bs=if (dR M t z (bs.length+1) bs 1).1=0 then 150 else 0):=by
  unfold Hid cf;rw [if_neg (by omega),if_neg (by rw [← hM];omega),← hM,I.out]
 have HX:Hid (dz xs bs=if cf xs bs=0 then ai (dR M t z (bs.length+1) bs 1).1 xs.length else []):=by unfold Hid dz;rw [← hM,I.out]
 have aK:Hid (fq xs bs=if cf xs bs=0 then (dR M t z (bs.length+1) bs 1).2.1 else 0):=by unfold Hid fq;rw [← hM,I.out]
 have aE:Hid (dD xs bs=(dR M t z (bs.length+1) bs 1).2.2):=by unfold Hid dD;rw [if_neg (by rw [← hM];omega),← hM,I.out]
 obtain ⟨ao,L,cap,rfl,hL,a4,a5,aV,_⟩:=hv.open;have a0:L≤300:=by have:=hL.out;omega
 have g1:¬ (L:Int) > 300:=by omega
 have a6:¬ (300:Int)<(L:Int):=by omega
 have g2:¬ (t:Int)<2:=by omega
 rw [hL.out] at au ay HX;have HL:=aa hL.out;have HS:=aa h;have HZ:=aa hz;have aq:1≤z:=by omega
 have a8:t≤19200:=by omega
 have Q:Hid (2≤M∧M<18446744073709551616^L∧t=aw M∧t≤64*L):=⟨U,ay,ht,au⟩
 have aY:=aa aL;have g:=aa hB;clear hv hd hl U ay ht hz au N aV hL h hM I aL hB;refine (callsIn_wide (n:=9)).1 ?_;refine callsIn_of_wp_marks Tryz.func169 rfl trivial ?_ rfl;simp only [Tryz.ntmps169,List.size_toArray,List.length_cons,List.length_nil,Nat.reduceAdd,Nat.reduceSub,Array.replicate_succ,Array.replicate_zero,List.push_toArray,List.append_toArray,List.nil_append,List.cons_append];refine wpIn_wide.2 ?_;have bM:=(((Boxed.new w 32 (.slice ao L cap)).alloc (.cells #[.slice none 0 0] 32)).alloc (.cells #[.int .i64 0] 3)).alloc (.cells #[.int .i64 0] 33)
 have bX:=((Boxed.new (w.alloc (.cells #[.slice ao L cap] 32)) 32 (.slice none 0 0)).alloc (.cells #[.int .i64 0] 3)).alloc (.cells #[.int .i64 0] 33);have bK:=(Boxed.new ((w.alloc (.cells #[.slice ao L cap] 32)).alloc (.cells #[.slice none 0 0] 32)) 3 (.int .i64 0)).alloc (.cells #[.int .i64 0] 33);have bE:=Boxed.new (((w.alloc (.cells #[.slice ao L cap] 32)).alloc (.cells #[.slice none 0 0] 32)).alloc (.cells #[.int .i64 0] 3)) 33 (.int .i64 0);have kA:Kept af w ((((w.alloc (.cells #[.slice ao L cap] 32)).alloc (.cells #[.slice none 0 0] 32)).alloc (.cells #[.int .i64 0] 3)).alloc (.cells #[.int .i64 0] 33)):=((((ah af w).alloc _).alloc _).alloc _).alloc _
 have sA:((((w.alloc (.cells #[.slice ao L cap] 32)).alloc (.cells #[.slice none 0 0] 32)).alloc (.cells #[.int .i64 0] 3)).alloc (.cells #[.int .i64 0] 33)).heap.size=w.heap.size+4:=by simp
 simp only [World.size_alloc] at bX bK bE;have cM:=bM.cell;go_wp2_with fail;refine (JB.out _ kA.any).mono ?_;rintro e w1 ⟨rfl,rfl⟩;generalize (((w.alloc (.cells #[.slice ao L cap] 32)).alloc (.cells #[.slice none 0 0] 32)).alloc (.cells #[.int .i64 0] 3)).alloc (.cells #[.int .i64 0] 33)=W1 at *;obtain ⟨gm,R⟩:∃ gm,gm=w.heap.size:=⟨_,rfl⟩
 obtain ⟨gx,az⟩:∃ gx,gx=w.heap.size+1:=⟨_,rfl⟩
 obtain ⟨gk,an⟩:∃ gk,gk=w.heap.size+1+1:=⟨_,rfl⟩
 obtain ⟨ge,ap⟩:∃ ge,ge=w.heap.size+1+1+1:=⟨_,rfl⟩
 rw [← ap] at bE ⊢;rw [← an] at bK ⊢;rw [← az] at bX ⊢;rw [← R] at bM cM ⊢;have HG:Hid (gm=w.heap.size∧gx=w.heap.size+1∧gk=w.heap.size+2∧ge=w.heap.size+3∧W1.heap.size=w.heap.size+4):=⟨R,az,an,ap,sA⟩
 have aI:Hid (BtwB w W1 p (.slice ao L cap) gm gx gk ge):=⟨bM,bX,bK,bE,kA.any⟩
 have aN:=aa (HS.out.grew kA);have JD:=AO p t L W1 (by omega);rw [← HZ.out] at JD;clear R az an ap bM bX bK bE sA HS kA;go_wp2_with fail;refine JD.mono ?_;rintro e W2 ⟨rfl,b0,b1,b2,b3,k2,s2⟩;have aD:=aa (aI.out.kept k2 (fun f=>f) (fun f=>f) (fun f=>f) (fun f=>f) (fun _ _ f=>f.elim));have ad:=aa (aN.out.grew k2);obtain ⟨n1,aM⟩:∃ n1,n1=W1.heap.size:=⟨_,rfl⟩
 rw [← aM] at b0 b1 b2 b3 s2 ⊢;have a:Hid (gm=w.heap.size∧gx=w.heap.size+1∧gk=w.heap.size+2∧ge=w.heap.size+3∧n1=w.heap.size+4∧W2.heap.size=w.heap.size+8):=by have:=HG.out;refine ⟨?_,?_,?_,?_,?_,?_⟩ <;> omega
 clear JD k2 aI aN HG aM cM s2;go_wp2_with fail;refine (wpIn_wide (n:=9)).1 ?_;obtain ⟨sh,aS⟩:∃ sh,sh=8*z-t:=⟨_,rfl⟩
 have T:t+sh=8*z:=by have:=HZ.out;omega
 have ae:sh<8:=by have:=HZ.out;omega
 clear aS;refine jZ (n:=9) (by omega) (gf:=239) (lb:=#[.pointer (some ⟨n1,0,none⟩),.pointer (some ⟨n1+3,0,none⟩),.pointer (some ⟨n1+1,0,none⟩),.pointer (some ⟨n1+2,0,none⟩)]) rfl (enters_of Tryz.func239 (by kernel_rfl) rfl)
  (xT 8 (by omega) p B t z sh L n1 (n1+3) (n1+1) (n1+2) bs W2 (fun b=>b=gx∨b=gk∨b=ge) aq T ae a0 Q.out.2.2.2 ad.out aY.out b0 b3 b1 b2 ?q0 ?q1 ?q2 ?q3 ?q4 ?q5 ?q6 ?q7 ?q8 ?q9) (fun _=>rfl) ?hSb ?hT (fun _ _ _ _ _ o' hx hl ho=>hx.put o' hl ho)
  (fun r W=>Hid (BelK M t z bs r.length)∧Hid (BtwB w W p (.slice ao L cap) gm gx gk ge)) (fun c _ W=>c=.ret∧∃ u,EndB w W p B gx gk ge (dz xs bs) (fq xs bs) (cf xs bs) (dD xs bs) u)
  ?low ?lowx ?lows ⟨BelK.zero _ _ _ _,aD.out⟩ ?act ?assign ?body ?done ?stop
 case q0=>have:=a.out;have:=g.out;omega
 case q1=>have:=a.out;have:=g.out;omega
 case q2=>have:=a.out;have:=g.out;omega
 case q3=>have:=a.out;have:=g.out;omega
 case q4=>have:=a.out;have:=g.out;omega
 case q5=>
  have:=a.out;have:=g.out;rintro b (rfl | rfl | rfl) <;> omega
 case q6=>have:=a.out;omega
 case q7=>have:=a.out;omega
 case q8=>have:=a.out;omega
 case q9=>have:=a.out;omega
 case hSb=>
  have:=a.out;rintro b (rfl | rfl | rfl) <;> omega
 case hT=>
  intro b hb;have:=aG.out b hb;have:=a.out;have:=g.out;omega
 case low=>
  rintro s A C ⟨h1,h2⟩ k;have:=a.out;have:=g.out;have P:∀ x,w.heap.size≤x→x<W2.heap.size→¬ (ofP p x∨W2.heap.size≤x):=fun x h3 h4=>by
   rintro (e | e)
   ·have:=aG.out x e;omega
   ·omega
  exact ⟨h1,h2.out.kept k (P _ (by omega) (by omega)) (P _ (by omega) (by omega)) (P _ (by omega) (by omega)) (P _ (by omega) (by omega)) (fun x hx e=>by
   rcases e with e | e
   ·exact e
   ·omega)⟩
 case lowx=>
  rintro c s A l o o' ⟨h1,u,h2⟩ hl hA ho;have:=a.out;exact ⟨h1,u,h2.put o' hA ho (by omega)⟩
 case lows=>
  rintro s A l o o' ⟨h1,h2,h3⟩ hl hA ho;exact ⟨h1,h2,h3.put o' hA ho⟩
 case assign=>
  intro l x W K hK
  gi_wp2
  exact hK
 case body=>
  rintro l r ⟨j,xv⟩ W ⟨hK,hI⟩ ⟨hj,ak,⟨J,O⟩,H⟩;have a7:1≤L:=by
   have h1:=Q.out.1;have h2:=Q.out.2.1;cases L with
   | zero=>simp at h2;omega
   | succ n=>omega
  obtain ⟨V,hV⟩:∃ V,V=kM t z bs r.length:=⟨_,rfl⟩
  have aJ:j=r.length+1:=hj;have d:Row .u64 W xv (ai V L):=by rw [hV];exact J
  have aP:V<18446744073709551616^L:=by
   rw [hV];refine Nat.lt_of_lt_of_le (Nat.mod_lt _ (Nat.pow_pos (by omega))) ?_;rw [show (18446744073709551616:Nat)=2^64 from rfl,← Nat.pow_mul];exact Nat.pow_le_pow_right (by omega) Q.out.2.2.2
  have m:=dY xv _ W d (aj (by omega) V L) (by rw [ag];omega);have q:=JC.out xv _ W hI.out.old d (aj (by omega) V L);rw [al,am aP] at m q;have X:=aa d;have ab:=aa H;have av:Hid (∀ b,xv.ownBlock=some b→w.heap.size≤b):=fun b hb=>by have h1:=O b hb;have h2:=a.out;omega
  have ax:=aa hI.out;have aO:=hK.out.step aq ak;rw [← hV] at aO;obtain ⟨nb,aA⟩:∃ nb,nb=aw V:=⟨_,rfl⟩
  rw [← aA] at m;have i:nb=0↔V=0:=by
   have:=aB V 0;rw [← aA] at this;simp at this;exact this
  have a9:Hid (ai V L≠[]):=fun e=>by
   have:=congrArg List.length e;rw [ag] at this;simp at this;omega
  obtain ⟨xo,xn,xc,rfl,_⟩:=d.open;have cM:=hI.out.mb.cell;have a1:=aa aJ;clear O J d H hI hK hj aJ hV aP aA aD b0 b1 b2 b3 ad;rcases aO with ⟨h1,h2,h3⟩ | ⟨h1,h2⟩
  ·have g3:(nb:Int) > 0:=by omega
   have a2:(0:Int)<(nb:Int):=by omega
   rw [bu h2] at q;have e1:cf xs bs=0:=by rw [HE.out,h3,if_neg (by show ¬ V=0;omega)]
   have e2:dz xs bs=ai V L:=by rw [HX.out,if_pos e1,h3]
   have e3:fq xs bs=j:=by rw [aK.out,if_pos e1,h3];exact a1.out.symm
   have e4:dD xs bs=bs.drop ((r.length+1)*z):=by rw [aE.out,h3]
   have aZ:Hid (cf xs bs=0∧dz xs bs=ai V L∧fq xs bs=j∧dD xs bs=bs.drop ((r.length+1)*z)):=⟨e1,e2,e3,e4⟩
   clear h1 h2 h3 e1 e2 e3 e4 i
   gi_wp2_with fail
   refine ⟨trivial,?_⟩;refine (CallsIn.inRound l (callsIn_wide.2 m)).mono ?_;rintro e w1 ⟨rfl,rfl⟩
   gi_wp2_with fail
   refine ⟨trivial,?_⟩;refine (CallsIn.inRound l (callsIn_wide.2 q)).mono ?_;rintro e w2 ⟨rfl,k2⟩;have I2:=aa (ax.out.kept k2 (fun f=>f) (fun f=>f) (fun f=>f) (fun f=>f) (fun _ _ f=>f.elim));have R2:=aa (X.out.grew k2);have S2:=aa (ab.out.grew k2);have cx:=I2.out.xb.cell;have fx:=I2.out.xb.frozen;have ck:=I2.out.kb.cell;have fk:=I2.out.kb.frozen;have ce:=I2.out.eb.cell;have fe:=I2.out.eb.frozen;have aC:gx≠gk∧gx≠ge∧gk≠ge:=by have:=a.out;omega
   obtain ⟨Z,ac,Y⟩:=aC;obtain ⟨aQ,kS⟩:=I2.out.ends R2.out av.out S2.out Z ac Y (by have:=a.out;omega) (by have:=a.out;omega) (by have:=a.out;omega) g.out j 0;have a3:Hid (EndB w (((w2.setCell ⟨gx,0,none⟩ (.slice xo xn xc)).setCell ⟨gk,0,none⟩ (.int .i64 (j:Int))).setCell ⟨ge,0,none⟩ (.int .i64 0)) p B gx gk ge (dz xs bs) (fq xs bs) (cf xs bs) (dD xs bs) (.slice xo xn xc)):=by
    obtain ⟨q1,q2,q3,q4⟩:=aZ.out;rw [q1,q2,q3,q4];exact aQ
   have aW:Hid (Kept (fun b=>b=gx∨b=gk∨b=ge) w1 (((w2.setCell ⟨gx,0,none⟩ (.slice xo xn xc)).setCell ⟨gk,0,none⟩ (.int .i64 (j:Int))).setCell ⟨ge,0,none⟩ (.int .i64 0))):=(k2.any).trans kS;clear m q k2 kS aQ
   gi_wp2_with fail
   exact ⟨aW.out,rfl,_,a3.out⟩
  ·have HN:Hid (BelK M t z bs (r ++ [(j,Value.slice xo xn xc)]).length):=by unfold Hid;rw [List.length_append];exact h2
   by_cases hV0:V=0
   ·obtain rfl:=i.2 hV0;clear h1 h2 i hV0 q
    gi_wp2_with fail
    refine ⟨trivial,?_⟩;refine (CallsIn.inRound l (callsIn_wide.2 m)).mono ?_;rintro e w1 ⟨rfl,rfl⟩;clear m
    gi_wp2_with fail
    refine ⟨trivial,?_⟩
    gi_wp2_with fail
    exact ⟨ah _ _,HN,ax⟩
   ·have g3:(nb:Int) > 0:=by omega
    have a2:(0:Int)<(nb:Int):=by omega
    obtain ⟨C,hC⟩:∃ C,C=aH V M:=⟨_,rfl⟩
    rw [← hC] at q;have g4:¬ C<0:=by
     rw [hC];unfold aH;rw [if_neg (by omega)]
     split <;> omega
    clear h1 h2 i hV0 hC
    gi_wp2_with fail
    refine ⟨trivial,?_⟩;refine (CallsIn.inRound l (callsIn_wide.2 m)).mono ?_;rintro e w1 ⟨rfl,rfl⟩
    gi_wp2_with fail
    refine ⟨trivial,?_⟩;refine (CallsIn.inRound l (callsIn_wide.2 q)).mono ?_;rintro e w2 ⟨rfl,k2⟩;have I2:=aa (ax.out.kept k2 (fun f=>f) (fun f=>f) (fun f=>f) (fun f=>f) (fun _ _ f=>f.elim));have aU:=aa (k2.any (S:=fun b=>b=gx∨b=gk∨b=ge));clear m q k2
    gi_wp2_with fail
    exact ⟨aU.out,HN,I2⟩
 case done=>
  rintro D s W hD ⟨h0,h1,aF⟩ ⟨hK,hI⟩ F;have hf:=hK.out.spent aq h0 h1;have e1:cf xs bs=150:=by rw [HE.out,hf];rfl
  have e2:dz xs bs=[]:=by rw [HX.out,e1];rfl
  have e3:fq xs bs=0:=by rw [aK.out,e1];rfl
  have e4:dD xs bs=[]:=by rw [aE.out,hf]
  have aX:Hid (cf xs bs=150∧dz xs bs=[]∧fq xs bs=0∧dD xs bs=[]):=⟨e1,e2,e3,e4⟩
  have cx:=hI.out.xb.cell;have fx:=hI.out.xb.frozen;have ck:=hI.out.kb.cell;have fk:=hI.out.kb.frozen;have ce:=hI.out.eb.cell;have fe:=hI.out.eb.frozen;have aC:gx≠gk∧gx≠ge∧gk≠ge:=by have:=a.out;omega
  obtain ⟨Z,ac,Y⟩:=aC;obtain ⟨E,kS⟩:=hI.out.ends (u:=.slice none 0 0) (Row.nil _ _) (fun b hb=>by cases hb) aF Z ac Y (by have:=a.out;omega) (by have:=a.out;omega) (by have:=a.out;omega) g.out 0 150;have y:=(kS.block D (lt_of_block F) (by have:=a.out;rintro (e | e | e) <;> omega)).trans F;have HF:Hid (EndB w ((((W.setCell ⟨gx,0,none⟩ (.slice none 0 0)).setCell ⟨gk,0,none⟩ (.int .i64 0)).setCell ⟨ge,0,none⟩ (.int .i64 150)).putObj D (.deferred none)) p B gx gk ge [] 0 150 [] (.slice none 0 0)):=E.put (.deferred none) y rfl (by have:=a.out;omega);have aR:=aa y;clear e1 e2 e3 e4 hf hK h0 h1 aF hI E kS y F aD b0 b1 b2 b3 ad;go_wp2_with fail
  refine ⟨by simp,.inl ⟨_,_,rfl,run_takeDeferred aR.out,?_⟩⟩;have q1:=HF.out.xb.cell;have q2:=HF.out.kb.cell;have q3:=HF.out.eb.cell;obtain ⟨e1,e2,e3,e4⟩:=aX.out;rw [e1,e2,e3,e4];refine ⟨.tuple #[.slice none 0 0,.int .i64 0,.int .i64 150],?_,_,rfl,⟨Row.nil _ _,HF.out.new⟩,HF.out.scr,HF.out.old⟩;simp [results,Tryz.f169,go_sem,q1,q2,q3]
 case stop=>
  rintro D c s W hD ⟨rfl,u,E⟩ F;have hF:=E.put (.deferred none) F rfl (by have:=a.out;omega);obtain ⟨uo,un,uc,rfl,_⟩:=E.row.open;have HF:=aa hF;clear E hF
  gi_wp2
  refine ⟨by simp,.inl ⟨_,_,rfl,run_takeDeferred F,?_⟩⟩;have q1:=HF.out.xb.cell;have q2:=HF.out.kb.cell;have q3:=HF.out.eb.cell;refine ⟨.tuple #[.slice uo un uc,.int .i64 (fq xs bs:Nat),.int .i64 (cf xs bs:Nat)],?_,_,rfl,⟨HF.out.row,HF.out.new⟩,HF.out.scr,HF.out.old⟩;simp [results,Tryz.f169,go_sem,q1,q2,q3]

theorem A5 (p:Option Addr) (B:Nat) (bs xs:List Nat) (v:Value) (w:World) (h:Lsc w p B bs) (hB:B≤w.heap.size) (a:Digs bs 256) (hv:Row .u64 w v xs) (hd:Digs xs) (hl:xs.length≤300) (b:2≤val xs) :
  Calls Tryz.prog 169 #[.pointer p,v] w fun e w'=>∃ u,e=.returned (.tuple #[u,.int .i64 (fq xs bs:Nat),.int .i64 (cf xs bs:Nat)])∧Row .u64 w' u (dz xs bs)∧Lsc w' p B (dD xs bs)∧Kept (ofP p) w w':=by
 refine (qC p B bs xs v w h hB a hv hd hl b).mono ?_;rintro e w' ⟨u,he,h1,h2⟩;exact ⟨u,he,h1.1,h2⟩

open Go.RowKit

def NoTab (_:World):Prop:=True

theorem nO {xs bs:List Nat} (h:300<xs.length∨val xs<2):dz xs bs=[]∧fq xs bs=0∧dD xs bs=bs:=by
 have e:cf xs bs≠0:=by
  unfold cf
  split
  ·omega
  ·next h1=>
   rw [if_pos (by omega)];omega
 exact ⟨if_neg e,if_neg e,if_pos h⟩

theorem Bm (p:Option Addr) (B:Nat) (bs xs:List Nat) (v:Value) (w:World) (h:Lsc w p B bs) (hB:B≤w.heap.size) (a:Digs bs 256) (hv:Row .u64 w v xs) (hd:Digs xs) (hl:xs.length≤1000000) :
  Calls Tryz.prog 169 #[.pointer p,v] w fun e w'=>∃ u,e=.returned (.tuple #[u,.int .i64 (fq xs bs:Nat),.int .i64 (cf xs bs:Nat)])∧Row .u64 w' u (dz xs bs)∧Lsc w' p B (dD xs bs)∧Kept (ofP p) w w':=by
 by_cases hb:300<xs.length∨val xs<2
 ·obtain ⟨e1,e2,e3⟩:=nO (bs:=bs) hb;rw [e1,e2,e3];refine (ll p B bs xs v w h hv hd hl hb).mono ?_;rintro e w' ⟨rfl,h1,k1⟩;exact ⟨_,rfl,Row.nil _ _,h1,k1.any⟩
 ·exact A5 p B bs xs v w h hB a hv hd (by omega) (by omega)

theorem rj (p:Option Addr) (B:Nat) (bs xs:List Nat) (v:Value) (w:World) (h:Lsc w p B bs) (hB:B≤w.heap.size) (a:Digs bs 256) (hv:Row .u64 w v xs) (hd:Digs xs) (hl:xs.length≤1000000) :
  Calls Tryz.prog 169 #[.pointer p,v] w fun e w'=>∃ u,e=.returned (.tuple #[u,.int .i64 (fq xs bs:Nat),.int .i64 (cf xs bs:Nat)])∧(Row .u64 w' u (dz xs bs)∧∀ b,u.ownBlock=some b→w.heap.size≤b)∧Lsc w' p B (dD xs bs)∧Kept (ofP p) w w':=by
 by_cases hb:300<xs.length∨val xs<2
 ·obtain ⟨e1,e2,e3⟩:=nO (bs:=bs) hb;rw [e1,e2,e3];refine (ll p B bs xs v w h hv hd hl hb).mono ?_;rintro e w' ⟨rfl,h1,k1⟩;exact ⟨_,rfl,⟨Row.nil _ _,(fun b hb=>by cases hb)⟩,h1,k1.any⟩
 ·exact qC p B bs xs v w h hB a hv hd (by omega) (by omega)

theorem jT {a y:Nat} (h:ofP (some ⟨a,0,none⟩) y):y=a:=(Option.some.inj h).symm

theorem ScrAt.noP {w:World} {p:Option Addr} {b B C:Nat} {bs cs:List Nat} (h:ScrAt w b C cs) (hp:Lsc w p B bs):¬ ofP p b:=by
 obtain ⟨v,⟨h1,_⟩,_⟩:=h;intro f;rcases hp with ⟨rfl,_⟩ | ⟨b',v',ps,pl,rfl,e,h3,_⟩
 ·cases f
 ·cases f
  have a:w.heap[b']? = some (.cells #[v',.int .i64 (pl:Nat)] 56 (0,0)):=h3;rw [a] at h1;cases h1

theorem ScrAt.other {w w':World} {p:Option Addr} {b B C:Nat} {bs cs:List Nat} (h:ScrAt w b C cs) (hp:Lsc w p B bs) (k:Kept (ofP p) w w'):ScrAt w' b C cs:=by
 have hn:=h.noP hp;obtain ⟨v,h1,h2,h3⟩:=h;exact ⟨v,h1.kept k hn (fun hx=>hp.apart h1.2.1 hx),h2,h3⟩

theorem zR {w:World} {o:Option Addr} {l c:Nat} {bs:List Nat} (h:Row .u8 w (.slice o l c) bs):ScrAt (w.alloc (.cells #[.slice o l c] 30)) w.heap.size (w.heap.size+1) bs:=by
 have hlt:=h.lt;have k:Kept af w (w.alloc (.cells #[.slice o l c] 30)):=(ah _ _).alloc _;refine ⟨_,⟨heap_alloc_new _ _,h.grew k,fun e x hx=>?_⟩,by omega,fun e x hx=>?_⟩
 ·have:=hlt e x hx;omega
 ·have:=hlt e x hx;omega

def cW (n r:Int) (e:Nat):Prop:=n<32∨8192<n∨n%128≠0∨e<3∨e%2=0∨4294967296≤e∨r<1∨100<r

def KL.none:KL:=⟨[],[],[],[],[],[],[]⟩

def genSays (n r:Int) (e:Nat) (bs:List Nat) (E en:Nat) (l:KL) (R:List Nat):Prop:=(cW n r e∧E=1∧en=0∧l=KL.none∧R=bs) ∨
 (¬ cW n r e∧∃ P Q E1,PairR n.toNat e r.toNat bs (P,Q,E1,R)∧((E1≠0∧E=E1∧en=0∧l=KL.none)∨(E1=0∧KeySays P.length Q.length (val P) (val Q) e E en l)))

theorem genSays.uniq {n r:Int} {e:Nat} {bs:List Nat} {E E' en a:Nat} {l l':KL} {R R':List Nat} (h:genSays n r e bs E en l R) (h':genSays n r e bs E' a l' R'):E'=E∧a=en∧l'=l∧R'=R:=by
 rcases h with ⟨h1,rfl,rfl,rfl,rfl⟩ | ⟨h1,P,Q,E1,h2,h3⟩
 ·rcases h' with ⟨_,rfl,rfl,rfl,rfl⟩ | ⟨g1,_⟩
  ·exact ⟨rfl,rfl,rfl,rfl⟩
  ·exact absurd h1 g1
 ·rcases h' with ⟨g1,_⟩ | ⟨_,P',Q',E1',g2,g3⟩
  ·exact absurd g1 h1
  ·have:=PairR.uniq g2 h2;simp only [Prod.mk.injEq] at this;obtain ⟨rfl,rfl,rfl,rfl⟩:=this;rcases h3 with ⟨a1,rfl,rfl,rfl⟩ | ⟨a1,a2⟩
   ·rcases g3 with ⟨_,rfl,rfl,rfl⟩ | ⟨b1,_⟩
    ·exact ⟨rfl,rfl,rfl,rfl⟩
    ·exact absurd b1 a1
   ·rcases g3 with ⟨b1,_⟩ | ⟨_,b2⟩
    ·exact absurd a1 b1
    ·obtain ⟨c1,c2,c3⟩:=a2.uniq b2;exact ⟨c1,c2,c3,rfl⟩

def Ar:Prop:=∀ (p:Option Addr) (B:Nat) (n r:Int) (e:Nat) (bs:List Nat) (w:World),e<18446744073709551616→Lsc w p B bs→B≤w.heap.size→Digs bs 256→bs.length≤1000000 →
 Calls Tryz.prog 13 #[.pointer p,.int .i64 n,.int .u64 (e:Int),.int .i64 r] w fun q w'=>∃ (t:KS) (E:Nat),q=.returned (.tuple #[.agg t.v,.int .i64 ((E:Nat):Int)])∧∃ (l:KL) (R:List Nat),t.Rows w' l∧genSays n r e bs E t.en l R∧Lsc w' p B R∧Kept (ofP p) w w'

theorem qz:∃ t:KS,zeroKey=t.v∧t.en=0∧∀ w,t.Rows w KL.none:=⟨⟨none,0,0,0,none,0,0,none,0,0,none,0,0,none,0,0,none,0,0,none,0,0⟩,rfl,rfl,fun _=>⟨Row.nil _ _,Row.nil _ _,Row.nil _ _,Row.nil _ _,Row.nil _ _,Row.nil _ _,Row.nil _ _⟩⟩

theorem zw {w:World} {L M P Q e:Nat} {kv:Array Value} (E:cl L M P Q e) (h:KeyAt w P Q e kv):∃ (t:KS) (l:KL),kv=t.v∧t.Rows w l∧KeySays L M P Q e 0 t.en l:=by
 obtain ⟨vn,vd,vp,vq,R,O,S,d,u,rfl,rn,H,C,rd,rp,rq,n,o,y,I,p⟩:=h;obtain ⟨J,D,z,rfl,-,-,-,-,-⟩:=rn.open;obtain ⟨A,s,G,rfl,-,-,-,-,-⟩:=rd.open;obtain ⟨F,r,x,rfl,-,-,-,-,-⟩:=rp.open;obtain ⟨q,B,N,rfl,-,-,-,-,-⟩:=rq.open;obtain ⟨j,f,m,rfl,-,-,-,-,-⟩:=n.open;obtain ⟨a,i,c,rfl,-,-,-,-,-⟩:=o.open;obtain ⟨k,g,b,rfl,-,-,-,-,-⟩:=p.open;exact ⟨⟨J,D,z,e,A,s,G,F,r,x,q,B,N,j,f,m,a,i,c,k,g,b⟩,⟨_,_,_,_,_,_,_⟩,rfl,⟨rn,rd,rp,rq,n,o,p⟩,.inl ⟨rfl,E,rfl,d,u,H,C,y,I,rfl,rfl,rfl,rfl,rfl,rfl,rfl⟩⟩

theorem xy (b B:Nat) (bs:List Nat) (n r:Int) (e:Nat) (he:e<18446744073709551616) (w:World) (h:ScrAt w b B bs) (hB:B≤w.heap.size) (f:Digs bs 256) (d:bs.length≤1000000) :
  Calls Tryz.prog 14 #[.pointer (some ⟨b,0,none⟩),.int .i64 n,.int .u64 (e:Int),.int .i64 r] w fun q w'=>∃ (t:KS) (E:Nat),q=.returned (.tuple #[.agg t.v,.int .i64 ((E:Nat):Int)])∧∃ (l:KL) (R:List Nat),t.Rows w' l∧genSays n r e bs E t.en l R∧Kept (fun x=>x=b) w w':=by
 obtain ⟨z,hz,a,c⟩:=qz;by_cases hbad:cW n r e
 ·refine (se b n r e he w hbad).mono ?_;rintro q w' ⟨rfl,k⟩;exact ⟨z,1,by rw [hz];rfl,KL.none,bs,c _,.inl ⟨hbad,rfl,a,rfl,rfl⟩,k.any⟩
 ·have g:¬ (n<32∨8192<n∨n%128≠0∨e<3∨e%2=0∨4294967296≤e∨r<1∨100<r):=hbad;obtain ⟨n',rfl⟩:∃ n':Nat,n=(n':Int):=⟨n.toNat,by omega⟩
  obtain ⟨r',rfl⟩:∃ r':Nat,r=(r':Int):=⟨r.toNat,by omega⟩
  refine (oH b B bs n' e r' (by omega) (by omega) (by omega) (by omega) (by omega) (by omega) (by omega) (by omega) w h hB f d).mono ?_;rintro q w' ⟨kv,P,Q,E1,R,E,rfl,h1,h2,_,_,_,k⟩;rcases h2 with ⟨a1,rfl,rfl⟩ | ⟨a1,rfl,a2,a3⟩ | ⟨a1,rfl,a2,rfl⟩
  ·exact ⟨z,E,by rw [hz],KL.none,R,c _,.inr ⟨hbad,P,Q,E,h1,.inl ⟨a1,rfl,a,rfl⟩⟩,k⟩
  ·obtain ⟨t,l,rfl,h3,h4⟩:=zw a2 a3;exact ⟨t,0,rfl,l,R,h3,.inr ⟨hbad,P,Q,E1,h1,.inr ⟨a1,h4⟩⟩,k⟩
  ·exact ⟨z,190,by rw [hz],KL.none,R,c _,.inr ⟨hbad,P,Q,E1,h1,.inr ⟨a1,.inr ⟨rfl,a2,a,rfl⟩⟩⟩,k⟩

theorem vw (uo:Option Addr) (un uc:Nat) (n:Int) (R:Bool) (hR:R=true↔un≤3000∧(n≤128∨8192<n)) (w:World) :
  Calls Tryz.prog 7 #[.slice uo un uc,.int .i64 n] w fun r w'=>r=.returned (.bool R)∧w'=w:=by
 by_cases h1:un≤3000
 ·have g1:(un:Int)≤3000:=by omega
  by_cases h2:n≤128
  ·obtain rfl:R=true:=hR.2 ⟨h1,.inl h2⟩;clear hR;go_enter Tryz.func7,Tryz.ntmps7;go_wp2_with fail;go_ret;exact ⟨rfl,rfl⟩
  ·by_cases h3:n > 8192
   ·obtain rfl:R=true:=hR.2 ⟨h1,.inr h3⟩;have a:8192<n:=h3;clear hR;go_enter Tryz.func7,Tryz.ntmps7;go_wp2_with fail;go_ret;exact ⟨rfl,rfl⟩
   ·obtain rfl:R=false:=by
     cases e:R with
     | false=>rfl
     | true=>have:=hR.1 e;omega
    have a:¬ 8192<n:=h3;clear hR;go_enter Tryz.func7,Tryz.ntmps7;go_wp2_with fail;go_ret;exact ⟨rfl,rfl⟩
 ·have g1:¬ (un:Int)≤3000:=by omega
  obtain rfl:R=false:=by
   cases e:R with
   | false=>rfl
   | true=>have:=hR.1 e;omega
  clear hR;go_enter Tryz.func7,Tryz.ntmps7;go_wp2_with fail;go_ret;exact ⟨rfl,rfl⟩

theorem rF:genSays 128 1 3 [] 150 0 KL.none []:=.inr ⟨by unfold cW;omega,[],[],150,⟨[],0,150,[],(show DrawR 64 3 1 (99999+1) [] 1 ([],0,150,[]) from .inl ⟨by decide,rfl⟩),.inl ⟨by omega,rfl⟩⟩,.inl ⟨by omega,rfl,rfl,rfl⟩⟩

theorem vj:genSays 129 1 3 [] 1 0 KL.none []:=.inl ⟨by unfold cW;omega,rfl,rfl,rfl,rfl⟩

theorem vJ (hG:Ar) (w:World):Calls Tryz.prog 6 #[] w fun r w'=>r=.returned (.bool true)∧Kept af w w':=by
 have J1:=yF (.slice none 0 0) [] w (Row.nil _ _) (by simp);have HG:=aa hG;clear hG;go_enter Tryz.func6,Tryz.ntmps6;go_wp2_with fail;refine J1.mono ?_;rintro r w1 ⟨g,rfl,hg,m,k1⟩;have J2:=HG.out (some ⟨g,0,none⟩) w1.heap.size 128 1 3 [] w1 (by omega) m (leR _) (Digs.nil _) (by simp);have B:Hid (w.heap.size≤g):=hg;have C:=aa k1;clear J1 m k1 hg;go_wp2_with fail;refine J2.mono ?_;rintro r w2 ⟨t,E,rfl,l,R,j,a,_,k2⟩;obtain ⟨rfl,-,rfl,rfl⟩:=rF.uniq a;have x:Hid (t.nl=0):=by
  obtain ⟨_,_,_,e1,h1,_⟩:=j.n.open;cases e1
  exact h1.out.symm
 have H:Hid (Kept af w w2):=C.out.next k2 (fun y hy f=>by have h1:=jT f;have h2:=B.out;omega)
 obtain ⟨W3,b⟩:∃ W3,W3=w2.alloc (.cells t.v 42):=⟨_,rfl⟩
 have k3:Kept af w2 W3:=by rw [b];exact (ah af w2).alloc _
 have i:W3.heap[w2.heap.size]? = some (.cells t.v 42 (0,0)):=by rw [b];exact heap_alloc_new _ _
 have z:=aa (H.out.trans k3);have J3:=yF (.slice none 0 0) [] W3 (Row.nil _ _) (by simp);have p:=aa i;have q:=aa b;clear J2 j a k2 k3 i b;unfold KS.v at q ⊢;go_wp2_with (rw [← q.out]);refine J3.mono ?_;rintro r w4 ⟨g4,rfl,h,k,k4⟩;have J4:=HG.out (some ⟨g4,0,none⟩) w4.heap.size 129 1 3 [] w4 (by omega) k (leR _) (Digs.nil _) (by simp);have D:Hid (W3.heap.size≤g4):=h;have G:=aa k4;clear J3 k k4 h;go_wp2_with fail;refine J4.mono ?_;rintro r w5 ⟨s,E',rfl,l',R',F,a,_,k5⟩;obtain ⟨rfl,-,rfl,rfl⟩:=vj.uniq a;have d:Kept af W3 w5:=G.out.next k5 (fun y hy f=>by have h1:=jT f;have h2:=D.out;omega)
 have e:=(d.block _ (lt_of_block p.out) (fun f=>f)).trans p.out;obtain ⟨W6,c⟩:∃ W6,W6=w5.alloc (.cells s.v 42):=⟨_,rfl⟩
 have k6:Kept af w5 W6:=by rw [c];exact (ah af w5).alloc _
 obtain ⟨c0,c1,c2,c3,c4,c5,c6,c7⟩:=aK ((k6.block _ (lt_of_block e) (fun f=>f)).trans e);rw [x.out] at c0;have A:=aa (z.out.trans (d.trans k6));have o:=aa c;clear J4 F a k5 d k6 e c;unfold KS.v at o ⊢;go_wp2_with (rw [← o.out]);go_ret;exact ⟨rfl,A.out⟩

end Go.Proofs.YtcemlfokmjjiaaaGreatDoor
