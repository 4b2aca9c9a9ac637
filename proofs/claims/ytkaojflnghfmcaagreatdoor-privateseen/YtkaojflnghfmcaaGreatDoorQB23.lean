/- Put together of: Lsc5 Nob1 Lsc6 Law22 Prw2. -/
import Derived.Test.YtkaojflnghfmcaaGreatDoorQB22

namespace Go.Proofs.YtkaojflnghfmcaaGreatDoor
set_option maxRecDepth 100000
set_option maxHeartbeats 4000000
open Go.RowKit Go.Shelf

attribute [local go_sem] Oper.semAt_some

theorem mf {k:IntKind} {w:World} {b:Nat} {cs:Array Value} {t:TypeId} {v:Value} {xs:List Nat} (hb:w.heap[b]? = some (.cells cs t (0,0))) (hc:∀ u ∈ cs,∀ z,u≠.int k z) (hv:Row k w v xs) (hx:xs≠[]):v.ownBlock≠some b:=by
 intro e;obtain ⟨ao,L,f,rfl,hL,_,_,_,c⟩:=hv.open;have d:0<L:=by
  rw [← hL.out];exact List.length_pos_iff.2 hx
 obtain ⟨b',off,rfl,a⟩:=c 0 d;cases e
 rw [cell_of_row w b' (off+0) _ _ _ hb] at a;exact hc _ (Array.mem_of_getElem? a) _ rfl

theorem Lsc.apart {k:IntKind} {w:World} {p:Option Addr} {B:Nat} {bs xs:List Nat} {v:Value} (h:Lsc w p B bs) (hv:Row k w v xs) (hx:xs≠[]) (hk:k≠.i64:=by decide):∀ x,v.ownBlock=some x→¬ ofP p x:=by
 intro x e hp;rcases h with ⟨rfl,_⟩ | ⟨b,v',ps,pl,rfl,_,h⟩
 ·cases hp
 ·cases hp
  refine mf h.1 ?_ hv hx e;obtain ⟨_,_,rfl,_⟩:=h.2.1;intro u hu z;simp at hu;rcases hu with rfl | rfl
  ·simp
  ·intro e;cases e
   exact hk rfl

theorem gO {w:World} {b:Nat} {t:TypeId} {u v:Value} {xs:List Nat} (hb:Boxed w b t u) (hu:∀ z,u≠.int .u64 z) (hv:Row .u64 w v xs) (hx:xs≠[]):v.ownBlock≠some b:=
 mf hb (fun y hy z=>by simp at hy;rw [hy];exact hu z) hv hx

structure BtwB (w W:World) (p:Option Addr) (v:Value) (gm gx gk ge:Nat):Prop where
 mb:Boxed W gm 23 v
 xb:Boxed W gx 23 (.slice none 0 0)
 kb:Boxed W gk 3 (.int .i64 0)
 eb:Boxed W ge 32 (.int .i64 0)
 old:Kept (ofP p) w W

theorem BtwB.kept {S:Nat→Prop} {w W W':World} {p:Option Addr} {v:Value} {gm gx gk ge:Nat} (b:BtwB w W p v gm gx gk ge) (k:Kept S W W') (h0:¬ S gm) (h1:¬ S gx) (h2:¬ S gk) (h3:¬ S ge) (ho:∀ x,x<w.heap.size→S x→ofP p x):BtwB w W' p v gm gx gk ge:=
 ⟨cf b.mb k h0,cf b.xb k h1,cf b.kb k h2,cf b.eb k h3,b.old.next k ho⟩

structure EndB (w W:World) (p:Option Addr) (B:Nat) (gx gk ge:Nat) (X:List Nat) (K E:Nat) (r:List Nat) (u:Value):Prop where
 xb:Boxed W gx 23 u
 kb:Boxed W gk 3 (.int .i64 (K:Nat))
 eb:Boxed W ge 32 (.int .i64 (E:Nat))
 row:Row .u64 W u X
 scr:Lsc W p B r
 old:Kept (ofP p) w W
 new:∀ b,u.ownBlock=some b→w.heap.size≤b

theorem EndB.put {w W:World} {p:Option Addr} {B gx gk ge K E l:Nat} {X r:List Nat} {u:Value} {o:Obj} (o':Obj) (h:EndB w W p B gx gk ge X K E r u) (hl:W.heap[l]? = some o) (ho:o.isCells=false) (hw:w.heap.size≤l):EndB w (W.putObj l o') p B gx gk ge X K E r u:=by
 have a:∀ {b:Nat} {t:TypeId} {v:Value},Boxed W b t v→Boxed (W.putObj l o') b t v:=fun {b t v} hb=>(World.putObj_heap_other fun e=>by
  subst e;have c:W.heap[_]? = some (Obj.cells _ _ _):=hb;rw [hl] at c;cases c
  cases ho).trans hb
 exact ⟨a h.xb,a h.kb,a h.eb,mU o' h.row hl ho,h.scr.put o' hl ho,h.old.next (km W l o') (fun x hx e=>by
  have e':x=l:=e;omega),h.new⟩

theorem dS {w:World} {b:Nat} {t:TypeId} {v:Value} (h:Boxed w b t v) (c:Nat) (u:Value) (d:b≠c):Boxed (w.setCell ⟨c,0,none⟩ u) b t v:=dj (a:=⟨c,0,none⟩) h d u

theorem BtwB.ends {w W:World} {p:Option Addr} {v u:Value} {gm gx gk ge B:Nat} {X r:List Nat} (I:BtwB w W p v gm gx gk ge) (a:Row .u64 W u X) (d:∀ b,u.ownBlock=some b→w.heap.size≤b) (f:Lsc W p B r) (n1:gx≠gk) (n2:gx≠ge) (n3:gk≠ge) (lx:w.heap.size≤gx) (lk:w.heap.size≤gk) (le:w.heap.size≤ge) (hB:B≤w.heap.size) (K E:Nat) :
  EndB w (((W.setCell ⟨gx,0,none⟩ u).setCell ⟨gk,0,none⟩ (.int .i64 (K:Nat))).setCell ⟨ge,0,none⟩ (.int .i64 (E:Nat))) p B gx gk ge X K E r u∧Kept (fun b=>b=gx∨b=gk∨b=ge) W (((W.setCell ⟨gx,0,none⟩ u).setCell ⟨gk,0,none⟩ (.int .i64 (K:Nat))).setCell ⟨ge,0,none⟩ (.int .i64 (E:Nat))):=by
 have kS:Kept (fun b=>b=gx∨b=gk∨b=ge) W (((W.setCell ⟨gx,0,none⟩ u).setCell ⟨gk,0,none⟩ (.int .i64 (K:Nat))).setCell ⟨ge,0,none⟩ (.int .i64 (E:Nat))):=
  (((ag _ _).setCell ⟨gx,0,none⟩ (fun _=>.inl rfl) _).setCell ⟨gk,0,none⟩ (fun _=>.inr (.inl rfl)) _).setCell ⟨ge,0,none⟩ (fun _=>.inr (.inr rfl)) _
 have x1:Boxed (W.setCell ⟨gx,0,none⟩ u) gx 23 u:=I.xb.set u;have k1:=dS I.kb gx u n1.symm;have e1:=dS I.eb gx u n2.symm;have x2:=dS x1 gk (.int .i64 (K:Nat)) n1;have k2:Boxed _ gk 3 (.int .i64 (K:Nat)):=k1.set (.int .i64 (K:Nat));have e2:=dS e1 gk (.int .i64 (K:Nat)) n3.symm;have x3:=dS x2 ge (.int .i64 (E:Nat)) n2;have k3:=dS k2 ge (.int .i64 (E:Nat)) n3;have e3:Boxed _ ge 32 (.int .i64 (E:Nat)):=e2.set (.int .i64 (E:Nat));refine ⟨⟨x3,k3,e3,a.kept' kS ?_,f.kept kS ?_,I.old.next kS ?_,d⟩,kS⟩
 ·rintro c x hx (rfl | rfl | rfl)
  ·exact gO I.xb (fun z e=>by cases e) a c hx
  ·exact gO I.kb (fun z e=>by cases e) a c hx
  ·exact gO I.eb (fun z e=>by cases e) a c hx
 ·rintro x hx (e | e | e) <;> omega
 ·rintro x hx (e | e | e) <;> omega

def BelK (M t z:Nat) (bs:List Nat) (k:Nat):Prop:=∃ f,(bs.drop (k*z)).length<f∧eh M t z (bs.length+1) bs 1=eh M t z f (bs.drop (k*z)) (k+1)

theorem BelK.zero (M t z:Nat) (bs:List Nat):BelK M t z bs 0:=⟨bs.length+1,by simp,by simp⟩

theorem BelK.step {M t z k:Nat} {bs:List Nat} (h:BelK M t z bs k) (hz:0<z) (hl:(k+1)*z≤bs.length) :
  (0<lc t z bs k∧lc t z bs k<M∧eh M t z (bs.length+1) bs 1=(lc t z bs k,k+1,bs.drop ((k+1)*z)))∨(¬ (0<lc t z bs k∧lc t z bs k<M)∧BelK M t z bs (k+1)):=by
 obtain ⟨f,hf,e⟩:=h;have hd:(bs.drop (k*z)).drop z=bs.drop ((k+1)*z):=by rw [List.drop_drop,Nat.succ_mul]
 have a:¬ (bs.drop (k*z)).length<z:=by rw [List.length_drop];rw [Nat.succ_mul] at hl;omega
 rcases lC (M:=M) (t:=t) (k:=k+1) hf hz with ⟨h1,_⟩ | ⟨_,h2,h3⟩ | ⟨_,h2,f',hf',h3⟩
 ·exact absurd h1 a
 ·rw [hd] at h3;exact .inl ⟨h2.1,h2.2,e.trans h3⟩
 ·rw [hd] at h3 hf';exact .inr ⟨h2,f',hf',e.trans h3⟩

theorem BelK.spent {M t z k:Nat} {bs:List Nat} (h:BelK M t z bs k) (hz:0<z) (h0:k*z≤bs.length) (hl:bs.length<(k+1)*z):eh M t z (bs.length+1) bs 1=(0,0,[]):=by
 obtain ⟨f,hf,e⟩:=h;have a:(bs.drop (k*z)).length<z:=by rw [List.length_drop];rw [Nat.succ_mul] at hl;omega
 rcases lC (M:=M) (t:=t) (k:=k+1) hf hz with ⟨_,h3⟩ | ⟨h1,_⟩ | ⟨h1,_⟩
 ·exact e.trans h3
 ·exact absurd a h1
 ·exact absurd a h1

theorem ml (p:Option Addr) (B:Nat) (bs xs:List Nat) (v:Value) (w:World) (h:Lsc w p B bs) (hv:Row .u64 w v xs) (hd:Digs xs) (hl:xs.length≤1000000) (b:300<xs.length∨val xs<2) :
  Calls Tryz.prog 81 #[.pointer p,v] w fun e w'=>e=.returned (.tuple #[.slice none 0 0,.int .i64 0,.int .i64 (cG xs bs:Nat)])∧Lsc w' p B bs∧Kept ae w w':=by
 have HS:=aa h;have JB:=aa fun W (k:Kept ae w W)=>dX v xs W (hv.grew k) hd (by omega)
 obtain ⟨ao,L,a,rfl,hL,g,i,j,_⟩:=hv.open;have f:L≤1000000:=by have:=hL.out;omega
 have bM:=(((Boxed.new w 23 (.slice ao L a)).alloc (.cells #[.slice none 0 0] 23)).alloc (.cells #[.int .i64 0] 3)).alloc (.cells #[.int .i64 0] 32);have bR:∀ E:Int,((((w.alloc (.cells #[.slice ao L a] 23)).alloc (.cells #[.slice none 0 0] 23)).alloc (.cells #[.int .i64 0] 3)).alloc (.cells #[.int .i64 E] 32)).cell? ⟨w.heap.size+1,0,none⟩=some (.slice none 0 0) ∧
   ((((w.alloc (.cells #[.slice ao L a] 23)).alloc (.cells #[.slice none 0 0] 23)).alloc (.cells #[.int .i64 0] 3)).alloc (.cells #[.int .i64 E] 32)).cell? ⟨w.heap.size+1+1,0,none⟩=some (.int .i64 0) ∧
   ((((w.alloc (.cells #[.slice ao L a] 23)).alloc (.cells #[.slice none 0 0] 23)).alloc (.cells #[.int .i64 0] 3)).alloc (.cells #[.int .i64 E] 32)).cell? ⟨w.heap.size+1+1+1,0,none⟩=some (.int .i64 E):=fun E=>by
  have bX:=(((Boxed.new (w.alloc (.cells #[.slice ao L a] 23)) 23 (.slice none 0 0)).alloc (.cells #[.int .i64 0] 3)).alloc (.cells #[.int .i64 E] 32)).cell;have bK:=((Boxed.new ((w.alloc (.cells #[.slice ao L a] 23)).alloc (.cells #[.slice none 0 0] 23)) 3 (.int .i64 0)).alloc (.cells #[.int .i64 E] 32)).cell;have bE:=(Boxed.new (((w.alloc (.cells #[.slice ao L a] 23)).alloc (.cells #[.slice none 0 0] 23)).alloc (.cells #[.int .i64 0] 3)) 32 (.int .i64 E)).cell;simp only [World.size_alloc] at bX bK bE;exact ⟨bX,bK,bE⟩
 have kR:∀ E:Int,Kept ae w ((((w.alloc (.cells #[.slice ao L a] 23)).alloc (.cells #[.slice none 0 0] 23)).alloc (.cells #[.int .i64 0] 3)).alloc (.cells #[.int .i64 E] 32)):=fun E=>((((ag ae w).alloc _).alloc _).alloc _).alloc _
 have cM:=bM.cell;have d:=aa bR;have c:=aa kR;clear bR kR;by_cases h1:300<L
 ·have e1:cG xs bs=2:=by unfold cG;rw [hL.out,if_pos h1]
  rw [e1];have g1:(L:Int) > 300:=by omega
  have g2:(300:Int)<(L:Int):=by omega
  clear e1 b JB bM h hv hd;go_enter Tryz.func81,Tryz.ntmps81;go_wp2_with fail;obtain ⟨q1,q2,q3⟩:=d.out 2;refine bodyPost_ret (v:=.tuple #[.slice none 0 0,.int .i64 0,.int .i64 2]) (by simp [results,Tryz.results81,go_sem,q1,q2,q3]) rfl ?_;exact ⟨rfl,HS.out.grew (c.out 2),c.out 2⟩
 ·have hV:val xs<2:=by
   have:=hL.out;rcases b with h | h
   ·omega
   ·exact h
  have e1:cG xs bs=1:=by unfold cG;rw [hL.out,if_neg h1,if_pos hV]
  rw [e1];have g1:¬ (L:Int) > 300:=by omega
  have g2:¬ (300:Int)<(L:Int):=by omega
  have l:aF (val xs)≤1:=(aI _ 1).2 (by omega);generalize aF (val xs)=t at *;have g3:(t:Int)<2:=by omega
  clear e1 b hV bM h hv hd;go_enter Tryz.func81,Tryz.ntmps81;go_wp2_with fail;refine (JB.out _ (c.out 0)).mono ?_;rintro e w1 ⟨rfl,rfl⟩;clear JB;obtain ⟨p1,p2,p3⟩:=d.out 0;go_wp2_with fail;obtain ⟨q1,q2,q3⟩:=d.out 1;refine bodyPost_ret (v:=.tuple #[.slice none 0 0,.int .i64 0,.int .i64 1]) (by simp [results,Tryz.results81,go_sem,q1,q2,q3]) rfl ?_;exact ⟨rfl,HS.out.grew (c.out 1),c.out 1⟩

theorem rf (p:Option Addr) (B:Nat) (bs xs:List Nat) (v:Value) (w:World) (h:Lsc w p B bs) (hB:B≤w.heap.size) (aL:Digs bs 256) (hv:Row .u64 w v xs) (hd:Digs xs) (hl:xs.length≤300) (ac:2≤val xs) :
  Calls Tryz.prog 81 #[.pointer p,v] w fun e w'=>∃ u,e=.returned (.tuple #[u,.int .i64 (fW xs bs:Nat),.int .i64 (cG xs bs:Nat)])∧(Row .u64 w' u (eO xs bs)∧∀ b,u.ownBlock=some b→w.heap.size≤b)∧Lsc w' p B (eN xs bs)∧Kept (ofP p) w w':=by
 obtain ⟨M,hM⟩:∃ M,M=val xs:=⟨_,rfl⟩
 obtain ⟨t,ht⟩:∃ t,t=aF M:=⟨_,rfl⟩
 obtain ⟨z,hz⟩:∃ z,z=(t+7)/8:=⟨_,rfl⟩
 rw [← hM] at ac;have ad:M<18446744073709551616^xs.length:=by rw [hM];exact aD (by omega) hd
 have aw:t≤64*xs.length:=by rw [ht,hM];exact sL hd
 have a8:2≤t:=by
  have:=(aI M 1).1;rw [← ht] at this;by_cases h1:t≤1
  ·have:=this h1;omega
  ·omega
 have P:xs≠[]:=by
  rintro rfl;have:val []=0:=rfl;omega
 have aQ:Hid (∀ x,v.ownBlock=some x→¬ ofP p x):=h.apart hv P;have I:Hid (∀ W,Kept (ofP p) w W→Row .u64 W v xs):=fun W k=>hv.kept' k (fun _=>aQ.out)
 have JB:=aa fun W (k:Kept (ofP p) w W)=>dX v xs W (I.out W k) hd (by omega)
 have JC:=aa fun u ys W (k:Kept (ofP p) w W) (hu:Row .u64 W u ys) (hdu:Digs ys)=>iU u v ys xs W hu (I.out W k) hdu hd
 rw [← hM] at JB JC;rw [← ht] at JB;have aG:Hid (∀ x,ofP p x→x<B):=fun x hx=>(h.inP hx).1
 have H:Hid (nj M bs=eh M t z (bs.length+1) bs 1):=by unfold Hid nj;rw [← ht,← hz]
 have HE:Hid (cG xs bs=if (eh M t z (bs.length+1) bs 1).1=0 then 150 else 0):=by
  unfold Hid cG;rw [if_neg (by omega),if_neg (by rw [← hM];omega),← hM,H.out]
 have HX:Hid (eO xs bs=if cG xs bs=0 then digs (eh M t z (bs.length+1) bs 1).1 xs.length else []):=by unfold Hid eO;rw [← hM,H.out]
 have aE:Hid (fW xs bs=if cG xs bs=0 then (eh M t z (bs.length+1) bs 1).2.1 else 0):=by unfold Hid fW;rw [← hM,H.out]
 have aH:Hid (eN xs bs=(eh M t z (bs.length+1) bs 1).2.2):=by unfold Hid eN;rw [if_neg (by rw [← hM];omega),← hM,H.out]
 obtain ⟨ao,L,i,rfl,hL,a6,a7,a1,_⟩:=hv.open;have a0:L≤300:=by have:=hL.out;omega
 have g1:¬ (L:Int) > 300:=by omega
 have a4:¬ (300:Int)<(L:Int):=by omega
 have g2:¬ (t:Int)<2:=by omega
 rw [hL.out] at aw ad HX;have HL:=aa hL.out;have HS:=aa h;have HZ:=aa hz;have ax:1≤z:=by omega
 have a9:t≤19200:=by omega
 have Q:Hid (2≤M∧M<18446744073709551616^L∧t=aF M∧t≤64*L):=⟨ac,ad,ht,aw⟩
 have aR:=aa aL;have g:=aa hB;clear hv hd hl ac ad ht hz aw P a1 hL h hM H aL hB;refine (callsIn_wide (n:=9)).1 ?_;refine callsIn_of_wp_marks Tryz.func81 rfl trivial ?_ rfl;simp only [Tryz.ntmps81,List.size_toArray,List.length_cons,List.length_nil,Nat.reduceAdd,Nat.reduceSub,Array.replicate_succ,Array.replicate_zero,List.push_toArray,List.append_toArray,List.nil_append,List.cons_append];refine wpIn_wide.2 ?_;have bM:=(((Boxed.new w 23 (.slice ao L i)).alloc (.cells #[.slice none 0 0] 23)).alloc (.cells #[.int .i64 0] 3)).alloc (.cells #[.int .i64 0] 32)
 have bX:=((Boxed.new (w.alloc (.cells #[.slice ao L i] 23)) 23 (.slice none 0 0)).alloc (.cells #[.int .i64 0] 3)).alloc (.cells #[.int .i64 0] 32);have bK:=(Boxed.new ((w.alloc (.cells #[.slice ao L i] 23)).alloc (.cells #[.slice none 0 0] 23)) 3 (.int .i64 0)).alloc (.cells #[.int .i64 0] 32);have bE:=Boxed.new (((w.alloc (.cells #[.slice ao L i] 23)).alloc (.cells #[.slice none 0 0] 23)).alloc (.cells #[.int .i64 0] 3)) 32 (.int .i64 0);have kA:Kept ae w ((((w.alloc (.cells #[.slice ao L i] 23)).alloc (.cells #[.slice none 0 0] 23)).alloc (.cells #[.int .i64 0] 3)).alloc (.cells #[.int .i64 0] 32)):=((((ag ae w).alloc _).alloc _).alloc _).alloc _
 have sA:((((w.alloc (.cells #[.slice ao L i] 23)).alloc (.cells #[.slice none 0 0] 23)).alloc (.cells #[.int .i64 0] 3)).alloc (.cells #[.int .i64 0] 32)).heap.size=w.heap.size+4:=by simp
 simp only [World.size_alloc] at bX bK bE;have cM:=bM.cell;go_wp2_with fail;refine (JB.out _ kA.any).mono ?_;rintro e w1 ⟨rfl,rfl⟩;generalize (((w.alloc (.cells #[.slice ao L i] 23)).alloc (.cells #[.slice none 0 0] 23)).alloc (.cells #[.int .i64 0] 3)).alloc (.cells #[.int .i64 0] 32)=W1 at *;obtain ⟨gm,al⟩:∃ gm,gm=w.heap.size:=⟨_,rfl⟩
 obtain ⟨gx,am⟩:∃ gx,gx=w.heap.size+1:=⟨_,rfl⟩
 obtain ⟨gk,ak⟩:∃ gk,gk=w.heap.size+1+1:=⟨_,rfl⟩
 obtain ⟨ge,aj⟩:∃ ge,ge=w.heap.size+1+1+1:=⟨_,rfl⟩
 rw [← aj] at bE ⊢;rw [← ak] at bK ⊢;rw [← am] at bX ⊢;rw [← al] at bM cM ⊢;have HG:Hid (gm=w.heap.size∧gx=w.heap.size+1∧gk=w.heap.size+2∧ge=w.heap.size+3∧W1.heap.size=w.heap.size+4):=⟨al,am,ak,aj,sA⟩
 have aB:Hid (BtwB w W1 p (.slice ao L i) gm gx gk ge):=⟨bM,bX,bK,bE,kA.any⟩
 have aJ:=aa (HS.out.grew kA);have JD:=Bi p t L W1 (by omega);rw [← HZ.out] at JD;clear al am ak aj bM bX bK bE sA HS kA;go_wp2_with fail;refine JD.mono ?_;rintro e W2 ⟨rfl,b0,b1,b2,b3,k2,s2⟩;have T:=aa (aB.out.kept k2 (fun f=>f) (fun f=>f) (fun f=>f) (fun f=>f) (fun _ _ f=>f.elim));have Z:=aa (aJ.out.grew k2);obtain ⟨n1,aN⟩:∃ n1,n1=W1.heap.size:=⟨_,rfl⟩
 rw [← aN] at b0 b1 b2 b3 s2 ⊢;have a:Hid (gm=w.heap.size∧gx=w.heap.size+1∧gk=w.heap.size+2∧ge=w.heap.size+3∧n1=w.heap.size+4∧W2.heap.size=w.heap.size+8):=by have:=HG.out;refine ⟨?_,?_,?_,?_,?_,?_⟩ <;> omega
 clear JD k2 aB aJ HG aN cM s2;go_wp2_with fail;refine (wpIn_wide (n:=9)).1 ?_;obtain ⟨sh,a2⟩:∃ sh,sh=8*z-t:=⟨_,rfl⟩
 have aq:t+sh=8*z:=by have:=HZ.out;omega
 have av:sh<8:=by have:=HZ.out;omega
 clear a2;refine kX (n:=9) (by omega) (gf:=186) (lb:=#[.pointer (some ⟨n1,0,none⟩),.pointer (some ⟨n1+3,0,none⟩),.pointer (some ⟨n1+1,0,none⟩),.pointer (some ⟨n1+2,0,none⟩)]) rfl (enters_of Tryz.func186 (by kernel_rfl) rfl)
  (yV 8 (by omega) p B t z sh L n1 (n1+3) (n1+1) (n1+2) bs W2 (fun b=>b=gx∨b=gk∨b=ge) ax aq av a0 Q.out.2.2.2 Z.out aR.out b0 b3 b1 b2 ?q0 ?q1 ?q2 ?q3 ?q4 ?q5 ?q6 ?q7 ?q8 ?q9) (fun _=>rfl) ?hSb ?hT (fun _ _ _ _ _ o' hx hl ho=>hx.put o' hl ho)
  (fun E W=>Hid (BelK M t z bs E.length)∧Hid (BtwB w W p (.slice ao L i) gm gx gk ge)) (fun c _ W=>c=.ret∧∃ u,EndB w W p B gx gk ge (eO xs bs) (fW xs bs) (cG xs bs) (eN xs bs) u)
  ?low ?lowx ?lows ⟨BelK.zero _ _ _ _,T.out⟩ ?act ?assign ?body ?done ?stop
 case q0=>have:=a.out;have:=g.out;omega
 case q1=>have:=a.out;have:=g.out;omega
 case q2=>have:=a.out;have:=g.out;omega
 case q3=>have:=a.out;have:=g.out;omega
 case q4=>have:=a.out;have:=g.out;omega
 case q5=>
  have:=a.out;have:=g.out;rintro b (rfl | rfl | rfl) <;> omega
 case q6=>have:=a.out;omega
 case q7=>have:=a.out;omega
 case q8=>have:=a.out;omega
 case q9=>have:=a.out;omega
 case hSb=>
  have:=a.out;rintro b (rfl | rfl | rfl) <;> omega
 case hT=>
  intro b hb;have:=aG.out b hb;have:=a.out;have:=g.out;omega
 case low=>
  rintro s A C ⟨h1,h2⟩ k;have:=a.out;have:=g.out;have R:∀ x,w.heap.size≤x→x<W2.heap.size→¬ (ofP p x∨W2.heap.size≤x):=fun x h3 h4=>by
   rintro (e | e)
   ·have:=aG.out x e;omega
   ·omega
  exact ⟨h1,h2.out.kept k (R _ (by omega) (by omega)) (R _ (by omega) (by omega)) (R _ (by omega) (by omega)) (R _ (by omega) (by omega)) (fun x hx e=>by
   rcases e with e | e
   ·exact e
   ·omega)⟩
 case lowx=>
  rintro c s A l o o' ⟨h1,u,h2⟩ hl hA ho;have:=a.out;exact ⟨h1,u,h2.put o' hA ho (by omega)⟩
 case lows=>
  rintro s A l o o' ⟨h1,h2,h3⟩ hl hA ho;exact ⟨h1,h2,h3.put o' hA ho⟩
 case assign=>
  intro l x W K hK
  gi_wp2
  exact hK
 case body=>
  rintro l E ⟨j,xv⟩ W ⟨hK,hI⟩ ⟨hj,ah,⟨N,J⟩,O⟩;have a5:1≤L:=by
   have h1:=Q.out.1;have h2:=Q.out.2.1;cases L with
   | zero=>simp at h2;omega
   | succ n=>omega
  obtain ⟨V,hV⟩:∃ V,V=lc t z bs E.length:=⟨_,rfl⟩
  have aM:j=E.length+1:=hj;have d:Row .u64 W xv (digs V L):=by rw [hV];exact N
  have aK:V<18446744073709551616^L:=by
   rw [hV];refine Nat.lt_of_lt_of_le (Nat.mod_lt _ (Nat.pow_pos (by omega))) ?_;rw [show (18446744073709551616:Nat)=2^64 from rfl,← Nat.pow_mul];exact Nat.pow_le_pow_right (by omega) Q.out.2.2.2
  have q:=dX xv _ W d (ai (by omega) V L) (by rw [af];omega);have r:=JC.out xv _ W hI.out.old d (ai (by omega) V L);rw [au,ar aK] at q r;have Y:=aa d;have ab:=aa O;have X:Hid (∀ b,xv.ownBlock=some b→w.heap.size≤b):=fun b hb=>by have h1:=J b hb;have h2:=a.out;omega
  have U:=aa hI.out;have aP:=hK.out.step ax ah;rw [← hV] at aP;obtain ⟨nb,an⟩:∃ nb,nb=aF V:=⟨_,rfl⟩
  rw [← an] at q;have m:nb=0↔V=0:=by
   have:=aI V 0;rw [← an] at this;simp at this;exact this
  have a3:Hid (digs V L≠[]):=fun e=>by
   have:=congrArg List.length e;rw [af] at this;simp at this;omega
  obtain ⟨xo,xn,xc,rfl,_⟩:=d.open;have cM:=hI.out.mb.cell;have aY:=aa aM;clear J N d O hI hK hj aM hV aK an T b0 b1 b2 b3 Z;rcases aP with ⟨h1,h2,h3⟩ | ⟨h1,h2⟩
  ·have g3:(nb:Int) > 0:=by omega
   have aZ:(0:Int)<(nb:Int):=by omega
   rw [fw h2] at r;have e1:cG xs bs=0:=by rw [HE.out,h3,if_neg (by show ¬ V=0;omega)]
   have e2:eO xs bs=digs V L:=by rw [HX.out,if_pos e1,h3]
   have e3:fW xs bs=j:=by rw [aE.out,if_pos e1,h3];exact aY.out.symm
   have e4:eN xs bs=bs.drop ((E.length+1)*z):=by rw [aH.out,h3]
   have aT:Hid (cG xs bs=0∧eO xs bs=digs V L∧fW xs bs=j∧eN xs bs=bs.drop ((E.length+1)*z)):=⟨e1,e2,e3,e4⟩
   clear h1 h2 h3 e1 e2 e3 e4 m
   gi_wp2_with fail
   refine ⟨trivial,?_⟩;refine (CallsIn.inRound l (callsIn_wide.2 q)).mono ?_;rintro e w1 ⟨rfl,rfl⟩
   gi_wp2_with fail
   refine ⟨trivial,?_⟩;refine (CallsIn.inRound l (callsIn_wide.2 r)).mono ?_;rintro e w2 ⟨rfl,k2⟩;have I2:=aa (U.out.kept k2 (fun f=>f) (fun f=>f) (fun f=>f) (fun f=>f) (fun _ _ f=>f.elim));have R2:=aa (Y.out.grew k2);have S2:=aa (ab.out.grew k2);have cx:=I2.out.xb.cell;have fx:=I2.out.xb.frozen;have ck:=I2.out.kb.cell;have fk:=I2.out.kb.frozen;have ce:=I2.out.eb.cell;have fe:=I2.out.eb.frozen;have ap:gx≠gk∧gx≠ge∧gk≠ge:=by have:=a.out;omega
   obtain ⟨ay,az,aA⟩:=ap;obtain ⟨aC,kS⟩:=I2.out.ends R2.out X.out S2.out ay az aA (by have:=a.out;omega) (by have:=a.out;omega) (by have:=a.out;omega) g.out j 0;have aU:Hid (EndB w (((w2.setCell ⟨gx,0,none⟩ (.slice xo xn xc)).setCell ⟨gk,0,none⟩ (.int .i64 (j:Int))).setCell ⟨ge,0,none⟩ (.int .i64 0)) p B gx gk ge (eO xs bs) (fW xs bs) (cG xs bs) (eN xs bs) (.slice xo xn xc)):=by
    obtain ⟨q1,q2,q3,q4⟩:=aT.out;rw [q1,q2,q3,q4];exact aC
   have aX:Hid (Kept (fun b=>b=gx∨b=gk∨b=ge) w1 (((w2.setCell ⟨gx,0,none⟩ (.slice xo xn xc)).setCell ⟨gk,0,none⟩ (.int .i64 (j:Int))).setCell ⟨ge,0,none⟩ (.int .i64 0))):=(k2.any).trans kS;clear q r k2 kS aC
   gi_wp2_with fail
   exact ⟨aX.out,rfl,_,aU.out⟩
  ·have HN:Hid (BelK M t z bs (E ++ [(j,Value.slice xo xn xc)]).length):=by unfold Hid;rw [List.length_append];exact h2
   by_cases hV0:V=0
   ·obtain rfl:=m.2 hV0;clear h1 h2 m hV0 r
    gi_wp2_with fail
    refine ⟨trivial,?_⟩;refine (CallsIn.inRound l (callsIn_wide.2 q)).mono ?_;rintro e w1 ⟨rfl,rfl⟩;clear q
    gi_wp2_with fail
    refine ⟨trivial,?_⟩
    gi_wp2_with fail
    exact ⟨ag _ _,HN,U⟩
   ·have g3:(nb:Int) > 0:=by omega
    have aZ:(0:Int)<(nb:Int):=by omega
    obtain ⟨C,hC⟩:∃ C,C=cS V M:=⟨_,rfl⟩
    rw [← hC] at r;have g4:¬ C<0:=by
     rw [hC];unfold cS;rw [if_neg (by omega)]
     split <;> omega
    clear h1 h2 m hV0 hC
    gi_wp2_with fail
    refine ⟨trivial,?_⟩;refine (CallsIn.inRound l (callsIn_wide.2 q)).mono ?_;rintro e w1 ⟨rfl,rfl⟩
    gi_wp2_with fail
    refine ⟨trivial,?_⟩;refine (CallsIn.inRound l (callsIn_wide.2 r)).mono ?_;rintro e w2 ⟨rfl,k2⟩;have I2:=aa (U.out.kept k2 (fun f=>f) (fun f=>f) (fun f=>f) (fun f=>f) (fun _ _ f=>f.elim));have aW:=aa (k2.any (S:=fun b=>b=gx∨b=gk∨b=ge));clear q r k2
    gi_wp2_with fail
    exact ⟨aW.out,HN,I2⟩
 case done=>
  rintro D s W hD ⟨h0,h1,aO⟩ ⟨hK,hI⟩ F;have hf:=hK.out.spent ax h0 h1;have e1:cG xs bs=150:=by rw [HE.out,hf];rfl
  have e2:eO xs bs=[]:=by rw [HX.out,e1];rfl
  have e3:fW xs bs=0:=by rw [aE.out,e1];rfl
  have e4:eN xs bs=[]:=by rw [aH.out,hf]
  have aV:Hid (cG xs bs=150∧eO xs bs=[]∧fW xs bs=0∧eN xs bs=[]):=⟨e1,e2,e3,e4⟩
  have cx:=hI.out.xb.cell;have fx:=hI.out.xb.frozen;have ck:=hI.out.kb.cell;have fk:=hI.out.kb.frozen;have ce:=hI.out.eb.cell;have fe:=hI.out.eb.frozen;have ap:gx≠gk∧gx≠ge∧gk≠ge:=by have:=a.out;omega
  obtain ⟨ay,az,aA⟩:=ap;obtain ⟨G,kS⟩:=hI.out.ends (u:=.slice none 0 0) (Row.nil _ _) (fun b hb=>by cases hb) aO ay az aA (by have:=a.out;omega) (by have:=a.out;omega) (by have:=a.out;omega) g.out 0 150;have y:=(kS.block D (lt_of_block F) (by have:=a.out;rintro (e | e | e) <;> omega)).trans F;have HF:Hid (EndB w ((((W.setCell ⟨gx,0,none⟩ (.slice none 0 0)).setCell ⟨gk,0,none⟩ (.int .i64 0)).setCell ⟨ge,0,none⟩ (.int .i64 150)).putObj D (.deferred none)) p B gx gk ge [] 0 150 [] (.slice none 0 0)):=G.put (.deferred none) y rfl (by have:=a.out;omega);have aS:=aa y;clear e1 e2 e3 e4 hf hK h0 h1 aO hI G kS y F T b0 b1 b2 b3 Z;go_wp2_with fail
  refine ⟨by simp,.inl ⟨_,_,rfl,run_takeDeferred aS.out,?_⟩⟩;have q1:=HF.out.xb.cell;have q2:=HF.out.kb.cell;have q3:=HF.out.eb.cell;obtain ⟨e1,e2,e3,e4⟩:=aV.out;rw [e1,e2,e3,e4];refine ⟨.tuple #[.slice none 0 0,.int .i64 0,.int .i64 150],?_,_,rfl,⟨Row.nil _ _,HF.out.new⟩,HF.out.scr,HF.out.old⟩;simp [results,Tryz.f81,go_sem,q1,q2,q3]
 case stop=>
  rintro D c s W hD ⟨rfl,u,G⟩ F;have hF:=G.put (.deferred none) F rfl (by have:=a.out;omega);obtain ⟨uo,un,uc,rfl,_⟩:=G.row.open;have HF:=aa hF;clear G hF
  gi_wp2
  refine ⟨by simp,.inl ⟨_,_,rfl,run_takeDeferred F,?_⟩⟩;have q1:=HF.out.xb.cell;have q2:=HF.out.kb.cell;have q3:=HF.out.eb.cell;refine ⟨.tuple #[.slice uo un uc,.int .i64 (fW xs bs:Nat),.int .i64 (cG xs bs:Nat)],?_,_,rfl,⟨HF.out.row,HF.out.new⟩,HF.out.scr,HF.out.old⟩;simp [results,Tryz.f81,go_sem,q1,q2,q3]

theorem Bh (p:Option Addr) (B:Nat) (bs xs:List Nat) (v:Value) (w:World) (h:Lsc w p B bs) (hB:B≤w.heap.size) (b:Digs bs 256) (hv:Row .u64 w v xs) (hd:Digs xs) (hl:xs.length≤300) (a:2≤val xs) :
  Calls Tryz.prog 81 #[.pointer p,v] w fun e w'=>∃ u,e=.returned (.tuple #[u,.int .i64 (fW xs bs:Nat),.int .i64 (cG xs bs:Nat)])∧Row .u64 w' u (eO xs bs)∧Lsc w' p B (eN xs bs)∧Kept (ofP p) w w':=by
 refine (rf p B bs xs v w h hB b hv hd hl a).mono ?_;rintro e w' ⟨u,he,h1,h2⟩;exact ⟨u,he,h1.1,h2⟩

open Go.RowKit

def NoTab (_:World):Prop:=True

theorem nn {xs bs:List Nat} (h:300<xs.length∨val xs<2):eO xs bs=[]∧fW xs bs=0∧eN xs bs=bs:=by
 have e:cG xs bs≠0:=by
  unfold cG
  split
  ·omega
  ·next h1=>
   rw [if_pos (by omega)];omega
 exact ⟨if_neg e,if_neg e,if_pos h⟩

theorem Bl (p:Option Addr) (B:Nat) (bs xs:List Nat) (v:Value) (w:World) (h:Lsc w p B bs) (hB:B≤w.heap.size) (a:Digs bs 256) (hv:Row .u64 w v xs) (hd:Digs xs) (hl:xs.length≤1000000) :
  Calls Tryz.prog 81 #[.pointer p,v] w fun e w'=>∃ u,e=.returned (.tuple #[u,.int .i64 (fW xs bs:Nat),.int .i64 (cG xs bs:Nat)])∧Row .u64 w' u (eO xs bs)∧Lsc w' p B (eN xs bs)∧Kept (ofP p) w w':=by
 by_cases hb:300<xs.length∨val xs<2
 ·obtain ⟨e1,e2,e3⟩:=nn (bs:=bs) hb;rw [e1,e2,e3];refine (ml p B bs xs v w h hv hd hl hb).mono ?_;rintro e w' ⟨rfl,h1,k1⟩;exact ⟨_,rfl,Row.nil _ _,h1,k1.any⟩
 ·exact Bh p B bs xs v w h hB a hv hd (by omega) (by omega)

theorem ss (p:Option Addr) (B:Nat) (bs xs:List Nat) (v:Value) (w:World) (h:Lsc w p B bs) (hB:B≤w.heap.size) (a:Digs bs 256) (hv:Row .u64 w v xs) (hd:Digs xs) (hl:xs.length≤1000000) :
  Calls Tryz.prog 81 #[.pointer p,v] w fun e w'=>∃ u,e=.returned (.tuple #[u,.int .i64 (fW xs bs:Nat),.int .i64 (cG xs bs:Nat)])∧(Row .u64 w' u (eO xs bs)∧∀ b,u.ownBlock=some b→w.heap.size≤b)∧Lsc w' p B (eN xs bs)∧Kept (ofP p) w w':=by
 by_cases hb:300<xs.length∨val xs<2
 ·obtain ⟨e1,e2,e3⟩:=nn (bs:=bs) hb;rw [e1,e2,e3];refine (ml p B bs xs v w h hv hd hl hb).mono ?_;rintro e w' ⟨rfl,h1,k1⟩;exact ⟨_,rfl,⟨Row.nil _ _,(fun b hb=>by cases hb)⟩,h1,k1.any⟩
 ·exact rf p B bs xs v w h hB a hv hd (by omega) (by omega)

theorem iV {a y:Nat} (h:ofP (some ⟨a,0,none⟩) y):y=a:=(Option.some.inj h).symm

def KS.light (s:KS):Prop:=s.nl≤1000∧s.dl≤1000∧s.pl≤1000∧s.ql≤1000∧s.dpl≤1000∧s.dql≤1000∧s.qil≤1000

theorem KS.few.light {s:KS} (h:s.few):s.light:=by
 obtain ⟨h0,h1,h2,h3,h4,h5,h6⟩:=h;have a0:=h0.le;have a1:=h1.le;have a2:=h2.le;have a3:=h3.le;have a4:=h4.le;have a5:=h5.le;have a6:=h6.le;exact ⟨by omega,by omega,by omega,by omega,by omega,by omega,by omega⟩

def AtOk (a:Int):Prop:=-9223372036854775808≤a∧a≤9223372036854775807

def jV (ans ads aps aqs adps adqs aqis:List Nat) (e:Nat) (at_:Int) (fs cs bs:List Nat) (E:Nat) (RL rest:List Nat):Prop:=
 (¬ KeyGood ans ads aps aqs adps adqs aqis e∧E=190∧RL=[]∧rest=bs) ∨
 (KeyGood ans ads aps aqs adps adqs aqis e∧pG (val ans) cs=1∧E=1∧RL=[]∧rest=bs) ∨
 (KeyGood ans ads aps aqs adps adqs aqis e∧pG (val ans) cs=0∧∃ r1 k e1,jf ans bs=(r1,k,e1,rest) ∧
  ((e1≠0∧E=e1∧RL=[])∨(e1=0∧∃ T,T<val ans∧val r1*T%val ans=1∧∃ m,m=pN at_ fs (bev cs*(val r1^e%val ans)%val ans) T (val ans) (val aps) (val aqs) (val adps) (val adqs) (val aqis) ans.length (ah (val aps)) (ah (val aqs)) ∧
   ((m^e%val ans≠bev cs∧E=220∧RL=List.replicate cs.length 0)∨(m^e%val ans=bev cs∧E=0∧RL=bes m cs.length cs.length)))))

def zR:Prop:=∀ (p:Option Addr) (B:Nat) (bs ns:List Nat) (ao:Option Addr) (L cap:Nat) (r1:List Nat) (r2 r3:Nat) (r4:List Nat) (w:World),jf ns bs=(r1,r2,r3,r4)→Lsc w p B bs→B≤w.heap.size→Digs bs 256→bs.length≤10000→Row .u64 w (.slice ao L cap) ns→Digs ns→L≤1000 →
 Calls Tryz.prog 15 #[.pointer p,.slice ao L cap] w fun e w'=>∃ u,e=.returned (.tuple #[u,.int .i64 (r2:Nat),.int .i64 (r3:Nat)])∧(Row .u64 w' u r1∧∀ b,u.ownBlock=some b→w.heap.size≤b)∧Lsc w' p B r4∧Kept (ofP p) w w'

theorem sY (s:KS) (co bo fo:Option Addr) (cl cc bl bc fl fc:Nat) (at_:Int) (R:Bool) (hR:R=true↔s.few∧s.nl≤9∧cl≤200∧bl≤500∧fl≤20) (w:World) :
  Calls Tryz.prog 10 #[.agg s.v,.slice co cl cc,.slice bo bl bc,.agg #[.int .i64 at_,.slice fo fl fc]] w fun r w'=>r=.returned (.bool R)∧Kept ae w w':=by
 obtain ⟨W,hW⟩:∃ W,W=(w.alloc (.cells s.v 26)).alloc (.cells #[.int .i64 at_,.slice fo fl fc] 31):=⟨_,rfl⟩
 have k0:Kept ae w W:=by rw [hW];exact ((ag ae w).alloc _).alloc _
 have b1:W.heap[w.heap.size]? = some (.cells s.v 26 (0,0)):=by rw [hW];exact ak (heap_alloc_new _ _)
 have b2:W.heap[w.heap.size+1]? = some (.cells #[.int .i64 at_,.slice fo fl fc] 31 (0,0)):=by
  rw [hW];have:=heap_alloc_new (w.alloc (.cells s.v 26)) (.cells #[.int .i64 at_,.slice fo fl fc] 31)
  rwa [World.size_alloc] at this
 obtain ⟨d0,d1,d2,d3,d4,d5,d6,d7⟩:=aJ b1;have HC:Hid (∀ W',Kept ae W W'→W'.cell? ⟨w.heap.size,0,none⟩=some (.slice s.no s.nl s.nc)∧W'.cell? ⟨w.heap.size+1,1,none⟩=some (.slice fo fl fc)):=fun W' k=>⟨(aJ ((k.block _ (lt_of_block b1) (fun f=>f)).trans b1)).1,k.cellN ((cell_of_row W _ 1 _ _ _ b2).trans rfl)⟩
 have HW:=aa hW;have b:=aa k0;clear hW k0 b1 b2;by_cases h0:s.few
 ·have J0:=sV s true (iff_of_true rfl h0) W;by_cases h1:s.nl≤9
  ·have g1:(s.nl:Int)≤9:=by omega
   by_cases h2:cl≤200
   ·have g2:(cl:Int)≤200:=by omega
    by_cases h3:bl≤500
    ·have g3:(bl:Int)≤500:=by omega
     by_cases h4:fl≤20
     ·have g4:(fl:Int)≤20:=by omega
      obtain rfl:R=true:=hR.2 ⟨h0,h1,h2,h3,h4⟩;clear hR h0 h1 h2 h3 h4;unfold KS.v at HW ⊢;go_enter Tryz.func10,Tryz.ntmps10;go_wp2_with (rw [← HW.out]);refine J0.mono ?_;rintro r w1 ⟨rfl,k1⟩;obtain ⟨c0,c1⟩:=HC.out w1 k1;have a:=aa (b.out.trans k1);clear J0 k1 HC;go_wp2_with fail;go_ret;exact ⟨by first | rfl | (simp;omega),a.out⟩
     ·have g4:¬ (fl:Int)≤20:=by omega
      obtain rfl:R=false:=by
       cases e:R with
       | false=>rfl
       | true=>exact absurd (hR.1 e).2.2.2.2 h4
      clear hR h0 h1 h2 h3 h4;unfold KS.v at HW ⊢;go_enter Tryz.func10,Tryz.ntmps10;go_wp2_with (rw [← HW.out]);refine J0.mono ?_;rintro r w1 ⟨rfl,k1⟩;obtain ⟨c0,c1⟩:=HC.out w1 k1;have a:=aa (b.out.trans k1);clear J0 k1 HC;go_wp2_with fail;go_ret;exact ⟨by first | rfl | (simp;omega),a.out⟩
    ·have g3:¬ (bl:Int)≤500:=by omega
     obtain rfl:R=false:=by
      cases e:R with
      | false=>rfl
      | true=>exact absurd (hR.1 e).2.2.2.1 h3
     clear hR h0 h1 h2 h3;unfold KS.v at HW ⊢;go_enter Tryz.func10,Tryz.ntmps10;go_wp2_with (rw [← HW.out]);refine J0.mono ?_;rintro r w1 ⟨rfl,k1⟩;obtain ⟨c0,c1⟩:=HC.out w1 k1;have a:=aa (b.out.trans k1);clear J0 k1 HC;go_wp2_with fail;go_ret;exact ⟨by first | rfl | (simp;omega),a.out⟩
   ·have g2:¬ (cl:Int)≤200:=by omega
    obtain rfl:R=false:=by
     cases e:R with
     | false=>rfl
     | true=>exact absurd (hR.1 e).2.2.1 h2
    clear hR h0 h1 h2;unfold KS.v at HW ⊢;go_enter Tryz.func10,Tryz.ntmps10;go_wp2_with (rw [← HW.out]);refine J0.mono ?_;rintro r w1 ⟨rfl,k1⟩;obtain ⟨c0,c1⟩:=HC.out w1 k1;have a:=aa (b.out.trans k1);clear J0 k1 HC;go_wp2_with fail;go_ret;exact ⟨by first | rfl | (simp;omega),a.out⟩
  ·have g1:¬ (s.nl:Int)≤9:=by omega
   obtain rfl:R=false:=by
    cases e:R with
    | false=>rfl
    | true=>exact absurd (hR.1 e).2.1 h1
   clear hR h0 h1;unfold KS.v at HW ⊢;go_enter Tryz.func10,Tryz.ntmps10;go_wp2_with (rw [← HW.out]);refine J0.mono ?_;rintro r w1 ⟨rfl,k1⟩;obtain ⟨c0,c1⟩:=HC.out w1 k1;have a:=aa (b.out.trans k1);clear J0 k1 HC;go_wp2_with fail;go_ret;exact ⟨by first | rfl | (simp;omega),a.out⟩
 ·have J0:=sV s false (iff_of_false (by decide) h0) W;obtain rfl:R=false:=by
   cases e:R with
   | false=>rfl
   | true=>exact absurd (hR.1 e).1 h0
  clear hR h0;unfold KS.v at HW ⊢;go_enter Tryz.func10,Tryz.ntmps10;go_wp2_with (rw [← HW.out]);refine J0.mono ?_;rintro r w1 ⟨rfl,k1⟩;obtain ⟨c0,c1⟩:=HC.out w1 k1;have a:=aa (b.out.trans k1);clear J0 k1 HC;go_wp2_with fail;go_ret;exact ⟨by first | rfl | (simp;omega),a.out⟩

def pmV (N1 n L:Nat):List Ev:=b9 N1 n ++ tY n L

theorem Cy (o:Tr) (ao bo xo eo:Option Addr) (n K a b N1 xc L c X V:Nat) (ys:List Nat) (w:World) (ht:TrRoom w o 71000000) (hM:Md w o ao bo n K a b V) (hx:NumT w o (.slice xo N1 xc) N1 X) (i:N1≤300) (hy:RowT w o (.slice eo L c) ys) (j:Digs ys) (hL:L≤300) :
  Calls Tryz.prog 145 #[aC o,.agg #[.slice ao n a,.int .u64 (K:Nat),.slice bo n b],.slice xo N1 xc,.slice eo L c] w fun e w'=>∃ zo zc o',e=.returned (.slice zo n zc)∧NumT w' o' (.slice zo n zc) n (X^val ys%V)∧Did w o (pmV N1 n L) w' o':=by
 obtain ⟨po,g⟩:=aE o;obtain ⟨f0,f1,f4,f5⟩:=hM.facts;obtain ⟨W,hW⟩:∃ W,W=w.alloc (.cells #[.slice ao n a,.int .u64 (K:Nat),.slice bo n b] 70):=⟨_,rfl⟩
 have k0:Kept ae w W:=by rw [hW];exact (ag ae w).alloc _
 have l:W.heap[w.heap.size]? = some (.cells #[.slice ao n a,.int .u64 (K:Nat),.slice bo n b] 70 (0,0)):=by rw [hW];exact heap_alloc_new _ _
 have kd:Kept ae w W.drew:=k0.drew;have s0:Wr w o [] W.drew o (.pointer po) 71000000:=⟨Did.of_kept kd ht.1,ht.grew kd,g⟩
 have M0:=hM.grew kd;have Y0:=hy.grew kd;have hV:0<V:=by omega
 have HE:Hid (X^val ys%V=(X%V)^val ys%V):=Nat.pow_mod _ _ _;have c1:=ux o ao bo xo n K a b N1 xc X V W.drew (s0.room.less (by omega)) M0 (hx.grew kd) i;rw [g] at c1;have HW:=aa hW;rw [g];clear hM hx hy hW k0;go_enter Tryz.func145,Tryz.ntmps145;go_wp2_with (rw [← HW.out]);refine wp_region_held_drew (S:=fun w'=>w'.heap[w.heap.size]? = some (.cells #[.slice ao n a,.int .u64 (K:Nat),.slice bo n b] 70 (0,0))) (by kernel_rfl) l (fun hS=>?_);refine al 0 (some 9) (.pointer po) hS ?_;simp only [Act.put,lsA,lsS,lsZ]
 refine al 1 (some 10) (.agg #[.slice ao n a,.int .u64 (K:Nat),.slice bo n b]) hS ?_ (y:=.inl ⟨by rfl,fun w h=>by simp [execOp,go_sem,(am h).1,(am h).2.1,(am h).2.2]⟩);simp only [Act.put,lsA,lsS,lsZ];refine al 2 (some 11) (.pointer po) hS ?_;simp only [Act.put,lsA,lsS,lsZ];refine al 3 (some 12) (.agg #[.slice ao n a,.int .u64 (K:Nat),.slice bo n b]) hS ?_ (y:=.inl ⟨by rfl,fun w h=>by simp [execOp,go_sem,(am h).1,(am h).2.1,(am h).2.2]⟩);simp only [Act.put,lsA,lsS,lsZ];refine al 4 (some 13) (.slice xo N1 xc) hS ?_;simp only [Act.put,lsA,lsS,lsZ];refine al 9 (some 18) (.slice eo L c) hS ?_;simp only [Act.put,lsA,lsS,lsZ]
 refine aH 5 (some 14) 141 [.pointer po,.agg #[.slice ao n a,.int .u64 (K:Nat),.slice bo n b],.slice xo N1 xc] (c1) ?_;rintro r w1 ⟨zo,zc,o1,rfl,X1,d1⟩;have d:=d1.cells hS s0.room.1 (by decide) (by decide);have s1:=s0.next (k:=70500000) d1 (by have h:=dh N1 n;omega)
 have M1:=M0.did d1;have Y1:=Y0.did d1;refine .inl ⟨_,rfl,d,?_⟩;simp only [Act.put,lsA,lsS,lsZ];refine al 6 (some 15) (.slice zo n zc) d ?_;simp only [Act.put,lsA,lsS,lsZ];refine al 7 (some 16) (.int .i64 0) d ?_;simp only [Act.put,lsA,lsS,lsZ];refine aH 8 (some 17) 31 [.slice zo n zc,.int .i64 0] (dH zo n zc _) ?_;rintro r w2 ⟨rfl,rfl⟩;refine .inl ⟨_,rfl,d,?_⟩;simp only [Act.put,lsA,lsS,lsZ];have c2:=Cv o1 ao bo zo eo n K a b zc L c (X%V) V ys _ (s1.room.less (by omega)) M1 X1 (Nat.mod_lt _ hV) Y1 j hL;rw [s1.ptr] at c2
 refine aH 10 (some 19) 201 [.pointer po,.agg #[.slice ao n a,.int .u64 (K:Nat),.slice bo n b],.slice zo n zc,.slice eo L c] (c2) ?_;rintro r w3 ⟨yo,yc,o3,rfl,X3,d3⟩;have f:=d3.cells d s1.room.1 (by decide) (by decide);have s3:=s1.next (k:=9000000) d3 (by have h:=kJ f1 hL;omega)
 refine .inl ⟨_,rfl,f,?_⟩;simp only [Act.put,lsA,lsS,lsZ];refine al 11 (some 20) (.slice yo n yc) f ?_;simp only [Act.put,lsA,lsS,lsZ];refine al 12 (some 21) (.int .i64 0) f ?_;simp only [Act.put,lsA,lsS,lsZ];refine aH 13 (some 22) 31 [.slice yo n yc,.int .i64 0] (dH yo n yc _) ?_;rintro r w4 ⟨rfl,rfl⟩;refine .inl ⟨_,rfl,f,?_⟩;simp only [Act.put,lsA,lsS,lsZ];refine al 14 (some 8) (.slice yo n yc) f ?_;simp only [Act.put,lsA,lsS,lsZ];refine wpAnyH_done (by kernel_rfl) ?_ _;go_wp2_with fail;go_ret;exact ⟨yo,yc,o3,rfl,by rw [HE.out];exact X3,s3.did⟩

def oI (at_ k:Int) (fs:List Nat) (X n V:Nat):Nat:=(if at_=k then val (fs.take n) else X)%V

theorem jU {at_ k:Int} {fs:List Nat} {X n V:Nat} (h:X<V):oI at_ k fs X n V=r9 at_ k fs X n V:=by
 unfold oI r9
 split
 ·rfl
 ·exact ar h

def jI (n:Nat):List Ev:=[(1,((1:Nat):Int),0)] ++ [(1,(n:Int),0)] ++ b9 n n

theorem eE (n:Nat):(jI n).length≤60010:=by
 have h:=dh n n;unfold jI;simp;omega

def atW (a:Int):Nat:=(a%18446744073709551616).toNat

theorem zS (a:Int):atW a<18446744073709551616:=by unfold atW;omega

theorem vM {a:Int} {k:Nat} (h:AtOk a) (hk:k≤4) (h1:1≤k):k=atW a↔a=(k:Int):=by
 unfold AtOk at h;unfold atW;omega

theorem qG (W:World) (o:Tr) (x:Nat) (hx:x<18446744073709551616) (ht:TrIn W o):NumT (W.alloc (.cells #[.int .u64 (x:Nat)] 24)) o (.slice (some ⟨W.heap.size,0,none⟩) 1 1) 1 x:=by
 have hr:=World.ownsRow_lit (base:=W.heap.size) (e:=24) (size:=1) W #[.int .u64 (x:Nat)] 1 (leR _) (by unfold maxLen;omega) rfl;refine NumT.own (base:=W.heap.size) ?_ (by rw [Nat.pow_one];exact hx) (ht.grew ((ag _ _).alloc _));unfold OwnN;rw [eF x 0 hx];exact hr

theorem eH {w:World} {b:Nat} {x y:Value} (h:w.heap[b]? = some (.cells #[x,y] 31 (0,0))):w.cell? ⟨b,0,none⟩=some x∧w.cell? ⟨b,1,none⟩=some y:=⟨(cell_of_row w _ 0 _ _ _ h).trans rfl,(cell_of_row w _ 1 _ _ _ h).trans rfl⟩

theorem iZ (k:Nat) (h1:1≤k) (h4:k≤4) (o:Tr) (bT bF:Nat) (at_:Int) (A:AtOk at_) (ao bo xo fo:Option Addr) (n K c d xc fl fc X V:Nat) (fs:List Nat) (w:World) (ht:TrRoom w o 100000) (hM:Md w o ao bo n K c d V) (hx:NumT w o (.slice xo n xc) n X)
  (hT:Box w bT (aC o) 53) (hF:w.heap[bF]? = some (.cells #[.int .i64 at_,.slice fo fl fc] 31 (0,0))) (hf:RowT w o (.slice fo fl fc) fs) (gf:Digs fs) :
  Calls Tryz.prog 140 #[.int .i64 (k:Nat),.agg #[.slice ao n c,.int .u64 (K:Nat),.slice bo n d],.slice xo n xc,.pointer (some ⟨bT,0,none⟩),.pointer (some ⟨bF,0,none⟩)] w fun e w'=>∃ zo zc o',e=.returned (.slice zo n zc)∧NumT w' o' (.slice zo n zc) n (oI at_ k fs X n V)∧Did w o (jI n) w' o':=by
 obtain ⟨po,t⟩:=aE o;rw [t] at hT;obtain ⟨f0,f1,f4,f5⟩:=hM.facts;obtain ⟨a,ha⟩:∃ a,a=atW at_:=⟨_,rfl⟩
 have H:a<18446744073709551616:=by rw [ha];exact zS _
 have I:IntKind.u64.wrap at_=(a:Int):=by rw [ha];rw [IntKind.wrap_u64];unfold atW;omega
 have L:(k:Int)%18446744073709551616=(k:Int):=by omega
 obtain ⟨W1,p⟩:∃ W1,W1=w.alloc (.cells #[.slice ao n c,.int .u64 (K:Nat),.slice bo n d] 70):=⟨_,rfl⟩
 obtain ⟨W2,q⟩:∃ W2,W2=W1.alloc (.cells #[.int .u64 (k:Nat)] 24):=⟨_,rfl⟩
 obtain ⟨W3,s⟩:∃ W3,W3=W2.alloc (.cells #[.int .u64 (a:Nat)] 24):=⟨_,rfl⟩
 have z1:W1.heap.size=w.heap.size+1:=by rw [p];simp
 have z2:W2.heap.size=w.heap.size+1+1:=by rw [q];simp [z1]
 have k1:Kept ae w W1:=by rw [p];exact (ag ae w).alloc _
 have k2:Kept ae W1 W2:=by rw [q];exact (ag ae W1).alloc _
 have k3:Kept ae W2 W3:=by rw [s];exact (ag ae W2).alloc _
 have x:=k2.trans k3;have g:=k1.trans x;have v:W1.heap[w.heap.size]? = some (.cells #[.slice ao n c,.int .u64 (K:Nat),.slice bo n d] 70 (0,0)):=by rw [p];exact heap_alloc_new _ _
 have B:=(x.block _ (lt_of_block v) (fun f=>f)).trans v;have n1:NumT W2 o (.slice (some ⟨W1.heap.size,0,none⟩) 1 1) 1 k:=by rw [q];exact qG W1 o k (by omega) (ht.1.grew k1)
 have n2:NumT W3 o (.slice (some ⟨W2.heap.size,0,none⟩) 1 1) 1 a:=by rw [s];exact qG W2 o a H (ht.1.grew (k1.trans k2))
 rw [z1] at n1;rw [z2] at n2;have s0:Wr w o [] W3 o (.pointer po) 100000:=⟨Did.of_kept g ht.1,ht.grew g,t⟩
 obtain ⟨b,hb⟩:∃ b,b=aX (decide (k=a)):=⟨_,rfl⟩
 have J:b≤1:=by rw [hb];exact kF _
 have HB:Hid (aQ b (val (fs.take n)) X=if at_=(k:Int) then val (fs.take n) else X):=by
  unfold Hid;have hi:=vM A h4 h1;rw [← ha] at hi;by_cases e:k=a
  ·rw [if_pos (hi.1 e),hb,bw e];rfl
  ·rw [if_neg (fun h=>e (hi.2 h)),hb,aW e];rfl
 have c1:=Cu o _ _ 1 1 k a W3 (s0.room.less (by omega)) (n1.grew k3) n2 (by omega) (by omega);rw [t,← hb] at c1;have M0:=hM.grew g;have X0:=hx.grew g;have F0:=hf.grew g;have T0:=hT.grew g;have G0:=(g.block _ (lt_of_block hF) (fun f=>f)).trans hF;have G:=(hT.grew k1).cell;have F:=(eH ((k2.block _ (lt_of_block ((k1.block _ (lt_of_block hF) (fun f=>f)).trans hF)) (fun f=>f)).trans ((k1.block _ (lt_of_block hF) (fun f=>f)).trans hF))).1;have C:=aa p;have D:=aa q;have E:=aa s;have Z1:=z1;have Z2:=z2;clear hM hx hf hT hF p q s k1 k2 k3 x g z1 z2 n1 n2 hb ha v ht h1 A;go_enter Tryz.func140,Tryz.ntmps140
 go_wp2_with (first | rw [← C.out] | rw [← D.out] | rw [← E.out]);refine c1.mono ?_;rintro e w4 ⟨rfl,o4,d4⟩;have dd:Did w4 o4 [] w4.drew o4:=Did.of_kept (ag ae w4).drew (s0.next (k:=99000) d4 (by simp)).room.1;have d5:=d4.trans dd;have s5:=s0.next (k:=99000) d5 (by simp)
 have M5:=M0.did d5;have X5:=X0.did d5;have F5:=F0.did d5;have z:=And.intro (d4.cells T0 s0.room.1 (by decide) (by decide)) (And.intro (d4.cells G0 s0.room.1 (by decide) (by decide)) (d4.cells B s0.room.1 (by decide) (by decide)));clear c1 M0 X0 F0 T0 G0 B G F dd Z1 Z2;go_wp2_with fail;refine wp_region_held_drew (S:=fun w'=>w'.heap[bT]? = some (.cells #[.pointer po] 53 (0,0))∧w'.heap[bF]? = some (.cells #[.int .i64 at_,.slice fo fl fc] 31 (0,0))∧w'.heap[w.heap.size]? = some (.cells #[.slice ao n c,.int .u64 (K:Nat),.slice bo n d] 70 (0,0))) (by kernel_rfl) z (fun hS=>?_)
 refine al 0 (some 20) (.pointer po) hS ?_ (y:=.inl ⟨by rfl,fun w h=>by simp [execOp,go_sem,Box.cell h.1]⟩);simp only [Act.put,lsA,lsS,lsZ];refine al 1 (some 21) (.int .u64 (b:Int)) hS ?_;simp only [Act.put,lsA,lsS,lsZ];refine al 2 (some 22) (.pointer (some ⟨bF,1,none⟩)) hS ?_;simp only [Act.put,lsA,lsS,lsZ];refine al 3 (some 23) (.slice fo fl fc) hS ?_ (y:=.inl ⟨by rfl,fun w h=>by simp [execOp,go_sem,(eH h.2.1).2]⟩);simp only [Act.put,lsA,lsS,lsZ];refine al 4 (some 24) (.slice xo n xc) hS ?_;simp only [Act.put,lsA,lsS,lsZ];refine al 5 (some 25) (.int .i64 (n:Int)) hS ?_;simp only [Act.put,lsA,lsS,lsZ];refine al 7 (some 27) (.slice xo n xc) hS ?_
 simp only [Act.put,lsA,lsS,lsZ];refine aH 6 (some 26) 83 [.slice fo fl fc,.int .i64 (n:Int)] (qM _ fs n _ F5.1 gf (by omega)) ?_;rintro r w6 ⟨rfl,i,k6⟩;have d6:Did w4.drew o4 [] w6 o4:=Did.of_kept k6 s5.room.1;have s6:=s5.next (k:=98000) d6 (by simp)
 have M6:=M5.did d6;have X6:=X5.did d6;rw [iL,← ef (by omega) gf] at i;have F6:=NumT.own i (by rw [ef (by omega) gf];exact Nat.mod_lt _ (Nat.pow_pos (by omega))) s6.room.1;have l:=And.intro (d6.cells hS.1 s5.room.1 (by decide) (by decide)) (And.intro (d6.cells hS.2.1 s5.room.1 (by decide) (by decide)) (d6.cells hS.2.2 s5.room.1 (by decide) (by decide)));refine .inl ⟨_,rfl,l,?_⟩;simp only [Act.put,lsA,lsS,lsZ];have c7:=CC o4 b n _ X (by omega) _ _ _ (s6.room.less (by omega)) F6 X6 (by omega);rw [s6.ptr,HB.out] at c7;refine aH 8 (some 28) 94 [.pointer po,.int .u64 (b:Int),.slice (some ⟨w4.drew.heap.size,0,none⟩) n n,.slice xo n xc] (c7) ?_
 rintro r w7 ⟨zo,zc,o7,rfl,X7,d7⟩;have s7:=s6.next (k:=97000) d7 (by simp)
 have M7:=M6.did d7;have m:=And.intro (d7.cells l.1 s6.room.1 (by decide) (by decide)) (And.intro (d7.cells l.2.1 s6.room.1 (by decide) (by decide)) (d7.cells l.2.2 s6.room.1 (by decide) (by decide)));refine .inl ⟨_,rfl,m,?_⟩;simp only [Act.put,lsA,lsS,lsZ];refine al 9 (some 10) (.slice zo n zc) m ?_;simp only [Act.put,lsA,lsS,lsZ];refine wpAnyH_done (by kernel_rfl) ?_ _;have c8:=ux o7 ao bo zo n K c d n zc _ V _ (s7.room.less (by omega)) M7 X7 (by omega);rw [s7.ptr] at c8;obtain ⟨q0,q1,q2⟩:=am m.2.2;have q3:=Box.cell m.1;clear hS z l m c7 i F5 F6 X5 X6 M5 M6 M7 X7 d4 d6 k6;go_wp2_with fail;refine c8.mono ?_;rintro e w8 ⟨yo,yc,o8,rfl,X8,d8⟩
 have s8:=s7.next (k:=10) d8 (by have h:=dh n n;omega)
 clear c8;go_wp2_with fail;refine (dH yo n yc w8).mono ?_;rintro e w9 ⟨rfl,rfl⟩;go_wp2_with fail;go_ret;refine ⟨yo,yc,o8,rfl,X8,?_⟩;have h:=s8.did;simpa [jI] using h

end Go.Proofs.YtkaojflnghfmcaaGreatDoor
