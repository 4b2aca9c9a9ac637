/- Put together of: Lsc5 Nob1 Lsc6 Law21 Law22 Law22b Law22e Seq1 Sho1 Pro1 MonA Pro0. -/
import Derived.Test.YtpkmoamgpjcdeaaGreatDoorBY5
import Derived.Defers
import Derived.Recover

namespace Go.Proofs.YtpkmoamgpjcdeaaGreatDoor
open _root_.Go.Proofs.Tryz
set_option maxRecDepth 100000
set_option maxHeartbeats 4000000
open Go.RowKit Go.Shelf
variable {A B E K M N P Q R S V X Y c e ge gk gx j k n q z:Nat} {RL bs cs os xs zs:LN} {W W' w w':World} {p:OA} {t:TypeId} {u:Value}

attribute [local go_sem] Oper.semAt_some

theorem sJ {k:IntKind} {b:Nat} {cs:Array Value} {v:Value} (hb:w.heap[b]? = some (.cells cs t (0,0))) (hc:∀ u ∈ cs,∀ z,u≠.int k z) (hv:Row k w v xs) (hx:xs≠[]):v.ownBlock≠some b:=by
 intro e;obtain ⟨ao,L,f,rfl,hL,_,_,_,c⟩:=hv.open;have d:0<L:=by
  rw [<- hL.o];exact List.length_pos_iff.2 hx
 obtain ⟨b',off,rfl,a⟩:=c 0 d;cases e
 rw [cell_of_row w b' (off+0) _ _ _ hb] at a;exact hc _ (Array.mem_of_getElem? a) _ rfl

theorem Lsc.apart {k:IntKind} {v:Value} (h:Lsc w p B bs) (hv:Row k w v xs) (hx:xs≠[]) (hk:k≠.i64:=by decide):∀ x,v.ownBlock=some x->¬ ofP p x:=by
 intro x e hp;rcases h with ⟨rfl,_⟩ | ⟨b,v',ps,pl,rfl,_,h⟩
 ·cases hp
 ·cases hp
  refine sJ h.1 ?_ hv hx e;obtain ⟨_,_,rfl,_⟩:=h.2.1;intro u hu z;simp at hu;rcases hu with rfl | rfl
  ·simp
  ·intro e;cases e
   exact hk rfl

theorem lR {b:Nat} {v:Value} (hb:Boxed w b t u) (hu:∀ z,u≠.int .u64 z) (hv:Row .u64 w v xs) (hx:xs≠[]):v.ownBlock≠some b:=
 sJ hb (fun y hy z=>by simp at hy;rw [hy];exact hu z) hv hx

structure BtwB (w W:World) (p:OA) (v:Value) (gm gx gk ge:Nat):Prop where
 mb:Boxed W gm 23 v
 xb:Boxed W gx 23 (.slice none 0 0)
 kb:Boxed W gk 3 (.int .i64 0)
 eb:Boxed W ge 35 (.int .i64 0)
 old:Kept (ofP p) w W

theorem BtwB.kept {S:Nat->Prop} {v:Value} {gm:Nat} (b:BtwB w W p v gm gx gk ge) (k:Kept S W W') (h0:¬ S gm) (h1:¬ S gx) (h2:¬ S gk) (h3:¬ S ge) (ho:∀ x,x<w.heap.size->S x->ofP p x):BtwB w W' p v gm gx gk ge:=
 ⟨fm b.mb k h0,fm b.xb k h1,fm b.kb k h2,fm b.eb k h3,b.old.next k ho⟩

structure EndB (w W:World) (p:OA) (B:Nat) (gx gk ge:Nat) (X:LN) (K E:Nat) (r:LN) (u:Value):Prop where
 xb:Boxed W gx 23 u
 kb:Boxed W gk 3 (.int .i64 (K:Nat))
 eb:Boxed W ge 35 (.int .i64 (E:Nat))
 row:Row .u64 W u X
 scr:Lsc W p B r
 old:Kept (ofP p) w W
 new:∀ b,u.ownBlock=some b->w.heap.size<=b

theorem EndB.put {l:Nat} {X r:LN} {o:Obj} (o':Obj) (h:EndB w W p B gx gk ge X K E r u) (hl:W.heap[l]? = some o) (ho:o.isCells=false) (hw:w.heap.size<=l):EndB w (W.putObj l o') p B gx gk ge X K E r u:=by
 have a:∀ {b:Nat} {t:TypeId} {v:Value},Boxed W b t v->Boxed (W.putObj l o') b t v:=fun {b t v} hb=>(World.putObj_heap_other fun e=>by
  subst e;have c:W.heap[_]? = some (Obj.cells _ _ _):=hb;rw [hl] at c;cases c
  cases ho).trans hb
 exact ⟨a h.xb,a h.kb,a h.eb,tO o' h.row hl ho,h.scr.put o' hl ho,h.old.next (qM W l o') (fun x hx e=>by
  have e':x=l:=e;omega),h.new⟩

theorem iM {b:Nat} {v:Value} (h:Boxed w b t v) (c:Nat) (u:Value) (d:b≠c):Boxed (w.setCell ⟨c,0,none⟩ u) b t v:=gY (a:=⟨c,0,none⟩) h d u

theorem BtwB.ends {v:Value} {gm:Nat} {X r:LN} (I:BtwB w W p v gm gx gk ge) (a:Row .u64 W u X) (d:∀ b,u.ownBlock=some b->w.heap.size<=b) (f:Lsc W p B r) (n1:gx≠gk) (n2:gx≠ge) (n3:gk≠ge) (lx:w.heap.size<=gx) (lk:w.heap.size<=gk) (le:w.heap.size<=ge) (hB:B<=w.heap.size) (K E:Nat) :
  EndB w (((W.setCell ⟨gx,0,none⟩ u).setCell ⟨gk,0,none⟩ (.int .i64 (K:Nat))).setCell ⟨ge,0,none⟩ (.int .i64 (E:Nat))) p B gx gk ge X K E r u/\Kept (fun b=>b=gx\/b=gk\/b=ge) W (((W.setCell ⟨gx,0,none⟩ u).setCell ⟨gk,0,none⟩ (.int .i64 (K:Nat))).setCell ⟨ge,0,none⟩ (.int .i64 (E:Nat))):=by
 have kS:Kept (fun b=>b=gx\/b=gk\/b=ge) W (((W.setCell ⟨gx,0,none⟩ u).setCell ⟨gk,0,none⟩ (.int .i64 (K:Nat))).setCell ⟨ge,0,none⟩ (.int .i64 (E:Nat))):=
  (((ah _ _).setCell ⟨gx,0,none⟩ (fun _=>.inl rfl) _).setCell ⟨gk,0,none⟩ (fun _=>.inr (.inl rfl)) _).setCell ⟨ge,0,none⟩ (fun _=>.inr (.inr rfl)) _
 have x1:Boxed (W.setCell ⟨gx,0,none⟩ u) gx 23 u:=I.xb.set u;have k1:=iM I.kb gx u n1.symm;have e1:=iM I.eb gx u n2.symm;have x2:=iM x1 gk (.int .i64 (K:Nat)) n1;have k2:Boxed _ gk 3 (.int .i64 (K:Nat)):=k1.set (.int .i64 (K:Nat));have e2:=iM e1 gk (.int .i64 (K:Nat)) n3.symm;have x3:=iM x2 ge (.int .i64 (E:Nat)) n2;have k3:=iM k2 ge (.int .i64 (E:Nat)) n3;have e3:Boxed _ ge 35 (.int .i64 (E:Nat)):=e2.set (.int .i64 (E:Nat));refine ⟨⟨x3,k3,e3,a.kept' kS ?_,f.kept kS ?_,I.old.next kS ?_,d⟩,kS⟩
 ·rintro c x hx (rfl | rfl | rfl)
  ·exact lR I.xb (fun z e=>by cases e) a c hx
  ·exact lR I.kb (fun z e=>by cases e) a c hx
  ·exact lR I.eb (fun z e=>by cases e) a c hx
 ·rintro x hx (e | e | e) <;> omega
 ·rintro x hx (e | e | e) <;> omega

def BelK (M t z:Nat) (bs:LN) (k:Nat):Prop:=∃ f,(bs.drop (k*z)).length<f/\ja M t z (bs.length+1) bs 1=ja M t z f (bs.drop (k*z)) (k+1)

theorem BelK.zero (M t z:Nat) (bs:LN):BelK M t z bs 0:=⟨bs.length+1,by simp,by simp⟩

theorem BelK.step {M t k:Nat} (h:BelK M t z bs k) (hz:0<z) (hl:(k+1)*z<=bs.length) :
  (0<rL t z bs k/\rL t z bs k<M/\ja M t z (bs.length+1) bs 1=(rL t z bs k,k+1,bs.drop ((k+1)*z)))\/(¬ (0<rL t z bs k/\rL t z bs k<M)/\BelK M t z bs (k+1)):=by
 obtain ⟨f,hf,e⟩:=h;have hd:(bs.drop (k*z)).drop z=bs.drop ((k+1)*z):=by rw [ju,ll]
 have a:¬ (bs.drop (k*z)).length<z:=by rw [cV];rw [ll] at hl;omega
 rcases rU (M:=M) (t:=t) (k:=k+1) hf hz with ⟨h1,_⟩ | ⟨_,h2,h3⟩ | ⟨_,h2,f',hf',h3⟩
 ·exact absurd h1 a
 ·rw [hd] at h3;exact .inl ⟨h2.1,h2.2,e.trans h3⟩
 ·rw [hd] at h3 hf';exact .inr ⟨h2,f',hf',e.trans h3⟩

theorem BelK.spent {M t k:Nat} (h:BelK M t z bs k) (hz:0<z) (h0:k*z<=bs.length) (hl:bs.length<(k+1)*z):ja M t z (bs.length+1) bs 1=(0,0,[]):=by
 obtain ⟨f,hf,e⟩:=h;have a:(bs.drop (k*z)).length<z:=by rw [cV];rw [ll] at hl;omega
 rcases rU (M:=M) (t:=t) (k:=k+1) hf hz with ⟨_,h3⟩ | ⟨h1,_⟩ | ⟨h1,_⟩
 ·exact e.trans h3
 ·exact absurd a h1
 ·exact absurd a h1

theorem sO (p:OA) (B:Nat) (bs xs:LN) (v:Value) (w:World) (h:Lsc w p B bs) (hv:Row .u64 w v xs) (hd:Digs xs) (hl:xs.length<=1000000) (b:300<xs.length\/val xs<2) :
  ClZ 82 #[.pointer p,v] w fun e w'=>e=.returned (.tuple #[.slice none 0 0,.int .i64 0,.int .i64 (fG xs bs:Nat)])/\Lsc w' p B bs/\Kept af w w':=by
 have HS:=aa h;have JB:=aa fun W (k:Kept af w W)=>iO v xs W (hv.g k) hd
 obtain ⟨ao,L,a,rfl,hL,g,i,j,_⟩:=hv.open;have f:L<=1000000:=by have:=hL.o;omega
 have bM:=(((Boxed.new w 23 (.slice ao L a)).alloc (.cells #[.slice none 0 0] 23)).alloc (.cells #[.int .i64 0] 3)).alloc (.cells #[.int .i64 0] 35);have bR:∀ E:Int,((((w.alloc (.cells #[.slice ao L a] 23)).alloc (.cells #[.slice none 0 0] 23)).alloc (.cells #[.int .i64 0] 3)).alloc (.cells #[.int .i64 E] 35)).cell? ⟨w.heap.size+1,0,none⟩=some (.slice none 0 0) /\
   ((((w.alloc (.cells #[.slice ao L a] 23)).alloc (.cells #[.slice none 0 0] 23)).alloc (.cells #[.int .i64 0] 3)).alloc (.cells #[.int .i64 E] 35)).cell? ⟨w.heap.size+1+1,0,none⟩=some (.int .i64 0) /\
   ((((w.alloc (.cells #[.slice ao L a] 23)).alloc (.cells #[.slice none 0 0] 23)).alloc (.cells #[.int .i64 0] 3)).alloc (.cells #[.int .i64 E] 35)).cell? ⟨w.heap.size+1+1+1,0,none⟩=some (.int .i64 E):=fun E=>by
  have bX:=(((Boxed.new (w.alloc (.cells #[.slice ao L a] 23)) 23 (.slice none 0 0)).alloc (.cells #[.int .i64 0] 3)).alloc (.cells #[.int .i64 E] 35)).cell;have bK:=((Boxed.new ((w.alloc (.cells #[.slice ao L a] 23)).alloc (.cells #[.slice none 0 0] 23)) 3 (.int .i64 0)).alloc (.cells #[.int .i64 E] 35)).cell;have bE:=(Boxed.new (((w.alloc (.cells #[.slice ao L a] 23)).alloc (.cells #[.slice none 0 0] 23)).alloc (.cells #[.int .i64 0] 3)) 35 (.int .i64 E)).cell;simp only [World.size_alloc] at bX bK bE;exact ⟨bX,bK,bE⟩
 have kR:∀ E:Int,Kept af w ((((w.alloc (.cells #[.slice ao L a] 23)).alloc (.cells #[.slice none 0 0] 23)).alloc (.cells #[.int .i64 0] 3)).alloc (.cells #[.int .i64 E] 35)):=fun E=>((((ah af w).alloc _).alloc _).alloc _).alloc _
 have cM:=bM.cell;have d:=aa bR;have c:=aa kR;clear bR kR;by_cases h1:300<L
 ·have e1:fG xs bs=2:=by unfold fG;rw [hL.o,ai h1]
  rw [e1];have g1:(L:Int) > 300:=by omega
  clear e1 b JB bM h hv hd;delta ClZ;go_in;go_wp2_with fail;obtain ⟨q1,q2,q3⟩:=d.o 2;refine bodyPost_ret (v:=.tuple #[.slice none 0 0,.int .i64 0,.int .i64 2]) (by simp [results,results82,go_sem,q1,q2,q3]) rfl ?_;exact ⟨rfl,HS.o.g (c.o 2),c.o 2⟩
 ·have hV:val xs<2:=by
   have:=hL.o;rcases b with h | h
   ·omega
   ·exact h
  have e1:fG xs bs=1:=by unfold fG;rw [hL.o,ar h1,ai hV]
  rw [e1];have g1:¬ (L:Int) > 300:=by omega
  have g2:¬ (300:Int)<(L:Int):=by omega
  have l:aN (val xs)<=1:=(bh _ 1).2 (by omega);generalize aN (val xs)=t at *;have g3:(t:Int)<2:=by omega
  clear e1 b hV bM h hv hd;delta ClZ;go_in;go_wp2_with fail;refine (JB.o _ (c.o 0)).mono ?_;rintro e w1 ⟨rfl,rfl⟩;clear JB;obtain ⟨p1,p2,p3⟩:=d.o 0;go_wp2_with fail;obtain ⟨q1,q2,q3⟩:=d.o 1;refine bodyPost_ret (v:=.tuple #[.slice none 0 0,.int .i64 0,.int .i64 1]) (by simp [results,results82,go_sem,q1,q2,q3]) rfl ?_;exact ⟨rfl,HS.o.g (c.o 1),c.o 1⟩

theorem As (p:OA) (B:Nat) (bs xs:LN) (v:Value) (w:World) (h:Lsc w p B bs) (hB:B<=w.heap.size) (aM:Digs bs 256) (hv:Row .u64 w v xs) (hd:Digs xs) (hl:xs.length<=300:=by omega) (hM2:2<=val xs:=by omega) :
  ClZ 82 #[.pointer p,v] w fun e w'=>∃ u,e=.returned (.tuple #[u,.int .i64 (lu xs bs:Nat),.int .i64 (fG xs bs:Nat)])/\(Row .u64 w' u (jK xs bs)/\∀ b,u.ownBlock=some b->w.heap.size<=b)/\Lsc w' p B (jJ xs bs)/\Kept (ofP p) w w':=by
 obtain ⟨M,hM⟩:=aj (val xs)
 obtain ⟨t,ht⟩:=aj (aN M)
 obtain ⟨z,hz⟩:=aj ((t+7)/8)
 rw [<- hM] at hM2;have ac:M<18446744073709551616^xs.length:=by rw [hM];exact aE (by omega) hd
 have aw:t<=64*xs.length:=by rw [ht,hM];exact uu hd
 have bc:2<=t:=by
  have:=(bh M 1).1;rw [<- ht] at this;by_cases h1:t<=1
  ·have:=this h1;omega
  ·omega
 have P:xs≠[]:=by
  rintro rfl;have:val []=0:=rfl;omega
 have aS:HzD (∀ x,v.ownBlock=some x->¬ ofP p x):=h.apart hv P;have I:HzD (∀ W,Kept (ofP p) w W->Row .u64 W v xs):=fun W k=>hv.kept' k (fun _=>aS.o)
 have JB:=aa fun W (k:Kept (ofP p) w W)=>iO v xs W (I.o W k) hd
 have JC:=aa fun u ys W (k:Kept (ofP p) w W) (hu:Row .u64 W u ys) (hdu:Digs ys)=>ol u v ys xs W hu (I.o W k) hdu hd
 rw [<- hM] at JB JC;rw [<- ht] at JB;have aH:HzD (∀ x,ofP p x->x<B):=fun x hx=>(h.inP hx).1
 have H:HzD (uf M bs=ja M t z (bs.length+1) bs 1):=by unfold HzD uf;rw [<- ht,<- hz]
 have HE:HzD (fG xs bs=if (ja M t z (bs.length+1) bs 1).1=0 then 150 else 0):=by
  unfold HzD fG;rw [aK,ar (by rw [<- hM];omega),<- hM,H.o]
 have HX:HzD (jK xs bs=if fG xs bs=0 then digs (ja M t z (bs.length+1) bs 1).1 xs.length else []):=by unfold HzD jK;rw [<- hM,H.o]
 have aG:HzD (lu xs bs=if fG xs bs=0 then (ja M t z (bs.length+1) bs 1).2.1 else 0):=by unfold HzD lu;rw [<- hM,H.o]
 have aI:HzD (jJ xs bs=(ja M t z (bs.length+1) bs 1).2.2):=by unfold HzD jJ;rw [ar (by rw [<- hM];omega),<- hM,H.o]
 obtain ⟨ao,L,i,rfl,hL,ba,bb,a6,_⟩:=hv.open;have a5:L<=300:=by have:=hL.o;omega
 have g1:¬ (L:Int) > 300:=by omega
 have a8:¬ (300:Int)<(L:Int):=by omega
 have g2:¬ (t:Int)<2:=by omega
 rw [hL.o] at aw ac HX;have HL:=aa hL.o;have HS:=aa h;have HZ:=aa hz;have ax:1<=z:=by omega
 have bd:t<=19200:=by omega
 have Q:HzD (2<=M/\M<18446744073709551616^L/\t=aN M/\t<=64*L):=⟨hM2,ac,ht,aw⟩
 have aT:=aa aM;have g:=aa hB;clear hv hd hl hM2 ac ht hz aw P a6 hL h hM H aM hB;refine (callsIn_wide (n:=9)).1 ?_;refine callsIn_of_wp_marks func82 rfl trivial ?_ rfl;simp only [ntmps82,iW,dh,fB,Nat.reduceAdd,Nat.reduceSub,iS,iT,iV,iU,bZ,fJ];refine wpIn_wide.2 ?_;have bM:=(((Boxed.new w 23 (.slice ao L i)).alloc (.cells #[.slice none 0 0] 23)).alloc (.cells #[.int .i64 0] 3)).alloc (.cells #[.int .i64 0] 35)
 have bX:=((Boxed.new (w.alloc (.cells #[.slice ao L i] 23)) 23 (.slice none 0 0)).alloc (.cells #[.int .i64 0] 3)).alloc (.cells #[.int .i64 0] 35);have bK:=(Boxed.new ((w.alloc (.cells #[.slice ao L i] 23)).alloc (.cells #[.slice none 0 0] 23)) 3 (.int .i64 0)).alloc (.cells #[.int .i64 0] 35);have bE:=Boxed.new (((w.alloc (.cells #[.slice ao L i] 23)).alloc (.cells #[.slice none 0 0] 23)).alloc (.cells #[.int .i64 0] 3)) 35 (.int .i64 0);have kA:Kept af w ((((w.alloc (.cells #[.slice ao L i] 23)).alloc (.cells #[.slice none 0 0] 23)).alloc (.cells #[.int .i64 0] 3)).alloc (.cells #[.int .i64 0] 35)):=((((ah af w).alloc _).alloc _).alloc _).alloc _
 have sA:((((w.alloc (.cells #[.slice ao L i] 23)).alloc (.cells #[.slice none 0 0] 23)).alloc (.cells #[.int .i64 0] 3)).alloc (.cells #[.int .i64 0] 35)).heap.size=w.heap.size+4:=by simp
 simp only [World.size_alloc] at bX bK bE;have cM:=bM.cell;go_wp2_with fail;refine (JB.o _ kA.any).mono ?_;rintro e w1 ⟨rfl,rfl⟩;generalize (((w.alloc (.cells #[.slice ao L i] 23)).alloc (.cells #[.slice none 0 0] 23)).alloc (.cells #[.int .i64 0] 3)).alloc (.cells #[.int .i64 0] 35)=W1 at *;obtain ⟨gm,am⟩:=aj w.heap.size
 obtain ⟨gx,an⟩:=aj (w.heap.size+1)
 obtain ⟨gk,al⟩:=aj (w.heap.size+1+1)
 obtain ⟨ge,ae⟩:=aj (w.heap.size+1+1+1)
 rw [<- ae] at bE ⊢;rw [<- al] at bK ⊢;rw [<- an] at bX ⊢;rw [<- am] at bM cM ⊢;have HG:HzD (gm=w.heap.size/\gx=w.heap.size+1/\gk=w.heap.size+2/\ge=w.heap.size+3/\W1.heap.size=w.heap.size+4):=⟨am,an,al,ae,sA⟩
 have aD:HzD (BtwB w W1 p (.slice ao L i) gm gx gk ge):=⟨bM,bX,bK,bE,kA.any⟩
 have aJ:=aa (HS.o.g kA);have JD:=IF p t L W1 (by omega);rw [<- HZ.o] at JD;clear am an al ae bM bX bK bE sA HS kA;go_wp2_with fail;refine JD.mono ?_;rintro e W2 ⟨rfl,b0,b1,b2,b3,k2,s2⟩;have T:=aa (aD.o.kept k2 (fun f=>f) (fun f=>f) (fun f=>f) (fun f=>f) (fun _ _ f=>f.elim));have Z:=aa (aJ.o.g k2);obtain ⟨n1,aP⟩:=aj W1.heap.size
 rw [<- aP] at b0 b1 b2 b3 s2 ⊢;have a:HzD (gm=w.heap.size/\gx=w.heap.size+1/\gk=w.heap.size+2/\ge=w.heap.size+3/\n1=w.heap.size+4/\W2.heap.size=w.heap.size+8):=by have:=HG.o;refine ⟨?_,?_,?_,?_,?_,?_⟩ <;> omega
 clear JD k2 aD aJ HG aP cM s2;go_wp2_with fail;refine (wpIn_wide (n:=9)).1 ?_;obtain ⟨sh,a7⟩:=aj (8*z-t)
 have au:t+sh=8*z:=by have:=HZ.o;omega
 have av:sh<8:=by have:=HZ.o;omega
 clear a7;refine rI (n:=9) (by omega) (gf:=192) (lb:=#[.pointer (some ⟨n1,0,none⟩),.pointer (some ⟨n1+3,0,none⟩),.pointer (some ⟨n1+1,0,none⟩),.pointer (some ⟨n1+2,0,none⟩)]) rfl (enters_of func192 (by kernel_rfl) rfl)
  (Gc 8 (by omega) p B t z sh L n1 (n1+3) (n1+1) (n1+2) bs W2 (fun b=>b=gx\/b=gk\/b=ge) ax au av a5 Q.o.2.2.2 Z.o aT.o b0 b3 b1 b2 ?q0 ?q1 ?q2 ?q3 ?q4 ?q5 ?q6 ?q7 ?q8 ?q9) (fun _=>rfl) ?hSb ?hT (fun _ _ _ _ _ o' hx hl ho=>hx.put o' hl ho)
  (fun E W=>HzD (BelK M t z bs E.length)/\HzD (BtwB w W p (.slice ao L i) gm gx gk ge)) (fun c _ W=>c=.ret/\∃ u,EndB w W p B gx gk ge (jK xs bs) (lu xs bs) (fG xs bs) (jJ xs bs) u)
  ?low ?lowx ?lows ⟨BelK.zero _ _ _ _,T.o⟩ ?act ?assign ?body ?done ?stop
 case q0=>have:=a.o;have:=g.o;omega
 case q1=>have:=a.o;have:=g.o;omega
 case q2=>have:=a.o;have:=g.o;omega
 case q3=>have:=a.o;have:=g.o;omega
 case q4=>have:=a.o;have:=g.o;omega
 case q5=>
  have:=a.o;have:=g.o;rintro b (rfl | rfl | rfl) <;> omega
 case q6=>have:=a.o;omega
 case q7=>have:=a.o;omega
 case q8=>have:=a.o;omega
 case q9=>have:=a.o;omega
 case hSb=>
  have:=a.o;rintro b (rfl | rfl | rfl) <;> omega
 case hT=>
  intro b hb;have:=aH.o b hb;have:=a.o;have:=g.o;omega
 case low=>
  rintro s A C ⟨h1,h2⟩ k;have:=a.o;have:=g.o;have R:∀ x,w.heap.size<=x->x<W2.heap.size->¬ (ofP p x\/W2.heap.size<=x):=fun x h3 h4=>by
   rintro (e | e)
   ·have:=aH.o x e;omega
   ·omega
  exact ⟨h1,h2.o.kept k (R _ (by omega) (by omega)) (R _ (by omega) (by omega)) (R _ (by omega) (by omega)) (R _ (by omega) (by omega)) (fun x hx e=>by
   rcases e with e | e
   ·exact e
   ·omega)⟩
 case lowx=>
  rintro c s A l o o' ⟨h1,u,h2⟩ hl hA ho;have:=a.o;exact ⟨h1,u,h2.put o' hA ho (by omega)⟩
 case lows=>
  rintro s A l o o' ⟨h1,h2,h3⟩ hl hA ho;exact ⟨h1,h2,h3.put o' hA ho⟩
 case assign=>
  intro l x W K hK
  gi_wp2
  exact hK
 case body=>
  rintro l E ⟨j,xv⟩ W ⟨hK,hI⟩ ⟨hj,ad,⟨N,J⟩,O⟩;have a9:1<=L:=by
   have h1:=Q.o.1;have h2:=Q.o.2.1;cases L with
   | zero=>simp at h2;omega
   | succ n=>omega
  obtain ⟨V,hV⟩:=aj (rL t z bs E.length)
  have aO:j=E.length+1:=hj;have d:Row .u64 W xv (digs V L):=by rw [hV];exact N
  have aL:V<18446744073709551616^L:=by
   rw [hV];refine bi (aY _ (aX)) ?_;rw [show (18446744073709551616:Nat)=2^64 from rfl,<- aW];exact bj (by omega) Q.o.2.2.2
  have q:=iO xv _ W d (ak (by omega) V L) (by rw [ag];omega);have r:=JC.o xv _ W hI.o.old d (ak (by omega) V L);rw [ay,aB aL] at q r;have Y:=aa d;have ab:=aa O;have X:HzD (∀ b,xv.ownBlock=some b->w.heap.size<=b):=fun b hb=>by have h1:=J b hb;have h2:=a.o;omega
  have U:=aa hI.o;have aR:=hK.o.step ax ad;rw [<- hV] at aR;obtain ⟨nb,ap⟩:=aj (aN V)
  rw [<- ap] at q;have m:nb=0↔V=0:=by
   have:=bh V 0;rw [<- ap] at this;simp at this;exact this
  obtain ⟨xo,xn,xc,rfl,_⟩:=d.open;have cM:=hI.o.mb.cell;have a3:=aa aO;clear J N d O hI hK hj aO hV aL ap T b0 b1 b2 b3 Z;rcases aR with ⟨h1,h2,h3⟩ | ⟨h1,h2⟩
  ·have g3:(nb:Int) > 0:=by omega
   have a4:(0:Int)<(nb:Int):=by omega
   rw [fh h2] at r;have e1:fG xs bs=0:=by rw [HE.o,h3,ar (by show ¬ V=0;omega)]
   have e2:jK xs bs=digs V L:=by rw [HX.o,ai e1,h3]
   have e3:lu xs bs=j:=by rw [aG.o,ai e1,h3];exact a3.o.symm
   have e4:jJ xs bs=bs.drop ((E.length+1)*z):=by rw [aI.o,h3]
   have aV:HzD (fG xs bs=0/\jK xs bs=digs V L/\lu xs bs=j/\jJ xs bs=bs.drop ((E.length+1)*z)):=⟨e1,e2,e3,e4⟩
   clear h1 h2 h3 e1 e2 e3 e4 m
   gi_wp2_with fail
   refine ⟨trivial,?_⟩;refine (CallsIn.inRound l (callsIn_wide.2 q)).mono ?_;rintro e w1 ⟨rfl,rfl⟩
   gi_wp2_with fail
   refine ⟨trivial,?_⟩;refine (CallsIn.inRound l (callsIn_wide.2 r)).mono ?_;rintro e w2 ⟨rfl,k2⟩;have I2:=aa (U.o.kept k2 (fun f=>f) (fun f=>f) (fun f=>f) (fun f=>f) (fun _ _ f=>f.elim));have R2:=aa (Y.o.g k2);have S2:=aa (ab.o.g k2);have cx:=I2.o.xb.cell;have fx:=I2.o.xb.frozen;have ck:=I2.o.kb.cell;have fk:=I2.o.kb.frozen;have ce:=I2.o.eb.cell;have fe:=I2.o.eb.frozen;have aq:gx≠gk/\gx≠ge/\gk≠ge:=by have:=a.o;omega
   obtain ⟨az,aA,aC⟩:=aq;obtain ⟨aF,kS⟩:=I2.o.ends R2.o X.o S2.o az aA aC (by have:=a.o;omega) (by have:=a.o;omega) (by have:=a.o;omega) g.o j 0;have aZ:HzD (EndB w (((w2.setCell ⟨gx,0,none⟩ (.slice xo xn xc)).setCell ⟨gk,0,none⟩ (.int .i64 (j:Int))).setCell ⟨ge,0,none⟩ (.int .i64 0)) p B gx gk ge (jK xs bs) (lu xs bs) (fG xs bs) (jJ xs bs) (.slice xo xn xc)):=by
    obtain ⟨q1,q2,q3,q4⟩:=aV.o;rw [q1,q2,q3,q4];exact aF
   have a2:HzD (Kept (fun b=>b=gx\/b=gk\/b=ge) w1 (((w2.setCell ⟨gx,0,none⟩ (.slice xo xn xc)).setCell ⟨gk,0,none⟩ (.int .i64 (j:Int))).setCell ⟨ge,0,none⟩ (.int .i64 0))):=(k2.any).trans kS;clear q r k2 kS aF
   gi_wp2_with fail
   exact ⟨a2.o,rfl,_,aZ.o⟩
  ·have HN:HzD (BelK M t z bs (E ++ [(j,Value.slice xo xn xc)]).length):=by unfold HzD;rw [bk];exact h2
   by_cases hV0:V=0
   ·obtain rfl:=m.2 hV0;clear h1 h2 m hV0 r
    gi_wp2_with fail
    refine ⟨trivial,?_⟩;refine (CallsIn.inRound l (callsIn_wide.2 q)).mono ?_;rintro e w1 ⟨rfl,rfl⟩;clear q
    gi_wp2_with fail
    refine ⟨trivial,?_⟩
    gi_wp2_with fail
    exact ⟨ah _ _,HN,U⟩
   ·have g3:(nb:Int) > 0:=by omega
    have a4:(0:Int)<(nb:Int):=by omega
    obtain ⟨C,hC⟩:=aj (cY V M)
    rw [<- hC] at r;have g4:¬ C<0:=by
     rw [hC];unfold cY;rw [aK]
     split <;> omega
    clear h1 h2 m hV0 hC
    gi_wp2_with fail
    refine ⟨trivial,?_⟩;refine (CallsIn.inRound l (callsIn_wide.2 q)).mono ?_;rintro e w1 ⟨rfl,rfl⟩
    gi_wp2_with fail
    refine ⟨trivial,?_⟩;refine (CallsIn.inRound l (callsIn_wide.2 r)).mono ?_;rintro e w2 ⟨rfl,k2⟩;have I2:=aa (U.o.kept k2 (fun f=>f) (fun f=>f) (fun f=>f) (fun f=>f) (fun _ _ f=>f.elim));have a1:=aa (k2.any (S:=fun b=>b=gx\/b=gk\/b=ge));clear q r k2
    gi_wp2_with fail
    exact ⟨a1.o,HN,I2⟩
 case done=>
  rintro D s W hD ⟨h0,h1,aQ⟩ ⟨hK,hI⟩ F;have hf:=hK.o.spent ax h0 h1;have e1:fG xs bs=150:=by rw [HE.o,hf];rfl
  have e2:jK xs bs=[]:=by rw [HX.o,e1];rfl
  have e3:lu xs bs=0:=by rw [aG.o,e1];rfl
  have e4:jJ xs bs=[]:=by rw [aI.o,hf]
  have a0:HzD (fG xs bs=150/\jK xs bs=[]/\lu xs bs=0/\jJ xs bs=[]):=⟨e1,e2,e3,e4⟩
  have cx:=hI.o.xb.cell;have fx:=hI.o.xb.frozen;have ck:=hI.o.kb.cell;have fk:=hI.o.kb.frozen;have ce:=hI.o.eb.cell;have fe:=hI.o.eb.frozen;have aq:gx≠gk/\gx≠ge/\gk≠ge:=by have:=a.o;omega
  obtain ⟨az,aA,aC⟩:=aq;obtain ⟨G,kS⟩:=hI.o.ends (u:=.slice none 0 0) (Row.nil _ _) (fun b hb=>by cases hb) aQ az aA aC (by have:=a.o;omega) (by have:=a.o;omega) (by have:=a.o;omega) g.o 0 150;have y:=(kS.block D (lt_of_block F) (by have:=a.o;rintro (e | e | e) <;> omega)).trans F;have HF:HzD (EndB w ((((W.setCell ⟨gx,0,none⟩ (.slice none 0 0)).setCell ⟨gk,0,none⟩ (.int .i64 0)).setCell ⟨ge,0,none⟩ (.int .i64 150)).putObj D (.deferred none)) p B gx gk ge [] 0 150 [] (.slice none 0 0)):=G.put (.deferred none) y rfl (by have:=a.o;omega);have aU:=aa y;clear e1 e2 e3 e4 hf hK h0 h1 aQ hI G kS y F T b0 b1 b2 b3 Z;go_wp2_with fail
  refine ⟨by simp,.inl ⟨_,_,rfl,run_takeDeferred aU.o,?_⟩⟩;have q1:=HF.o.xb.cell;have q2:=HF.o.kb.cell;have q3:=HF.o.eb.cell;obtain ⟨e1,e2,e3,e4⟩:=a0.o;rw [e1,e2,e3,e4];refine ⟨.tuple #[.slice none 0 0,.int .i64 0,.int .i64 150],?_,_,rfl,⟨Row.nil _ _,HF.o.new⟩,HF.o.scr,HF.o.old⟩;simp [results,Tryz.f82,go_sem,q1,q2,q3]
 case stop=>
  rintro D c s W hD ⟨rfl,u,G⟩ F;have hF:=G.put (.deferred none) F rfl (by have:=a.o;omega);obtain ⟨uo,un,uc,rfl,_⟩:=G.row.open;have HF:=aa hF;clear G hF
  gi_wp2
  refine ⟨by simp,.inl ⟨_,_,rfl,run_takeDeferred F,?_⟩⟩;have q1:=HF.o.xb.cell;have q2:=HF.o.kb.cell;have q3:=HF.o.eb.cell;refine ⟨.tuple #[.slice uo un uc,.int .i64 (lu xs bs:Nat),.int .i64 (fG xs bs:Nat)],?_,_,rfl,⟨HF.o.row,HF.o.new⟩,HF.o.scr,HF.o.old⟩;simp [results,Tryz.f82,go_sem,q1,q2,q3]

theorem IE (p:OA) (B:Nat) (bs xs:LN) (v:Value) (w:World) (h:Lsc w p B bs) (hB:B<=w.heap.size) (b:Digs bs 256) (hv:Row .u64 w v xs) (hd:Digs xs) (hl:xs.length<=300) (a:2<=val xs) :
  ClZ 82 #[.pointer p,v] w fun e w'=>∃ u,e=.returned (.tuple #[u,.int .i64 (lu xs bs:Nat),.int .i64 (fG xs bs:Nat)])/\Row .u64 w' u (jK xs bs)/\Lsc w' p B (jJ xs bs)/\Kept (ofP p) w w':=by
 refine (As p B bs xs v w h hB b hv hd hl a).mono ?_;rintro e w' ⟨u,he,h1,h2⟩;exact ⟨u,he,h1.1,h2⟩

open Go.RowKit

def NoTab (_:World):Prop:=True

theorem ug (h:300<xs.length\/val xs<2):jK xs bs=[]/\lu xs bs=0/\jJ xs bs=bs:=by
 have e:fG xs bs≠0:=by
  unfold fG
  split
  ·omega
  ·next h1=>
   rw [cf];omega
 exact ⟨ar e,ar e,ai h⟩

theorem IK (p:OA) (B:Nat) (bs xs:LN) (v:Value) (w:World) (h:Lsc w p B bs) (hB:B<=w.heap.size) (a:Digs bs 256) (hv:Row .u64 w v xs) (hd:Digs xs) (hl:xs.length<=1000000) :
  ClZ 82 #[.pointer p,v] w fun e w'=>∃ u,e=.returned (.tuple #[u,.int .i64 (lu xs bs:Nat),.int .i64 (fG xs bs:Nat)])/\Row .u64 w' u (jK xs bs)/\Lsc w' p B (jJ xs bs)/\Kept (ofP p) w w':=by
 by_cases hb:300<xs.length\/val xs<2
 ·obtain ⟨e1,e2,e3⟩:=ug (bs:=bs) hb;rw [e1,e2,e3];refine (sO p B bs xs v w h hv hd hl hb).mono ?_;rintro e w' ⟨rfl,h1,k1⟩;exact ⟨_,rfl,Row.nil _ _,h1,k1.any⟩
 ·exact IE p B bs xs v w h hB a hv hd (by omega) (by omega)

theorem BD (p:OA) (B:Nat) (bs xs:LN) (v:Value) (w:World) (h:Lsc w p B bs) (hB:B<=w.heap.size) (a:Digs bs 256) (hv:Row .u64 w v xs) (hd:Digs xs) (hl:xs.length<=1000000) :
  ClZ 82 #[.pointer p,v] w fun e w'=>∃ u,e=.returned (.tuple #[u,.int .i64 (lu xs bs:Nat),.int .i64 (fG xs bs:Nat)])/\(Row .u64 w' u (jK xs bs)/\∀ b,u.ownBlock=some b->w.heap.size<=b)/\Lsc w' p B (jJ xs bs)/\Kept (ofP p) w w':=by
 by_cases hb:300<xs.length\/val xs<2
 ·obtain ⟨e1,e2,e3⟩:=ug (bs:=bs) hb;rw [e1,e2,e3];refine (sO p B bs xs v w h hv hd hl hb).mono ?_;rintro e w' ⟨rfl,h1,k1⟩;exact ⟨_,rfl,⟨Row.nil _ _,(fun b hb=>by cases hb)⟩,h1,k1.any⟩
 ·exact As p B bs xs v w h hB a hv hd

theorem qX {a y:Nat} (h:ofP (some ⟨a,0,none⟩) y):y=a:=(Option.some.inj h).symm

theorem rV (V n:Nat):∀ i,i<=n->bev (bes V n i)=V/256^(n-i)%256^i
 | 0,_=>by simp [bes,bev,Nat.mod_one]
 | i+1,h=>by
  unfold bes;rw [nN,rV V n i (by omega)];unfold dig;rw [show n-i=(n-1-i)+1 by omega,show n-(i+1)=n-1-i by omega,aG 256 (n-1-i),<- di];generalize V/256^(n-1-i)=A;rw [aG,aD (256^i),lh];omega

theorem qg (h:V<256^n):bev (bes V n n)=V:=by
 rw [rV V n n (leR _),cj,cP,fC,aB h]

theorem DN (N:Nat):N<256^fI N:=by
 have h:=(bh N (8*fI N)).1 (by unfold fI;omega)
 rwa [aW] at h

theorem GJ {ns:LN} {ms:LN} (h1:gU ns e=0) (h2:ms.length=fI (val ns)) (h3:bev ms<val ns):sU ns e ms=0:=by
 unfold sU iR;rw [ai h1,ai ⟨h2,h3⟩]

def KS.light (s:KS):Prop:=s.nl<=1000/\s.dl<=1000/\s.pl<=1000/\s.ql<=1000/\s.dpl<=1000/\s.dql<=1000/\s.qil<=1000

theorem KS.few.light {s:KS} (h:s.few):s.light:=by
 obtain ⟨h0,h1,h2,h3,h4,h5,h6⟩:=h;have a0:=h0.le;have a1:=h1.le;have a2:=h2.le;have a3:=h3.le;have a4:=h4.le;have a5:=h5.le;have a6:=h6.le;exact ⟨by omega,by omega,by omega,by omega,by omega,by omega,by omega⟩

def sR (l:KL) (e:Nat) (cs:LN) (E:Nat) (RL:LN):Prop:=
 ((E=190/\¬ KeyGood l.n l.d l.p l.q l.dp l.dq l.qi e)\/(KeyGood l.n l.d l.p l.q l.dp l.dq l.qi e/\E=iR (val l.n) cs))/\RL=(if E=0 then bes (bev cs^val l.d%val l.n) cs.length cs.length else [])

def rJ (a:Int):Prop:=-9223372036854775808<=a/\a<=9223372036854775807

def PrvL (ans ads aps aqs adps adqs aqis:LN) (e:Nat) (at_:Int) (fs cs bs:LN) (E:Nat) (RL rest:LN):Prop:=
 (¬ KeyGood ans ads aps aqs adps adqs aqis e/\E=190/\RL=[]/\rest=bs) \/
 (KeyGood ans ads aps aqs adps adqs aqis e/\iR (val ans) cs=1/\E=1/\RL=[]/\rest=bs) \/
 (KeyGood ans ads aps aqs adps adqs aqis e/\iR (val ans) cs=0/\∃ r1 k e1,oI ans bs=(r1,k,e1,rest) /\
  ((e1≠0/\E=e1/\RL=[])\/(e1=0/\∃ T,T<val ans/\val r1*T%val ans=1/\∃ m,m=ni at_ fs (bev cs*(val r1^e%val ans)%val ans) T (val ans) (val aps) (val aqs) (val adps) (val adqs) (val aqis) ans.length (am (val aps)) (am (val aqs)) /\
   ((m^e%val ans≠bev cs/\E=220/\RL=List.replicate cs.length 0)\/(m^e%val ans=bev cs/\E=0/\RL=bes m cs.length cs.length)))))

theorem PrvL.digs {ns ds ps qs a b c:LN} {at_:Int} {fs:LN} {rest:LN} (h:PrvL ns ds ps qs a b c e at_ fs cs bs E RL rest):Digs RL 256:=by
 rcases h with ⟨_,_,rfl,_⟩ | ⟨_,_,_,rfl,_⟩ | ⟨_,_,_,_,_,_,⟨_,_,rfl⟩ | ⟨_,_,_,_,_,_,⟨_,_,rfl⟩ | ⟨_,_,rfl⟩⟩⟩
 ·exact Digs.nil _
 ·exact Digs.nil _
 ·exact Digs.nil _
 ·exact fun d hd=>by rw [(ff.1 hd).2];omega
 ·exact qf _ _ _

def VPri:Prop:=∀ (s:KS) (l:KL) (co:OA) (cl cc:Nat) (cs:LN) (p:OA) (B:Nat) (bs:LN) (at_:Int) (fo:OA) (fl fc:Nat) (fs:LN) (w:World),s.en<18446744073709551616->s.Rows w l->l.Digs->s.light->Row .u8 w (.slice co cl cc) cs->Digs cs 256->cl<=10000->Lsc w p B bs->B<=w.heap.size->Digs bs 256->bs.length<=10000->Row .u64 w (.slice fo fl fc) fs->Digs fs->fl<=1000->rJ at_ ->
 ClZ 9 #[.pointer none,.agg s.v,.slice co cl cc,.pointer p,.agg #[.int .i64 at_,.slice fo fl fc]] w fun q w'=>∃ v' E,q=.returned (.tuple #[v',.int .i64 ((E:Nat):Int)])/\∃ RL rest,PrvL l.n l.d l.p l.q l.dp l.dq l.qi s.en at_ fs cs bs E RL rest/\(Row .u8 w' v' RL/\∀ b,v'.ownBlock=some b->w.heap.size<=b)/\Kept (ofP p) w w'

def VPla:Prop:=∀ (s:KS) (l:KL) (co:OA) (cl cc:Nat) (cs:LN) (w:World),s.en<18446744073709551616->s.Rows w l->l.Digs->s.light->Row .u8 w (.slice co cl cc) cs->Digs cs 256->cl<=10000 ->
 ClZ 11 #[.agg s.v,.slice co cl cc] w fun q w'=>∃ v' E,q=.returned (.tuple #[v',.int .i64 ((E:Nat):Int)])/\∃ RL,sR l s.en cs E RL/\(Row .u8 w' v' RL/\∀ b,v'.ownBlock=some b->w.heap.size<=b)/\Kept af w w'

def GI:Prop:=∀ (p:OA) (B:Nat) (bs ns:LN) (ao:OA) (L cap:Nat) (r1:LN) (r2 r3:Nat) (r4:LN) (w:World),oI ns bs=(r1,r2,r3,r4)->Lsc w p B bs->B<=w.heap.size->Digs bs 256->bs.length<=10000->Row .u64 w (.slice ao L cap) ns->Digs ns->L<=1000 ->
 ClZ 14 #[.pointer p,.slice ao L cap] w fun e w'=>∃ u,e=.returned (.tuple #[u,.int .i64 (r2:Nat),.int .i64 (r3:Nat)])/\(Row .u64 w' u r1/\∀ b,u.ownBlock=some b->w.heap.size<=b)/\Lsc w' p B r4/\Kept (ofP p) w w'

theorem GW (s:KS) (co bo fo:OA) (cl cc bl bc fl fc:Nat) (at_:Int) (R:Bool) (hR:R=true↔s.few/\s.nl<=9/\cl<=200/\bl<=500/\fl<=20) (w:World) :
  ClZ 6 #[.agg s.v,.slice co cl cc,.slice bo bl bc,.agg #[.int .i64 at_,.slice fo fl fc]] w fun r w'=>r=.returned (.bool R)/\Kept af w w':=by
 obtain ⟨W,hW⟩:=aj ((w.alloc (.cells s.v 26)).alloc (.cells #[.int .i64 at_,.slice fo fl fc] 32))
 have k0:Kept af w W:=by rw [hW];exact ((ah af w).alloc _).alloc _
 have b1:W.heap[w.heap.size]? = some (.cells s.v 26 (0,0)):=by rw [hW];exact aw (heap_alloc_new _ _)
 have b2:W.heap[w.heap.size+1]? = some (.cells #[.int .i64 at_,.slice fo fl fc] 32 (0,0)):=by
  rw [hW];have:=heap_alloc_new (w.alloc (.cells s.v 26)) (.cells #[.int .i64 at_,.slice fo fl fc] 32)
  rwa [World.size_alloc] at this
 obtain ⟨d0,d1,d2,d3,d4,d5,d6,d7⟩:=aZ b1;have HC:HzD (∀ W',Kept af W W'->W'.cell? ⟨w.heap.size,0,none⟩=some (.slice s.no s.nl s.nc)/\W'.cell? ⟨w.heap.size+1,1,none⟩=some (.slice fo fl fc)):=fun W' k=>⟨(aZ ((k.block _ (lt_of_block b1) (fun f=>f)).trans b1)).1,k.cellN ((cell_of_row W _ 1 _ _ _ b2).trans rfl)⟩
 have HW:=aa hW;have b:=aa k0;clear hW k0 b1 b2;by_cases h0:s.few
 ·have J0:=Ci s true (iff_of_true rfl h0) W;by_cases h1:s.nl<=9
  ·have g1:(s.nl:Int)<=9:=by omega
   by_cases h2:cl<=200
   ·have g2:(cl:Int)<=200:=by omega
    by_cases h3:bl<=500
    ·have g3:(bl:Int)<=500:=by omega
     by_cases h4:fl<=20
     ·have g4:(fl:Int)<=20:=by omega
      obtain rfl:R=true:=hR.2 ⟨h0,h1,h2,h3,h4⟩;clear hR h0 h1 h2 h3 h4;unfold KS.v at HW ⊢;delta ClZ;go_in;go_wp2_with (rw [<- HW.o]);refine J0.mono ?_;rintro r w1 ⟨rfl,k1⟩;obtain ⟨c0,c1⟩:=HC.o w1 k1;have a:=aa (b.o.trans k1);clear J0 k1 HC;go_wp2_with fail;go_ret;exact ⟨by first | rfl | (simp;omega),a.o⟩
     ·have g4:¬ (fl:Int)<=20:=by omega
      obtain rfl:R=false:=by
       cases e:R with
       | false=>rfl
       | true=>exact absurd (hR.1 e).2.2.2.2 h4
      clear hR h0 h1 h2 h3 h4;unfold KS.v at HW ⊢;delta ClZ;go_in;go_wp2_with (rw [<- HW.o]);refine J0.mono ?_;rintro r w1 ⟨rfl,k1⟩;obtain ⟨c0,c1⟩:=HC.o w1 k1;have a:=aa (b.o.trans k1);clear J0 k1 HC;go_wp2_with fail;go_ret;exact ⟨by first | rfl | (simp;omega),a.o⟩
    ·have g3:¬ (bl:Int)<=500:=by omega
     obtain rfl:R=false:=by
      cases e:R with
      | false=>rfl
      | true=>exact absurd (hR.1 e).2.2.2.1 h3
     clear hR h0 h1 h2 h3;unfold KS.v at HW ⊢;delta ClZ;go_in;go_wp2_with (rw [<- HW.o]);refine J0.mono ?_;rintro r w1 ⟨rfl,k1⟩;obtain ⟨c0,c1⟩:=HC.o w1 k1;have a:=aa (b.o.trans k1);clear J0 k1 HC;go_wp2_with fail;go_ret;exact ⟨by first | rfl | (simp;omega),a.o⟩
   ·have g2:¬ (cl:Int)<=200:=by omega
    obtain rfl:R=false:=by
     cases e:R with
     | false=>rfl
     | true=>exact absurd (hR.1 e).2.2.1 h2
    clear hR h0 h1 h2;unfold KS.v at HW ⊢;delta ClZ;go_in;go_wp2_with (rw [<- HW.o]);refine J0.mono ?_;rintro r w1 ⟨rfl,k1⟩;obtain ⟨c0,c1⟩:=HC.o w1 k1;have a:=aa (b.o.trans k1);clear J0 k1 HC;go_wp2_with fail;go_ret;exact ⟨by first | rfl | (simp;omega),a.o⟩
  ·have g1:¬ (s.nl:Int)<=9:=by omega
   obtain rfl:R=false:=by
    cases e:R with
    | false=>rfl
    | true=>exact absurd (hR.1 e).2.1 h1
   clear hR h0 h1;unfold KS.v at HW ⊢;delta ClZ;go_in;go_wp2_with (rw [<- HW.o]);refine J0.mono ?_;rintro r w1 ⟨rfl,k1⟩;obtain ⟨c0,c1⟩:=HC.o w1 k1;have a:=aa (b.o.trans k1);clear J0 k1 HC;go_wp2_with fail;go_ret;exact ⟨by first | rfl | (simp;omega),a.o⟩
 ·have J0:=Ci s false (iff_of_false (by decide) h0) W;obtain rfl:R=false:=by
   cases e:R with
   | false=>rfl
   | true=>exact absurd (hR.1 e).1 h0
  clear hR h0;unfold KS.v at HW ⊢;delta ClZ;go_in;go_wp2_with (rw [<- HW.o]);refine J0.mono ?_;rintro r w1 ⟨rfl,k1⟩;obtain ⟨c0,c1⟩:=HC.o w1 k1;have a:=aa (b.o.trans k1);clear J0 k1 HC;go_wp2_with fail;go_ret;exact ⟨by first | rfl | (simp;omega),a.o⟩

def rO:KS:=⟨none,0,0,0,none,0,0,none,0,0,none,0,0,none,0,0,none,0,0,none,0,0⟩
def pG:KL:=⟨[],[],[],[],[],[],[]⟩

theorem sE (w:World):rO.Rows w pG:=⟨Row.nil _ _,Row.nil _ _,Row.nil _ _,Row.nil _ _,Row.nil _ _,Row.nil _ _,Row.nil _ _⟩
theorem sD:pG.Digs:=⟨Digs.nil _,Digs.nil _,Digs.nil _,Digs.nil _,Digs.nil _,Digs.nil _,Digs.nil _⟩
theorem qW:rO.light:=⟨by decide,by decide,by decide,by decide,by decide,by decide,by decide⟩

theorem Hw {at_:Int} {fs:LN} {rest:LN} (h:PrvL pG.n pG.d pG.p pG.q pG.dp pG.dq pG.qi rO.en at_ fs cs bs E RL rest):E=190/\RL=[]:=by
 rcases h with ⟨_,h,h',_⟩ | ⟨h,_⟩ | ⟨h,_⟩
 ·exact ⟨h,h'⟩
 ·exact absurd h CY
 ·exact absurd h CY

theorem Hv (h:sR pG rO.en cs E RL):E=190/\RL=[]:=by
 have h2:=h.2;rcases h.1 with ⟨rfl,_⟩ | ⟨h,_⟩
 ·exact ⟨rfl,h2⟩
 ·exact absurd h CY

def BF:Prop:=∀ w,ClZ 9 #[.pointer none,.agg rO.v,.slice none 0 0,.pointer none,.agg #[.int .i64 0,.slice none 0 0]] w fun q w'=>∃ v',q=.returned (.tuple #[v',.int .i64 ((190:Nat):Int)])/\Row .u8 w' v' []/\Kept af w w'

def BE:Prop:=∀ w,ClZ 11 #[.agg rO.v,.slice none 0 0] w fun q w'=>∃ v',q=.returned (.tuple #[v',.int .i64 ((190:Nat):Int)])/\Row .u8 w' v' []/\Kept af w w'

theorem GL:oI [7] [0,3]=([3],2,0,[]):=by decide +kernel

theorem Ls (W:World):Row .u8 (W.alloc (.cells #[.int .u8 0,.int .u8 3] 5)) (.slice (some ⟨W.heap.size,0,none⟩) 2 2) [0,3]:=
 Row.of_own (base:=W.heap.size) (e:=5) (World.ownsRow_lit W #[.int .u8 (0:Nat),.int .u8 (3:Nat)] 2 (leR _) (by unfold maxLen;omega) rfl)

theorem Cj (hA:BF) (hP:BE) (hB:GI) (w:World):ClZ 5 #[] w fun r w'=>r=.returned (.bool true)/\Kept af w w':=by
 have J1:=hA w;have JP:=aa hP;have HB:=aa hB;clear hA hP hB;unfold rO KS.v at J1;delta ClZ;go_in;go_wp2_with fail;refine J1.mono ?_;rintro q w1 ⟨v1,rfl,h,k1⟩;obtain ⟨o1,n1,c1,rfl,_⟩:=h.open;have m:=aa k1;have J2:=JP.o w1;clear J1 h k1 JP;unfold rO KS.v at J2;go_wp2_with fail;refine J2.mono ?_;rintro q w2 ⟨v2,rfl,i,k2⟩;obtain ⟨o2,n2,c2,rfl,_⟩:=i.open;have c:=aa ((m.o.trans k2).alloc (.cells #[.int .u8 0,.int .u8 3] 5));have J3:=IG _ [0,3] _ (Ls w2) (by simp);clear J2 i k2;go_wp2_with fail;refine J3.mono ?_;rintro q w3 ⟨g,rfl,hg,k,k3⟩;have HG:HzD (w.heap.size<=g):=aI c.o.size hg
 have l:=k.g ((ah af w3).alloc (.cells #[.int .u64 (7:Nat)] 24));have J4:=HB.o (some ⟨g,0,none⟩) w3.heap.size [0,3] [7] _ 1 1 [3] 2 0 [] _ GL l (by simp) (fun d hd=>by simp at hd;omega) (by simp) (Lr w3 7) (Digs.one (by omega)) (by omega);have n:=aa ((c.o.trans k3).alloc (.cells #[.int .u64 (7:Nat)] 24));clear J3 k l k3 hg HB;go_wp2_with fail;refine J4.mono ?_;rintro q w4 ⟨u,rfl,⟨j,_⟩,_,k4⟩;obtain ⟨o4,n4,c4,rfl,e,_,_,_,a⟩:=j.open;obtain rfl:1=n4:=e.o;obtain ⟨b,off,rfl,q0⟩:=a 0 (by omega);have p:w4.cell? ⟨b,off,none⟩=some (.int .u64 3):=q0
 have o:HzD (Kept af w w4):=n.o.next k4 (fun y hy f=>by have h1:=qX f;have h2:=HG.o;omega)
 clear J4 j k4 e a q0;go_wp2_with fail;go_ret;exact ⟨rfl,o.o⟩

theorem VPri.no (h:VPri):BF:=by
 intro w;refine (h rO pG none 0 0 [] none w.heap.size [] 0 none 0 0 [] w (by decide) (sE w) sD qW (Row.nil _ _) (Digs.nil _) (by omega) (.inl ⟨rfl,rfl⟩) (leR _) (Digs.nil _) (by simp) (Row.nil _ _) (Digs.nil _) (by omega) (by unfold rJ;omega)).mono ?_;rintro q w1 ⟨v1,E1,rfl,d,a,b,⟨c,_⟩,k1⟩;obtain ⟨rfl,rfl⟩:=Hw b;exact ⟨v1,rfl,c,(ah af w).next k1 (fun y hy f=>by simp [ofP] at f)⟩

theorem VPla.no (h:VPla):BE:=by
 intro w;refine (h rO pG none 0 0 [] w (by decide) (sE w) sD qW (Row.nil _ _) (Digs.nil _) (by omega)).mono ?_;rintro q w1 ⟨v1,E1,rfl,c,a,⟨b,_⟩,k1⟩;obtain ⟨rfl,rfl⟩:=Hv a;exact ⟨v1,rfl,b,k1⟩

theorem Turn.u64s (t:Turn B W W') {v:Value} (h:U64s W v):U64s W' v:=by
 intro b hb;obtain ⟨cs,fr,hg⟩:=h b hb;exact ⟨cs,fr,t.cells hg⟩

theorem Turn.isTr (t:Turn B W W') {p:Nat} {g:Option Nat} {l:List Ev} (h:IsTr W p g l):IsTr W' p g l:=by
 obtain ⟨v,s,h1,h2,h3,h4⟩:=h;exact ⟨v,s,t.cells h1,h2,t.own h3,h4⟩

theorem Turn.did (t:Turn B W W') {o o':Tr} {m:List Ev} (d:Did w o m W o') (hB:w.heap.size<=B):Did w o m W' o':=by
 refine ⟨t.kept d.1 hB,?_⟩;rcases d.2 with h1 | ⟨p,g,l,g',e1,e2,ht,hg⟩
 ·exact .inl h1
 ·exact .inr ⟨p,g,l,g',e1,e2,t.isTr ht,hg⟩

attribute [local go_sem] Oper.semAt_some

theorem Ez {ys:LN} {L:Nat} (hd:Digs ys) (hL:ys.length=L):aN (val ys)<=64*L:=by
 rw [bh];have:=aE (B:=18446744073709551616) (by omega) hd;rw [hL,show (18446744073709551616:Nat)=2^64 from rfl,<- aW] at this;exact this

def xQ (l:LN):Nat:=l.foldl (fun a d=>2*a+d) 0

theorem rY (l:LN) (d:Nat):xQ (l ++ [d])=2*xQ l+d:=by simp [xQ]

theorem ux (hE:E<2^N):∀ j,j<=N->xQ ((List.range j).map fun i=>E/2^(N-1-i)%2)=E/2^(N-j)
 | 0,_=>by
  rw [List.range_zero,kY,et,bJ hE];rfl
 | j+1,hj=>by
  rw [kZ,dR,jP,kY,rY,ux hE j (by omega)];have e:N-j=(N-1-j)+1:=by omega
  rw [e,aG,<- di,show N-(j+1)=N-1-j by omega];omega

theorem EC (hE:aN E=N):xQ ((List.range N).map fun i=>E/2^(N-1-i)%2)=E:=by
 have h:=ux ((bh E N).1 (Nat.le_of_eq hE)) N (leR _);rw [cj,cP,fC] at h;exact h

theorem Me (n:Nat) (hn:1<=n) (l Bs L N:Nat) (g:Nat->Nat) (v:Value) (ys:LN) (hd:Digs ys) (hL:HzD (ys.length=L)) (hN:HzD (aN (val ys)=N)) (hb:L<=1000000) (hg:HzD (∀ j,val ys/2^(N-1-j)%2=g j)) (S:Nat->Prop) (hS:S Bs) (E:∀ b,v.ownBlock=some b->0<L->S b)
  (J Jx:List (Fin N)->World->Prop)
  (hY:∀ a (x:Fin N) W,J a W->a.length<N->YieldAt Fence.wide (n-1) prog l #[.int .u64 (g x.val:Nat)] W fun e W'=>
   (e=.returned (.bool true)/\J (a ++ [x]) W'/\KeepB S W W')\/(e=.returned (.bool false)/\Jx (a ++ [x]) W'))
  (W:World) (C:W.cell? ⟨Bs,0,none⟩=some v) (hr:Row .u64 W v ys) (h0:J [] W) :
  CallsIn Fence.wide n prog 187 #[.func (.yield l) #[] #[],.pointer (some ⟨Bs,0,none⟩)] W fun e W'=>(∃ v,e=.returned v) /\
   ((∃ zs,zs.map Fin.val=List.range N/\J zs W')\/(∃ a,True/\Jx a W')):=by
 obtain ⟨ao,m,A,rfl,h,c1,c2,c3,y⟩:=hr.open;obtain rfl:m=L:=by rw [<- h.o];exact hL.o
 have s:HzD (N<=64000000):=by have:=Ez hd hL.o;have:=hN.o;unfold HzD;omega
 have c:=iO _ ys W hr hd (by have:=hL.o;omega);rw [hN.o] at c;have q:HzD (∀ (i j:Nat) (W':World),KeepB S W W'->i=N-1-j->i<=64000000->ClZ 188 #[.slice ao m A,.int .i64 (i:Int)] W' fun r w'=>r=.returned (.int .u64 (g j:Nat))/\w'=W'):=fun i j W' k hi hb=>by
  have:=Jz _ ys (i:Int) W' (k.row (fun b hb hp=>E b hb (by have:=hL.o;omega)) hr) hd;rw [kH,hi,hg.o] at this;rw [hi];exact this
 clear y hr hL h hd hN hg;refine callsIn_of_wp func187 rfl trivial ?_ rfl;simp only [ntmps187,iW,dh,fB,Nat.reduceAdd,Nat.reduceSub,iS,iT,iV,iU,bZ,fJ]
 gi_wp2_with fail
 refine ⟨trivial,?_⟩;refine (callsIn_wide.2 c).mono ?_;rintro e w' ⟨rfl,rfl⟩;have gN:IntKind.i64.wrap ((N:Int)-1)=(N:Int)-1:=by rw [IntKind.wrap_i64];have:=s.o;omega
 clear c
 gi_wp2_with fail
 gi_loopw [3] (fun i wr=>∃ (k:Nat) (I:Int),k<=N/\i=.int .i64 I/\HzD (I=(N:Int)-1-(k:Int))/\(∃ a:List (Fin N),HzD (a.map Fin.val=List.range k)/\J a wr)/\KeepB S w' wr)
  (fun i _=>(intOf i+1).toNat)
 case atStart=>exact ⟨0,_,aQ _,rfl,by unfold HzD;omega,⟨[],by simp [HzD],h0⟩,KeepB.refl _ _⟩
 case round=>
  obtain ⟨k,I,hk,rfl,HI,⟨a,d,z⟩,w⟩:=hrel;by_cases hkm:k<N
  ·obtain ⟨i,hi⟩:=aj (N-1-k:Nat)
   obtain rfl:I=(i:Int):=by have:=HI.o;omega
   have H:(0:Int)<=(i:Int):=by omega
   have B:IntKind.i64.wrap ((i:Int)-1)=(i:Int)-1:=by rw [IntKind.wrap_i64];have:=s.o;omega
   have F:=(w.cell (p:=⟨Bs,0,none⟩) hS).trans C;have f:=q.o i k wr w hi (by have:=s.o;omega);have o:a.length<N:=by
    have:=congrArg List.length d.o;rw [cJ,mn] at this;omega
   obtain ⟨fn,tmps,assign,body,hy,hR⟩:=hY a ⟨k,hkm⟩ wr z o;dsimp only at hy;clear hi
   gi_wp2_with fail
   refine ⟨trivial,?_⟩;refine (callsIn_wide.2 f).mono ?_;rintro e w2 ⟨rfl,rfl⟩;clear f
   gi_wp2_with fail
   refine hR.mono ?_;rintro e W3 (⟨rfl,D,G⟩ | ⟨rfl,t⟩)
   ·gi_wp2_with fail
    go_roundw
    case rel=>exact ⟨k+1,(i:Int)-1,hkm,by first | rfl | (rw [B]),by have:=HI.o;unfold HzD;omega,⟨a ++ [⟨k,hkm⟩],by unfold HzD;rw [dR,d.o,kZ];rfl,D⟩,w.trans G⟩
    case measure=>simp [intOf]
   ·gi_wp2_with fail
    refine bodyPost_ret (results_none rfl _ _ _) rfl ?_;exact ⟨⟨_,rfl⟩,.inr ⟨_,trivial,t⟩⟩
  ·obtain rfl:k=N:=by omega
   obtain rfl:I=-1:=by have:=HI.o;omega
   gi_wp2_with fail
   go_end0
   exact ⟨⟨_,rfl⟩,.inl ⟨a,d.o,z⟩⟩

theorem Im (ao:OA) (b a:Nat) (w:World) :
  ClZ 126 #[.slice ao b a] w fun e w'=>e=.returned (.func (.func 187) #[] #[.pointer (some ⟨w.heap.size,0,none⟩)])/\w'=w.alloc (.cells #[.slice ao b a] 23):=by
 delta ClZ;go_in;go_wp2;go_ret;exact ⟨rfl,rfl⟩

theorem DM (n:Nat) (hn:1<=n) (Bs L N:Nat) (g:Nat->Nat) (v:Value) (ys:LN) (hd:Digs ys) (hL:ys.length=L) (hN:aN (val ys)=N) (hb:L<=1000000) (hg:∀ j,val ys/2^(N-1-j)%2=g j) (S:Nat->Prop) (hS:S Bs) (a:∀ b,v.ownBlock=some b->0<L->S b)
  (w:World) (d:∀ k,S k->k<w.heap.size) (c:w.cell? ⟨Bs,0,none⟩=some v) (hr:Row .u64 w v ys) :
  SeqStopsK Fence.wide n prog 187 #[.pointer (some ⟨Bs,0,none⟩)] (fun x:Fin N=>#[Value.int .u64 (g x.val:Nat)]) (KeepB S) (fun zs=>zs.map Fin.val=List.range N) (fun _=>True) N w:=fun l J Jx W hW _ _ hY h0=>by
 have hk:KeepB S w W:=fun k hk=>hW.block k (d k hk)
 exact Me n hn l Bs L N g v ys hd hL hN hb hg S hS a J Jx hY W ((hk.cell (p:=⟨Bs,0,none⟩) hS).trans c) (hk.row (fun b hb hp=>a b hb (by omega)) hr) h0

theorem Aq (a b c d:Nat) (ha:a<18446744073709551616) (hb:b<18446744073709551616) (hc:c<18446744073709551616) (hd:d<18446744073709551616) (w:World) :
  ClZ 247 #[.int .u64 (a:Nat),.int .u64 (b:Nat),.int .u64 (c:Nat),.int .u64 (d:Nat)] w fun e w'=>∃ h l:Nat,e=.returned (.tuple #[.int .u64 (h:Nat),.int .u64 (l:Nat)])/\h<18446744073709551616/\l<18446744073709551616/\l+18446744073709551616*h=a*b+c+d/\w'=w:=by
 refine (Mh (a:Int) (b:Int) (c:Int) (d:Int) (by omega) (by omega) (by omega) (by omega) (by omega) (by omega) (by omega) (by omega) w).mono ?_;rintro e w' ⟨rfl,rfl⟩;have hp:a*b<=18446744073709551615*18446744073709551615:=er (by omega) (by omega);have e1:(a:Int)*(b:Int)=((a*b:Nat):Int):=by simp
 rw [e1];generalize a*b=p at *;refine ⟨(p+c+d)/18446744073709551616,(p+c+d)%18446744073709551616,mA ?_ ?_,by omega,bu,by omega,rfl⟩ <;> omega

theorem oT {W c':Nat} (hl:os.length=k) (h:val os B+B^k*c=X%B^k+Y%B^k*W) (hz:z+B*c'=dig Y k B*W+dig X k B+c) :
  val (os ++ [z]) B+B^(k+1)*c'=X%B^(k+1)+Y%B^(k+1)*W:=by
 rw [dG,hl,fw,fw,aG,bd,dm,bd];have e:B^k*(z+B*c')=B^k*(dig Y k B*W+dig X k B+c):=by rw [hz]
 rw [aJ,aJ,aJ] at e;omega

theorem tN (hB:0<B) (hl:os.length=n) (hd:Digs os B) (h:val os B+B^n*c=S):os=digs S n B/\c=S/B^n:=by
 have hv:=aE hB hd;rw [hl] at hv;refine ⟨cS hB hd hl ?_,?_⟩
 ·rw [<- h,eO,aB hv]
 ·rw [<- h,jQ _ _ (iH hB),bJ hv,dU]

theorem kK (zs os:LN) (j k z:Nat) (hl:os.length=k) (hk:j+k<zs.length:=by omega):(zs.take j ++ (os ++ zs.drop (j+k))).set (j+k) z=zs.take j ++ ((os ++ [z]) ++ zs.drop (j+(k+1))):=by
 have h1:(zs.take j).length=j:=by rw [aR];omega
 rw [ir _ _ (by omega),h1,pJ,ir _ _ (by omega),hl,cj,eE hk,lsZ,dX];rfl

theorem jX {base g a:Nat} (h:OwnN .u64 t w base (.slice (some ⟨g,0,none⟩) N a) N (zs.take j ++ (os ++ zs.drop (j+k)))) (b:zs.length=N) (hl:os.length=k) (hk:j+k<N:=by omega):w.cell? ⟨g,j+k,none⟩=some (.int .u64 (zs.getD (j+k) 0:Nat)):=by
 have h1:(zs.take j).length=j:=by rw [aR];omega
 rw [World.ownsRow.cellAt h (j+k) (by omega),bV,io (by omega),h1,pJ,io (by omega),hl,cj,fd,aV,aA,aS (by omega)];rfl

theorem rf (hd:Digs zs) (hk:k<n):dig (val ((zs.drop j).take n)) k=zs.getD (j+k) 0:=by
 rw [dn (by omega) ((hd.drop j).take n),aA,eG,ai hk,fd,<- aA]

theorem pX (hd:Digs zs):val ((zs.drop j).take n)<18446744073709551616^n:=
 bi (aE (by omega) ((hd.drop j).take n)) (bj (by omega) (by rw [aR];omega))

theorem fX {base size g a:Nat} {e:TypeId} {xs:List Value} (ho:w.ownsRow base e size (.slice (some ⟨g,0,none⟩) N a) n xs):g<w.heap.size:=by
 rcases ho.2 with ⟨h',_⟩ | ⟨g',cap',cur,h',_,hgg,_⟩
 ·simp at h'
 ·simp only [Value.slice.injEq,iI,Addr.mk.injEq,and_true] at h';obtain ⟨rfl,_,_⟩:=h';exact lt_of_block hgg

theorem tB (g base N f j n c W:Nat) (zs ys:LN) (v:Value) (w:World) (ho:OwnN .u64 24 w base (.slice (some ⟨g,0,none⟩) N f) N zs) (E:zs.length=N) (o:Digs zs) (hj:j+n<=N)
  (hv:Row .u64 w v ys) (t:ys.length=n) (l:Digs ys) (C:ys≠[]->∀ b,v.ownBlock=some b->b≠g) (hW:W<18446744073709551616) (R S:Nat) (hS:S=val ((zs.drop j).take n)+val ys*W) (hR:R=S/18446744073709551616^n) :
  ClZ 218 #[.slice (some ⟨g,j,none⟩) n c,v,.int .u64 (W:Nat)] w fun e w'=>e=.returned (.int .u64 (R:Nat)) /\
   OwnN .u64 24 w' base (.slice (some ⟨g,0,none⟩) N f) N (zs.take j ++ (digs S n ++ zs.drop (j+n)))/\Kept (fun b=>b=g) w w':=by
 have hX:=pX (j:=j) (n:=n) o;have hY:val ys<18446744073709551616^n:=by rw [<- t];exact aE (by omega) l
 have p:HzD (∀ k,k<n->dig (val ((zs.drop j).take n)) k=zs.getD (j+k) 0):=fun k hk=>rf o hk
 have q:HzD (∀ k,dig (val ys) k=ys.getD k 0):=fun k=>dn (by omega) l k
 have A:HzD (∀ k,zs.getD (j+k) 0<18446744073709551616):=fun k=>o.getD (by omega) _
 have s:HzD (∀ k,ys.getD k 0<18446744073709551616):=fun k=>l.getD (by omega) _
 have a:HzD (∀ W',Kept (fun b=>b=g) w W'->Row .u64 W' v ys):=fun W' k=>hv.kept' k C
 generalize val ((zs.drop j).take n)=X at *;generalize val ys=Y at *;have HX:=aa hX;have HY:=aa hY;have HS:=aa hS;have HR:=aa hR;have B:=aa E;have HO:=aa ho;obtain ⟨bo,m,bc,rfl,hM,_,_,_,_⟩:=hv.open;obtain rfl:m=n:=hM.o.symm.trans t;clear ho E hX hY hS hR t l o C hv hM;delta ClZ;go_in;go_wp2_with fail;go_loopw [7,11] (fun ab i wr=>∃ (k c':Nat) (os:LN),k<=m/\c'<18446744073709551616/\i=.int .i64 (k:Int)/\ab=.int .u64 (c':Int)/\HzD (os.length=k)/\Digs os/\OwnN .u64 24 wr base (.slice (some ⟨g,0,none⟩) N f) N (zs.take j ++ (os ++ zs.drop (j+k)))/\Kept (fun b=>b=g) w wr /\
   HzD (val os+18446744073709551616^k*c'=X%18446744073709551616^k+Y%18446744073709551616^k*W)) (fun _ i _=>m-(intOf i).toNat)
 case atStart=>exact ⟨0,0,[],aQ _,by omega,rfl,rfl,rfl,Digs.nil _,by rw [aV,bZ,kh];exact HO.o,ah _ _,by unfold HzD;simp [val,Nat.mod_one]⟩
 case round=>
  obtain ⟨k,c',os,hk,hc,rfl,rfl,HL,D,ho,r,HV⟩:=hrel;by_cases hkn:k<m
  ·have Q:(0:Int)<=(k:Int):=cN _;have I:(k:Int)<(m:Int):=by omega
   have O:=jX ho B.o HL.o;obtain ⟨_,_,_,e2,_,_,_,_,d⟩:=(a.o wr r).open;cases e2
   obtain ⟨b2,M,rfl,P⟩:=d k hkn;have hf:=World.ownsRow.frozenAt ho (j+k);have hx:=A.o k;have hy:=s.o k;have F:HzD (∀ z c2,z+18446744073709551616*c2=ys.getD k 0*W+zs.getD (j+k) 0+c'->val (os ++ [z])+18446744073709551616^(k+1)*c2=X%18446744073709551616^(k+1)+Y%18446744073709551616^(k+1)*W):=fun z c2 h=>oT HL.o HV.o (by rw [p.o k hkn,q.o k];exact h)
   have G:HzD (∀ u:Nat,OwnN .u64 24 (wr.setCell ⟨g,j+k,none⟩ (.int .u64 (u:Int))) base (.slice (some ⟨g,0,none⟩) N f) N (zs.take j ++ ((os ++ [u]) ++ zs.drop (j+(k+1))))):=fun u=>by
    have:=(World.ownsRow.stored ho (j+k) (.int .u64 (u:Int))).1;unfold OwnN;rw [<- kK zs os j k u HL.o (by have:=B.o;omega),cG];exact this
   clear HV a d p q A s HO HX HY HS HR;generalize zs.getD (j+k) 0=x at *;generalize ys.getD k 0=y at *;go_wp2_with fail;go_region_with (go_at_call 247;refine (Aq y W x c' hy hW hx hc _).mono ?_;rintro e w7 ⟨h2,l2,rfl,H,J,L,rfl⟩)
   all_goals
    go_wp2_with fail;go_roundw
    case rel=>exact ⟨k+1,h2,os ++ [l2],by omega,H,by go_num,rfl,by unfold HzD;rw [bk,HL.o];rfl,D.append (Digs.one J),G.o l2,(r.setCell _ (fun _=>rfl) _).drew,F.o l2 h2 L⟩
    case measure=>simp [intOf];omega
  ·have I:¬ (k:Int)<(m:Int):=by omega
   obtain rfl:k=m:=by omega
   have e:=HV.o;rw [aB HX.o,aB HY.o,<- HS.o] at e;obtain ⟨e1,e2⟩:=tN (by omega) HL.o D e;have E1:=aa e1;have E2:=aa (e2.trans HR.o.symm);clear e e1 e2 HV a p q A s HO HX HY HS HR;go_wp2_with fail;go_ret;rw [<- E1.o,<- E2.o];exact ⟨rfl,ho,r⟩

theorem iQ (hB:0<B) (hd:Digs zs B) (k:Nat):val (zs.take k) B=val zs B%B^k:=by
 by_cases h:k<=zs.length
 ·have e:=bg B zs k h;have a:val (zs.take k) B<B^k:=by
   have:=aE hB (hd.take k)
   rwa [aR,jw h] at this
  rw [e,eO,aB a]
 ·rw [dS (by omega),aB];exact bi (aE hB hd) (bj hB (by omega))

theorem kN (hB:0<B) (hd:Digs zs B) (k:Nat):val (zs.drop k) B=val zs B/B^k:=by
 by_cases h:k<=zs.length
 ·have e:=bg B zs k h;have a:val (zs.take k) B<B^k:=by
   have:=aE hB (hd.take k)
   rwa [aR,jw h] at this
  rw [e,jQ _ _ (iH hB),bJ a,dU]
 ·rw [jI];have h1:=aE hB hd;have h2:B^zs.length<=B^k:=bj hB (by omega);rw [bJ (by omega)];rfl

theorem xB (hB:0<B) (hd:Digs zs B) (j n:Nat):val ((zs.drop j).take n) B=val zs B/B^j%B^n:=by
 rw [iQ hB (hd.drop j),kN hB hd]

theorem xD (hB:0<B) (hd:Digs zs B) (hl:os.length=k) (hj:j<=zs.length:=by omega):val (zs.take j ++ (os ++ zs.drop (j+k))) B=val zs B%B^j+B^j*(val os B+B^k*(val zs B/B^(j+k))):=by
 have h1:(zs.take j).length=j:=by rw [aR];omega
 rw [eK,eK,h1,hl,iQ hB hd,kN hB hd]

theorem ku (hd:Digs zs B) (ho:Digs os B):Digs (zs.take j ++ (os ++ zs.drop (j+k))) B:=(hd.take j).append (ho.append (hd.drop _))

theorem ts (hl:zs.length=N) (ho:os.length=k) (hj:j+k<=N:=by omega):(zs.take j ++ (os ++ zs.drop (j+k))).length=N:=by
 simp [ho,hl];omega

theorem Bm (hB:0<B) (hY:Y<B^M) (hk:k+M<N) (hz:zs=digs (X%B^k*Y) N B) (hS:S=val ((zs.drop k).take M) B+Y*dig X k B) :
  zs.take k ++ ((digs S M B ++ [S/B^M]) ++ zs.drop (k+(M+1)))=digs (X%B^(k+1)*Y) N B/\S/B^M<B:=by
 have d:0<B^k:=iH hB;have hP:X%B^k*Y<B^(k+M):=by
  rw [aL];exact mw (aY _ d) (eH hY) (iH hB)
 have g:X%B^k*Y<B^N:=bi hP (bj hB (by omega));have i:zs.length=N:=by rw [hz,ag]
 have a:Digs zs B:=by rw [hz];exact ak hB _ _
 have e:val zs B=X%B^k*Y:=by rw [hz,ay,aB g]
 clear hz;rw [xB hB a,e] at hS;have e2:X%B^(k+1)*Y=X%B^k*Y+B^k*(Y*dig X k B):=by
  rw [aG,lh,dm,dig,bd,aD (X/B^k%B) Y]
 have f:X%B^(k+1)*Y<B^N:=by
  have h1:X%B^(k+1)*Y<B^(k+1)*B^M:=mw (aY _ (iH hB)) (eH hY) (iH hB);rw [<- aL] at h1;exact bi h1 (bj hB (by omega))
 generalize hPP:X%B^k*Y=P at *;have h:P/B^k<B^M:=by rw [cW d,aD,<- aL];exact hP
 rw [aB h] at hS;have hx:dig X k B<B:=aY _ hB;have b:S/B^M<B:=by
  rw [cW (iH hB),hS];have h1:Y*dig X k B<=B^M*dig X k B:=cF _ (eH hY);have h2:B^M*(dig X k B+1)<=B^M*B:=bG _ hx;rw [aJ,bI] at h2;rw [aD B];omega
 refine ⟨?_,b⟩;have c:(digs S M B ++ [S/B^M]).length=M+1:=by simp [ag]
 refine cS hB (ku a ((ak hB _ _).append (Digs.one b))) (ts i c) ?_;rw [xD hB a c,dG,ag,ay,e,aB f,e2];have e3:P/B^(k+(M+1))=0:=by
  apply bJ;exact bi hP (bj hB (by omega))
 rw [e3,df,aV,iY,hS,aJ,<- iX,iY]

theorem oK (B:Nat):∀ n,digs 0 n B=List.replicate n 0
 | 0=>rfl
 | n+1=>by rw [digs,oK B n,iq,dig];simp

theorem mS {v:Value} {g:Nat} (h:Row .u64 w v xs) (hg:w.heap.size<=g) (_:w.heap.size<=w'.heap.size):xs≠[]->∀ b,v.ownBlock=some b->b≠g:=fun a b hb e=>by
 have:=h.lt a b hb;omega

theorem Lc (o:Tr) (u v:Value) (xs ys:LN) (w:World) (ht:TrRoom w o xs.length) (hu:RowT w o u xs) (hv:RowT w o v ys) (n:Digs xs) (y:Digs ys) (hL:xs.length<=100000) (hM:ys.length<=100000) :
  ClZ 170 #[aP o,u,v] w fun e w'=>∃ v',e=.returned v'/\v'=.slice (some ⟨w.heap.size,0,none⟩) (xs.length+ys.length) (xs.length+ys.length) /\
   OwnN .u64 24 w' w.heap.size v' (xs.length+ys.length) (digs (val xs*val ys) (xs.length+ys.length))/\∃ o',Did w o (List.replicate xs.length (1,(ys.length:Nat),0)) w' o':=by
 obtain ⟨i0,ae,am,an,ap⟩:=info_parts Tryz.info24;obtain ⟨ao,L,au,rfl,F,_,_,_,_⟩:=hu.1.open;obtain ⟨bo,M,V,rfl,G,_,_,_,_⟩:=hv.1.open;have eL:=F.o;have eM:=G.o;have hX:HzD (val xs<18446744073709551616^L):=by have:=aE (by omega) n;rw [eL] at this;exact this
 have hY:HzD (val ys<18446744073709551616^M):=by have:=aE (by omega) y;rw [eM] at this;exact this
 have a:HzD (∀ k,dig (val xs) k=xs.getD k 0):=fun k=>dn (by omega) n k
 have B:HzD (∀ k,xs.getD k 0<18446744073709551616):=fun k=>n.getD (by omega) _
 rw [eL] at hL ht ⊢;rw [eM] at hM ⊢;have HU:=aa hu;have HV:=aa hv;have HT:=aa ht;have HM:=aa eM;have r:=aa y;obtain ⟨Y,t⟩:=aj (val ys)
 rw [<- t] at hY ⊢;have s:=aa t;obtain ⟨tp,A⟩:=aj (aP o)
 rw [<- A];have U:=aa A;clear hu hv ht F G eL eM n y A t;generalize val xs=X at *;obtain ⟨N,hN⟩:=aj (L+M)
 have E:(L:Int)+(M:Int)=(N:Int):=by omega
 rw [<- hN];have aw:N<=200000:=by omega
 have HN:=aa hN;clear hN;delta ClZ;go_in;go_wp2_with (at_make;refine wpList_make_full _ rfl _ _ 23 rfl w.heap.size 24 i0 _ 1 underlying23 ae am an _ _ _ _ N rfl rfl (by first | exact E | rfl) (by first | exact E | rfl) (by rw [ap];omega) (by unfold maxLen;omega) (leR _) ?_;intro w1 p J);rw [bD] at p;have k1:=bf J;clear J;rw [<- oK 18446744073709551616 N] at p;go_loopw [18] (fun i wr=>∃ (k:Nat) (o':Tr),k<=L/\i=.int .i64 (k:Int)/\HzD (Did w o (List.replicate k (1,(M:Int),0)) wr o')/\OwnN .u64 24 wr w.heap.size (.slice (some ⟨w.heap.size,0,none⟩) N N) N (digs (X%18446744073709551616^k*Y) N)) (fun i _=>L-(intOf i).toNat)
 case atStart=>exact ⟨0,o,aQ _,rfl,Did.of_kept k1 (HT.o.1),by rw [cP,Et,i9];exact p⟩
 case round=>
  obtain ⟨k,o1,hk,rfl,HD,ho⟩:=hrel;clear p k1;by_cases hkn:k<L
  ·have aA:(0:Int)<=(k:Int):=cN _;have ai:(k:Int)<(L:Int):=by omega
   have c:TrRoom wr o1 (L-k):=HD.o.room (by rw [bw,show k+(L-k)=L by omega];exact HT.o);have hS:=gh o1 (M:Int) wr c.1;rw [HD.o.ptr,<- U.o] at hS;go_wp2_with fail;refine hS.mono ?_;rintro e w2 ⟨rfl,o2,d2⟩;have q:=d2.kept.own ho (fq ho c.1);have d:=aa (HD.o.trans d2);have P:=HU.o.did d.o;have Q:=HV.o.did d.o;clear hS ho d2 c HD;obtain ⟨_,_,_,e2,_,_,_,_,l⟩:=P.1.open;cases e2
   obtain ⟨b2,aq,rfl,ax⟩:=l k hkn;have al:=B.o k;obtain ⟨zs,m⟩:=aj (digs (X%18446744073709551616^k*Y) N)
   rw [<- m] at q;have C:zs.length=N:=by rw [m,ag]
   have T:Digs zs:=by rw [m];exact ak (by omega) _ _
   obtain ⟨S,hS⟩:=aj (val ((zs.drop k).take M)+Y*xs.getD k 0)
   obtain ⟨R,hR⟩:=aj (S/18446744073709551616^M)
   have O:k+M<N:=by have:=HN.o;omega
   obtain ⟨D,ar⟩:=Bm (S:=S) (by omega) hY.o O m (by rw [a.o k];exact hS);rw [<- hR] at D ar;have H:S=val ((zs.drop k).take M)+val ys*xs.getD k 0:=by rw [<- s.o];exact hS
   have I:=mS (w':=w2) (g:=w.heap.size) HV.o.1 (leR _) d.o.size;have HA:=fun W' (kk:Kept af w2 W')=>tB w.heap.size w.heap.size N N k M (N-k) (xs.getD k 0) zs ys (.slice bo M V) W' (kk.own q (fun _ _ f=>f)) C T (by omega) (Q.1.g kk) HM.o r.o I al R S H hR
   have ad:HzD (∀ W',OwnN .u64 24 W' w.heap.size (.slice (some ⟨w.heap.size,0,none⟩) N N) N (zs.take k ++ (digs S M ++ zs.drop (k+M)))->OwnN .u64 24 (W'.setCell ⟨w.heap.size,k+M,none⟩ (.int .u64 (R:Int))) w.heap.size (.slice (some ⟨w.heap.size,0,none⟩) N N) N (digs (X%18446744073709551616^(k+1)*Y) N)):=fun W' h=>by
    have:=(World.ownsRow.stored h (k+M) (.int .u64 (R:Int))).1;unfold OwnN;rw [<- D,<- kK zs _ k M R (ag _ _ _),cG];exact this
   have j:∀ W',OwnN .u64 24 W' w.heap.size (.slice (some ⟨w.heap.size,0,none⟩) N N) N (zs.take k ++ (digs S M ++ zs.drop (k+M)))->W'.cell? ⟨w.heap.size,k+M,none⟩=some (.int .u64 (zs.getD (k+M) 0:Nat)):=fun W' h=>jX h C (ag _ _ _) O
   have ac:∀ W',OwnN .u64 24 W' w.heap.size (.slice (some ⟨w.heap.size,0,none⟩) N N) N (zs.take k ++ (digs S M ++ zs.drop (k+M)))->W'.frozen? ⟨w.heap.size,k+M,none⟩=false:=fun W' h=>World.ownsRow.frozenAt h (k+M)
   have ab:¬ dr o2 w.heap.size:=fq q (d.o.room (k:=0) (by rw [bk,bw];exact HT.o.l (by simp;omega))).1 _ rfl;clear hS H hR m T C P Q l B a r s I D q;generalize xs.getD k 0=x at *;generalize zs.getD (k+M) 0=zz at *;generalize zs.take k ++ (digs S M ++ zs.drop (k+M))=zs' at *;have av:(k:Int)+(M:Int)<(N:Int):=by omega
   have W:(0:Int)<=(k:Int)+(M:Int):=by omega
   have Z:((k:Int)+(M:Int)).toNat=k+M:=by omega
   go_wp2_with fail;go_region_with (go_at_call 218;refine (HA _ ((ah _ _).drew)).mono ?_;rintro e w3 ⟨rfl,z,k3⟩;have ay:=j _ z;have az:=ac _ z)
   all_goals
    go_wp2_with fail;go_roundw
    case rel=>
     have k4:Kept (fun b=>b=w.heap.size) w2 (w3.setCell ⟨w.heap.size,k+M,none⟩ (.int .u64 (R:Int))):=(((ah _ _).drew).trans k3).setCell _ (fun _=>rfl) _;exact ⟨k+1,o2,by omega,by go_num,by unfold HzD;rw [iq];exact d.o.wroteNew k4 (leR _) ab,ad.o _ z⟩
    case measure=>simp [intOf];omega
  ·have ai:¬ (k:Int)<(L:Int):=by omega
   obtain rfl:k=L:=by omega
   rw [aB hX.o] at ho;clear B a r s;go_wp2_with fail;go_ret;exact ⟨_,rfl,by rw [HN.o];rfl,ho,o1,HD.o⟩

theorem ax {p:Nat} {a b c:Value} {fr:Nat × Nat} (h:W.heap[p]? = some (.cells #[a,b,c] t fr)):W.cell? ⟨p,0,none⟩=some a/\W.cell? ⟨p,1,none⟩=some b/\W.cell? ⟨p,2,none⟩=some c:=
 ⟨(cell_of_row W p 0 _ _ _ h).trans rfl,(cell_of_row W p 1 _ _ _ h).trans rfl,(cell_of_row W p 2 _ _ _ h).trans rfl⟩

theorem FB {Pn c2 d a low rest Sl:Nat}
 (hA:A=low+P*(a+Pn*(d+B*rest))) (hv:A+P*Pn*c=X+V*Q)
 (hS:a+V*q=Sl+Pn*R) (hz:z+B*c2=d+R+c) :
 low+P*(Sl+Pn*z+Pn*B*rest)+P*Pn*B*c2=X+V*(Q+P*q):=by grind

theorem Ic (h:Q<P) (hq:q<B):Q+P*q<P*B:=by
 have:P*(q+1)<=P*B:=bG _ hq
 grind

theorem CF {d a:Nat} (hg:(V*K+1)%B=0) (hq:q=d*K%B) (hp:a%B=d):(a+V*q)%B=0:=by
 obtain ⟨t,ht⟩:=fE hg;have e1:d*K=B*(d*K/B)+q:=by rw [hq];exact (dD _ _).symm
 have e2:a=B*(a/B)+d:=by rw [<- hp];exact (dD _ _).symm
 apply Nat.mod_eq_zero_of_dvd;have h3:B ∣ a+V*q+B*(V*(d*K/B)):=by
  refine ⟨a/B+d*t,?_⟩;generalize a/B=pb at *;generalize d*K/B=kb at *
  grind
 exact (Nat.dvd_add_left ⟨_,rfl⟩).1 h3

theorem FA {T:Nat} (hA:A=P*T) (hv:A+P*P*c=X+V*Q) (hQ:Q<P) (hX:X<V*P):T+P*c<2*V/\(P*(T+P*c))%V=X%V:=by
 have e:P*(T+P*c)=X+V*Q:=by rw [<- hv,hA];grind
 refine ⟨?_,by rw [e,eO]⟩;apply Nat.lt_of_mul_lt_mul_left (a:=P);rw [e];have:V*(Q+1)<=V*P:=bG _ hQ
 grind

theorem E8 {Z:Nat} (h:Z<2*V):(if V<=Z then Z-V else Z)=Z%V:=by
 split
 ·rename_i h1
  rw [Nat.mod_eq_sub_mod h1,dH]
 ·rw [dH]

theorem D6 {Q' a:Nat} (hc:Nat.Coprime V P) (hQ:Q<P) (c:Q'<P) (h:(a+V*Q)%P=(a+V*Q')%P):Q=Q':=by
 have b:∀ x y:Nat,x<=y->y<P->(a+V*x)%P=(a+V*y)%P->x=y:=by
  intro x y f hy he;have hd:P ∣ (a+V*y)-(a+V*x):=fE (jR he.symm);have e:(a+V*y)-(a+V*x)=V*(y-x):=by rw [li];omega
  rw [e] at hd;have d:=(Nat.Coprime.symm hc).dvd_of_dvd_mul_left hd;have:=Nat.eq_zero_of_dvd_of_lt d (by omega);omega
 rcases Nat.le_total Q Q' with h1 | h1
 ·exact b _ _ h1 c h
 ·exact (b _ _ h1 hQ h.symm).symm

theorem Dm {P1 W:Nat} (hR:R<V) (hQ:Q<P1) (hE:V*P1<=E) (hv:A+E*c=R+V*Q) (hA:A%P1=0) (hc:Nat.Coprime V P1) (hW:W%P1=0) (d:W/V<P1):A=W↔R=W%V:=by
 have hlt:R+V*Q<E:=by
  have:V*(Q+1)<=V*P1:=bG _ hQ
  grind
 have e:c=0:=by
  rcases cE c with h | h
  ·exact h
  ·have:E*1<=E*c:=bG _ h;omega
 subst e;rw [df,aV] at hv;constructor
 ·intro h;rw [<- h,hv,eO,aB hR]
 ·intro h;have b:R+V*(W/V)=W:=by rw [h];exact iY _ _
  have:=D6 (a:=R) hc hQ d (by rw [b,<- hv,hA,hW]);rw [hv,this,b]

theorem jf {Z:Nat} (hc:Nat.Coprime P V) (h:P*Y%V=P*Z%V):Y%V=Z%V:=by
 have a:∀ x y:Nat,x<=y->P*x%V=P*y%V->x%V=y%V:=by
  intro x y b he;have hd:V ∣ P*y-P*x:=fE (jR he.symm);rw [<- li] at hd;obtain ⟨t,ht⟩:=(Nat.Coprime.symm hc).dvd_of_dvd_mul_left hd;have:y=x+V*t:=by omega
  rw [this,eO]
 rcases Nat.le_total Y Z with h1 | h1
 ·exact a _ _ h1 h
 ·exact (a _ _ h1 h.symm).symm

theorem Iq (hc:Nat.Coprime P V) (hY:Y<V) (h:P*Y%V=(P*2^e%V)*(P*2^e%V)%V):Y=P*2^(2*e)%V:=by
 rw [<- aB hY];apply jf hc;rw [h,<- cH,Nat.two_mul,aL]
 congr 1
 grind

theorem zA {a:Nat}:2*(a%V)%V=2*a%V:=by
 rw [cH,ep,<- cH]

theorem ia (h:V%2=1):Nat.Coprime V (2^k):=by
 apply Nat.Coprime.pow_right;rw [Nat.Coprime,ft,kj,h];rfl

theorem DD {k c2:Nat} (e:Digs zs) (t:zs.length=N) (w:k+n<N) (hv:val zs+18446744073709551616^(k+n)*c=X+V*Q) (hQ:Q<18446744073709551616^k) (hq:q=zs.getD k 0*K%18446744073709551616)
  (hS:S=val ((zs.drop k).take n)+V*q) (hR:R=S/18446744073709551616^n) (hz:z+18446744073709551616*c2=zs.getD (k+n) 0+R+c) (o:z<18446744073709551616) (f:(V*K+1)%18446744073709551616=0->0<n->val zs%18446744073709551616^k=0) :
  val (zs.take k ++ ((digs S n ++ [z]) ++ zs.drop (k+(n+1))))+18446744073709551616^(k+1+n)*c2=X+V*(Q+18446744073709551616^k*q)/\Q+18446744073709551616^k*q<18446744073709551616^(k+1)/\((V*K+1)%18446744073709551616=0->0<n->val (zs.take k ++ ((digs S n ++ [z]) ++ zs.drop (k+(n+1))))%18446744073709551616^(k+1)=0) /\
  Digs (zs.take k ++ ((digs S n ++ [z]) ++ zs.drop (k+(n+1))))/\(zs.take k ++ ((digs S n ++ [z]) ++ zs.drop (k+(n+1)))).length=N:=by
 have hB:0<18446744073709551616:=by omega
 have g:(digs S n ++ [z]).length=n+1:=by simp [ag]
 have m:q<18446744073709551616:=by rw [hq];exact aY _ hB
 have b:=xD (j:=k) (k:=n+1) hB e g;rw [dG,ag,ay] at b;have a:=xB hB e k n;have l:zs.getD (k+n) 0=val zs/18446744073709551616^(k+n)%18446744073709551616:=by rw [<- dn hB e (k+n)];rfl
 have i:zs.getD k 0=val zs/18446744073709551616^k%18446744073709551616:=by rw [<- dn hB e k];rfl
 have hA:val zs=val zs%18446744073709551616^k+18446744073709551616^k*(val zs/18446744073709551616^k%18446744073709551616^n+18446744073709551616^n*(val zs/18446744073709551616^(k+n)%18446744073709551616+18446744073709551616*(val zs/18446744073709551616^(k+(n+1))))):=by
  have e1:val zs/18446744073709551616^(k+n)=val zs/18446744073709551616^k/18446744073709551616^n:=by rw [aL,di]
  have e2:val zs/18446744073709551616^(k+(n+1))=val zs/18446744073709551616^k/18446744073709551616^n/18446744073709551616:=by rw [<- iX,aG,aL,di,di,bd]
  rw [e1,e2,iY,iY,iY]
 have h:val zs/18446744073709551616^k%18446744073709551616^n+V*q=S%18446744073709551616^n+18446744073709551616^n*R:=by rw [<- a,<- hS,hR,iY]
 rw [aL] at hv;rw [l] at hz;have v:=FB hA hv h hz;refine ⟨?_,?_,?_,ku e ((ak hB _ _).append (Digs.one o)),ts t g⟩
 ·have e4:18446744073709551616^(k+1+n)=18446744073709551616^k*18446744073709551616^n*18446744073709551616:=by rw [show k+1+n=k+n+1 by omega,aG,aL]
  have e5:18446744073709551616^(n+1)=18446744073709551616^n*18446744073709551616:=aG _ _;rw [b,e4,e5];exact v
 ·rw [aG];exact Ic hQ m
 ·intro hg hn;have e6:18446744073709551616^(k+1)=18446744073709551616^k*18446744073709551616:=aG _ _;rw [b,f hg hn,dU,e6,pM];obtain ⟨n',rfl⟩:∃ n',n=n'+1:=⟨n-1,by omega⟩
  have h0:S%18446744073709551616=0:=by
   rw [hS,a];refine CF hg (d:=zs.getD k 0) hq ?_;rw [aG,Nat.mod_mul_left_mod,<- i]
  have h1:(S%18446744073709551616^(n'+1)+18446744073709551616^(n'+1)*z+18446744073709551616^(n'+1+1)*(val zs/18446744073709551616^(k+(n'+1+1))))%18446744073709551616=0:=by
   rw [aG 18446744073709551616 (n'+1),aG 18446744073709551616 n'];have e3:S%(18446744073709551616^n'*18446744073709551616)+18446744073709551616^n'*18446744073709551616*z+18446744073709551616^n'*18446744073709551616*18446744073709551616*(val zs/18446744073709551616^(k+(n'+1+1)))=S%(18446744073709551616^n'*18446744073709551616)+18446744073709551616*(18446744073709551616^n'*z+18446744073709551616^n'*18446744073709551616*(val zs/18446744073709551616^(k+(n'+1+1)))):=by
    generalize 18446744073709551616^n'=p;generalize val zs/18446744073709551616^(k+(n'+1+1))=r;generalize S%(p*18446744073709551616)=s
    grind
   rw [e3,eO,Nat.mod_mul_left_mod,h0]
  rw [h1,df]

theorem Fb (g base N f j n c W:Nat) (zs ys:LN) (v:Value) (w:World) (ho:OwnN .u64 24 w base (.slice (some ⟨g,0,none⟩) N f) N zs) (E:zs.length=N) (o:Digs zs) (hj:j+n<=N)
  (hv:Row .u64 w v ys) (t:ys.length=n) (l:Digs ys) (C:ys≠[]->∀ b,v.ownBlock=some b->b≠g) (hW:W<18446744073709551616) (R S:Nat) (hS:S=val ((zs.drop j).take n)+val ys*W) (hR:R=S/18446744073709551616^n) :
  ClZ 227 #[.slice (some ⟨g,j,none⟩) n c,v,.int .u64 (W:Nat)] w fun e w'=>e=.returned (.int .u64 (R:Nat)) /\
   OwnN .u64 24 w' base (.slice (some ⟨g,0,none⟩) N f) N (zs.take j ++ (digs S n ++ zs.drop (j+n)))/\Kept (fun b=>b=g) w w':=by
 have hX:=pX (j:=j) (n:=n) o;have hY:val ys<18446744073709551616^n:=by rw [<- t];exact aE (by omega) l
 have p:HzD (∀ k,k<n->dig (val ((zs.drop j).take n)) k=zs.getD (j+k) 0):=fun k hk=>rf o hk
 have q:HzD (∀ k,dig (val ys) k=ys.getD k 0):=fun k=>dn (by omega) l k
 have A:HzD (∀ k,zs.getD (j+k) 0<18446744073709551616):=fun k=>o.getD (by omega) _
 have s:HzD (∀ k,ys.getD k 0<18446744073709551616):=fun k=>l.getD (by omega) _
 have a:HzD (∀ W',Kept (fun b=>b=g) w W'->Row .u64 W' v ys):=fun W' k=>hv.kept' k C
 generalize val ((zs.drop j).take n)=X at *;generalize val ys=Y at *;have HX:=aa hX;have HY:=aa hY;have HS:=aa hS;have HR:=aa hR;have B:=aa E;have HO:=aa ho;obtain ⟨bo,m,bc,rfl,hM,_,_,_,_⟩:=hv.open;obtain rfl:m=n:=hM.o.symm.trans t;clear ho E hX hY hS hR t l o C hv hM;delta ClZ;go_in;go_wp2_with fail;go_loopw [7,11] (fun ab i wr=>∃ (k c':Nat) (os:LN),k<=m/\c'<18446744073709551616/\i=.int .i64 (k:Int)/\ab=.int .u64 (c':Int)/\HzD (os.length=k)/\Digs os/\OwnN .u64 24 wr base (.slice (some ⟨g,0,none⟩) N f) N (zs.take j ++ (os ++ zs.drop (j+k)))/\Kept (fun b=>b=g) w wr /\
   HzD (val os+18446744073709551616^k*c'=X%18446744073709551616^k+Y%18446744073709551616^k*W)) (fun _ i _=>m-(intOf i).toNat)
 case atStart=>exact ⟨0,0,[],aQ _,by omega,rfl,rfl,rfl,Digs.nil _,by rw [aV,bZ,kh];exact HO.o,ah _ _,by unfold HzD;simp [val,Nat.mod_one]⟩
 case round=>
  obtain ⟨k,c',os,hk,hc,rfl,rfl,HL,D,ho,r,HV⟩:=hrel;by_cases hkn:k<m
  ·have Q:(0:Int)<=(k:Int):=cN _;have I:(k:Int)<(m:Int):=by omega
   have O:=jX ho B.o HL.o;obtain ⟨_,_,_,e2,_,_,_,_,d⟩:=(a.o wr r).open;cases e2
   obtain ⟨b2,M,rfl,P⟩:=d k hkn;have hf:=World.ownsRow.frozenAt ho (j+k);have hx:=A.o k;have hy:=s.o k;have F:HzD (∀ z c2,z+18446744073709551616*c2=ys.getD k 0*W+zs.getD (j+k) 0+c'->val (os ++ [z])+18446744073709551616^(k+1)*c2=X%18446744073709551616^(k+1)+Y%18446744073709551616^(k+1)*W):=fun z c2 h=>oT HL.o HV.o (by rw [p.o k hkn,q.o k];exact h)
   have G:HzD (∀ u:Nat,OwnN .u64 24 (wr.setCell ⟨g,j+k,none⟩ (.int .u64 (u:Int))) base (.slice (some ⟨g,0,none⟩) N f) N (zs.take j ++ ((os ++ [u]) ++ zs.drop (j+(k+1))))):=fun u=>by
    have:=(World.ownsRow.stored ho (j+k) (.int .u64 (u:Int))).1;unfold OwnN;rw [<- kK zs os j k u HL.o (by have:=B.o;omega),cG];exact this
   clear HV a d p q A s HO HX HY HS HR;generalize zs.getD (j+k) 0=x at *;generalize ys.getD k 0=y at *;go_wp2_with fail;go_region_with (go_at_call 247;refine (Aq y W x c' hy hW hx hc _).mono ?_;rintro e w7 ⟨h2,l2,rfl,H,J,L,rfl⟩)
   all_goals
    go_wp2_with fail;go_roundw
    case rel=>exact ⟨k+1,h2,os ++ [l2],by omega,H,by go_num,rfl,by unfold HzD;rw [bk,HL.o];rfl,D.append (Digs.one J),G.o l2,(r.setCell _ (fun _=>rfl) _).drew,F.o l2 h2 L⟩
    case measure=>simp [intOf];omega
  ·have I:¬ (k:Int)<(m:Int):=by omega
   obtain rfl:k=m:=by omega
   have e:=HV.o;rw [aB HX.o,aB HY.o,<- HS.o] at e;obtain ⟨e1,e2⟩:=tN (by omega) HL.o D e;have E1:=aa e1;have E2:=aa (e2.trans HR.o.symm);clear e e1 e2 HV a p q A s HO HX HY HS HR;go_wp2_with fail;go_ret;rw [<- E1.o,<- E2.o];exact ⟨rfl,ho,r⟩

abbrev refusal (n:Int):PanicEntry:={ v:=.iface 35 (.int .i64 n),recovered:=false }

theorem yG (p:Addr) (w:World) :
  CallsD prog 217 #[.pointer (some p)] .returning w fun e u' w'=>e=.returned (.tuple #[])/\u'=.returning/\w'=w:=by
 refine callsD_of_wpS func217 rfl fun c₀ cs hu=>?_
 apply wpS_seq;apply wpS_region;simp [wpOpsS,go_sem,recoverD,hu,ntmps217,Exit.thenS];apply wpS_seq;apply wpS_seq;apply wpS_region;simp [wpOpsS,go_sem,Exit.thenS];refine wpS_cond (t:=true) (by simp [Act.eval,Array.replicate]) ?_;simp only [if_true];refine wpS_of_wp (wp_ret ?_);cases c₀
 simp_all [bodyPostS,results,results217,Exit.thenS]

theorem H3 (p:Addr) (x n:Int) (a:List PanicEntry) (w:World) (hc:w.cell? p=some (.int .i64 x)) (hz:w.frozen? p=false) :
  CallsD prog 217 #[.pointer (some p)] (.panicking (refusal n :: a)) w fun e u' w'=>
   e=.returned (.tuple #[])/\u'=.panicking ({ refusal n with recovered:=true } :: a)/\w'=w.setCell p (.int .i64 n):=by
 refine callsD_of_wpS func217 rfl fun c₀ cs hu=>?_
 apply wpS_seq;apply wpS_region;simp [wpOpsS,go_sem,recoverD,hu,ntmps217,Exit.thenS];apply wpS_seq;apply wpS_seq;apply wpS_region;simp [wpOpsS,go_sem,Exit.thenS];refine wpS_cond (t:=false) (by simp [Act.eval,Array.replicate]) ?_;simp only [mg,if_false];refine wpS_of_wp (wp_skip ?_);simp only [Exit.thenS];refine wpS_of_wp ?_;have b:∀ w:World,(Instr.typeAssert (.iface 35 (.int .i64 n)) 20 35 true).run prog w=.ok (.tuple #[.int .i64 n,.bool true]) w:=fun w=>by kernel_rfl
 have e:(#[Value.pointer (some p)] ++ ((((Array.replicate 15 undef).setIfInBounds 3 (Value.iface 35 (Value.int IntKind.i64 n))).setIfInBounds 0 (Value.iface 35 (Value.int IntKind.i64 n))).setIfInBounds 4 (Value.iface 35 (Value.int IntKind.i64 n))).setIfInBounds 5 (Value.bool false):Array Value)=#[.pointer (some p),.iface 35 (.int .i64 n),undef,undef,.iface 35 (.int .i64 n),.iface 35 (.int .i64 n),.bool false,undef,undef,undef,undef,undef,undef,undef,undef,undef]:=rfl;rw [e];clear e;go_wp2;simp [bodyPostS,results,results217]

theorem oo (f:Nat) (b:Array Value) (w:World) (Q:Int->World->Prop) (he:∀ args w,(callFunc f args).run prog w=.ok (.enter f args) w)
  (h:ClZ f b (w.alloc (.cells #[.int .i64 0] 35)) fun e w'=>w'.heap[w.heap.size]? = some (.cells #[.int .i64 0] 35 (0,0)) /\
   ((e=.returned (.tuple #[])/\Q 0 w')\/∃ n,e=.panicked [refusal n]/\Q n w')) :
  ClZ 167 #[.func (.func f) #[] b] w fun e w'=>∃ n w1,e=.returned (.int .i64 n)/\(Q n w1/\w1.heap[w.heap.size]? = some (.cells #[.int .i64 0] 35 (0,0)))/\w'=w1.setCell ⟨w.heap.size,0,none⟩ (.int .i64 n):=by
 go_enter_defers func167,ntmps167
 go_wp2_with fail;refine h.mono ?_;rintro e w1 ⟨hb,(⟨rfl,hq⟩ | ⟨n,rfl,hq⟩)⟩
 ·have hc:w1.cell? ⟨w.heap.size,0,none⟩=some (.int .i64 0):=by simp [World.cell?,hb]
  have hz:w1.frozen? ⟨w.heap.size,0,none⟩=false:=by simp [World.frozen?,hb]
  clear h;go_wp2_with fail;refine leaves_cons (f:=217) (args:=#[.pointer (some ⟨w.heap.size,0,none⟩)]) (by simp) (by simp [go_sem]) ?_;refine (yG ⟨w.heap.size,0,none⟩ _).mono ?_;rintro e u' c ⟨rfl,rfl,rfl⟩;have a:(w1.setCell ⟨w.heap.size,0,none⟩ (.int .i64 0)).cell? ⟨w.heap.size,0,none⟩=some (.int .i64 0):=World.cell?_setCell_same' _ _ _ (by rw [hc];rfl);simp [Leaves,settle,results,results167,go_sem,a];exact ⟨_,⟨hq,hb⟩,rfl⟩
 ·have hc:w1.cell? ⟨w.heap.size,0,none⟩=some (.int .i64 0):=by simp [World.cell?,hb]
  have hz:w1.frozen? ⟨w.heap.size,0,none⟩=false:=by simp [World.frozen?,hb]
  clear h;refine leaves_cons (f:=217) (args:=#[.pointer (some ⟨w.heap.size,0,none⟩)]) (by simp) (by simp [go_sem]) ?_;refine (H3 ⟨w.heap.size,0,none⟩ 0 n [] _ hc hz).mono ?_;rintro e u' c ⟨rfl,rfl,rfl⟩;have a:(w1.setCell ⟨w.heap.size,0,none⟩ (.int .i64 n)).cell? ⟨w.heap.size,0,none⟩=some (.int .i64 n):=World.cell?_setCell_same' _ _ _ (by rw [hc];rfl);simp [Leaves,settle,results,results167,go_sem,a];exact ⟨_,⟨hq,hb⟩,rfl⟩

theorem oV (n:Int) (w:World):ClZ 211 #[.bool false,.int .i64 n] w fun e w'=>e=.returned (.tuple #[])/\w'=w:=by
 delta ClZ;go_in;go_wp2;go_end0
 exact ⟨rfl,rfl⟩

theorem nh (n:Int) (w:World):ClZ 211 #[.bool true,.int .i64 n] w fun e w'=>e=.panicked [refusal n]/\w'=w:=by
 delta ClZ;go_in;go_wp2;exact ⟨rfl,rfl,rfl⟩

theorem zX (ao bo:OA) (L M a b:Nat) (w:World) :
  ClZ 169 #[.slice ao L a,.slice bo M b] w fun e w'=>((L<=300/\M<=300/\e=.returned (.tuple #[]))\/(¬ (L<=300/\M<=300)/\e=.panicked [refusal 2]))/\w'=w:=by
 have hN:=oV 2 w;have hY:=nh 2 w;by_cases h:L<=300/\M<=300
 ·have g:¬ max (L:Int) (M:Int) > 300:=by omega
  delta ClZ;go_in;go_wp2_with fail;refine hN.mono ?_;rintro e w' ⟨rfl,rfl⟩;go_wp2;go_end0
  exact ⟨.inl ⟨h.1,h.2,rfl⟩,rfl⟩
 ·have g:max (L:Int) (M:Int) > 300:=by omega
  delta ClZ;go_in;go_wp2_with fail;refine hY.mono ?_;rintro e w' ⟨rfl,rfl⟩;exact ⟨rfl,.inr ⟨h,rfl⟩,rfl⟩

def Box (w:World) (b:Nat) (v:Value) (t:TypeId):Prop:=w.heap[b]? = some (.cells #[v] t (0,0))

theorem Box.cell {b:Nat} {v:Value} (h:Box w b v t):w.cell? ⟨b,0,none⟩=some v:=by
 unfold Box at h;simp [World.cell?,h]

theorem Box.free {b:Nat} {v:Value} (h:Box w b v t):w.frozen? ⟨b,0,none⟩=false:=by
 unfold Box at h;simp [World.frozen?,h]

theorem Box.lt {b:Nat} {v:Value} (h:Box w b v t):b<w.heap.size:=lt_of_block h

theorem Box.new (w:World) (v:Value) (t:TypeId):Box (w.alloc (.cells #[v] t)) w.heap.size v t:=heap_alloc_new w _

theorem Box.kept {S:Nat->Prop} {b:Nat} {v:Value} (h:Box w b v t) (k:Kept S w w') (hs:¬ S b):Box w' b v t:=(k.block b h.lt hs).trans h

theorem Box.g {b:Nat} {v:Value} (h:Box w b v t) (k:Kept af w w'):Box w' b v t:=h.kept k (fun f=>f)

theorem Box.alloc {b:Nat} {v:Value} (h:Box w b v t) (o:Obj):Box (w.alloc o) b v t:=aw h

theorem Box.set {b:Nat} {v:Value} (h:Box w b v t) (u:Value):Box (w.setCell ⟨b,0,none⟩ u) b u t:=by
 have:=heap_setCell_same w b 0 #[v] t u h;simpa [Box] using this

theorem Box.other {b:Nat} {v:Value} (h:Box w b v t) (a:Addr) (c:b≠a.block) (u:Value):Box (w.setCell a u) b v t:=gY h c u

theorem aF (w:World) (b:Nat) (u:Value):Kept (fun x=>x=b) w (w.setCell ⟨b,0,none⟩ u):=(ah (fun x=>x=b) w).setCell ⟨b,0,none⟩ (fun _=>rfl) u

theorem GM (w:World) (v1:Value) (t1:TypeId):Kept af w (w.alloc (.cells #[v1] t1))/\Box (w.alloc (.cells #[v1] t1)) w.heap.size v1 t1/\(w.alloc (.cells #[v1] t1)).heap.size=w.heap.size+1:=by
 exact ⟨(ah af w).alloc _,Box.new w _ _,by simp⟩

theorem BX (w:World) (v1 v2:Value) (t1 t2:TypeId):Kept af w ((w.alloc (.cells #[v1] t1)).alloc (.cells #[v2] t2))/\Box ((w.alloc (.cells #[v1] t1)).alloc (.cells #[v2] t2)) w.heap.size v1 t1/\Box ((w.alloc (.cells #[v1] t1)).alloc (.cells #[v2] t2)) (w.heap.size+1) v2 t2/\((w.alloc (.cells #[v1] t1)).alloc (.cells #[v2] t2)).heap.size=w.heap.size+1+1:=by
 obtain ⟨k0,b1,hs⟩:=GM w v1 t1;exact ⟨k0.alloc _,b1.alloc _,by rw [<- hs];exact Box.new _ _ _,by rw [<- hs];simp⟩

theorem xW (w:World) (v1 v2 v3:Value) (t1 t2 t3:TypeId):Kept af w (((w.alloc (.cells #[v1] t1)).alloc (.cells #[v2] t2)).alloc (.cells #[v3] t3))/\Box (((w.alloc (.cells #[v1] t1)).alloc (.cells #[v2] t2)).alloc (.cells #[v3] t3)) w.heap.size v1 t1/\Box (((w.alloc (.cells #[v1] t1)).alloc (.cells #[v2] t2)).alloc (.cells #[v3] t3)) (w.heap.size+1) v2 t2/\Box (((w.alloc (.cells #[v1] t1)).alloc (.cells #[v2] t2)).alloc (.cells #[v3] t3)) (w.heap.size+1+1) v3 t3/\(((w.alloc (.cells #[v1] t1)).alloc (.cells #[v2] t2)).alloc (.cells #[v3] t3)).heap.size=w.heap.size+1+1+1:=by
 obtain ⟨k0,b1,b2,hs⟩:=BX w v1 v2 t1 t2;exact ⟨k0.alloc _,b1.alloc _,b2.alloc _,by rw [<- hs];exact Box.new _ _ _,by rw [<- hs];simp⟩

theorem sY (w:World) (v1 v2 v3 v4:Value) (t1 t2 t3 t4:TypeId):Kept af w ((((w.alloc (.cells #[v1] t1)).alloc (.cells #[v2] t2)).alloc (.cells #[v3] t3)).alloc (.cells #[v4] t4))/\Box ((((w.alloc (.cells #[v1] t1)).alloc (.cells #[v2] t2)).alloc (.cells #[v3] t3)).alloc (.cells #[v4] t4)) w.heap.size v1 t1/\Box ((((w.alloc (.cells #[v1] t1)).alloc (.cells #[v2] t2)).alloc (.cells #[v3] t3)).alloc (.cells #[v4] t4)) (w.heap.size+1) v2 t2/\Box ((((w.alloc (.cells #[v1] t1)).alloc (.cells #[v2] t2)).alloc (.cells #[v3] t3)).alloc (.cells #[v4] t4)) (w.heap.size+1+1) v3 t3/\Box ((((w.alloc (.cells #[v1] t1)).alloc (.cells #[v2] t2)).alloc (.cells #[v3] t3)).alloc (.cells #[v4] t4)) (w.heap.size+1+1+1) v4 t4/\((((w.alloc (.cells #[v1] t1)).alloc (.cells #[v2] t2)).alloc (.cells #[v3] t3)).alloc (.cells #[v4] t4)).heap.size=w.heap.size+1+1+1+1:=by
 obtain ⟨k0,b1,b2,b3,hs⟩:=xW w v1 v2 v3 t1 t2 t3;exact ⟨k0.alloc _,b1.alloc _,b2.alloc _,b3.alloc _,by rw [<- hs];exact Box.new _ _ _,by rw [<- hs];simp⟩

theorem BY (w:World) (v1 v2 v3 v4 v5:Value) (t1 t2 t3 t4 t5:TypeId):Kept af w (((((w.alloc (.cells #[v1] t1)).alloc (.cells #[v2] t2)).alloc (.cells #[v3] t3)).alloc (.cells #[v4] t4)).alloc (.cells #[v5] t5))/\Box (((((w.alloc (.cells #[v1] t1)).alloc (.cells #[v2] t2)).alloc (.cells #[v3] t3)).alloc (.cells #[v4] t4)).alloc (.cells #[v5] t5)) w.heap.size v1 t1/\Box (((((w.alloc (.cells #[v1] t1)).alloc (.cells #[v2] t2)).alloc (.cells #[v3] t3)).alloc (.cells #[v4] t4)).alloc (.cells #[v5] t5)) (w.heap.size+1) v2 t2/\Box (((((w.alloc (.cells #[v1] t1)).alloc (.cells #[v2] t2)).alloc (.cells #[v3] t3)).alloc (.cells #[v4] t4)).alloc (.cells #[v5] t5)) (w.heap.size+1+1) v3 t3/\Box (((((w.alloc (.cells #[v1] t1)).alloc (.cells #[v2] t2)).alloc (.cells #[v3] t3)).alloc (.cells #[v4] t4)).alloc (.cells #[v5] t5)) (w.heap.size+1+1+1) v4 t4/\Box (((((w.alloc (.cells #[v1] t1)).alloc (.cells #[v2] t2)).alloc (.cells #[v3] t3)).alloc (.cells #[v4] t4)).alloc (.cells #[v5] t5)) (w.heap.size+1+1+1+1) v5 t5/\(((((w.alloc (.cells #[v1] t1)).alloc (.cells #[v2] t2)).alloc (.cells #[v3] t3)).alloc (.cells #[v4] t4)).alloc (.cells #[v5] t5)).heap.size=w.heap.size+1+1+1+1+1:=by
 obtain ⟨k0,b1,b2,b3,b4,hs⟩:=sY w v1 v2 v3 v4 t1 t2 t3 t4;exact ⟨k0.alloc _,b1.alloc _,b2.alloc _,b3.alloc _,b4.alloc _,by rw [<- hs];exact Box.new _ _ _,by rw [<- hs];simp⟩

theorem GN (w:World) (v1 v2 v3 v4 v5 v6:Value) (t1 t2 t3 t4 t5 t6:TypeId):Kept af w ((((((w.alloc (.cells #[v1] t1)).alloc (.cells #[v2] t2)).alloc (.cells #[v3] t3)).alloc (.cells #[v4] t4)).alloc (.cells #[v5] t5)).alloc (.cells #[v6] t6))/\Box ((((((w.alloc (.cells #[v1] t1)).alloc (.cells #[v2] t2)).alloc (.cells #[v3] t3)).alloc (.cells #[v4] t4)).alloc (.cells #[v5] t5)).alloc (.cells #[v6] t6)) w.heap.size v1 t1/\Box ((((((w.alloc (.cells #[v1] t1)).alloc (.cells #[v2] t2)).alloc (.cells #[v3] t3)).alloc (.cells #[v4] t4)).alloc (.cells #[v5] t5)).alloc (.cells #[v6] t6)) (w.heap.size+1) v2 t2/\Box ((((((w.alloc (.cells #[v1] t1)).alloc (.cells #[v2] t2)).alloc (.cells #[v3] t3)).alloc (.cells #[v4] t4)).alloc (.cells #[v5] t5)).alloc (.cells #[v6] t6)) (w.heap.size+1+1) v3 t3/\Box ((((((w.alloc (.cells #[v1] t1)).alloc (.cells #[v2] t2)).alloc (.cells #[v3] t3)).alloc (.cells #[v4] t4)).alloc (.cells #[v5] t5)).alloc (.cells #[v6] t6)) (w.heap.size+1+1+1) v4 t4/\Box ((((((w.alloc (.cells #[v1] t1)).alloc (.cells #[v2] t2)).alloc (.cells #[v3] t3)).alloc (.cells #[v4] t4)).alloc (.cells #[v5] t5)).alloc (.cells #[v6] t6)) (w.heap.size+1+1+1+1) v5 t5/\Box ((((((w.alloc (.cells #[v1] t1)).alloc (.cells #[v2] t2)).alloc (.cells #[v3] t3)).alloc (.cells #[v4] t4)).alloc (.cells #[v5] t5)).alloc (.cells #[v6] t6)) (w.heap.size+1+1+1+1+1) v6 t6/\((((((w.alloc (.cells #[v1] t1)).alloc (.cells #[v2] t2)).alloc (.cells #[v3] t3)).alloc (.cells #[v4] t4)).alloc (.cells #[v5] t5)).alloc (.cells #[v6] t6)).heap.size=w.heap.size+1+1+1+1+1+1:=by
 obtain ⟨k0,b1,b2,b3,b4,b5,hs⟩:=BY w v1 v2 v3 v4 v5 t1 t2 t3 t4 t5;exact ⟨k0.alloc _,b1.alloc _,b2.alloc _,b3.alloc _,b4.alloc _,b5.alloc _,by rw [<- hs];exact Box.new _ _ _,by rw [<- hs];simp⟩

end Go.Proofs.YtpkmoamgpjcdeaaGreatDoor
