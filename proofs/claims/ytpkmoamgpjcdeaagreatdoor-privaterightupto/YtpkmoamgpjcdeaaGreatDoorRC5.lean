/- Put together of: Lsc2 Lsc3 Seq3 Base4 Lays NatB Seq0 NatC NatD NatE NatF NatG NatH NatI Lsc4. -/
import Derived.Test.YtpkmoamgpjcdeaaGreatDoorRC4
import Derived.Shelf.Strconv.Itoa0
import Derived.Lib.ItoaNum
import Derived.Shelf.Strings.BuilderK
import Derived.Shelf.Strings.Repeat
import Derived.Shelf.Small.Wraps
import Derived.Laws.OwnMore

namespace Go.Proofs.YtpkmoamgpjcdeaaGreatDoor
open _root_.Go.Proofs.Tryz
set_option maxRecDepth 100000
set_option maxHeartbeats 4000000
open Go.RowKit
variable {A C W W' w:World} {B L j n r t x z:Nat} {S T:Nat->Prop} {bs zs:LN} {k:IntKind} {p:OA}

theorem DZ (B n:Nat) (w:World) :
  ClZ 230 #[.pointer none,.int .i64 (n:Int)] w fun e w'=>∃ u,e=.returned (.tuple #[u,.int .i64 (ic [] n:Nat)])/\Row .u8 w' u (jb [] n)/\Lsc w' none B (jF [] n)/\Kept (ofP none) w w':=by
 have hR:jF [] (n:Int)=[]:=by unfold jF;split <;> simp
 have hL:jb [] (n:Int)=[]:=by unfold jb;split <;> simp
 rw [hR,hL];have J:=Ii (.slice none 0 0) [] w (Row.nil _ _) (by simp);by_cases h0:n=0
 ·subst h0;have hE:ic [] ((0:Nat):Int)=0:=rfl;rw [hE];clear hE hR hL;delta ClZ;go_in;go_wp2_with fail;refine J.mono ?_;rintro e w1 ⟨b,rfl,hb,h1,k1⟩;have J2:=DY _ _ _ w1 h1;have c:=af k1;have H1:=af h1;clear J k1 h1;go_wp2_with fail;refine J2.mono ?_;rintro e w2 ⟨rfl,k2⟩;have d:=af (c.o.trans k2);have h2:=H1.o.g k2;rcases h2 with ⟨e,_⟩ | ⟨b',v,ps,k,e,ed,h2⟩
  ·cases e
  cases e
  obtain ⟨c0,c1⟩:=h2.cells;have f1:=h2.free;have h3:=h2.put k h2.2.2.1;obtain ⟨d0,d1⟩:=h3.cells;have o:=h2.2.2.2.1;have j:k=ps.length:=by
   have e1:=congrArg List.length ed;rw [cP] at e1;have e2:=h2.2.2.1;have e3:([]:LN).length=0:=rfl;omega
  obtain ⟨ao,L,i,rfl,hL,l,m,g,a⟩:=h2.2.1.open;obtain rfl:k=L:=j.trans hL.o;have f:HzD (Kept (ofP none) w (w2.setCell ⟨b,1,none⟩ (.int .i64 (k:Nat)))):=(d.o.any (S:=ofP none)).setCell _ (fun h=>absurd h (by show ¬ b<w.heap.size;omega)) _;have g1:(k:Int)+0=(k:Int):=by omega
  have g0:(0:Int)<=(k:Int):=by omega
  have g2:(k:Int)<=(i:Int):=by omega
  have p:k<=1000000:=by omega
  have HN:=af g;clear J2 h2 h3 k2 a g c d H1 ed j hL o hb;cases ao with
  | none=>
   obtain rfl:=HN.o rfl;obtain rfl:k=0:=by omega
   go_wp2_with fail;go_quiet (fail);go_wp2_with fail;go_ret2;exact ⟨_,rfl,Row.nil _ _,.inl ⟨rfl,rfl⟩,f.o.drewN _⟩
  | some ad=>
   by_cases hck:i=k
   ·subst hck;go_wp2_with fail;go_quiet (fail);go_wp2_with fail;go_ret2;exact ⟨_,rfl,my (fun e=>by cases e) (by unfold maxLen at *;omega),.inl ⟨rfl,rfl⟩,f.o.drewN _⟩
   ·go_wp2_with fail;go_quiet (fail);go_wp2_with fail;go_ret2;exact ⟨_,rfl,my (fun e=>by cases e) (by unfold maxLen at *;omega),.inl ⟨rfl,rfl⟩,f.o.drewN _⟩
 ·have hE:ic [] (n:Int)=150:=by unfold ic;rw [aJ,ai (by simp;omega)]
  rw [hE];have g1:(n:Int) > ((0:Nat):Int):=by omega
  have g2:((0:Nat):Int)<(n:Int):=by omega
  clear hE hR hL;delta ClZ;go_in;go_wp2_with fail;refine J.mono ?_;rintro e w1 ⟨b,rfl,hb,h1,k1⟩;have J2:=DY _ _ _ w1 h1;have c:=af k1;have H1:=af h1;clear J k1 h1;go_wp2_with fail;refine J2.mono ?_;rintro e w2 ⟨rfl,k2⟩;have d:=af (c.o.trans k2);have h2:=H1.o.g k2;rcases h2 with ⟨e,_⟩ | ⟨b',v,ps,k,e,ed,h2⟩
  ·cases e
  cases e
  obtain ⟨c0,c1⟩:=h2.cells;have f1:=h2.free;obtain ⟨ao,L,i,rfl,hL,l,m,g,a⟩:=h2.2.1.open;have f:HzD (Kept (ofP none) w (w2.setCell ⟨b,1,none⟩ (.int .i64 (L:Nat)))):=(d.o.any (S:=ofP none)).setCell _ (fun h=>absurd h (by show ¬ b<w.heap.size;omega)) _;clear J2 h2 k2 a g c d H1 ed;go_wp2_with fail;go_ret2;exact ⟨_,rfl,Row.nil _ _,.inl ⟨rfl,rfl⟩,f.o⟩

theorem Ij (b B n k:Nat) (v:Value) (ps:LN) (w:World) (h:LscB w b B v ps k) :
  ClZ 230 #[.pointer (some ⟨b,0,none⟩),.int .i64 (n:Int)] w fun e w'=>∃ u,e=.returned (.tuple #[u,.int .i64 (ic (ps.drop k) n:Nat)])/\Row .u8 w' u (jb (ps.drop k) n)/\Lsc w' (some ⟨b,0,none⟩) B (jF (ps.drop k) n)/\Kept (fun x=>x=b) w w':=by
 have J:=DY _ _ _ w h.lsc;have H:=af h;obtain ⟨ao,L,j,rfl,hL,r,s,c,g⟩:=h.2.1.open;have t:k<=L:=by rw [<- hL.o];exact h.2.2.1
 have q:L<=1000000:=by rw [<- hL.o];exact h.2.2.2.1
 have hd:(ps.drop k).length=L-k:=by rw [cP,hL.o]
 rw [hd] at J;obtain ⟨d,l⟩:=aj (L-k)
 rw [<- l] at J hd;by_cases h1:d<n
 ·have e1:ic (ps.drop k) (n:Int)=150:=by unfold ic;rw [aJ,bZ]
  have e2:jb (ps.drop k) (n:Int)=[]:=by unfold jb;rw [e1];rfl
  have e3:jF (ps.drop k) (n:Int)=ps.drop ps.length:=by
   unfold jF;rw [aJ,kU (by rw [hd];show d<=((n:Int)).toNat;omega),kU (leR _)]
  rw [e1,e2,e3];have g1:(n:Int) > (d:Int):=by omega
  have i:=af hL.o;clear e1 e2 e3 h g c l hd hL;delta ClZ;go_in;go_wp2_with fail;refine J.mono ?_;rintro e w1 ⟨rfl,k1⟩;have H1:=af (H.o.kept k1 (fun _ _ f=>f));obtain ⟨c0,c1⟩:=H1.o.cells;have f1:=H1.o.free;have HP:=af (H1.o.put L (by rw [i.o];exact leR _));have HK:=af ((k1.any (S:=fun x=>x=b)).setCell ⟨b,1,none⟩ (fun _=>rfl) (.int .i64 (L:Nat)));clear J k1;go_wp2_with fail;go_ret2;exact ⟨_,rfl,Row.nil _ _,by rw [i.o];exact HP.o.lsc,HK.o⟩
 ·have e1:ic (ps.drop k) (n:Int)=0:=by unfold ic;rw [aJ,aJ]
  have e2:jb (ps.drop k) (n:Int)=(ps.drop k).take n:=by unfold jb;rw [e1];rfl
  have e3:jF (ps.drop k) (n:Int)=ps.drop (k+n):=by
   unfold jF;rw [aJ,jq];rfl
  rw [e1,e2,e3];obtain ⟨m,hm⟩:=aj (k+n)
  rw [<- hm];have g1:¬ (n:Int) > (d:Int):=by omega
  have g2:¬ (d:Int)<(n:Int):=by omega
  have g3:(k:Int)+(n:Int)=(m:Int):=by omega
  have g4:(k:Int)<=(m:Int):=by omega
  have g5:(m:Int)<=(j:Int):=by omega
  have g6:(0:Int)<=(k:Int):=by omega
  have g7:m-k=n:=by omega
  have p:m<=L:=by omega
  have C:m<=j:=by omega
  have z:k<=m:=by omega
  have i:=af hL.o;have y:k<=1000000:=by omega
  have A:m<=1000000:=by omega
  have HN:=af c;have o:=af (show k+n<=L by omega);clear e1 e2 e3 h g l hd hL hm;delta ClZ;go_in;go_wp2_with fail;refine J.mono ?_;rintro e w1 ⟨rfl,k1⟩;have H1:=af (H.o.kept k1 (fun _ _ f=>f));obtain ⟨c0,c1⟩:=H1.o.cells;have f1:=H1.o.free;have HP:=af (H1.o.put m (by rw [i.o];exact p));obtain ⟨d0,d1⟩:=HP.o.cells;have HK:=af ((k1.any (S:=fun x=>x=b)).setCell ⟨b,1,none⟩ (fun _=>rfl) (.int .i64 (m:Nat)));have HC:=af (Ff HP.o.2.1 o.o);clear J k1;cases ao with
  | none=>
   obtain rfl:=HN.o rfl;obtain rfl:L=0:=by omega
   obtain rfl:m=0:=by omega
   obtain rfl:k=0:=by omega
   obtain rfl:n=0:=by omega
   have a:=af (HC.o.1 rfl);clear HC c;go_wp2_with fail;go_quiet (fail);go_wp2_with fail;go_ret2;exact ⟨_,rfl,a.o.kept' (S:=aa) ((ah _ _).drewN _) (fun _ _ _ f=>f),HP.o.lsc.g ((ah _ _).drewN _),HK.o.drewN _⟩
  | some ad=>
   by_cases hck:j=k
   ·have a:=af (HC.o.2.1 ad rfl hck);obtain rfl:m=k:=by omega
    obtain rfl:n=0:=by omega
    subst hck;clear HC c;go_wp2_with fail;go_quiet (fail);go_wp2_with fail;go_ret2;exact ⟨_,rfl,a.o.kept' (S:=aa) ((ah _ _).drewN _) (fun _ _ _ f=>f),HP.o.lsc.g ((ah _ _).drewN _),HK.o.drewN _⟩
   ·have a:=af (HC.o.2.2 ad rfl hck);clear HC c;go_wp2_with fail;go_quiet (fail);go_wp2_with fail;go_ret2;exact ⟨_,rfl,a.o.kept' (S:=aa) ((ah _ _).drewN _) (fun _ _ _ f=>f),HP.o.lsc.g ((ah _ _).drewN _),HK.o.drewN _⟩

theorem Lf (p:OA) (B n:Nat) (bs:LN) (w:World) (h:Lsc w p B bs) :
  ClZ 230 #[.pointer p,.int .i64 (n:Int)] w fun e w'=>∃ u,e=.returned (.tuple #[u,.int .i64 (ic bs n:Nat)])/\Row .u8 w' u (jb bs n)/\Lsc w' p B (jF bs n)/\Kept (ofP p) w w':=by
 rcases h with ⟨rfl,rfl⟩ | ⟨b,v,ps,k,rfl,rfl,h⟩
 ·exact DZ B n w
 ·refine (Ij b B n k v ps w h).mono ?_;rintro e w' ⟨u,he,h1,h2,h3⟩;exact ⟨u,he,h1,h2,h3.mono fun x _ e=>by cases e;rfl⟩

theorem Dk (bs:LN) (n:Nat):ic bs n=0\/ic bs n=150:=by
 unfold ic;rw [aJ]
 split <;> simp

theorem Dl (bs:LN) (n:Int):(jb bs n).length<=bs.length:=by
 unfold jb
 split
 ·rw [aQ];omega
 ·simp

theorem Le (p:OA) (B:Nat) (bs:LN) (n:Int) (w:World) (h:Lsc w p B bs) :
  ClZ 193 #[.pointer p,.int .i64 n] w fun e w'=>∃ u,e=.returned (.tuple #[u,.int .i64 (ic bs n:Nat)])/\OwnB w' w.heap.size u (jb bs n)/\Lsc w' p B (jF bs n)/\Kept (ofP p) w w':=by
 have H:=af h;by_cases h1:n<0
 ·have e1:ic bs n=1:=by unfold ic;rw [ai h1]
  have e2:jb bs n=[]:=by unfold jb;rw [e1];rfl
  have e3:jF bs n=bs:=by unfold jF;rw [ai h1]
  rw [e1,e2,e3];clear e1 e2 e3 h;delta ClZ;go_in;go_wp2_with fail;go_ret2;exact ⟨_,rfl,OwnB.nil _ _,H.o,ah _ _⟩
 ·obtain ⟨m,rfl⟩:=eO (show 0<=n by omega);have J:=Lf p B m bs w h;have hb:=(Dl bs (m:Int))
  have f:=h.len;have HE:=Dk bs m;have HL:HzD (ic bs (m:Int)≠0->jb bs (m:Int)=[]):=fun e=>am e
  generalize jb bs (m:Int)=l at *;generalize ic bs (m:Int)=E at *;generalize jF bs (m:Int)=r at *;clear h;delta ClZ;go_in;go_wp2_with fail;refine J.mono ?_;rintro e w1 ⟨u,rfl,hr,a,k1⟩;have J2:=Gh u l w1 hr (by omega);have HS:=af a;have HK:=af k1;obtain ⟨ao,L,d,rfl,_⟩:=hr.open;clear J k1 a hr;rcases HE with rfl | rfl
  ·clear HL;go_wp2_with fail;refine J2.mono ?_;rintro e w2 ⟨u2,rfl,hO,k2⟩;have c:=af (HS.o.g k2);have HO:=af (hO.base HK.o.size);have b:=af (HK.o.trans k2.any);clear J2 k2 hO;go_wp2_with fail;go_ret2;exact ⟨_,rfl,HO.o,c.o,b.o⟩
  ·obtain rfl:=HL.o (by decide);clear J2;go_wp2_with fail;go_ret2;exact ⟨_,rfl,OwnB.nil _ _,HS.o,HK.o⟩

def qH (p:OA) (w:World):Nat:=match p with
 | none=>0
 | some a=>match w.cell? ⟨a.block,0,none⟩,w.cell? ⟨a.block,1,none⟩ with
  | some v,some (.int _ k)=>Dw v-k.toNat
  | _,_=>0

theorem Lsc.left (h:Lsc w p B bs):qH p w=bs.length:=by
 rcases h with ⟨rfl,rfl⟩ | ⟨b,v,ps,k,rfl,rfl,h⟩
 ·rfl
 ·obtain ⟨c0,c1⟩:=h.cells;obtain ⟨_,_,e,_⟩:=h.2.1;unfold qH;simp only [c0,c1];rw [e,cP];rfl

open Go.RowKit Go.Shelf

def LowT {β:Type} (B:Nat) (T:Nat->Prop) (J:β->World->Prop):Prop:=∀ s A C,J s A->Kept (fun x=>T x\/B<=x) A C->J s C

theorem tV (h:Below B A C):Kept (fun x=>T x\/B<=x) A C:=
 ⟨h.os,h.tape,h.output,h.size,fun i _ hs=>h.block i (Nat.lt_of_not_le fun e=>hs (.inr e))⟩

theorem LowT.below {β:Type} {J:β->World->Prop} (h:LowT B T J) {s:β} (j:J s A) (k:Below B A C):J s C:=h s A C j (tV k)

def FL {β:Type} (B:Nat) (J:β->World->Prop):Prop:=∀ s A l o o',J s A->B<=l->A.heap[l]? = some o->o.isCells=false->J s (A.putObj l o')

def Io {α:Type} (n:Nat) (P:Program) (g:Nat) (lb:Array Value) (encs:α->Array Value) (X:List α->α->World->Prop) (Sb T:Nat->Prop) (S:List α->World->Prop) (w:World):Prop:=
 ∀ (l:Nat) (J Jx:List α->World->Prop) (W:World),Kept aa w W->l=w.heap.size+1->W.heap.size=w.heap.size+2 ->
  LowT W.heap.size T J ->
  (∀ pre x A,J pre A->X pre x A->YieldAt Fence.wide (n-1) P l (encs x) A fun e C=>
   (e=.returned (.bool true)/\J (pre ++ [x]) C/\Kept (fun b=>Sb b\/b=l\/b+1=l) A C)\/(e=.returned (.bool false)/\Jx (pre ++ [x]) C)) ->
  J [] W ->
  CallsIn Fence.wide n P g (#[.func (.yield l) #[] #[]] ++ lb) W fun e C=>(∃ v,e=.returned v)/\((∃ s,S s C/\J s C)\/∃ s,Jx s C)

theorem rD {α:Type} {P:Program} {g:Operand} {ps:Array Tmp} {assign body:Code} {Q:Exit->Act->World->Prop} {a:Act} (h1:1<=n) {gf:Nat} {lb:Array Value}
  (hg:a.eval g=.func (.func gf) #[] lb) (eg:∀ args w,(callFunc gf args).run P w=.ok (.enter gf args) w)
  {q:α->Array Value} {X:List α->α->World->Prop} {Sb:Nat->Prop} {S:List α->World->Prop} (H:Io (n-1) P gf lb q X Sb T S w) (af:∀ x,(q x).size=ps.size) (hSb:∀ b,Sb b->b<w.heap.size) (hT:∀ b,T b->b<w.heap.size)
  (hX:∀ m x A l o o',X m x A->A.heap[l]? = some o->o.isCells=false->X m x (A.putObj l o'))
  (I:List α->World->Prop) (Ix:Code->List α->World->Prop) (hI:LowT w.heap.size T I) (M:∀ c,FL w.heap.size (Ix c)) (hS:FL w.heap.size S) (h0:I [] w) (a₁:α->Act)
  (y:∀ (l:Nat) (x:α) (W:World) (K:Act->World->Prop),K (a₁ x) W->assign.wpIn (Fence.wide.inRound l) (n-1-1) P (Exit.then K (fun _ _ _=>False)) { tmps:=(ps.zip (q x)).foldl (fun t (p,v)=>t.setIfInBounds p v) a.tmps,defers:=[] } W)
  (hbody:∀ (l:Nat) (m:List α) (x:α) (W:World),I m W->X m x W->body.wpIn (Fence.wide.inRound l) (n-1-1) P (I0 Sb I Ix (m ++ [x]) W) (a₁ x) W)
  (hdone:∀ (D:Nat) (s:List α) (W:World),w.heap.size<=D->S s W->I s W->W.heap[D]? = some (.deferred (some []))->Q .normal { a with defers:={ target:=.collected D,args:=#[] } :: a.defers } W)
  (hstop:∀ (D:Nat) (c:Code) (s:List α) (W:World),w.heap.size<=D->Ix c s W->W.heap[D]? = some (.deferred (some []))->c.wpIn Fence.wide n P Q { a with defers:={ target:=.collected D,args:=#[] } :: a.defers } W) :
  (Code.rangeFunc g ps assign body).wpIn Fence.wide n P Q a w:=by
 refine wpIn_rangeFunc fun fn Y=>?_
 obtain ⟨j,d⟩:=aj (fun st pe=>{ state:=st,pending:=pe,fn,tmps:=a.tmps,params:=ps,assign,body,defers:=w.heap.size }:LoopState->Option Code->Loop)
 obtain ⟨W1,B⟩:=aj ((w.alloc (.deferred (some []))).alloc (.loop (j .ready none)))
 have O:W1.heap.size=w.heap.size+2:=by rw [B];simp
 have N:Kept aa w W1:=by rw [B];exact ((ah _ w).alloc _).alloc _
 have U:Books w.heap.size (j .ready none) W1:=by
  rw [B];refine ⟨?_,(Below.heap_alloc _ _ _ (by simp)).trans (World.alloc_heap_new w _)⟩;have:=World.alloc_heap_new (w.alloc (.deferred (some []))) (.loop (j .ready none))
  rwa [World.size_alloc] at this
 refine ⟨w.heap.size+1,[{ target:=.collected w.heap.size,args:=#[] }],W1,{ target:=.fn (.func gf) lb,args:=#[.func (.yield (w.heap.size+1)) #[] #[]] },W1,gf,#[.func (.yield (w.heap.size+1)) #[] #[]] ++ lb,W1,?_,?_,fun _ _=>trivial,?_,fun _=>h1,?_⟩
 ·rw [B,d];exact run_enterLoop_outer _ _ _ _ _
 ·simp only [resolve,hg];simp [go_sem]
 ·simp [invoke,go_sem,eg]
 ·have z:∀ (f:Option Code) (A:World),Books w.heap.size (j .busy none) A->∃ C,(Instr.endRound (w.heap.size+1) f).run P A=.ok (.bool f.isNone) C/\Books w.heap.size (j (if f.isNone then .ready else .done) f) C/\Below w.heap.size A C/\Kept (fun b=>b=w.heap.size+1) A C/\∃ o',C=A.putObj (w.heap.size+1) o':=fun f A hb=>by
   refine ⟨_,run_endRound (P:=P) f hb.1,?_,tj _ (by omega),qE _ _ _,_,rfl⟩;have:=hb.put { j .busy none with state:=if f.isNone then .ready else .done,pending:=f };rw [d] at this ⊢;exact this
  have E:∀ {β:Type} {J:β->World->Prop} {r:Loop},LowT w.heap.size T J->LowT W1.heap.size T (fun s A=>J s A/\Books w.heap.size r A):=fun hJ s A C h k=>by
   rw [O] at k;refine ⟨hJ s A C h.1 (k.mono (fun x _ e=>?_)),?_⟩
   ·rcases e with e | e
    ·exact .inl e
    ·exact .inr (by omega)
   ·have hl:=h.2.lt;refine ⟨(k.block _ (by omega) ?_).trans h.2.1,(k.block _ (by omega) ?_).trans h.2.2⟩
    all_goals
     rintro (e | e)
     ·have:=hT _ e;omega
     ·omega
  refine (H (w.heap.size+1) (fun s A=>I s A/\Books w.heap.size (j .ready none) A) (fun s A=>∃ c,Ix c s A/\Books w.heap.size (j .done (some c)) A) W1 N rfl O (E hI) ?_ ⟨hI.below h0 (gU N (leR _)),U⟩).mono ?_
  ·rintro m x A ⟨hi,hb⟩ hx;have hy:=run_yield (P:=P) (args:=q x) hb.1 (by rw [d];exact af x);rw [d] at hy;refine ⟨fn,_,assign,body,hy,roundIn_of_wpIn Y (y _ x A _ ⟨_,run_beginRound hb.1 (by rw [d]),?_⟩)⟩;have V:=hb.put { j .ready none with state:=.busy };have ag:=hX m x A _ _ (.loop { j .ready none with state:=.busy }) hx hb.1 rfl;have Z:=hI.below hi (tj (l:=w.heap.size+1) (.loop { j .ready none with state:=.busy }) (by omega));have ac:=qE A (w.heap.size+1) (.loop { j .ready none with state:=.busy })
   have F:∀ C,Kept Sb (A.putObj (w.heap.size+1) (.loop { j .ready none with state:=.busy })) C->Books w.heap.size (j .busy none) C:=fun C k=>by
    have:=V.kept k hSb;rw [d] at this ⊢;exact this
   refine wpIn_mono (hbody _ m x _ Z ag) ?_;generalize A.putObj (w.heap.size+1) (.loop { j .ready none with state:=.busy })=A2 at *;have L:∀ (c:Code) (C:World),Kept Sb A2 C->Ix c (m ++ [x]) C->∃ v C',(Instr.endRound (w.heap.size+1) (some c)).run P C=.ok v C'/\((Ending.returned v=.returned (.bool true)/\(I (m ++ [x]) C'/\Books w.heap.size (j .ready none) C')/\Kept (fun b=>Sb b\/b=w.heap.size+1\/b+1=w.heap.size+1) A C')\/(Ending.returned v=.returned (.bool false)/\∃ c,Ix c (m ++ [x]) C'/\Books w.heap.size (j .done (some c)) C')):=fun c C k hc=>by
    obtain ⟨C',hr,G,_,_,o',rfl⟩:=z (some c) C (F C k);exact ⟨_,_,hr,.inr ⟨rfl,c,M c _ _ _ _ o' hc (by omega) (F C k).1 rfl,G⟩⟩
   rintro e a3 C hp;cases e with
   | normal=>
    obtain ⟨k,ab⟩:=hp;obtain ⟨C',hr,G,ae,ad,_⟩:=z none C (F C k);exact ⟨_,_,hr,.inl ⟨rfl,⟨hI.below ab ae,G⟩,((ac.mono (fun _ _ e=>.inr (.inl e))).next k (fun _ _ e=>.inl e)).next ad (fun _ _ e=>.inr (.inl e))⟩⟩
   | ret=>exact L _ C hp.1 hp.2
   | exit i=>exact L _ C hp.1 hp.2
   | goto t=>exact L _ C hp.1 hp.2
   | panic c=>exact hp.elim
   | outgrown=>exact hp.elim
  ·rintro e C ⟨⟨v,rfl⟩,(⟨s,R,hi,hb⟩ | ⟨s,c,hi,hb⟩)⟩
   ·refine ⟨_,_,run_endLoop (P:=P) hb.1 (by rw [d];simp),?_⟩;rw [d] at hb ⊢;exact hdone _ s _ (leR _) (hS _ _ _ _ _ R (by omega) hb.1 rfl) (hI.below hi (tj _ (by omega))) ((World.putObj_heap_other (by omega)).trans hb.2)
   ·refine ⟨_,_,run_endLoop (P:=P) hb.1 (by rw [d];simp),?_⟩;rw [d] at hb ⊢;exact hstop _ c s _ (leR _) (M c _ _ _ _ _ hi (by omega) hb.1 rfl) ((World.putObj_heap_other (by omega)).trans hb.2)

open Go.Shelf

def Cj:Go.Shelf.Ren:=⟨fun | 129=>149 | n=>n,fun | 53=>24 | 3=>3 | 4=>4 | 46=>95 | 5=>5 | 9=>9 | n=>n,fun n=>n⟩

theorem GQ:Lays.n129 prog Cj:={
 mixed:=by kernel_rfl,
 f129:=func149.trans (congrArg some (by kernel_rfl)),
 t3:=underlying3,
 a3:=Tryz.isAgg3,
 z3:=Tryz.sizeOf3,
 v3:=Tryz.zeroValue3,
 t4:=underlying4,
 a4:=Tryz.isAgg4,
 z4:=Tryz.sizeOf4,
 v4:=Tryz.zeroValue4,
 t5:=underlying5,
 a5:=Tryz.isAgg5,
 z5:=Tryz.sizeOf5,
 v5:=Tryz.zeroValue5,
 t9:=underlying9,
 a9:=Tryz.isAgg9,
 z9:=Tryz.sizeOf9,
 v9:=Tryz.zeroValue9,
 t46:=underlying95,
 a46:=Tryz.isAgg95,
 z46:=Tryz.sizeOf95,
 v46:=Tryz.zeroValue95,
 t53:=underlying24,
 a53:=Tryz.isAgg24,
 z53:=Tryz.sizeOf24,
 v53:=Tryz.zeroValue24 }

theorem zD (v:Value) (zs:LN) (w:World) (h:Row .u64 w v zs) :
  ClZ 97 #[v] w fun r w'=>∃ m v',r=.returned v'/\m<=zs.length/\Row .u64 w v' (zs.take m)/\(∀ i,m<=i->zs.getD i 0=0)/\(m=0\/zs.getD (m-1) 0≠0)/\v'.ownBlock=v.ownBlock/\(∃ ao n c,v=.slice ao n c/\v'=.slice ao m c)/\w'=w:=by
 have hcut:=fun ao n c (e:v=.slice ao n c) m (hm:m<=zs.length)=>(show Row .u64 w (.slice ao n c) zs from e ▸ h).cut hm
 obtain ⟨ao,n,c,rfl,hN,h1,h2,h3,h4⟩:=h.open;have HC:HzD (∀ m,m<=n->Row .u64 w (.slice ao m c) (zs.take m)):=fun m hm=>hcut ao n c rfl m (by have:=hN.o;omega)
 have HL:HzD (∀ i,n<=i->zs.getD i 0=0):=fun i hi=>by have:=hN.o;rw [ay,io (by omega)];rfl
 clear hcut h h3;delta ClZ;go_in;go_wp2_with fail;go_loop [0] (fun a=>∃ m:Nat,m<=n/\a=.slice ao m c/\HzD (∀ i,m<=i->zs.getD i 0=0)) (fun a=>yk a)
 case atStart=>exact ⟨n,leR _,rfl,HL⟩
 case round=>
  obtain ⟨m,hm,rfl,hz⟩:=hrel;cases m with
  | zero=>
   clear h4;go_wp2;go_ret;exact ⟨0,_,rfl,aP _,HC.o 0 (aP _),hz.o,.inl rfl,pS ao 0 n c,⟨ao,n,c,⟨rfl,rfl,rfl⟩,rfl⟩,rfl⟩
  | succ j=>
   obtain ⟨b,off,rfl,hc⟩:=h4 j (by omega);obtain ⟨z,d⟩:=aj (zs.getD j 0)
   rw [<- d] at hc;have HZ:HzD (z=zs.getD j 0):=d;clear d h4;by_cases h0:z=0
   ·have g:((z:Int) == 0)=true:=by simp [h0]
    subst h0;go_wp2;go_round
    case rel=>exact ⟨j,by omega,rfl,fun i hi=>by
     by_cases e:i=j
     ·subst e;exact HZ.o.symm
     ·exact hz.o i (by omega)⟩
    case measure=>simp [yk]
   ·have f:HzD (zs.getD (j+1-1) 0≠0):=by
     unfold HzD;rw [gD,<- HZ.o];exact h0
    have g:((z:Int) == 0)=false:=by simp;omega
    go_wp2;go_ret;exact ⟨j+1,_,rfl,by have:=hN.o;omega,HC.o _ hm,hz.o,.inr f.o,pS _ _ _ _,⟨_,_,_,⟨rfl,rfl,rfl⟩,rfl⟩,rfl⟩

theorem oL {ds:LN} (hd:Digs ds) (ht:iB ds):ds.length=al (val ds):=by
 have h1:=(ji (by omega) hd ht (al (val ds))).2 ((aB _ _).1 (leR _));have h2:=(aB (val ds) ds.length).2 ((ji (by omega) hd ht _).1 (leR _));omega

theorem F8 (v:Value) (xs:LN) (w:World) (h:Row .u64 w v xs) (hd:Digs xs) :
  ClZ 97 #[v] w fun r w'=>∃ v' ys,r=.returned v'/\Row .u64 w v' ys/\Digs ys/\iB ys/\val ys=val xs/\HzD (ys.length=al (val xs))/\ys.length<=xs.length/\v'.ownBlock=v.ownBlock/\w'=w:=by
 refine (zD v xs w h).mono ?_;rintro e w' ⟨m,v',rfl,hm,hr,hz,ht,ho,_,rfl⟩;have e1:=jo (B:=18446744073709551616) hm hz;have t1:=ja hm ht;refine ⟨v',xs.take m,rfl,hr,hd.take m,t1,e1,?_,by rw [aQ];omega,ho,rfl⟩;have:=oL (hd.take m) t1;rw [e1] at this;exact this

theorem zB (n:Int) (w:World):ClZ 94 #[.int .i64 n] w fun r w'=>r=.returned (.int .i64 (if 300<n then 2 else if n<0 then 1 else 0))/\w'=w:=by
 by_cases h1:300<n
 ·rw [ai h1];delta ClZ;go_in;go_wp2;go_ret;exact ⟨rfl,rfl⟩
 ·rw [am h1];by_cases h2:n<0
  ·rw [ai h2];delta ClZ;go_in;go_wp2;go_ret;exact ⟨rfl,rfl⟩
  ·rw [am h2];delta ClZ;go_in;go_wp2;go_ret;exact ⟨rfl,rfl⟩

theorem lP (x:Nat) (h:x<18446744073709551616):Lib.bitLen x=aL x:=by
 by_cases h0:x=0
 ·subst h0;rfl
 ·obtain ⟨a,b,c⟩:=Lib.bitLenAux_bounds 64 x h h0;unfold Lib.bitLen;have h1:=(bf x _).2 c;have h2:¬ aL x<=Lib.bitLenAux 64 x-1:=fun k=>by have:=(bf x _).1 k;omega
  omega

theorem BG {ys:LN} (hd:Digs ys) (ht:iB ys) (hn:0<ys.length):aL (val ys)=64*(ys.length-1)+aL (ys.getD (ys.length-1) 0):=by
 have e:=aZ 18446744073709551616 ys (ys.length-1) (by omega);have a:ys.drop (ys.length-1)=[ys.getD (ys.length-1) 0]:=by
  rw [eF (by omega),nj (by omega),ay,aS (by omega)];rfl
 rw [a] at e;have b:val (ys.take (ys.length-1))<18446744073709551616^(ys.length-1):=by
  have:=aC (by omega) (hd.take (ys.length-1))
  rwa [aQ,fT] at this
 have d:ys.getD (ys.length-1) 0≠0:=by
  rcases ht with h | h
  ·omega
  ·exact h
 simp only [val,cY,aU] at e;generalize ys.getD (ys.length-1) 0=y at *;generalize ys.length-1=k at *;generalize val (ys.take k)=L at *;generalize val ys=V at *;have hB:(18446744073709551616:Nat)^k=2^(64*k):=by rw [aX]
 rw [hB] at e b;generalize hM:aL y=M;have h1:y<2^M:=(bf _ _).1 (by omega);have h2:2^(M-1)<=y:=by
  have:¬ aL y<=M-1:=by
   have:0<aL y:=by
    rcases cD (aL y) with z | z
    ·have:=(bf y 0).1 (by omega);omega
    ·exact z
   omega
  have:=mt (bf y (M-1)).2 this;omega
 have f:1<=M:=by
  rcases cD M with z | z
  ·rw [z] at h1;omega
  ·exact z
 have u1:V<2^(64*k+M):=by
  rw [aO];have:2^(64*k)*(y+1)<=2^(64*k)*2^M:=bD _ h1;rw [aI,bH] at this;omega
 have u2:2^(64*k+(M-1))<=V:=by
  rw [aO];have:2^(64*k)*2^(M-1)<=2^(64*k)*y:=bD _ h2;omega
 have h3:=(bf V _).2 u1;have h4:¬ aL V<=64*k+(M-1):=fun c=>by have:=(bf V _).1 c;omega
 omega

theorem iO (v:Value) (xs:LN) (w:World) (h:Row .u64 w v xs) (hd:Digs xs) (hl:xs.length<=100000000) :
  ClZ 93 #[v] w fun r w'=>r=.returned (.int .i64 (aL (val xs):Nat))/\w'=w:=by
 have hN:=F8 v xs w h hd;obtain ⟨R,hR⟩:=aj (aL (val xs))
 rw [<- hR];have HR:HzD (R=aL (val xs)):=hR;clear hR;delta ClZ;go_in;go_wp2_with fail;refine hN.mono ?_;rintro e w' ⟨v',ys,rfl,hr,c,d,hv,_,k,_,rfl⟩;rw [<- hv] at HR;obtain ⟨ao,n,g,rfl,hL,h1,h2,h3,h4⟩:=hr.open;cases n with
 | zero=>
  obtain rfl:ys=[]:=kX hL.o;clear h4 hL;go_wp2;go_ret;exact ⟨by rw [HR.o];rfl,rfl⟩
 | succ j=>
  have hb:=BG c d (by have:=hL.o;omega);have hj:ys.length-1=j:=by have:=hL.o;omega
  rw [hj] at hb;have i:j<100000000:=by have:=hL.o;omega
  obtain ⟨b,off,rfl,hc⟩:=h4 j (by omega);have hy:ys.getD j 0<18446744073709551616:=c.getD (by omega) j;rw [hb] at HR;generalize ys.getD j 0=y at *;have f:aL y<=64:=(bf y 64).2 hy;have a:=Any.bits_Len64 GQ (y:Int) w' (by omega) (by omega);rw [show ((y:Int).toNat)=y from rfl,lP y hy] at a;clear h4 hb hv hr c d hN h hd;have l:wrap64 ((j:Int)+1-1)=j:=by simp [wrap64];omega
  have m:wrap64 (64*(j:Int)+(aL y:Nat))=64*j+(aL y:Nat):=by simp [wrap64];omega
  generalize aL y=M at *;go_wp2_with fail;refine a.mono ?_;rintro e w' ⟨rfl,rfl⟩;go_wp2;go_ret;exact ⟨by rw [HR.o];simp,rfl⟩

theorem jp (x m:Nat) (hx:x<18446744073709551616):digs x (m+1)=x :: List.replicate m 0:=by
 refine (cN (by omega) (B:=18446744073709551616) (l:=x :: List.replicate m 0) (V:=x) (n:=m+1) ?_ (by simp) ?_).symm
 ·intro d hd;rcases fL.1 hd with rfl | hd
  ·exact hx
  ·rw [ff] at hd;omega
 ·have hz:val (List.replicate m 0)=0:=fq _ (fun d hd=>(ff.1 hd).2);rw [aA (bg hx (by rw [aF];exact Nat.le_mul_of_pos_left _ (aV)))];simp only [val,hz];omega

def Ci:Go.Shelf.Ren:=⟨fun | 122=>98 | 215=>156 | n=>n,fun | 3=>3 | 4=>4 | n=>n,fun n=>n⟩

theorem Lu:Lays.n122 prog Ci:={
 mixed:=by kernel_rfl,
 f122:=func98.trans (congrArg some (by kernel_rfl)),
 f215:=func156.trans (congrArg some (by kernel_rfl)),
 t3:=underlying3,
 a3:=Tryz.isAgg3,
 z3:=Tryz.sizeOf3,
 v3:=Tryz.zeroValue3,
 t4:=underlying4,
 a4:=Tryz.isAgg4,
 z4:=Tryz.sizeOf4,
 v4:=Tryz.zeroValue4 }

theorem F9 (x:Nat) (hx:x<18446744073709551616) (n:Int) (w:World) :
  ClZ 106 #[.int .u64 x,.int .i64 n] w fun r w'=>∃ v',r=.returned v'/\Row .u64 w' v' (digs x (jK n))/\Kept aa w w':=by
 obtain ⟨i0,c,f,g,i⟩:=info_parts Tryz.info24;obtain ⟨m,hm⟩:∃ m,jK n=m+1:=⟨jK n-1,by unfold jK;omega⟩
 have hb:m+1<=300:=by rw [<- hm];unfold jK;omega
 have hc:min (max n 1) 300=((m+1:Nat):Int):=by rw [<- hm];unfold jK;omega
 rw [hm,jp x m hx];clear hm;delta ClZ;go_in;go_wp2_with (at_make;refine wpList_make_full _ rfl _ _ 23 rfl w.heap.size 24 i0 _ 1 underlying23 c f g _ _ _ _ (m+1) rfl rfl (by first | exact hc | rfl) (by first | exact hc | rfl) (by rw [i];omega) (by unfold maxLen;omega) (leR _) ?_;intro w1 a b;rw [bw] at a;have k1:=bd b;have j:w1.cell? ⟨w.heap.size,0,none⟩=some (.int .u64 0):=(by rw [World.ownsRow.cellAt a 0 (by omega)];rfl);have hf:=World.ownsRow.frozenAt a 0;have d:=(World.ownsRow.stored a 0 (.int .u64 (x:Nat))).1);go_ret;refine ⟨_,rfl,Row.of_own (base:=w.heap.size) (e:=24) ?_,k1.setCell _ (fun h=>by simp at h) _⟩
 simpa [List.replicate_succ] using d

theorem I6 (v:Value) (xs:LN) (i:Int) (w:World) (h:Row .u64 w v xs) (hd:Digs xs) (hi:i<=9223372036854775807) :
  ClZ 188 #[v,.int .i64 i] w fun r w'=>r=.returned (.int .u64 (tX (val xs) i:Nat))/\w'=w:=by
 obtain ⟨ao,n,c,rfl,hL,h1,h2,h3,h4⟩:=h.open;by_cases hi0:i<0
 ·rw [show tX (val xs) i=0 from ai hi0];clear h4 h hd;delta ClZ;go_in;go_wp2;go_ret;exact ⟨rfl,rfl⟩
 ·obtain ⟨j,rfl⟩:=eO (show 0<=i by omega);rw [kH,<- oA,dr (by omega) hd];by_cases hlt:j/64<n
  ·obtain ⟨b,off,rfl,hc⟩:=h4 (j/64) hlt;have hx:xs.getD (j/64) 0<18446744073709551616:=hd.getD (by omega) _;clear h4 h hd;generalize xs.getD (j/64) 0=x at *;have g1:(j:Int)/64<(n:Int):=by omega
   have g2:(0:Int)<=(j:Int)/64:=by omega
   have g3:((j:Int)/64).toNat=j/64:=by omega
   have hy:=el x (2^(j%64));have a:HzD (bits .and .u64 ((x:Int)/2^(j%64)) 1=((x/2^(j%64)%2:Nat):Int)):=by
    unfold HzD;have e:(x:Int)/2^(j%64)=((x/2^(j%64):Nat):Int):=by simp
    rw [e];generalize x/2^(j%64)=Y at *;rw [and_one_u64 (Y:Int) (by omega) (by omega)];omega
   clear hy;generalize x/2^(j%64)%2=R at *;delta ClZ;go_in;go_wp2;go_ret;refine ⟨?_,rfl⟩;show Ending.returned (Value.int .u64 (bits .and .u64 ((x:Int)/2^(j%64)) 1))=_
   rw [a.o]
  ·have hz:xs.getD (j/64) 0=0:=by have:=hL.o;rw [ay,io (by omega)];rfl
   rw [hz,Nat.zero_div];have g1:¬ (j:Int)/64<(n:Int):=by omega
   clear h4 h hd;delta ClZ;go_in;go_wp2;go_ret;exact ⟨rfl,rfl⟩

theorem uZ (v:Value) (xs:LN) (n:Int) (w:World) (h:Row .u64 w v xs) (hd:Digs xs) :
  ClZ 203 #[v,.int .i64 n] w fun r w'=>∃ v',r=.returned (.tuple #[v',.int .i64 (dZ (val xs) n)])/\Row .u64 w' v' (eR (val xs) n)/\(∀ b,v'.ownBlock=some b->w.heap.size<=b)/\Kept aa w w':=by
 obtain ⟨i0,x,G,y,H⟩:=info_parts Tryz.info24;have hE:=zB n w;have hN:=F8 v xs w h hd;by_cases h1:300<n
 ·obtain ⟨e1,e2⟩:=vT (V:=val xs) h1;rw [e1,e2];rw [ai h1] at hE;delta ClZ;go_in;go_wp2_with fail;refine hE.mono ?_;rintro e w' ⟨rfl,rfl⟩;go_wp2;go_ret2;exact ⟨_,rfl,Row.nil _ _,(fun b hb=>by cases hb),ah _ _⟩
 ·rw [am h1] at hE;by_cases h2:n<0
  ·obtain ⟨e1,e2⟩:=mw (V:=val xs) h1 (.inl h2);rw [e1,e2];rw [ai h2] at hE;delta ClZ;go_in;go_wp2_with fail;refine hE.mono ?_;rintro e w' ⟨rfl,rfl⟩;go_wp2;go_ret2;exact ⟨_,rfl,Row.nil _ _,(fun b hb=>by cases hb),ah _ _⟩
  ·rw [am h2] at hE;obtain ⟨m,rfl⟩:=eO (show 0<=n by omega);obtain ⟨RC,g⟩:=aj (dZ (val xs) (m:Int))
   obtain ⟨RL,i⟩:=aj (eR (val xs) (m:Int))
   rw [<- g,<- i];have HC:HzD (RC=dZ (val xs) (m:Int)):=g;have HL:HzD (RL=eR (val xs) (m:Int)):=i;clear g i;delta ClZ;go_in;go_wp2_with fail;refine hE.mono ?_;rintro e w' ⟨rfl,rfl⟩;go_wp2_with fail;refine hN.mono ?_;rintro e w' ⟨v',ys,rfl,hr,E,J,hv,k,_,_,rfl⟩;obtain ⟨ao,q,C,rfl,hL,g1,g2,g3,g4⟩:=hr.open;have hq:q=al (val xs):=by rw [<- hL.o];exact k.o
   by_cases h3:q<=m
   ·obtain ⟨e1,e2⟩:=tF (V:=val xs) (n:=m) (by omega) (by omega);have D:¬ (q:Int) > (m:Int):=by omega
    rw [e1] at HC;rw [e2,iM E hv (by rw [hL.o];exact h3)] at HL;obtain ⟨CS,a⟩:=aj (ys.map (fun z:Nat=>Value.int .u64 (z:Int)))
    have s:CS.length=q:=by rw [a,cH];exact hL.o
    have B:HzD (CS=ys.map (fun z:Nat=>Value.int .u64 (z:Int))):=a;have d:∀ u ∈ CS,u.oneCell'=true:=by
     intro u hu;rw [a] at hu;obtain ⟨z,_,rfl⟩:=jr.1 hu;rfl
    have f:∀ W,Kept aa w' W->0<CS.length->∃ ad,ao=some ad/\∀ j u,CS[j]? = some u->W.cell? (ad.add j)=some u:=by
     intro W hk hp;obtain ⟨b,off,rfl,_⟩:=g4 0 (by omega);refine ⟨_,rfl,fun j u hu=>?_⟩;have hj:j<q:=by
      have:=(nn.1 hu).1;omega
     obtain ⟨b',I,e,hc⟩:=(g4 j hj).g hk;simp only [iH,Addr.mk.injEq] at e;obtain ⟨rfl,rfl,_⟩:=e;rw [a,bV,aS (by rw [hL.o];exact hj)] at hu;rw [show (⟨b,off,none⟩:Addr).add j=⟨b,off+j,none⟩ by simp [Addr.add],hc,<- hu,ay,aS (by rw [hL.o];exact hj)];rfl
    have HP:HzD (∀ W,Kept aa w' W->0<CS.length->∃ ad,ao=some ad/\∀ j u,CS[j]? = some u->W.cell? (ad.add j)=some u):=f;have HO:HzD (∀ u ∈ CS,u.oneCell'=true):=d;have o:HzD (CS.length=q):=s;clear a g4 hr hN h hE f d s hq hv e1 e2
    go_wp2_with (at_make;refine wpList_make_full _ rfl _ _ 23 rfl w'.heap.size 24 i0 _ 1 underlying23 x G y _ _ _ _ m rfl rfl rfl rfl (by rw [H];omega) (by unfold maxLen;omega) (leR _) ?_;intro w1 l t;rw [bw] at l;have k1:=bd t;obtain ⟨w2,F,p,k2⟩:=eC (P:=prog) 23 23 3 24 w'.heap.size 0 m m (some ⟨w'.heap.size,0,none⟩) ao q C _ 24 CS underlying23 (by rw [x];simp [y]) (iw l) (by rw [o.o];exact (js h3).symm) (fun hp=>⟨rfl,HP.o _ k1 hp⟩) (by have:=o.o;simp;omega) HO.o;have A:HzD _:=p;clear p l t);go_ret2;have c:=A.o;rw [B.o,ie] at c;rw [HC.o,HL.o]
    exact ⟨_,rfl,Row.of_block c (by simp [hL.o];omega) (by unfold maxLen;omega),(fun b hb=>by simp [Value.ownBlock] at hb;omega),fH k1 k2 (leR _)⟩
   ·obtain ⟨e1,e2⟩:=mw (V:=val xs) (n:=(m:Int)) (by omega) (.inr (by simp;omega));have D:(q:Int) > (m:Int):=by omega
    rw [e1] at HC;rw [e2] at HL;clear g4 hr hN h hE hq hv;go_wp2;go_ret2;rw [HC.o,HL.o];exact ⟨_,rfl,Row.nil _ _,(fun b hb=>by cases hb),ah _ _⟩

theorem EX (v:Value) (xs:LN) (n:Int) (w:World) (h:Row .u64 w v xs) (hd:Digs xs) :
  ClZ 203 #[v,.int .i64 n] w fun r w'=>∃ v',r=.returned (.tuple #[v',.int .i64 (dZ (val xs) n)])/\Row .u64 w' v' (eR (val xs) n)/\Kept aa w w':=
 (uZ v xs n w h hd).mono fun _ _ ⟨v',e,hr,_,k⟩=>⟨v',e,hr,k⟩

def KeepB (S:Nat->Prop) (W W':World):Prop:=∀ k,S k->W'.heap[k]? = W.heap[k]?

theorem KeepB.refl (S:Nat->Prop) (W:World):KeepB S W W:=fun _ _=>rfl

theorem KeepB.trans {B:World} (h:KeepB S A B) (k:KeepB S B C):KeepB S A C:=fun i hi=>(k i hi).trans (h i hi)

theorem KeepB.put (hS:∀ k,S k->k<w.heap.size) (W:World) (l:Nat) (o o':Obj) (hl:w.heap.size<=l) (_:W.heap[l]? = some o) (_:o.isCells=false) (_:o.isWalk=false):KeepB S W (W.putObj l o'):=fun k hk=>
 World.putObj_heap_other (fun e=>by have:=hS k hk;omega)

theorem KeepB.cell (h:KeepB S W W') {p:Addr} (hp:S p.block):W'.cell? p=W.cell? p:=World.cell?_of_block (h p.block hp)

theorem KeepB.row {v:Value} (h:KeepB S W W') (hs:∀ b,v.ownBlock=some b->0<zs.length->S b) (hr:Row k W v zs):Row k W' v zs:=by
 obtain ⟨ao,a,rfl,h1,h2,h3,h4⟩:=hr;refine ⟨ao,a,rfl,h1,h2,h3,fun i hi=>?_⟩;obtain ⟨b,off,rfl,hc⟩:=h4 i hi;exact ⟨b,off,rfl,(h.cell (p:=⟨b,off+i,none⟩) (hs b rfl (by omega))).trans hc⟩

theorem FN {a:Addr} {v:Value} (o:Obj) (h:W.cell? a=some v):(W.alloc o).cell? a=some v:=cell_kept h (World.grownBy_alloc W o none) (fun r e=>by cases e)

theorem Eu {a:Addr} {v:Value} (o:Obj) (h:W.cell? a=some v) (hf:W.frozen? a=false):(W.alloc o).frozen? a=false:=(frozen_kept h (World.grownBy_alloc W o none) (fun r e=>by cases e)).trans hf

def Turn (B:Nat) (W W':World):Prop:=∃ row,W.grownBy W' row/\∀ r,row=some r->B<=r/\∃ o:Obj,W.heap[r]? = some o/\o.isCells=false

theorem qV {a:Option Nat} {base size:Nat} {e:TypeId} {v:Value} {xs:List Value} (h:W.ownsRow base e size v n xs) (hg:W.grownBy W' a) (hr:∀ r,a=some r->∃ o:Obj,W.heap[r]? = some o/\o.isCells=false):W'.ownsRow base e size v n xs:=by
 refine ⟨h.1,?_⟩;rcases h.2 with h1 | ⟨g,cap,cur,e1,hb,hblk,h4⟩
 ·exact .inl h1
 ·refine .inr ⟨g,cap,cur,e1,hb,?_,h4⟩;rw [hg.block g (me.1 hblk).1 ?_]
  ·exact hblk
  ·intro e;obtain ⟨o,ho,hc⟩:=hr g e.symm;rw [hblk] at ho;cases ho
   cases hc

theorem xG {a:Option Nat} {t:TypeId} {v:Value} (h:Boxed W B t v) (hg:W.grownBy W' a) (hr:∀ r,a=some r->∃ o:Obj,W.heap[r]? = some o/\o.isCells=false):Boxed W' B t v:=h.kept hg (fun e=>by
 obtain ⟨o,ho,hc⟩:=hr B e.symm;have hb:W.heap[B]? = some _:=h;rw [hb] at ho;cases ho
 cases hc)

theorem Turn.cells (t:Turn B W W') {b:Nat} {c:Array Value} {ty:TypeId} {f:Nat × Nat} (h:W.heap[b]? = some (.cells c ty f)):W'.heap[b]? = some (.cells c ty f):=by
 obtain ⟨a,hg,hr⟩:=t;rw [hg.block b (me.1 h).1 ?_]
 ·exact h
 ·intro e;obtain ⟨_,o,ho,hc⟩:=hr b e.symm;rw [h] at ho;cases ho
  cases hc

theorem Turn.kept (t:Turn B W W') (k:Kept S w W) (hB:w.heap.size<=B):Kept S w W':=by
 obtain ⟨a,hg,hr⟩:=t;exact k.grown hg (fun b e hb=>by have:=(hr b e).1;omega)

theorem Turn.own (t:Turn B W W') {base size:Nat} {e:TypeId} {v:Value} {xs:List Value} (h:W.ownsRow base e size v n xs):W'.ownsRow base e size v n xs:=by
 obtain ⟨a,hg,hr⟩:=t;exact qV h hg (fun r e=>(hr r e).2)

theorem Turn.cell (t:Turn B W W') {a:Addr} {v:Value} (h:W.cell? a=some v):W'.cell? a=some v:=by
 obtain ⟨b,hg,hr⟩:=t;exact cell_kept h hg (fun r e=>(hr r e).2)

theorem Turn.row (t:Turn B W W') {v:Value} (h:Row k W v zs):Row k W' v zs:=by
 obtain ⟨ao,a,rfl,h1,h2,h3,h4⟩:=h;refine ⟨ao,a,rfl,h1,h2,h3,fun i hi=>?_⟩;obtain ⟨b,off,rfl,hc⟩:=h4 i hi;exact ⟨b,off,rfl,t.cell hc⟩

theorem xk {D:Nat} {o:Obj} (hD:B<=D) (hK:W.heap[D]? = some o) (ho:o.isCells=false) (o':Obj):Turn B W (W.putObj D o'):=
 ⟨some D,grownBy_putObj' W D o',fun r e=>by cases e;exact ⟨hD,o,hK,ho⟩⟩

theorem oe {β:Type} {I:β->World->Prop} (h:∀ s W W',I s W->Turn B W W'->I s W'):OwnFrom B I:=fun s W W' a hs hg hr=>h s W W' hs ⟨a,hg,hr⟩

theorem lZ (k:Kept S W W') (hS:∀ b,S b->B<=b->∃ c ty f,W.heap[b]? = some (.cells c ty f)):KeepsFrom B W W':=
 ⟨k.size,fun b o hb hk ho=>by
  rw [<- hk];refine k.block b (me.1 hk).1 (fun hs=>?_);obtain ⟨c,ty,f,h⟩:=hS b hs hb;rw [h] at hk;cases hk
  cases ho⟩

attribute [local go_sem] Oper.semAt_some

def fw (L:Nat) (r:Nat):LN:=(List.range (L-r)).map fun j=>L-1-j

theorem uB (L:Nat):fw L L=[]:=by simp [fw]

theorem lF (h:j<L):fw L j=fw L (j+1) ++ [j]:=by
 unfold fw;rw [show L-j=(L-(j+1))+1 by omega,kZ,dL,List.map_singleton,show L-1-(L-(j+1))=j by omega]

theorem qk (L r:Nat):(fw L r).length=L-r:=by simp [fw]

theorem Iu (F:Fence) (n:Nat) (hf:F.fn 157) (A:F.round=none) (hn:1<=n) (l Bs L:Nat) (g:Nat->Nat) (v:Value) (zs:LN) (hL:HzD (zs.length=L)) (hg:HzD (∀ j,zs.getD j 0=g j)) (S:Nat->Prop) (hS:S Bs) (w:∀ b,v.ownBlock=some b->0<L->S b)
  (J Jx:List (Fin L)->World->Prop)
  (hY:∀ a (x:Fin L) W,J a W->a.length<L->YieldAt F (n-1) prog l #[.int .i64 (x.val:Nat),.int .u64 (g x.val:Nat)] W fun e W'=>
   (e=.returned (.bool true)/\J (a ++ [x]) W'/\KeepB S W W')\/(e=.returned (.bool false)/\Jx (a ++ [x]) W'))
  (W:World) (s:W.cell? ⟨Bs,0,none⟩=some v) (hr:Row .u64 W v zs) (h0:J [] W) :
  CallsIn F n prog 157 #[.func (.yield l) #[] #[],.pointer (some ⟨Bs,0,none⟩)] W fun e W'=>(∃ v,e=.returned v) /\
   ((∃ ys,ys.map Fin.val=fw L 0/\J ys W')\/(∃ a,(∃ r,r<L/\a.map Fin.val=fw L r)/\Jx a W')):=by
 obtain ⟨ao,m,B,rfl,hN,c1,c2,c3,f⟩:=hr.open;obtain rfl:m=L:=by rw [<- hN.o];exact hL.o
 have d:HzD (∀ i,i<m->NumAt .u64 W ao zs i):=f;clear f hr;refine callsIn_of_wp func157 rfl hf ?_ A;simp only [ntmps157,iW,dg,fC,Nat.reduceAdd,Nat.reduceSub,iS,iT,iV,iU,bY,fI]
 gi_wp2
 gi_loopw [3] (fun i wr=>∃ r:Nat,r<=m/\i=.int .i64 ((r:Int)-1)/\(∃ a:List (Fin m),HzD (a.map Fin.val=fw m r)/\J a wr)/\KeepB S W wr)
  (fun i _=>(intOf i+1).toNat)
 case atStart=>exact ⟨m,leR _,by simp,⟨[],by simp [HzD,uB],h0⟩,KeepB.refl _ _⟩
 case round=>
  obtain ⟨r,hr,rfl,⟨a,c,q⟩,k⟩:=hrel;cases r with
  | zero=>
   gi_wp2
   go_end0
   exact ⟨⟨_,rfl⟩,.inl ⟨a,c.o,q⟩⟩
  | succ j=>
   rw [show (((j+1:Nat):Int)-1)=(j:Int) by omega];obtain ⟨b,off,rfl,hc⟩:=d.o j (by omega);have C:wr.cell? ⟨b,off+j,none⟩=some (.int .u64 (g j:Nat)):=by
    rw [k.cell (p:=⟨b,off+j,none⟩) (w b rfl (by omega)),hc,hg.o]
   have y:=(k.cell (p:=⟨Bs,0,none⟩) hS).trans s;have o:a.length<m:=by
    have:=congrArg List.length c.o;rw [cH,qk] at this;omega
   obtain ⟨fn,tmps,assign,body,hy,hR⟩:=hY a ⟨j,by omega⟩ wr q o;dsimp only at hy;clear hc d
   gi_wp2
   refine hR.mono ?_;rintro e W3 (⟨rfl,t,z⟩ | ⟨rfl,h⟩)
   ·gi_wp2
    go_roundw
    case rel=>exact ⟨j,by omega,by simp,⟨a ++ [⟨j,by omega⟩],by unfold HzD;rw [dL,c.o,lF (show j<m by omega)];rfl,t⟩,k.trans z⟩
    case measure=>simp [intOf]
   ·gi_wp2
    refine bodyPost_ret (results_none rfl _ _ _) rfl ?_;exact ⟨⟨_,rfl⟩,.inr ⟨_,⟨j,by omega,by rw [dL,c.o,lF (show j<m by omega)];rfl⟩,h⟩⟩

theorem Em (F:Fence) (n:Nat) (h5:F.fn 99) (c:F.round=none) (ao:OA) (b a:Nat) (w:World) :
  CallsIn F n prog 99 #[.slice ao b a] w fun e w'=>e=.returned (.func (.func 157) #[] #[.pointer (some ⟨w.heap.size,0,none⟩)])/\w'=w.alloc (.cells #[.slice ao b a] 23):=by
 refine callsIn_of_wp func99 rfl h5 ?_ c;simp only [ntmps99,iW,dg,fC,Nat.reduceAdd,Nat.reduceSub,iS,iT,iV,iU,bY,fI]
 gi_wp2
 go_ret;exact ⟨rfl,rfl⟩

theorem Ax (F:Fence) (n:Nat) (hf:F.fn 157) (e:F.round=none) (hn:1<=n) (Bs L:Nat) (g:Nat->Nat) (v:Value) (zs:LN) (hL:zs.length=L) (hg:∀ j,zs.getD j 0=g j) (S:Nat->Prop) (hS:S Bs) (a:∀ b,v.ownBlock=some b->0<L->S b)
  (w:World) (d:∀ k,S k->k<w.heap.size) (c:w.cell? ⟨Bs,0,none⟩=some v) (hr:Row .u64 w v zs) :
  SeqStopsK F n prog 157 #[.pointer (some ⟨Bs,0,none⟩)] (fun x:Fin L=>#[Value.int .i64 (x.val:Nat),Value.int .u64 (g x.val:Nat)]) (KeepB S) (fun ys=>ys.map Fin.val=fw L 0) (fun f=>∃ r,r<L/\f.map Fin.val=fw L r) L w:=fun l J Jx W hW _ _ hY h0=>by
 have hk:KeepB S w W:=fun k hk=>hW.block k (d k hk)
 exact Iu F n hf e hn l Bs L g v zs hL hg S hS a J Jx hY W ((hk.cell (p:=⟨Bs,0,none⟩) hS).trans c) (hk.row (fun b hb hp=>a b hb (by omega)) hr) h0

attribute [local go_sem] Oper.semAt_some

theorem CE (ao:OA) (n a:Nat) (xs:LN) (w:World) (h:Row .u64 w (.slice ao n a) xs) (hd:Digs xs) :
  ClZ 97 #[.slice ao n a] w fun r w'=>r=.returned (.slice ao (al (val xs)) a)/\w'=w:=by
 refine (zD _ xs w h).mono ?_;rintro e w' ⟨m,v',rfl,hm,hr,hz,ht,ho,⟨c,n',b,e1,rfl⟩,rfl⟩;have e2:=oL (hd.take m) (ja hm ht);rw [jo (B:=18446744073709551616) hm hz,aQ,js hm] at e2;cases e1
 rw [e2];exact ⟨rfl,rfl⟩

theorem kO {xs:LN} (hd:Digs xs):al (val xs)<=xs.length:=(aB _ _).2 (aC (by omega) hd)

theorem su {xs:LN} (hd:Digs xs):∃ ys,ys=xs.take (al (val xs))/\ys.length=al (val xs)/\Digs ys/\val ys=val xs/\(∀ j,j<al (val xs)->ys.getD j 0=xs.getD j 0):=by
 have hl:=kO hd;refine ⟨_,rfl,by rw [aQ];omega,hd.take _,?_,fun j hj=>?_⟩
 ·refine jo hl (fun i hi=>?_);rw [<- dr (by omega) hd i];unfold dig;rw [bI,it];exact (aB _ _).1 hi
 ·rw [ay,ay,eH,ai hj]

theorem GX (x y:Nat) (w:World):ClZ 100 #[.int .u64 x,.int .u64 y] w fun r w'=>r=.returned (.int .i64 (dh x y))/\w'=w:=by
 rcases Nat.lt_trichotomy x y with h | h | h
 ·rw [fu h];have h':(x:Int)<(y:Int):=by omega
  delta ClZ;go_in;go_wp2;go_ret;exact ⟨rfl,rfl⟩
 ·rw [jx h];subst h;delta ClZ;go_in;go_wp2;go_ret;exact ⟨rfl,rfl⟩
 ·rw [jy h];have h':¬ (x:Int)<(y:Int):=by omega
  have a:(x:Int) > (y:Int):=by omega
  delta ClZ;go_in;go_wp2;go_ret;exact ⟨rfl,rfl⟩

theorem Gt (x y:Nat):Lib.compareInt (x:Int) (y:Int)=dh x y:=by
 unfold Lib.compareInt dh;by_cases h:x<y
 ·rw [ai h,bZ]
 ·rw [am h,aJ];by_cases h2:x=y
  ·rw [ai h2,aJ]
  ·rw [am h2,bZ]

theorem Ap {A:Nat} (h:al A≠al B):dh (al A) (al B)=dh A B:=by
 rcases Nat.lt_or_gt_of_ne h with k | k
 ·rw [fu k,fu];have h1:=(aB A _).1 (leR _);have h2:¬ al B<=al A:=by omega
  have h3:=mt (aB B (al A)).2 h2;omega
 ·rw [jy k,jy];have h1:=(aB B _).1 (leR _);have h2:¬ al A<=al B:=by omega
  have h3:=mt (aB A (al B)).2 h2;omega

theorem Gu {a b:LN} {k:Nat} (ha:Digs a) (hb:Digs b) (hl:a.length=b.length) (hk:k<a.length) (he:∀ j,k<j->j<a.length->a.getD j 0=b.getD j 0) :
  a.getD k 0≠b.getD k 0->dh (a.getD k 0) (b.getD k 0)=dh (val a) (val b):=by
 intro d;have ea:=aZ 18446744073709551616 a (k+1) (by omega);have eb:=aZ 18446744073709551616 b (k+1) (by omega);have c:a.drop (k+1)=b.drop (k+1):=by
  apply List.ext_getElem?;intro i;rw [fd,fd];by_cases hi:k+1+i<a.length
  ·have:=he (k+1+i) (by omega) hi;rw [ay,ay,aS hi,aS (show k+1+i<b.length by omega)] at this;rw [aS hi,aS (show k+1+i<b.length by omega)];exact congrArg some this
  ·rw [io (by omega),io (by omega)]
 have ta:a.take (k+1)=a.take k ++ [a.getD k 0]:=by rw [List.take_add_one,ay,aS hk];rfl
 have tb:b.take (k+1)=b.take k ++ [b.getD k 0]:=by rw [List.take_add_one,ay,aS (show k<b.length by omega)];rfl
 rw [ta,dF,aQ,fT] at ea;rw [tb,dF,aQ,fT,<- c] at eb;have la:val (a.take k)<18446744073709551616^k:=by
  have:=aC (by omega) (ha.take k)
  rwa [aQ,fT] at this
 have lb:val (b.take k)<18446744073709551616^k:=by
  have:=aC (by omega) (hb.take k)
  rwa [aQ,fT] at this
 generalize a.getD k 0=x at *;generalize b.getD k 0=y at *;generalize 18446744073709551616^(k+1)*val (a.drop (k+1))=H at *;generalize val (a.take k)=p at *;generalize val (b.take k)=q at *;generalize 18446744073709551616^k=M at *;rcases Nat.lt_or_gt_of_ne d with h | h
 ·have:M*(x+1)<=M*y:=bD _ h;rw [aI,bH] at this;rw [fu h,fu (by omega)]
 ·have:M*(y+1)<=M*x:=bD _ h;rw [aI,bH] at this;rw [jy h,jy (by omega)]

theorem nJ {y:Nat}:dh x y=0↔x=y:=by
 unfold dh;by_cases h:x<y
 ·rw [ai h];constructor <;> intro h2 <;> omega
 ·rw [am h];by_cases h2:x=y
  ·simp [h2]
  ·rw [am h2];constructor <;> intro h3 <;> omega

attribute [local go_sem] Oper.semAt_some

theorem uC:j ∈ fw L r↔r<=j/\j<L:=by
 unfold fw;simp only [jr,j8];constructor
 ·rintro ⟨i,hi,rfl⟩;omega
 ·rintro ⟨h1,h2⟩;exact ⟨L-1-j,by omega,by omega⟩

theorem uW {a:List (Fin L)} (h:a.map Fin.val=fw L r) (h1:r<=j) (h2:j<L):∃ x ∈ a,x.val=j:=by
 have:j ∈ a.map Fin.val:=by rw [h];exact uC.2 ⟨h1,h2⟩
 simpa using this

theorem Ay {a:List (Fin L)} {x:Fin L} (hr:r<L) (h:(a ++ [x]).map Fin.val=fw L r):x.val=r/\a.map Fin.val=fw L (r+1):=by
 rw [lF hr,dL] at h;obtain ⟨h1,h2⟩:=List.append_inj' h (by simp);exact ⟨by simpa using h2,h1⟩

theorem nY (u v:Value) (xs ys:LN) (w:World) (hu:Row .u64 w u xs) (hv:Row .u64 w v ys) (O:Digs xs) (P:Digs ys) :
  ClZ 60 #[u,v] w fun r w'=>r=.returned (.int .i64 (dh (val xs) (val ys)))/\Kept aa w w':=by
 obtain ⟨R,hR⟩:=aj (dh (val xs) (val ys))
 rw [<- hR];have HR:HzD (R=dh (val xs) (val ys)):=hR;clear hR;have X:=fun ao n d (e:u=.slice ao n d) W (hk:Kept aa w W)=>CE ao n d xs W (e ▸ hu.g hk) O
 have Y:=fun ao n d (e:v=.slice ao n d) W (hk:Kept aa w W)=>CE ao n d ys W (e ▸ hv.g hk) P
 obtain ⟨ao,n,d,rfl,ag,c1,c2,c3,aE⟩:=hu.open;obtain ⟨bo,m,a,rfl,ai,d1,d2,d3,aF⟩:=hv.open;have X:=X ao n d rfl;have Y:=Y bo m a rfl;obtain ⟨A,hA,lA,dA,vA,gA⟩:=su O;obtain ⟨B,hB,lB,dB,vB,gB⟩:=su P;have rA:Row .u64 w (.slice ao (al (val xs)) d) A:=hA ▸ hu.cut (kO O);have rB:Row .u64 w (.slice bo (al (val ys)) a) B:=hB ▸ hv.cut (kO P);have HW:HzD (dh (al (val xs)) (al (val ys))=0\/dh (al (val xs)) (al (val ys))=R):=by
  unfold HzD;rw [HR.o];by_cases e:al (val xs)=al (val ys)
  ·exact .inl (nJ.2 e)
  ·exact .inr (Ap e)
 rw [<- vA,<- vB] at HR;clear hA hB gA gB vA vB hu hv aE aF;have w1:al (val xs)<=n:=by have:=kO O;have:=ag.o;omega
 have w2:al (val ys)<=m:=by have:=kO P;have:=ai.o;omega
 clear O P ag ai;generalize al (val xs)=p at *;generalize al (val ys)=q at *;refine (callsIn_wide (n:=9)).1 ?_;refine callsIn_of_wp_marks func60 rfl trivial ?_ rfl;simp only [ntmps60,iW,dg,fC,Nat.reduceAdd,Nat.reduceSub,iS,iT,iV,iU,bY,fI];refine wpIn_wide.2 ?_;go_wp2_with fail;have G:Kept aa w ((w.alloc (.cells #[.slice bo m a] 23)).alloc (.cells #[.int .i64 0] 3)):=((ah aa w).alloc _).alloc _
 have ak:((w.alloc (.cells #[.slice bo m a] 23)).alloc (.cells #[.int .i64 0] 3)).cell? ⟨w.heap.size,0,none⟩=some (.slice bo m a):=((Boxed.new w 23 (.slice bo m a)).alloc _).cell;have aC:((w.alloc (.cells #[.slice bo m a] 23)).alloc (.cells #[.int .i64 0] 3)).frozen? ⟨w.heap.size,0,none⟩=false:=((Boxed.new w 23 (.slice bo m a)).alloc _).frozen;have am:((w.alloc (.cells #[.slice bo m a] 23)).alloc (.cells #[.int .i64 0] 3)).cell? ⟨w.heap.size+1,0,none⟩=some (.int .i64 0):=by have:=(Boxed.new (w.alloc (.cells #[.slice bo m a] 23)) 3 (.int .i64 0)).cell;rwa [World.size_alloc] at this
 have ap:((w.alloc (.cells #[.slice bo m a] 23)).alloc (.cells #[.int .i64 0] 3)).frozen? ⟨w.heap.size+1,0,none⟩=false:=by have:=(Boxed.new (w.alloc (.cells #[.slice bo m a] 23)) 3 (.int .i64 0)).frozen;rwa [World.size_alloc] at this
 have ar:((w.alloc (.cells #[.slice bo m a] 23)).alloc (.cells #[.int .i64 0] 3)).heap.size=w.heap.size+2:=by simp
 generalize hw1:(w.alloc (.cells #[.slice bo m a] 23)).alloc (.cells #[.int .i64 0] 3)=W1 at *;clear hw1
 refine Code.wp_mono (Q:=Exit.then (fun a' w'=>a'={ tmps:=#[.slice ao p d,.slice bo m a,undef,.pointer (some ⟨w.heap.size,0,none⟩),.pointer (some ⟨w.heap.size+1,0,none⟩),undef,undef,undef,undef,.slice ao n d,.slice ao p d,.slice bo m a,.slice bo q a,undef,undef,undef,undef,undef,undef,undef,undef,undef,undef,undef,undef,undef,undef,undef,undef,undef,undef,undef,undef,undef],defers:=[] }/\w'.cell? ⟨w.heap.size,0,none⟩=some (.slice bo q a)/\w'.cell? ⟨w.heap.size+1,0,none⟩=some (.int .i64 0)/\w'.frozen? ⟨w.heap.size+1,0,none⟩=false/\w'.heap.size=w.heap.size+2/\Kept aa w w') (fun _ _ _=>False)) ?_ ?_
 ·rintro e a' w' h;cases e with
  | normal=>
   obtain ⟨rfl,aA,ad,aB,I,af⟩:=h;have hC:=Any.cmp_Compare_int Lu (p:Int) (q:Int) w';rw [Gt] at hC;clear X Y G ak aC am ap ar;by_cases hpq:p=q
   ·subst hpq;rw [jx rfl] at hC;clear HW;have hD:=callsIn_wide.1 (Em Fence.wide 0 trivial rfl ao p d w');go_wp2_with fail;refine hC.mono ?_;rintro e w3 ⟨rfl,rfl⟩;go_wp2_with fail;refine hD.mono ?_;rintro e w4 ⟨rfl,rfl⟩;clear hC hD;have bN:=Boxed.new w3 23 (.slice ao p d);rw [I] at bN;have z:∀ b,(Value.slice ao p d).ownBlock=some b->0<p->b<w.heap.size:=by
     intro b hb hp;obtain ⟨aJ,n',av,e1,aD,_,_,_,h4⟩:=rA.open;cases e1
     obtain ⟨b',off,rfl,hc⟩:=h4 0 hp;cases hb
     exact World.block_lt_of_cell? w _ hc
    have az:Below w.heap.size w (w3.alloc (.cells #[.slice ao p d] 23)):=(af.alloc _).below (leR _) (fun _ f=>f.elim);have ab:=rA.g (af.alloc (.cells #[.slice ao p d] 23));have Z:HzD (∀ W,Below w.heap.size w W->Row .u64 W (.slice bo p a) B):=fun W hb=>rB.kept (S:=aa) ⟨hb.os,hb.tape,hb.output,hb.size,fun k hk _=>hb.block k hk⟩ (fun _ _ f=>f)
    go_wp2_with fail;obtain ⟨g,hg⟩:∃ g:Nat->Nat,∀ j,A.getD j 0=g j:=⟨_,fun _=>rfl⟩
    refine (wpIn_wide (n:=9)).1 ?_;refine wpIn_rangeFunc_ownG (F:=Fence.wide) (n:=9) rfl (by omega) (gf:=157) (lb:=#[.pointer (some ⟨w.heap.size+2,0,none⟩)]) rfl trivial (enters_of func157 (by kernel_rfl) rfl)
     (Ax Fence.wide 8 trivial rfl (by omega) (w.heap.size+2) p g (.slice ao p d) A lA hg (fun k=>k=w.heap.size+2\/((Value.slice ao p d).ownBlock=some k/\0<p)) (.inl rfl) (fun b hb hp=>.inr ⟨hb,hp⟩) _ ?hsw bN.cell ab) KeepB.trans (KeepB.put ?hsw2) (Below.refl _ _) (fun _=>rfl)
     (fun L W=>((∀ x ∈ L,g x.val=B.getD x.val 0)/\W.cell? ⟨w.heap.size,0,none⟩=some (.slice bo p a)/\W.cell? ⟨w.heap.size+1,0,none⟩=some (.int .i64 0)/\W.frozen? ⟨w.heap.size+1,0,none⟩=false)/\Below w.heap.size w W)
     (fun c L W=>(c=.ret/\∃ V o,L=V ++ [o]/\(∀ x ∈ V,g x.val=B.getD x.val 0)/\g o.val≠B.getD o.val 0/\W.cell? ⟨w.heap.size+1,0,none⟩=some (.int .i64 (dh (g o.val) (B.getD o.val 0))))/\Below w.heap.size w W)
     (OwnFrom.and (Own.from (fun s A B aI hs hg hr=>⟨hs.1,cell_kept hs.2.1 hg hr,cell_kept hs.2.2.1 hg hr,(frozen_kept hs.2.2.1 hg hr).trans hs.2.2.2⟩) _) (ownFrom_below (leR _) (by simp;omega)))
     (fun c=>OwnFrom.and (Own.from (fun s A B aI hs hg hr=>by obtain ⟨hc,V,o,e1,e2,e3,e4⟩:=hs;exact ⟨hc,V,o,e1,e2,e3,cell_kept e4 hg hr⟩) _) (ownFrom_below (leR _) (by simp;omega)))
     ⟨⟨by simp,FN _ aA,FN _ ad,Eu _ ad aB⟩,az⟩
     ?act ?assign ?body ?done ?stop
    case hsw=>
     rintro k (rfl | ⟨hk,hp⟩)
     ·simp [I]
     ·have:=z k hk hp;simp [I];omega
    case hsw2=>
     rintro k (rfl | ⟨hk,hp⟩)
     ·simp [I]
     ·have:=z k hk hp;simp [I];omega
    case assign=>
     intro l x W K hK
     gi_wp2
     exact hK
    case body=>
     rintro l L x W ⟨⟨hp,an,E,aq⟩,hB⟩ _;obtain ⟨aK,q',aw,e1,aD,_,_,_,h4⟩:=(Z.o W hB).open;cases e1
     have hx:=x.isLt;obtain ⟨b,off,rfl,hc⟩:=h4 x.val hx;have hN:=GX (g x.val) (B.getD x.val 0) W;have HP:HzD (∀ x ∈ L,g x.val=B.getD x.val 0):=hp;obtain ⟨yb,J⟩:=aj (B.getD x.val 0)
     rw [<- J] at hN;rw [<- J] at hc;clear h4 hp rA rB Z ab;by_cases he:g x.val=yb
     ·rw [jx he] at hN;have HE:HzD (g x.val=B.getD x.val 0):=by rw [<- J];exact he
      clear J he hg
      gi_wp2_with (refine ⟨trivial,?_⟩;gi_at_call 100;refine (CallsIn.inRound l (callsIn_wide.2 hN)).mono ?_;rintro e w' ⟨rfl,rfl⟩)
      refine ⟨KeepsFrom.refl _ _,KeepB.refl _ _,⟨fun y hy=>?_,an,E,aq⟩,hB⟩;rcases List.mem_append.1 hy with h | h
      ·exact HP.o y h
      ·rw [List.mem_singleton.1 h];exact HE.o
     ·have h0:dh (g x.val) yb≠0:=fun h=>he (nJ.1 h)
      have HC:HzD (dh (g x.val) yb=dh (g x.val) (B.getD x.val 0)):=by rw [J];rfl
      have HE:HzD (g x.val≠B.getD x.val 0):=by rw [<- J];exact he
      generalize dh (g x.val) yb=C at *;clear J he hg
      gi_wp2_with (refine ⟨trivial,?_⟩;gi_at_call 100;refine (CallsIn.inRound l (callsIn_wide.2 hN)).mono ?_;rintro e w' ⟨rfl,rfl⟩)
      exact ⟨(KeepsOthers.setCell _ _ _).from _,⟨rfl,L,x,rfl,HP.o,HE.o,by rw [<- HC.o];exact World.cell?_setCell_same _ _ _ E⟩,hB.setCell (p:=⟨w.heap.size+1,0,none⟩) (by simp) _⟩
    case done=>
     rintro D ys W hD au ⟨⟨M,an,E,aq⟩,hB⟩ hK;have ax:A=B:=by
      apply List.ext_getElem
      ·rw [lA,lB]
      ·intro i h1 h2;obtain ⟨x,hx,aG⟩:=uW au (aP i) (show i<p by omega);have:=M x hx;rw [aG,<- hg,ay,ay,aS h1,aS h2] at this;simpa using this
     rw [ax,jx rfl] at HR;clear M au rA rB Z ab z hg;go_wp2;have ac:=(KeepsOthers.setCell W ⟨w.heap.size+1,0,none⟩ (.int .i64 0)).same D _ hK rfl;refine ⟨by simp,.inl ⟨_,_,rfl,run_takeDeferred ac,?_⟩⟩;have N:=cell_kept (World.cell?_setCell_same W ⟨w.heap.size+1,0,none⟩ (.int .i64 0) E) (grownBy_putObj' _ D (.deferred none)) (fun r e=>by cases e;exact ⟨_,ac,rfl⟩);have t:=(hB.setCell (p:=⟨w.heap.size+1,0,none⟩) (by simp) (.int .i64 0)).trans (belowK_b (w:=w) (leR _) _ D _ (.deferred none) (by simp [I] at hD;omega) ac rfl rfl);refine ⟨.int .i64 0,?_,by rw [HR.o],⟨t.os,t.tape,t.output,t.size,fun k hk _=>t.block k hk⟩⟩;simp [results,Tryz.f60,go_sem,N]
    case stop=>
     rintro D c L W hD ⟨r,hr,U⟩ ⟨⟨rfl,V,o,rfl,e2,e3,E⟩,hB⟩ hK;obtain ⟨H,T⟩:=Ay hr U;rw [H,<- hg] at e3 E;have ae:=Gu dA dB (by rw [lA,lB]) (show r<A.length by omega) (fun j h1 h2=>by
      obtain ⟨x,hx,aH⟩:=uW T h1 (show j<p by omega);have:=e2 x hx
      rwa [aH,<- hg] at this) e3
     rw [ae,<- HR.o] at E;clear e2 e3 U T H rA rB Z ab z hg
     gi_wp2
     refine ⟨by simp,.inl ⟨_,_,rfl,run_takeDeferred hK,?_⟩⟩;have N:=cell_kept E (grownBy_putObj' _ D (.deferred none)) (fun r e=>by cases e;exact ⟨_,hK,rfl⟩);have t:=hB.trans (belowK_b (w:=w) (leR _) W D _ (.deferred none) (by simp [I] at hD;omega) hK rfl rfl);refine ⟨.int .i64 R,?_,rfl,⟨t.os,t.tape,t.output,t.size,fun k hk _=>t.block k hk⟩⟩;simp [results,Tryz.f60,go_sem,N]
   ·rw [show dh p q=R from HW.o.resolve_left (fun h=>hpq (nJ.1 h))] at hC;have aL:R≠0:=by
     rw [<- HW.o.resolve_left (fun h=>hpq (nJ.1 h))];exact fun h=>hpq (nJ.1 h)
    go_wp2_with fail;refine hC.mono ?_;rintro e w3 ⟨rfl,rfl⟩;go_wp2;have N:=World.cell?_setCell_same w3 ⟨w.heap.size+1,0,none⟩ (.int .i64 R) ad;refine ⟨.int .i64 R,?_,rfl,af.setCell ⟨w.heap.size+1,0,none⟩ (fun h=>absurd h (by simp)) _⟩;simp [results,Tryz.f60,go_sem,N]
  | _=>exact h.elim
 ·go_region_with (first
   | (go_at_call_of 97 ao;refine (X _ ?_).mono ?_;(first | exact G | exact G.drew | exact G.drewN _);rintro e w' ⟨rfl,rfl⟩)
   | (go_at_call_of 97 bo;refine (Y _ ?_).mono ?_;(first | exact G | exact G.drew | exact G.drewN _);rintro e w' ⟨rfl,rfl⟩))
  all_goals exact ⟨rfl,World.cell?_setCell_same _ _ _ ak,(World.cell?_setCell_other _ _ _ _ (by simp)).trans am,(World.frozen?_setCell _ _ _ _).trans ap,by simpa using ar,(G.setCell ⟨w.heap.size,0,none⟩ (fun h=>absurd h (by simp)) _).drew⟩

attribute [local go_sem] Oper.semAt_some

theorem CJ (x y:Nat) (hx:x<72057594037927936) (hy:y<256):bits .or .u64 ((x:Int)*256) (y:Int)=((x*256+y:Nat):Int):=by
 have h:=u64_or_nat (x*256) y (by omega) (by omega);rw [nat_join 8 (x*256) y (by omega) (by omega)] at h;rw [show (x:Int)*256=((x*256:Nat):Int) by omega,h]

theorem Bz (m:LN):∀ a,m.foldl (fun a b=>a*256+b) a=a*256^m.length+bev m:=by
 unfold bev
 induction m with
 | nil=>intro a;simp
 | cons x m ih=>
  intro a;rw [List.foldl_cons,ih,List.foldl_cons,ih (0*256+x),dg,aF];simp only [jv,dX,dn,bh,iX,aD 256]

theorem jd (l m:LN):bev (l ++ m)=bev l*256^m.length+bev m:=by
 show (l ++ m).foldl _ 0=_
 rw [List.foldl_append,Bz];rfl

theorem sN {l:LN} (h:Digs l 256):bev l<256^l.length:=by
 induction l with
 | nil=>simp [bev]
 | cons x m ih=>
  have e:=jd [x] m;rw [pF] at e;have hx:=h.head;have hm:=ih h.tail;rw [e,dg,aF];have:(x+1)*256^m.length<=256*256^m.length:=cE _ hx;rw [dn,iF] at this;have e2:bev [x]=x:=by simp [bev]
  rw [e2,aD (256^m.length)];omega

theorem Lz (ao:OA) (a g:Nat) (bs:LN) (w:World) (h:Row .u8 w (.slice ao a g) bs) (hd:Digs bs 256) (hl:a<=8) :
  ClZ 155 #[.slice ao a g] w fun e w'=>e=.returned (.int .u64 (bev bs:Nat))/\w'=w:=by
 obtain ⟨n,m,j,e,hL,_,_,_,d⟩:=h.open;cases e
 have HR:HzD (∀ i,i<a->NumAt .u8 w ao bs i):=d;clear d h;have o:min (a:Int) 8=(a:Int):=by omega
 have c:bs.take a=bs:=by rw [dV];have:=hL.o;omega
 have HA:HzD (bev (bs.take a)=bev bs):=congrArg bev c;clear c;delta ClZ;go_in;go_wp2_with fail;go_loop [3,8] (fun x i=>∃ k:Nat,k<=a/\i=.int .i64 (k:Int)/\∃ t:Nat,HzD (t=bev (bs.take k))/\x=.int .u64 (t:Int)) (fun _ i=>((a:Int)-intOf i).toNat)
 case atStart=>exact ⟨0,by omega,rfl,0,by simp [HzD,bev],rfl⟩
 case round=>
  obtain ⟨k,hk,rfl,t,ht,rfl⟩:=hrel;by_cases hp:k<a
  ·obtain ⟨b,off,rfl,hc⟩:=HR.o k hp;have hz:bs.getD k 0<256:=hd.getD (by omega) k;have l:t<72057594037927936:=by
    rw [ht.o];have h1:=sN (hd.take k);have h2:(256:Nat)^(bs.take k).length<=256^7:=bi (by omega) (by rw [aQ];omega);omega
   have hs:HzD (bev (bs.take (k+1))=t*256+bs.getD k 0):=by
    unfold HzD;rw [ht.o];exact rF (by have:=hL.o;omega)
   generalize bs.getD k 0=z at *;have p:=CJ t z l hz;go_wp2_with fail;go_round
   case rel=>exact ⟨k+1,by omega,by go_num,t*256+z,hs.o.symm,rfl⟩
   case measure=>simp [intOf];omega
  ·obtain rfl:k=a:=by omega
   go_wp2_with fail;go_ret;have f:=ht.o.trans HA.o;exact ⟨by rw [f];rfl,rfl⟩

theorem Row.tail {b off m c:Nat} (h:Row k w (.slice (some ⟨b,off,none⟩) (m+1) c) (z :: zs)) (hc:1<c):Row k w (.slice (some ⟨b,off+1,none⟩) m (c-1)) zs:=by
 obtain ⟨ao,d,e,h1,h2,_,h4⟩:=h;cases e
 refine ⟨_,_,rfl,by simp at h1;omega,by omega,(fun e=>by cases e),fun i hi=>?_⟩;obtain ⟨b',f,e,a⟩:=h4 (i+1) (by simp;omega);cases e
 exact ⟨b,off+1,rfl,by rw [show off+1+i=off+(i+1) by omega,a];rfl⟩

theorem Row.none0 (k:IntKind) (w:World) (ao:OA) (a:Nat) (hc:a<=maxLen) (hn:ao=none->a=0):Row k w (.slice ao 0 a) []:=⟨ao,a,rfl,aP _,hc,hn,fun i hi=>absurd hi (by simp)⟩

theorem GZ (v:Value) (bs:LN) (w:World) (h:Row .u8 w v bs) :
  ClZ 150 #[v,.int .u8 0] w fun r w'=>∃ v',r=.returned v'/\∃ k,Row .u8 w v' (bs.drop k)/\k<=bs.length/\(∀ i,i<k->bs.getD i 0=0)/\(k=bs.length\/bs.getD k 0≠0)/\(v'.ownBlock=v.ownBlock\/v'.ownBlock=none)/\w'=w:=by
 obtain ⟨ob,t⟩:=aj v.ownBlock
 rw [<- t];have E:HzD (v.ownBlock=ob):=t.symm;clear t;obtain ⟨ao,n,H,rfl,hL,h1,h2,h3,_⟩:=h.open;have hr:=h;clear h;delta ClZ;go_in;go_wp2_with fail;go_loop [0] (fun a=>∃ k,HzD (k<=bs.length/\Row .u8 w a (bs.drop k)/\(∀ i,i<k->bs.getD i 0=0)/\a.ownBlock=ob)) (fun a=>yk a)
 case atStart=>exact ⟨0,aP _,by simpa using hr,fun i hi=>by omega,E.o⟩
 case round=>
  obtain ⟨k,hk⟩:=hrel;obtain ⟨p,c,hz,f⟩:=hk.o;obtain ⟨G,m,o,rfl,hM,g1,g2,g3,g4⟩:=c.open;have HM:HzD (m=bs.length-k):=by have:=hM.o;rw [cP] at this;exact this.symm
  cases m with
  | zero=>
   have C:HzD (k=bs.length):=by have:=HM.o;show k=bs.length;omega
   clear g4 c hr f hz h1 h2 h3 hL hM p;go_wp2;go_ret;obtain ⟨p,c,hz,f⟩:=hk.o;exact ⟨_,rfl,k,by rw [nj (by have:=C.o;omega)];exact Row.nil _ _,p,hz,.inl C.o,.inr rfl,rfl⟩
  | succ j=>
   obtain ⟨b,off,rfl,hc⟩:=g4 0 (by omega);rw [aU] at hc;have B:(bs.drop k).getD 0 0=bs.getD k 0:=by rw [ay,fd,ay];rfl
   rw [B] at hc;have g:k<bs.length:=by have:=HM.o;omega
   have d:bs.drop k=bs.getD k 0 :: bs.drop (k+1):=by rw [eF g,ay,aS g];rfl
   obtain ⟨z,x⟩:=aj (bs.getD k 0)
   rw [<- x] at hc d;rw [d] at c;have HZ:HzD (z=bs.getD k 0):=x;have q:HzD (Row .u8 w (.slice (some ⟨b,off,none⟩) (j+1) o) (z :: bs.drop (k+1))):=c;have y:HzD (k<bs.length):=g;clear x g4 c hr f hz h1 h2 h3 hL hM p B d g;by_cases h0:z=0
   ·subst h0;have l:∀ i,i<k+1->bs.getD i 0=0:=fun i hi=>by
     by_cases e:i=k
     ·subst e;exact HZ.o.symm
     ·exact hk.o.2.2.1 i (by omega)
    have A:HzD (∀ i,i<k+1->bs.getD i 0=0):=l;clear l;by_cases hcap:o=1
    ·obtain rfl:j=0:=by omega
     subst hcap;have s:HzD (bs.drop (k+1)=[]):=by
      show bs.drop (k+1)=[]
      rw [nj];have:=HM.o;omega
     go_wp2;go_round
     case rel=>exact ⟨k+1,y.o,by rw [s.o];exact Row.none0 _ _ _ _ (by unfold maxLen;omega) (fun e=>by cases e),A.o,hk.o.2.2.2⟩
     case measure=>simp [yk]
    ·have F:1<o:=by omega
     go_wp2;go_round
     case rel=>exact ⟨k+1,y.o,q.o.tail F,A.o,hk.o.2.2.2⟩
     case measure=>simp [yk]
   ·have I:((z:Int) == 0)=false:=by simp;omega
    have D:HzD (bs.getD k 0≠0):=by rw [<- HZ.o];exact h0
    go_wp2;go_ret;obtain ⟨p,c,hz,f⟩:=hk.o;exact ⟨_,rfl,k,c,p,hz,.inr D.o,.inl f,rfl⟩

theorem I7 (v:Value) (bs:LN) (w:World) (h:Row .u8 w v bs) :
  ClZ 95 #[v,.string { data:=#[0] }] w fun r w'=>∃ v',r=.returned v'/\∃ k,Row .u8 w v' (bs.drop k)/\k<=bs.length/\(∀ i,i<k->bs.getD i 0=0)/\(k=bs.length\/bs.getD k 0≠0)/\(v'.ownBlock=v.ownBlock\/v'.ownBlock=none)/\w'=w:=by
 have hT:=GZ v bs w h;obtain ⟨ao,n,c,rfl,hL,h1,h2,h3,_⟩:=h.open;cases n with
 | zero=>
  have b:bs=[]:=kX hL.o;subst b;clear hT hL h;delta ClZ;go_in;go_wp2_with fail;go_ret;exact ⟨_,rfl,0,Row.nil _ _,leR _,fun i hi=>by omega,.inl rfl,.inr rfl,rfl⟩
 | succ j=>
  clear h;delta ClZ;go_in;go_wp2_with fail;refine hT.mono ?_;rintro e w' ⟨v',rfl,a⟩;go_wp2_with fail;go_ret;exact ⟨v',rfl,a⟩

attribute [local go_sem] Oper.semAt_some

theorem rM (hd:Digs bs 256) (i:Nat) (h:8*i<bs.length) :
  bev ((bs.drop (bs.length-8*(i+1))).take (bs.length-8*i-(bs.length-8*(i+1))))=dig (bev bs) i:=by
 obtain ⟨s,hs⟩:=aj (bs.length-8*(i+1))
 obtain ⟨e,he⟩:=aj (bs.length-8*i)
 rw [<- hs,<- he];have f:s<e:=by omega
 have d:e<=bs.length:=by omega
 have a:bs=(bs.take s ++ (bs.drop s).take (e-s)) ++ bs.drop e:=by
  rw [dS];have h2:(bs.drop s).take (e-s) ++ bs.drop e=bs.drop s:=by
   have:=kh (e-s) (bs.drop s);rw [jq,show s+(e-s)=e by omega] at this;exact this
  rw [h2,kh]
 have b:bev bs=(bev (bs.take s)*256^(e-s)+bev ((bs.drop s).take (e-s)))*256^(8*i)+bev (bs.drop e):=by
  conv=>lhs;rw [a]
  rw [jd,jd,aQ,cP,cP,fT,show bs.length-e=8*i by omega]
 have h1:bev (bs.drop e)<256^(8*i):=by
  have:=sN (hd.drop e)
  rwa [cP,show bs.length-e=8*i by omega] at this
 have h2:bev ((bs.drop s).take (e-s))<256^(e-s):=by
  have:=sN ((hd.drop s).take (e-s))
  rwa [aQ,cP,fT] at this
 have h3:e-s=8\/s=0:=by omega
 have c:e-s<=8:=by omega
 generalize bev ((bs.drop s).take (e-s))=M at *;have hp:(18446744073709551616:Nat)^i=256^(8*i):=by rw [aX]
 unfold dig;rw [hp,b,aD _ (256^(8*i)),gG (aV),bI h1,aU];rcases h3 with h8 | h0
 ·rw [h8] at h2 ⊢;rw [show (256:Nat)^8=18446744073709551616 from rfl] at h2 ⊢;omega
 ·subst h0;have h4:M<18446744073709551616:=bg h2 (aH (bi (by omega) c) (leR (256^8)));rw [nB,show bev []=0 from rfl,jv,dX,aA h4]

theorem Row.part {b off c s e:Nat} (h:Row k w (.slice (some ⟨b,off,none⟩) n c) zs) (h1:s<e) (h2:e<=n):Row k w (.slice (some ⟨b,off+s,none⟩) (e-s) (c-s)) ((zs.drop s).take (e-s)):=by
 obtain ⟨ao,d,e',c1,c2,_,h4⟩:=h;cases e'
 have hl:((zs.drop s).take (e-s)).length=e-s:=by rw [aQ,cP];omega
 refine ⟨_,_,by rw [hl],by omega,by omega,(fun e=>by cases e),fun i hi=>?_⟩;rw [hl] at hi;obtain ⟨b',f,e',a⟩:=h4 (s+i) (by omega);cases e'
 refine ⟨b,off+s,rfl,?_⟩;rw [iX,a,ay,ay,eH,ai hi,fd]

theorem LU (n:Nat) (hn:1<=n) (l Bs L:Nat) (g:Nat->Nat) (v:Value) (bs:LN) (hd:Digs bs 256) (hL:HzD ((bs.length+7)/8=L)) (hg:HzD (∀ j,dig (bev bs) j=g j)) (S:Nat->Prop) (hS:S Bs) (F:∀ b,v.ownBlock=some b->0<L->S b)
  (J Jx:List (Fin L)->World->Prop)
  (hY:∀ a (x:Fin L) W,J a W->a.length<L->YieldAt Fence.wide (n-1) prog l #[.int .i64 (x.val:Nat),.int .u64 (g x.val:Nat)] W fun e W'=>
   (e=.returned (.bool true)/\J (a ++ [x]) W'/\KeepB S W W')\/(e=.returned (.bool false)/\Jx (a ++ [x]) W'))
  (W:World) (D:W.cell? ⟨Bs,0,none⟩=some v) (hr:Row .u8 W v bs) (h0:J [] W) :
  CallsIn Fence.wide n prog 154 #[.func (.yield l) #[] #[],.pointer (some ⟨Bs,0,none⟩)] W fun e W'=>(∃ v,e=.returned v) /\
   ((∃ ys,ys.map Fin.val=List.range L/\J ys W')\/(∃ a,True/\Jx a W')):=by
 obtain ⟨ao,m,B,rfl,hN,c1,c2,c3,f⟩:=hr.open;have HL:HzD ((m+7)/8=L):=by rw [<- hN.o];exact hL
 have o:HzD (Row .u8 W (.slice ao m B) bs):=hr;have d:HzD (∀ i,i<m->NumAt .u8 W ao bs i):=f;clear f hr hL;refine callsIn_of_wp func154 rfl trivial ?_ rfl;simp only [ntmps154,iW,dg,fC,Nat.reduceAdd,Nat.reduceSub,iS,iT,iV,iU,bY,fI]
 gi_wp2
 gi_loopw [3,4] (fun e i wr=>∃ k r:Nat,HzD (k<=L/\r=m-8*k)/\r<=m/\e=.int .i64 (r:Int)/\i=.int .i64 (k:Int)/\(∃ a:List (Fin L),HzD (a.map Fin.val=List.range k)/\J a wr)/\KeepB S W wr)
  (fun e _ _=>(intOf e).toNat)
 case atStart=>exact ⟨0,m,⟨aP _,by omega⟩,leR _,rfl,rfl,⟨[],by simp [HzD],h0⟩,KeepB.refl _ _⟩
 case round=>
  obtain ⟨k,r,z,M,rfl,rfl,⟨a,c,C⟩,y⟩:=hrel;cases r with
  | zero=>
   have HK:HzD (k=L):=by have h1:=z.o;have h2:=HL.o;show k=L;omega
   gi_wp2
   go_end0
   exact ⟨⟨_,rfl⟩,.inl ⟨a,by rw [c.o,HK.o],C⟩⟩
  | succ q=>
   have w:k<L:=by have h1:=z.o;have h2:=HL.o;omega
   have hq:8*k+(q+1)=m:=by have h1:=z.o;omega
   have I:k<4611686018427387904:=by omega
   obtain ⟨s,hs⟩:=aj (m-8*(k+1):Nat)
   have P:max ((q:Int)+1-8) 0=(s:Int):=by omega
   have N:s<q+1:=by omega
   have O:q+1-s<=8:=by omega
   have HS:HzD (s=m-8*(k+1)):=hs;clear hs;obtain ⟨b,off,rfl,_⟩:=d.o 0 (by omega);have h:=o.o.part N M;have hG:=Lz (some ⟨b,off+s,none⟩) (q+1-s) (B-s) _ wr (y.row (fun b' hb hp=>by cases hb;exact F b rfl (by omega)) h) ((hd.drop s).take _) O;have hw:bev ((bs.drop s).take (q+1-s))=g k:=by
    rw [<- hg.o,<- rM hd k (by have:=hN.o;omega),hN.o,<- HS.o,show m-8*k=q+1 by omega]
   rw [hw] at hG;have G:=(y.cell (p:=⟨Bs,0,none⟩) hS).trans D;have A:a.length<L:=by
    have:=congrArg List.length c.o;rw [cH,mj] at this;omega
   obtain ⟨fn,tmps,assign,body,hy,hR⟩:=hY a ⟨k,w⟩ wr C A;dsimp only at hy;clear hw h d hq
   gi_wp2_with fail
   refine ⟨trivial,?_⟩;refine (callsIn_wide.2 hG).mono ?_;rintro e w' ⟨rfl,rfl⟩
   gi_wp2
   refine hR.mono ?_;rintro e W3 (⟨rfl,E,H⟩ | ⟨rfl,t⟩)
   ·gi_wp2
    go_roundw
    case rel=>exact ⟨k+1,s,⟨w,HS.o⟩,by have:=HS.o;omega,rfl,by go_num,⟨a ++ [⟨k,w⟩],by unfold HzD;rw [dL,c.o,kZ];rfl,E⟩,y.trans H⟩
    case measure=>simp [intOf];omega
   ·gi_wp2
    refine bodyPost_ret (results_none rfl _ _ _) rfl ?_;exact ⟨⟨_,rfl⟩,.inr ⟨_,trivial,t⟩⟩

theorem If (ao:OA) (b a:Nat) (w:World) :
  ClZ 96 #[.slice ao b a] w fun e w'=>e=.returned (.func (.func 154) #[] #[.pointer (some ⟨w.heap.size,0,none⟩)])/\w'=w.alloc (.cells #[.slice ao b a] 28):=by
 delta ClZ;go_in;go_wp2;go_ret;exact ⟨rfl,rfl⟩

theorem DX (n:Nat) (hn:1<=n) (Bs L:Nat) (g:Nat->Nat) (v:Value) (bs:LN) (hd:Digs bs 256) (hL:(bs.length+7)/8=L) (hg:∀ j,dig (bev bs) j=g j) (S:Nat->Prop) (hS:S Bs) (a:∀ b,v.ownBlock=some b->0<L->S b)
  (w:World) (d:∀ k,S k->k<w.heap.size) (c:w.cell? ⟨Bs,0,none⟩=some v) (hr:Row .u8 w v bs) :
  SeqStopsK Fence.wide n prog 154 #[.pointer (some ⟨Bs,0,none⟩)] (fun x:Fin L=>#[Value.int .i64 (x.val:Nat),Value.int .u64 (g x.val:Nat)]) (KeepB S) (fun ys=>ys.map Fin.val=List.range L) (fun _=>True) L w:=fun l J Jx W hW _ _ hY h0=>by
 have hk:KeepB S w W:=fun k hk=>hW.block k (d k hk)
 exact LU n hn l Bs L g v bs hd hL hg S hS a J Jx hY W ((hk.cell (p:=⟨Bs,0,none⟩) hS).trans c) (hk.row (fun b hb hp=>a b hb (by omega)) hr) h0

attribute [local go_sem] Oper.semAt_some

theorem By {k:Nat} (hk:k<=bs.length) (hz:∀ i,i<k->bs.getD i 0=0):bev (bs.drop k)=bev bs:=by
 have h:bev (bs.take k)=0:=by
  have a:∀ d ∈ bs.take k,d=0:=by
   intro d hd;obtain ⟨i,hi,rfl⟩:=List.mem_iff_getElem.1 hd;have b:i<k:=by rw [aQ] at hi;omega
   have:=hz i b;rw [ay,aS (by omega)] at this;simpa using this
  have:∀ l:LN,(∀ d ∈ l,d=0)->bev l=0:=by
   intro l
   induction l with
   | nil=>intro _;rfl
   | cons x m ih=>
    intro h;have e:=jd [x] m;rw [pF] at e;rw [e,ih (fun d hd=>h d (by simp [hd])),show bev [x]=x by simp [bev],h x (by simp),jv]
  exact this _ a
 have e:=jd (bs.take k) (bs.drop k);rw [kh,h,jv,dX] at e;exact e.symm

theorem pt (hd:Digs bs 256) (a:bs.length=0\/bs.getD 0 0≠0) (m:Nat):al (bev bs)<=m↔bs.length<=8*m:=by
 rw [aB];have hp:(18446744073709551616:Nat)^m=256^(8*m):=by rw [aX]
 rw [hp];constructor
 ·intro h;rcases a with h0 | h0
  ·omega
  ·cases bs with
   | nil=>simp
   | cons x t=>
    have hx:x≠0:=by simpa using h0
    have e:=jd [x] t;rw [pF,show bev [x]=x by simp [bev]] at e;have h1:1*256^t.length<=x*256^t.length:=cE _ (by omega);have h2:(256:Nat)^t.length<256^(8*m):=by omega
    have:=(Nat.pow_lt_pow_iff_right (by omega:1<256)).1 h2;simp only [dg];omega
 ·intro h;exact bg (sN hd) (bi (by omega) h)

def Put (g:Nat->Nat) (L n:Nat) (pre:List (Fin L)) (zs:LN):Prop:=zs.length=n/\∀ j,zs.getD j 0=if j ∈ pre.map Fin.val then g j else 0

theorem Put.step {g:Nat->Nat} {a:List (Fin L)} (h:Put g L n a zs) (x:Fin L) (hx:x.val<n):Put g L n (a ++ [x]) (zs.set x.val (g x.val)):=by
 refine ⟨by rw [nt];exact h.1,fun j=>?_⟩;rw [ay,List.getElem?_set,dL];by_cases e:x.val=j
 ·subst e;simp [h.1,hx]
 ·rw [am e,<- ay,h.2 j];have:¬ j=x.val:=fun h=>e h.symm
  simp [this]

theorem Put.all {g:Nat->Nat} {V:Nat} {a:List (Fin L)} (h:Put g L n a zs) (hp:a.map Fin.val=List.range L) (hg:∀ j,dig V j=g j) (hV:al V<=L):zs=digs V n:=by
 apply List.ext_getElem
 ·rw [h.1,ag]
 ·intro i h1 h2;have e:=h.2 i;rw [hp,ay,aS h1,jw] at e;have e2:=jf 18446744073709551616 V n i (by rw [<- h.1];exact h1);rw [ay,aS h2,jw] at e2;rw [e,e2];by_cases hi:i<L
  ·rw [ai (by simpa using hi),hg]
  ·rw [am (by simpa using hi)];unfold dig;rw [bI ((aB V i).1 (by omega)),it]

attribute [local go_sem] Oper.semAt_some

theorem LA (v:Value) (bs:LN) (n:Int) (w:World) (h:Row .u8 w v bs) (hd:Digs bs 256) :
  ClZ 59 #[v,.int .i64 n] w fun r w'=>∃ v',r=.returned (.tuple #[v',.int .i64 (dZ (bev bs) n)])/\OwnN .u64 24 w' w.heap.size v' (eR (bev bs) n).length (eR (bev bs) n)/\Kept aa w w':=by
 obtain ⟨i0,ak,ap,aq,ar⟩:=info_parts Tryz.info24;have hE:=zB n w;have hT:=I7 v bs w h;refine (callsIn_wide (n:=9)).1 ?_;refine callsIn_of_wp_marks func59 rfl trivial ?_ rfl;simp only [ntmps59,iW,dg,fC,Nat.reduceAdd,Nat.reduceSub,iS,iT,iV,iU,bY,fI];refine wpIn_wide.2 ?_;obtain ⟨RC,O⟩:=aj (dZ (bev bs) n)
 obtain ⟨RL,P⟩:=aj (eR (bev bs) n)
 rw [<- O,<- P];have HC:HzD (RC=dZ (bev bs) n):=O;have HL:HzD (RL=eR (bev bs) n):=P;clear O P;by_cases h1:300<n
 ·obtain ⟨e1,e2⟩:=vT (V:=bev bs) h1;rw [e1] at HC;rw [e2] at HL;rw [ai h1] at hE;clear e1 e2 hT;go_wp2_with fail;refine hE.mono ?_;rintro e w' ⟨rfl,rfl⟩;go_wp2;exact ⟨_,results_tmp2 rfl _ _ _,_,by rw [HC.o];rfl,by rw [HL.o];exact World.ownsRow_nil _ _ _ _,ah _ _⟩
 ·rw [am h1] at hE;by_cases h2:n<0
  ·obtain ⟨e1,e2⟩:=mw (V:=bev bs) h1 (.inl h2);rw [e1] at HC;rw [e2] at HL;rw [ai h2] at hE;clear e1 e2 hT;go_wp2_with fail;refine hE.mono ?_;rintro e w' ⟨rfl,rfl⟩;go_wp2;exact ⟨_,results_tmp2 rfl _ _ _,_,by rw [HC.o];rfl,by rw [HL.o];exact World.ownsRow_nil _ _ _ _,ah _ _⟩
  ·rw [am h2] at hE;obtain ⟨m,rfl⟩:=eO (show 0<=n by omega);go_wp2_with fail;refine hE.mono ?_;rintro e w' ⟨rfl,rfl⟩;go_wp2_with fail;refine hT.mono ?_;rintro e w' ⟨v',rfl,k,hr,hk,hz,T,an,rfl⟩;have E:=By hk hz;have Q:=hd.drop k;have o:(bs.drop k).length=0\/(bs.drop k).getD 0 0≠0:=by
    rcases T with e | e
    ·left;rw [cP];omega
    ·right;rw [ay,fd,<- ay];exact e
   have a:=pt Q o m;have X:=(pt Q o (((bs.drop k).length+7)/8)).2 (by omega);rw [<- E] at HC HL;clear hT hE hz T o E hd h hk;generalize bs.drop k=cs at *;clear an;obtain ⟨ao,q,i,rfl,N,g1,g2,g3,g4⟩:=hr.open;rw [N.o] at a;have h8:wrap64 (8*(m:Int))=8*m:=by simp [wrap64];omega
   by_cases h3:q<=8*m
   ·obtain ⟨e1,e2⟩:=tF (V:=bev cs) (n:=m) (by omega) (a.2 h3);rw [e1] at HC;rw [e2] at HL;have ac:¬ (q:Int) > 8*(m:Int):=by omega
    have HW:HzD (al (bev cs)<=(cs.length+7)/8):=X;have av:(cs.length+7)/8<=m:=by have:=N.o;omega
    clear e1 e2 a X;have M:HzD (Row .u8 w' (.slice ao q i) cs):=hr;clear hr;go_wp2_with (at_make;refine wpList_make_full _ rfl _ _ 23 rfl w'.heap.size 24 i0 _ 1 underlying23 ak ap aq _ _ _ _ m rfl rfl rfl rfl (by rw [ar];omega) (by unfold maxLen;omega) (leR _) ?_;intro w1 I S;rw [bw] at I;have k1:=bd S);have af:=lt_of_block (iw I);have Z:HzD _:=I;clear I S;have hD:=If ao q i (w1.alloc (.cells #[.slice (some ⟨w'.heap.size,0,none⟩) m m] 23));refine hD.mono ?_;rintro e w2 ⟨rfl,rfl⟩;clear hD;have bX:=Boxed.new w1 23 (.slice (some ⟨w'.heap.size,0,none⟩) m m)
    have bN:=Boxed.new (w1.alloc (.cells #[.slice (some ⟨w'.heap.size,0,none⟩) m m] 23)) 28 (.slice ao q i);rw [World.size_alloc] at bN;have kA:=(k1.alloc (.cells #[.slice (some ⟨w'.heap.size,0,none⟩) m m] 23)).alloc (.cells #[.slice ao q i] 28);have ad:=kA.below (leR _) (fun _ f=>f.elim);have y:=M.o.g kA;have t:∀ b,(Value.slice ao q i).ownBlock=some b->0<(cs.length+7)/8->b<w'.heap.size:=by
     intro b hb hp;obtain ⟨b',off,rfl,hc⟩:=g4 0 (by have:=N.o;omega);cases hb
     exact World.block_lt_of_cell? w' _ hc
    clear g4;obtain ⟨g,hg⟩:∃ g:Nat->Nat,∀ j,dig (bev cs) j=g j:=⟨_,fun _=>rfl⟩
    have HG:HzD (∀ j,dig (bev cs) j=g j):=hg;go_wp2_with fail;refine (wpIn_wide (n:=9)).1 ?_;refine wpIn_rangeFunc_ownG (F:=Fence.wide) (n:=9) rfl (by omega) (gf:=154) (lb:=#[.pointer (some ⟨w1.heap.size+1,0,none⟩)]) rfl trivial (enters_of func154 (by kernel_rfl) rfl)
     (DX 8 (by omega) (w1.heap.size+1) ((cs.length+7)/8) g (.slice ao q i) cs Q rfl hg (fun k=>k=w1.heap.size+1\/((Value.slice ao q i).ownBlock=some k/\0<(cs.length+7)/8)) (.inl rfl) (fun b hb hp=>.inr ⟨hb,hp⟩) _ ?hsw bN.cell y) KeepB.trans (KeepB.put ?hsw2) (Below.refl _ _) (fun _=>rfl)
     (fun J W=>((∃ zs:LN,W.ownsRow w'.heap.size 24 1 (.slice (some ⟨w'.heap.size,0,none⟩) m m) m (zs.map fun z=>.int .u64 (z:Nat))/\Put g ((cs.length+7)/8) m J zs)/\Boxed W w1.heap.size 23 (.slice (some ⟨w'.heap.size,0,none⟩) m m))/\Below w'.heap.size w' W)
     (fun _ _ _=>False)
     (OwnFrom.and (Own.from (fun s A B aw hs hg hr=>⟨by obtain ⟨zs,h1,h2⟩:=hs.1;exact ⟨zs,qV h1 hg hr,h2⟩,xG hs.2 hg hr⟩) _) (ownFrom_below (leR _) (by simp;omega)))
     (fun _ _ _ _ _ hs _ _=>hs)
     ⟨⟨⟨List.replicate m 0,World.ownsRow.alloc (World.ownsRow.alloc Z.o _) _,by simp,fun j=>by rw [ay,eG];split <;> simp⟩,bX.alloc _⟩,ad⟩
     ?act ?assign ?body ?done ?stop
    case hsw=>
     rintro k (rfl | ⟨hk,hp⟩)
     ·simp
     ·have:=t k hk hp;simp;omega
    case hsw2=>
     rintro k (rfl | ⟨hk,hp⟩)
     ·simp
     ·have:=t k hk hp;simp;omega
    case assign=>
     intro l x W K hK
     gi_wp2
     exact hK
    case body=>
     rintro l J x W ⟨⟨⟨zs,G,d⟩,H⟩,hB⟩ _;have hx:=x.isLt;have R:x.val<m:=by omega
     have hc:W.cell? ⟨w'.heap.size,x.val,none⟩=some (.int .u64 (zs.getD x.val 0:Nat)):=by
      rw [World.ownsRow.cellAt G x.val (by omega),bV,aS (by rw [d.1];exact R),ay,aS (by rw [d.1];exact R)];rfl
     have hf:=World.ownsRow.frozenAt G x.val;have U:=(World.ownsRow.stored G x.val (.int .u64 (g x.val:Nat))).1;have ae:=H.cell;have L:HzD (Put g ((cs.length+7)/8) m (J ++ [x]) (zs.set x.val (g x.val))):=d.step x R;have ab:HzD (World.ownsRow (W.setCell ⟨w'.heap.size,x.val,none⟩ (.int .u64 (g x.val:Nat))) w'.heap.size 24 1 (.slice (some ⟨w'.heap.size,0,none⟩) m m) m ((zs.map fun z=>.int .u64 (z:Nat)).set x.val (.int .u64 (g x.val:Nat)))):=U;generalize zs.getD x.val 0=old at *;clear U d hg y
     gi_wp2
     refine ⟨(KeepsOthers.setCell _ _ _).from _,?_,⟨⟨zs.set x.val (g x.val),by rw [cI];exact ab.o,L.o⟩,gW H (show w1.heap.size≠w'.heap.size by omega) _⟩,hB.setCell (p:=⟨w'.heap.size,x.val,none⟩) (leR _) _⟩;rintro k (rfl | ⟨hk,hp⟩)
     ·exact Below.heap_setCell W _ _ _ (show w1.heap.size+1≠w'.heap.size by omega)
     ·have:=t k hk hp;exact Below.heap_setCell W _ _ _ (show k≠w'.heap.size by omega)
    case done=>
     rintro D ys W hD Y ⟨⟨⟨zs,G,d⟩,H⟩,hB⟩ hK;have au:=d.all Y HG.o HW.o;subst au;have ae:=H.cell;clear d hg y Y;go_wp2;refine ⟨by simp,.inl ⟨_,_,rfl,run_takeDeferred hK,?_⟩⟩;have C:=hB.trans (belowK_b (w:=w') (leR _) W D _ (.deferred none) (by simp at hD;omega) hK rfl rfl);refine ⟨_,results_tmp2 rfl _ _ _,_,by rw [HC.o];rfl,?_,⟨C.os,C.tape,C.output,C.size,fun k hk _=>C.block k hk⟩⟩;rw [HL.o];rw [ag];exact qV G (grownBy_putObj' _ D (.deferred none)) (fun r e=>by cases e;exact ⟨_,hK,rfl⟩)
    case stop=>
     rintro D c J W _ _ h _;exact h.elim
   ·obtain ⟨e1,e2⟩:=mw (V:=bev cs) (n:=(m:Int)) (by omega) (.inr (by simp;omega));rw [e1] at HC;rw [e2] at HL;have ac:(q:Int) > 8*(m:Int):=by omega
    clear e1 e2 a g4 hr;go_wp2;exact ⟨_,results_tmp2 rfl _ _ _,_,by rw [HC.o];rfl,by rw [HL.o];exact World.ownsRow_nil _ _ _ _,ah _ _⟩

theorem GY (v:Value) (bs:LN) (n:Int) (w:World) (h:Row .u8 w v bs) (hd:Digs bs 256) :
  ClZ 59 #[v,.int .i64 n] w fun r w'=>∃ v',r=.returned (.tuple #[v',.int .i64 (dZ (bev bs) n)])/\Row .u64 w' v' (eR (bev bs) n)/\(∀ b,v'.ownBlock=some b->w.heap.size<=b)/\Kept aa w w':=by
 refine (LA v bs n w h hd).mono ?_;rintro e w' ⟨v',he,h1,h2⟩;exact ⟨v',he,Row.of_own h1,fun b hb=>(World.ownsRow.lt h1 b hb).1,h2⟩

attribute [local go_sem] Oper.semAt_some

theorem BA {r:LN} (hr:Digs r 256) {s:Nat} (hs:s<8) (ht:t+s=8*(r.length+1)):bev (x%2^(8-s) :: r)=bev (x :: r)%2^t:=by
 have e:∀ y,bev (y :: r)=y*256^r.length+bev r:=fun y=>by
  have:=oX [y] r;simpa [bev] using this
 have hp:2^t=256^r.length*2^(8-s):=by
  rw [show (256:Nat)=2^8 from rfl,<- aX,<- aO]
  congr 1
  omega
 have hl:=sO hr;have a:0<256^r.length:=aV;rw [e,e,hp,Nat.mod_mul,aD x,iZ,aA hl,gG a,bI hl,aU,aD (x%_)];omega

theorem Bt {s:Nat} (hs:s<8):x &&& (255/2^s)=x%2^(8-s):=by
 have e:255/2^s=2^(8-s)-1:=by
  obtain rfl | rfl | rfl | rfl | rfl | rfl | rfl | rfl:s=0\/s=1\/s=2\/s=3\/s=4\/s=5\/s=6\/s=7:=by omega
  all_goals rfl
 rw [e,Nat.and_two_pow_sub_one_eq_mod]

def rG (t z:Nat) (bs:LN) (k:Nat):Nat:=bev ((bs.drop (k*z)).take z)%2^t

def DrwX (p:OA) (B t z L:Nat) (bs:LN) (N:Nat) (pre:List (Nat × Value)) (x:Nat × Value) (A:World):Prop:=
 x.1=pre.length+1/\(pre.length+1)*z<=bs.length/\(Row .u64 A x.2 (digs (rG t z bs pre.length) L)/\∀ b,x.2.ownBlock=some b->N<=b)/\Lsc A p B (bs.drop ((pre.length+1)*z))

def Lh (p:OA) (B z:Nat) (bs:LN) (s:List (Nat × Value)) (A:World):Prop:=s.length*z<=bs.length/\bs.length<(s.length+1)*z/\Lsc A p B []

theorem DrwX.put {l N:Nat} {a:List (Nat × Value)} {x:Nat × Value} {o:Obj} (o':Obj) (h:DrwX p B t z L bs N a x A) (hl:A.heap[l]? = some o) (ho:o.isCells=false):DrwX p B t z L bs N a x (A.putObj l o'):=
 ⟨h.1,h.2.1,⟨tI o' h.2.2.1.1 hl ho,h.2.2.1.2⟩,h.2.2.2.put o' hl ho⟩

theorem Ih (p:OA) (t n:Nat) (w:World) (ht:t<=1000000) :
  ClZ 131 #[.pointer p,.int .i64 (t:Int),.int .i64 (n:Int)] w fun e w'=>e=.returned (.func (.func 192) #[] #[.pointer (some ⟨w.heap.size,0,none⟩),.pointer (some ⟨w.heap.size+3,0,none⟩),.pointer (some ⟨w.heap.size+1,0,none⟩),.pointer (some ⟨w.heap.size+2,0,none⟩)]) /\
   Boxed w' w.heap.size 38 (.pointer p)/\Boxed w' (w.heap.size+1) 3 (.int .i64 (t:Int))/\Boxed w' (w.heap.size+2) 3 (.int .i64 (n:Int))/\Boxed w' (w.heap.size+3) 3 (.int .i64 ((t+7)/8:Nat))/\Kept aa w w'/\w'.heap.size=w.heap.size+4:=by
 obtain ⟨z,hz⟩:=aj ((t+7)/8)
 rw [<- hz];have g1:((t:Int)+8-1)/8=(z:Int):=by omega
 have g2:((t:Int)+8-1).tdiv 8=(z:Int):=by rw [Int.tdiv_eq_ediv_of_nonneg (by omega)];exact g1
 have b0:=(((Boxed.new w 38 (.pointer p)).alloc (.cells #[.int .i64 (t:Int)] 3)).alloc (.cells #[.int .i64 (n:Int)] 3)).alloc (.cells #[.int .i64 (z:Int)] 3);have b1:=((Boxed.new (w.alloc (.cells #[.pointer p] 38)) 3 (.int .i64 (t:Int))).alloc (.cells #[.int .i64 (n:Int)] 3)).alloc (.cells #[.int .i64 (z:Int)] 3);have b2:=(Boxed.new ((w.alloc (.cells #[.pointer p] 38)).alloc (.cells #[.int .i64 (t:Int)] 3)) 3 (.int .i64 (n:Int))).alloc (.cells #[.int .i64 (z:Int)] 3);have b3:=Boxed.new (((w.alloc (.cells #[.pointer p] 38)).alloc (.cells #[.int .i64 (t:Int)] 3)).alloc (.cells #[.int .i64 (n:Int)] 3)) 3 (.int .i64 (z:Int));simp only [World.size_alloc] at b1 b2 b3
 have f:=(((Boxed.new (w.alloc (.cells #[.pointer p] 38)) 3 (.int .i64 (t:Int))).alloc (.cells #[.int .i64 (n:Int)] 3)).cell)
 rw [World.size_alloc] at f;have a:=af b0;have b:=af b1;have c:=af b2;have d:=af b3;clear hz b0 b1 b2 b3;delta ClZ;go_in;go_wp2_with fail;go_ret;exact ⟨rfl,a.o,b.o,c.o,d.o,((((ah aa w).alloc _).alloc _).alloc _).alloc _,by simp⟩

structure BtwD (W wr:World) (p:OA) (B z k bp bz bt bn t L:Nat) (bs:LN):Prop where
 few:k*z<=bs.length
 scr:Lsc wr p B (bs.drop (k*z))
 pb:Boxed wr bp 38 (.pointer p)
 zb:Boxed wr bz 3 (.int .i64 (z:Nat))
 tb:Boxed wr bt 3 (.int .i64 (t:Nat))
 nb:Boxed wr bn 3 (.int .i64 (L:Nat))
 size:W.heap.size<=wr.heap.size

theorem BtwD.kept {wr w':World} {k bp bz bt bn:Nat} (b:BtwD W wr p B z k bp bz bt bn t L bs) (kk:Kept S wr w') (hB:∀ x,x<B->¬ S x) (h1:¬ S bp) (h2:¬ S bz) (h3:¬ S bt) (h4:¬ S bn):BtwD W w' p B z k bp bz bt bn t L bs:=
 ⟨b.few,b.scr.kept kk hB,fj b.pb kk h1,fj b.zb kk h2,fj b.tb kk h3,fj b.nb kk h4,aH b.size kk.size⟩

theorem BtwD.next {wr w':World} {k bp bz bt bn:Nat} (b:BtwD W wr p B z k bp bz bt bn t L bs) (kk:Kept S wr w') (hf:(k+1)*z<=bs.length) (hs:Lsc w' p B (bs.drop ((k+1)*z))) (h1:¬ S bp) (h2:¬ S bz) (h3:¬ S bt) (h4:¬ S bn):BtwD W w' p B z (k+1) bp bz bt bn t L bs:=
 ⟨hf,hs,fj b.pb kk h1,fj b.zb kk h2,fj b.tb kk h3,fj b.nb kk h4,aH b.size kk.size⟩

theorem FH (n:Nat) (hn:1<=n) (p:OA) (B t z s L bp bz bt bn:Nat) (bs:LN) (w:World) (Sb:Nat->Prop) (hz:1<=z) (am:t+s=8*z) (ag:s<8) (hL:L<=300) (aI:t<=64*L)
  (I:Lsc w p B bs) (hd:Digs bs 256) (hp:Boxed w bp 38 (.pointer p)) (T:Boxed w bz 3 (.int .i64 (z:Nat))) (S:Boxed w bt 3 (.int .i64 (t:Nat))) (P:Boxed w bn 3 (.int .i64 (L:Nat)))
  (hB:B<=w.heap.size) (lp:B<=bp) (lz:B<=bz) (lt:B<=bt) (ln:B<=bn) (hSb:∀ b,Sb b->B<=b/\b<w.heap.size) (sp:¬ Sb bp) (sz:¬ Sb bz) (st:¬ Sb bt) (sn:¬ Sb bn) :
  Io n prog 192 #[.pointer (some ⟨bp,0,none⟩),.pointer (some ⟨bz,0,none⟩),.pointer (some ⟨bt,0,none⟩),.pointer (some ⟨bn,0,none⟩)] (fun x:Nat × Value=>#[.int .i64 (x.1:Nat),x.2]) (DrwX p B t z L bs w.heap.size) Sb (ofP p) (Lh p B z bs) w:=by
 rintro l J Jx W o ae ai hJ hY h0;have aq:=hp.lt;have au:=T.lt;have ar:=S.lt;have ap:=P.lt;have H0:HzD (BtwD W W p B z 0 bp bz bt bn t L bs):=⟨by omega,by rw [jv];exact I.g o,lu hp o,lu T o,lu S o,lu P o,leR _⟩
 have aM:=I.len;have HD:=af hd;have U:=af h0;have G:HzD (∀ x,ofP p x->x<B):=fun x hx=>(I.inP hx).1
 have c:HzD (B<=w.heap.size/\B<=bp/\B<=bz/\B<=bt/\B<=bn/\bp<w.heap.size/\bz<w.heap.size/\bt<w.heap.size/\bn<w.heap.size/\l=w.heap.size+1/\W.heap.size=w.heap.size+2):=⟨hB,lp,lz,lt,ln,aq,au,ar,ap,ae,ai⟩
 have A:HzD (t+s=8*z/\t<=64*L/\1<=z):=⟨am,aI,hz⟩
 have gs:(8:Int)*(z:Int)-(t:Int)=(s:Int):=by omega
 obtain ⟨y,hy⟩:=aj (255/2^s)
 have gy:(255:Int)/2^s=(y:Int):=by rw [hy];simp
 have aK:y<256:=by rw [hy];exact fF (el _ _) (by omega)
 have HY:=af hy;have T:z<=2401:=by omega
 clear I hd hp S P o h0 hB lp lz lt ln aq au ar ap ae ai hy;refine callsIn_of_wp func192 rfl trivial ?_ rfl;simp only [ntmps192,iW,dg,fC,Nat.reduceAdd,Nat.reduceSub,iS,iT,iV,iU,bY,fI];refine wpIn_wide.2 ?_;go_wp2_with fail;refine (wpIn_wide (n:=n)).1 ?_
 gi_loopw [6] (fun iv wr=>∃ (k:Nat) (m:List (Nat × Value)),iv=.int .i64 ((k+1:Nat):Int)/\HzD (m.length=k)/\HzD (J m wr)/\HzD (BtwD W wr p B z k bp bz bt bn t L bs)) (fun iv _=>1000002-(intOf iv).toNat)
 case atStart=>exact ⟨0,[],rfl,rfl,U.o,H0.o⟩
 case round=>
  clear U H0;obtain ⟨k,m,rfl,HP,HJ,HB⟩:=hrel;obtain ⟨j,hj⟩:=aj (k+1)
  rw [<- hj];have Y:=af hj;have aO:k<=1000000:=by
   have h1:=HB.o.few;have h2:k*1<=k*z:=bD _ A.o.2.2;omega
  have aN:j<=1000001:=by omega
  have gj:IntKind.i64.wrap ((j:Int)+1)=(j:Int)+1:=jN
  clear hj;have J1:=Le p B (bs.drop (k*z)) z wr HB.o.scr;have cp:=HB.o.pb.cell;have cz:=HB.o.zb.cell;by_cases hlen:(bs.drop (k*z)).length<z
  ·have t1:ic (bs.drop (k*z)) (z:Int)=150:=by unfold ic;rw [aJ,bZ]
   have t2:jF (bs.drop (k*z)) (z:Int)=[]:=by unfold jF;rw [aJ];exact kU (by show _<=((z:Int)).toNat;omega)
   rw [t1,t2] at J1;have ax:HzD (bs.length<(k+1)*z):=by unfold HzD;rw [cP] at hlen;rw [lj];have:=HB.o.few;omega
   clear t1 t2 hlen
   gi_wp2_with fail
   refine ⟨trivial,?_⟩;refine (callsIn_wide.2 J1).mono ?_;rintro e w3 ⟨u,rfl,hO,h3,k3⟩;have F:=af (hJ _ _ _ HJ.o (k3.mono fun _ _ e=>.inl e));obtain ⟨xo,xc,rfl⟩:=dI hO;have ay:=af h3;clear J1 hO h3 k3
   gi_wp2_with fail
   refine bodyPost_ret (results_none rfl _ _ _) rfl ?_;exact ⟨⟨_,rfl⟩,.inl ⟨m,⟨by rw [HP.o];exact HB.o.few,by rw [HP.o];exact ax.o,ay.o⟩,F.o⟩⟩
  ·have t1:ic (bs.drop (k*z)) (z:Int)=0:=by unfold ic;rw [aJ,aJ]
   have D:(k+1)*z<=bs.length:=by rw [cP] at hlen;rw [lj];have:=HB.o.few;omega
   have t2:jF (bs.drop (k*z)) (z:Int)=bs.drop ((k+1)*z):=by unfold jF;rw [aJ,jq,lj];rfl
   have t3:jb (bs.drop (k*z)) (z:Int)=(bs.drop (k*z)).take z:=by unfold jb;rw [t1];rfl
   rw [t1,t2,t3] at J1;obtain ⟨x0,tl,E⟩:∃ x0 tl,(bs.drop (k*z)).take z=x0 :: tl:=by
    cases hc:(bs.drop (k*z)).take z with
    | nil=>
     have e1:=congrArg List.length hc;rw [aQ] at e1;have e2:([]:LN).length=0:=rfl;omega
    | cons a b=>exact ⟨a,b,rfl⟩
   have H:Digs (x0 :: tl) 256:=by rw [<- E];exact (HD.o.drop _).take _
   have ak:tl.length+1=z:=by
    have e1:=congrArg List.length E;rw [aQ,dg] at e1;omega
   rw [E] at J1;have an:x0<256:=H.head;have e6:=u8_and_nat x0 y an aK;obtain ⟨q,hq⟩:=aj (x0 &&& y)
   rw [<- hq] at e6;have R:q=x0%2^(8-s):=by rw [hq,HY.o];exact Bt ag
   have aH:q<256:=by rw [R];exact fF (Nat.mod_le _ _) an
   have HV:HzD (bev (q :: tl)=rG t z bs k):=by unfold HzD rG;rw [E,R];exact BA H.tail ag (by rw [ak];exact am)
   have av:HzD (Digs (q :: tl) 256):=fun d hd=>by
    rcases fL.1 hd with rfl | hd
    ·exact aH
    ·exact H.tail d hd
   have v:=af D;clear t1 t2 t3 hlen hq R E H D
   gi_wp2_with fail
   refine ⟨trivial,?_⟩;refine (callsIn_wide.2 J1).mono ?_;rintro e w3 ⟨u,rfl,hO,h3,k3⟩;have F:=af (hJ _ _ _ HJ.o (k3.mono fun _ _ e=>.inl e));have B3:=af (HB.o.next k3 v.o h3 (fun e=>by have:=G.o _ e;have:=c.o;omega) (fun e=>by have:=G.o _ e;have:=c.o;omega) (fun e=>by have:=G.o _ e;have:=c.o;omega) (fun e=>by have:=G.o _ e;have:=c.o;omega));have C:w3.ownsRow wr.heap.size 5 1 u z ((x0 :: tl).map fun a:Nat=>Value.int .u8 (a:Int)):=by
    have:=hO;unfold OwnB OwnN at this;rw [dg,ak] at this;exact this
   obtain ⟨g,i,rfl⟩:∃ g i,u=.slice (some ⟨g,0,none⟩) z i:=by
    rcases C.2 with ⟨_,e⟩ | ⟨g,i,_,e,_⟩
    ·omega
    ·exact ⟨g,i,e⟩
   have aD:w3.cell? ⟨g,0,none⟩=some (.int .u8 (x0:Nat)):=by
    obtain ⟨_,_,_,e,_,_,_,_,Q⟩:=hO.row.open;cases e
    obtain ⟨b',aL,e,hc⟩:=Q 0 (by omega);cases e
    exact hc
   have aE:=C.frozenAt 0;obtain ⟨ac,aF⟩:=C.stored 0 (.int .u8 (q:Int));have aG:=C.lt g rfl;have k4:Kept (fun x=>wr.heap.size<=x) w3 (w3.setCell ⟨g,0,none⟩ (.int .u8 (q:Int))):=(ah _ _).setCell _ (fun _=>aG.1) _;have aa:HzD (Row .u8 (w3.setCell ⟨g,0,none⟩ (.int .u8 (q:Int))) (.slice (some ⟨g,0,none⟩) z i) (q :: tl)):=(OwnB.of (n:=z) (zs:=q :: tl) ac).row;have aC:=B3.o.zb.cell;have aA:=B3.o.tb.cell;have Z:=af k4;clear J1 hO C ac aF h3 k3 k4 cp cz
   gi_wp2_with fail
   gi_region
   have k4:Kept (fun x=>wr.heap.size<=x) w3 (w3.setCell ⟨g,0,none⟩ (.int .u8 (q:Int))).drew:=Z.o.drew;have r4:Row .u8 (w3.setCell ⟨g,0,none⟩ (.int .u8 (q:Int))).drew (.slice (some ⟨g,0,none⟩) z i) (q :: tl):=aa.o.g ((ah _ _).drew);generalize (w3.setCell ⟨g,0,none⟩ (.int .u8 (q:Int))).drew=w4 at *;have h:∀ x,x<w.heap.size->¬ wr.heap.size<=x:=fun x hx=>by have:=c.o;have:=HB.o.size;omega
   have B4:=af (B3.o.kept k4 (fun x hx=>h x (by have:=c.o;omega)) (h _ (by have:=c.o;omega)) (h _ (by have:=c.o;omega)) (h _ (by have:=c.o;omega)) (h _ (by have:=c.o;omega)));have V:=af (hJ _ _ _ F.o (k4.mono fun x _ (e:wr.heap.size<=x)=>.inr (by have:=HB.o.size;omega)));have O:al (rG t z bs k)<=L:=by
    rw [aB];refine bg (aW _ (aV)) ?_;rw [show (18446744073709551616:Nat)=2^64 from rfl,<- aX];exact bi (by omega) A.o.2.1
   have N:=GY (.slice (some ⟨g,0,none⟩) z i) (q :: tl) (L:Int) w4 r4 av.o;rw [HV.o,(tF hL O).1,(tF hL O).2] at N;have az:=B4.o.nb.cell;clear k4 r4 Z aa O aD aE aC aA F B3 h e6
   gi_wp2_with fail
   refine ⟨trivial,?_⟩;refine (callsIn_wide.2 N).mono ?_;rintro e w5 ⟨v5,rfl,r5,f5,k5⟩;have ad:∀ b,v5.ownBlock=some b->w.heap.size<=b:=fun b hb=>by have h1:=f5 b hb;have h2:=B4.o.size;have h3:=c.o;omega
   have B5:=af (B4.o.kept k5 (fun _ _ f=>f) (fun f=>f) (fun f=>f) (fun f=>f) (fun f=>f));have X:=af (hJ _ _ _ V.o k5.any);have ao:DrwX p B t z L bs w.heap.size m (j,v5) w5:=⟨by rw [HP.o];exact Y.o,by rw [HP.o];exact v.o,⟨by rw [HP.o];exact r5,ad⟩,by rw [HP.o];exact B5.o.scr⟩
   obtain ⟨fn,tmps,assign,body,hy,hR⟩:=hY m (j,v5) w5 X.o ao;obtain ⟨xo,xn,xc,rfl,_⟩:=r5.open;clear N r5 f5 ad k5 az ao B4 V
   gi_wp2_with fail
   refine hR.mono ?_;rintro e w6 (⟨rfl,ab,k6⟩ | ⟨rfl,M⟩)
   ·have r:∀ x,x<w.heap.size->¬ Sb x->¬ (Sb x\/x=l\/x+1=l):=fun x hx hs=>by
     have:=c.o;rintro (e | e | e)
     ·exact hs e
     ·omega
     ·omega
    have B6:=af (B5.o.kept k6 (fun x hx=>r x (by have:=c.o;omega) (fun e=>by have:=(hSb x e).1;omega)) (r _ (by have:=c.o;omega) sp) (r _ (by have:=c.o;omega) sz) (r _ (by have:=c.o;omega) st) (r _ (by have:=c.o;omega) sn));have aw:=af ab;clear hR hy ab k6 B5 X r
    gi_wp2_with fail
    go_roundw
    case rel=>exact ⟨k+1,m ++ [(j,Value.slice xo xn xc)],by rw [<- Y.o];first | rfl | (rw [gj];rfl),by unfold HzD;rw [bj,HP.o];rfl,aw,B6⟩
    case measure=>simp [intOf];omega
   ·gi_wp2_with fail
    refine bodyPost_ret (results_none rfl _ _ _) rfl ?_;exact ⟨⟨_,rfl⟩,.inr ⟨_,M⟩⟩

end Go.Proofs.YtpkmoamgpjcdeaaGreatDoor
