/- Put together of: Lsc2 Lsc3 Seq3 Base4 Lays NatB Seq0 NatC NatD NatE NatF NatG NatH NatI Lsc4. -/
import Derived.Test.YtpkmoamgpjcdeaaGreatDoorBY4
import Derived.Shelf.Strconv.Itoa0
import Derived.Lib.ItoaNum
import Derived.Shelf.Strings.BuilderK
import Derived.Shelf.Strings.Repeat
import Derived.Shelf.Small.Wraps
import Derived.Laws.OwnMore

namespace Go.Proofs.YtpkmoamgpjcdeaaGreatDoor
open _root_.Go.Proofs.Tryz
set_option maxRecDepth 100000
set_option maxHeartbeats 4000000
open Go.RowKit
variable {A C W W' w:World} {B L j n r t x z:Nat} {S T:Nat->Prop} {bs zs:LN} {k:IntKind} {p:OA}

theorem Em (B n:Nat) (w:World) :
  ClZ 230 #[.pointer none,.int .i64 (n:Int)] w fun e w'=>∃ u,e=.returned (.tuple #[u,.int .i64 (ie [] n:Nat)])/\Row .u8 w' u (jd [] n)/\Lsc w' none B (jG [] n)/\Kept (ofP none) w w':=by
 have hR:jG [] (n:Int)=[]:=by unfold jG;split <;> simp
 have hL:jd [] (n:Int)=[]:=by unfold jd;split <;> simp
 rw [hR,hL];have J:=IG (.slice none 0 0) [] w (Row.nil _ _) (by simp);by_cases h0:n=0
 ·subst h0;have hE:ie [] ((0:Nat):Int)=0:=rfl;rw [hE];clear hE hR hL;delta ClZ;go_in;go_wp2_with fail;refine J.mono ?_;rintro e w1 ⟨b,rfl,hb,h1,k1⟩;have J2:=El _ _ _ w1 h1;have c:=aa k1;have H1:=aa h1;clear J k1 h1;go_wp2_with fail;refine J2.mono ?_;rintro e w2 ⟨rfl,k2⟩;have d:=aa (c.o.trans k2);have h2:=H1.o.g k2;rcases h2 with ⟨e,_⟩ | ⟨b',v,ps,k,e,ed,h2⟩
  ·cases e
  cases e
  obtain ⟨c0,c1⟩:=h2.cells;have f1:=h2.free;have h3:=h2.put k h2.2.2.1;obtain ⟨d0,d1⟩:=h3.cells;have o:=h2.2.2.2.1;have j:k=ps.length:=by
   have e1:=congrArg List.length ed;rw [cV] at e1;have e2:=h2.2.2.1;have e3:([]:LN).length=0:=rfl;omega
  obtain ⟨ao,L,i,rfl,hL,l,m,g,a⟩:=h2.2.1.open;obtain rfl:k=L:=j.trans hL.o;have f:HzD (Kept (ofP none) w (w2.setCell ⟨b,1,none⟩ (.int .i64 (k:Nat)))):=(d.o.any (S:=ofP none)).setCell _ (fun h=>absurd h (by show ¬ b<w.heap.size;omega)) _;have g1:(k:Int)+0=(k:Int):=by omega
  have g0:(0:Int)<=(k:Int):=by omega
  have g2:(k:Int)<=(i:Int):=by omega
  have p:k<=1000000:=by omega
  have HN:=aa g;clear J2 h2 h3 k2 a g c d H1 ed j hL o hb;cases ao with
  | none=>
   obtain rfl:=HN.o rfl;obtain rfl:k=0:=by omega
   go_wp2_with fail;go_quiet (fail);go_wp2_with fail;go_ret2;exact ⟨_,rfl,Row.nil _ _,.inl ⟨rfl,rfl⟩,f.o.drewN _⟩
  | some ad=>
   by_cases hck:i=k
   ·subst hck;go_wp2_with fail;go_quiet (fail);go_wp2_with fail;go_ret2;exact ⟨_,rfl,mB (fun e=>by cases e) (by unfold maxLen at *;omega),.inl ⟨rfl,rfl⟩,f.o.drewN _⟩
   ·go_wp2_with fail;go_quiet (fail);go_wp2_with fail;go_ret2;exact ⟨_,rfl,mB (fun e=>by cases e) (by unfold maxLen at *;omega),.inl ⟨rfl,rfl⟩,f.o.drewN _⟩
 ·have hE:ie [] (n:Int)=150:=by unfold ie;rw [aK,ai (by simp;omega)]
  rw [hE];have g1:(n:Int) > ((0:Nat):Int):=by omega
  have g2:((0:Nat):Int)<(n:Int):=by omega
  clear hE hR hL;delta ClZ;go_in;go_wp2_with fail;refine J.mono ?_;rintro e w1 ⟨b,rfl,hb,h1,k1⟩;have J2:=El _ _ _ w1 h1;have c:=aa k1;have H1:=aa h1;clear J k1 h1;go_wp2_with fail;refine J2.mono ?_;rintro e w2 ⟨rfl,k2⟩;have d:=aa (c.o.trans k2);have h2:=H1.o.g k2;rcases h2 with ⟨e,_⟩ | ⟨b',v,ps,k,e,ed,h2⟩
  ·cases e
  cases e
  obtain ⟨c0,c1⟩:=h2.cells;have f1:=h2.free;obtain ⟨ao,L,i,rfl,hL,l,m,g,a⟩:=h2.2.1.open;have f:HzD (Kept (ofP none) w (w2.setCell ⟨b,1,none⟩ (.int .i64 (L:Nat)))):=(d.o.any (S:=ofP none)).setCell _ (fun h=>absurd h (by show ¬ b<w.heap.size;omega)) _;clear J2 h2 k2 a g c d H1 ed;go_wp2_with fail;go_ret2;exact ⟨_,rfl,Row.nil _ _,.inl ⟨rfl,rfl⟩,f.o⟩

theorem IH (b B n k:Nat) (v:Value) (ps:LN) (w:World) (h:LscB w b B v ps k) :
  ClZ 230 #[.pointer (some ⟨b,0,none⟩),.int .i64 (n:Int)] w fun e w'=>∃ u,e=.returned (.tuple #[u,.int .i64 (ie (ps.drop k) n:Nat)])/\Row .u8 w' u (jd (ps.drop k) n)/\Lsc w' (some ⟨b,0,none⟩) B (jG (ps.drop k) n)/\Kept (fun x=>x=b) w w':=by
 have J:=El _ _ _ w h.lsc;have H:=aa h;obtain ⟨ao,L,j,rfl,hL,r,s,c,g⟩:=h.2.1.open;have t:k<=L:=by rw [<- hL.o];exact h.2.2.1
 have q:L<=1000000:=by rw [<- hL.o];exact h.2.2.2.1
 have hd:(ps.drop k).length=L-k:=by rw [cV,hL.o]
 rw [hd] at J;obtain ⟨d,l⟩:=aj (L-k)
 rw [<- l] at J hd;by_cases h1:d<n
 ·have e1:ie (ps.drop k) (n:Int)=150:=by unfold ie;rw [aK,cf]
  have e2:jd (ps.drop k) (n:Int)=[]:=by unfold jd;rw [e1];rfl
  have e3:jG (ps.drop k) (n:Int)=ps.drop ps.length:=by
   unfold jG;rw [aK,kU (by rw [hd];show d<=((n:Int)).toNat;omega),kU (leR _)]
  rw [e1,e2,e3];have g1:(n:Int) > (d:Int):=by omega
  have i:=aa hL.o;clear e1 e2 e3 h g c l hd hL;delta ClZ;go_in;go_wp2_with fail;refine J.mono ?_;rintro e w1 ⟨rfl,k1⟩;have H1:=aa (H.o.kept k1 (fun _ _ f=>f));obtain ⟨c0,c1⟩:=H1.o.cells;have f1:=H1.o.free;have HP:=aa (H1.o.put L (by rw [i.o];exact leR _));have HK:=aa ((k1.any (S:=fun x=>x=b)).setCell ⟨b,1,none⟩ (fun _=>rfl) (.int .i64 (L:Nat)));clear J k1;go_wp2_with fail;go_ret2;exact ⟨_,rfl,Row.nil _ _,by rw [i.o];exact HP.o.lsc,HK.o⟩
 ·have e1:ie (ps.drop k) (n:Int)=0:=by unfold ie;rw [aK,aK]
  have e2:jd (ps.drop k) (n:Int)=(ps.drop k).take n:=by unfold jd;rw [e1];rfl
  have e3:jG (ps.drop k) (n:Int)=ps.drop (k+n):=by
   unfold jG;rw [aK,ju];rfl
  rw [e1,e2,e3];obtain ⟨m,hm⟩:=aj (k+n)
  rw [<- hm];have g1:¬ (n:Int) > (d:Int):=by omega
  have g2:¬ (d:Int)<(n:Int):=by omega
  have g3:(k:Int)+(n:Int)=(m:Int):=by omega
  have g4:(k:Int)<=(m:Int):=by omega
  have g5:(m:Int)<=(j:Int):=by omega
  have g6:(0:Int)<=(k:Int):=by omega
  have g7:m-k=n:=by omega
  have p:m<=L:=by omega
  have C:m<=j:=by omega
  have z:k<=m:=by omega
  have i:=aa hL.o;have y:k<=1000000:=by omega
  have A:m<=1000000:=by omega
  have HN:=aa c;have o:=aa (show k+n<=L by omega);clear e1 e2 e3 h g l hd hL hm;delta ClZ;go_in;go_wp2_with fail;refine J.mono ?_;rintro e w1 ⟨rfl,k1⟩;have H1:=aa (H.o.kept k1 (fun _ _ f=>f));obtain ⟨c0,c1⟩:=H1.o.cells;have f1:=H1.o.free;have HP:=aa (H1.o.put m (by rw [i.o];exact p));obtain ⟨d0,d1⟩:=HP.o.cells;have HK:=aa ((k1.any (S:=fun x=>x=b)).setCell ⟨b,1,none⟩ (fun _=>rfl) (.int .i64 (m:Nat)));have HC:=aa (FC HP.o.2.1 o.o);clear J k1;cases ao with
  | none=>
   obtain rfl:=HN.o rfl;obtain rfl:L=0:=by omega
   obtain rfl:m=0:=by omega
   obtain rfl:k=0:=by omega
   obtain rfl:n=0:=by omega
   have a:=aa (HC.o.1 rfl);clear HC c;go_wp2_with fail;go_quiet (fail);go_wp2_with fail;go_ret2;exact ⟨_,rfl,a.o.kept' (S:=af) ((ah _ _).drewN _) (fun _ _ _ f=>f),HP.o.lsc.g ((ah _ _).drewN _),HK.o.drewN _⟩
  | some ad=>
   by_cases hck:j=k
   ·have a:=aa (HC.o.2.1 ad rfl hck);obtain rfl:m=k:=by omega
    obtain rfl:n=0:=by omega
    subst hck;clear HC c;go_wp2_with fail;go_quiet (fail);go_wp2_with fail;go_ret2;exact ⟨_,rfl,a.o.kept' (S:=af) ((ah _ _).drewN _) (fun _ _ _ f=>f),HP.o.lsc.g ((ah _ _).drewN _),HK.o.drewN _⟩
   ·have a:=aa (HC.o.2.2 ad rfl hck);clear HC c;go_wp2_with fail;go_quiet (fail);go_wp2_with fail;go_ret2;exact ⟨_,rfl,a.o.kept' (S:=af) ((ah _ _).drewN _) (fun _ _ _ f=>f),HP.o.lsc.g ((ah _ _).drewN _),HK.o.drewN _⟩

theorem LC (p:OA) (B n:Nat) (bs:LN) (w:World) (h:Lsc w p B bs) :
  ClZ 230 #[.pointer p,.int .i64 (n:Int)] w fun e w'=>∃ u,e=.returned (.tuple #[u,.int .i64 (ie bs n:Nat)])/\Row .u8 w' u (jd bs n)/\Lsc w' p B (jG bs n)/\Kept (ofP p) w w':=by
 rcases h with ⟨rfl,rfl⟩ | ⟨b,v,ps,k,rfl,rfl,h⟩
 ·exact Em B n w
 ·refine (IH b B n k v ps w h).mono ?_;rintro e w' ⟨u,he,h1,h2,h3⟩;exact ⟨u,he,h1,h2,h3.mono fun x _ e=>by cases e;rfl⟩

theorem DB (bs:LN) (n:Nat):ie bs n=0\/ie bs n=150:=by
 unfold ie;rw [aK]
 split <;> simp

theorem DC (bs:LN) (n:Int):(jd bs n).length<=bs.length:=by
 unfold jd
 split
 ·rw [aR];omega
 ·simp

theorem LB (p:OA) (B:Nat) (bs:LN) (n:Int) (w:World) (h:Lsc w p B bs) :
  ClZ 193 #[.pointer p,.int .i64 n] w fun e w'=>∃ u,e=.returned (.tuple #[u,.int .i64 (ie bs n:Nat)])/\OwnB w' w.heap.size u (jd bs n)/\Lsc w' p B (jG bs n)/\Kept (ofP p) w w':=by
 have H:=aa h;by_cases h1:n<0
 ·have e1:ie bs n=1:=by unfold ie;rw [ai h1]
  have e2:jd bs n=[]:=by unfold jd;rw [e1];rfl
  have e3:jG bs n=bs:=by unfold jG;rw [ai h1]
  rw [e1,e2,e3];clear e1 e2 e3 h;delta ClZ;go_in;go_wp2_with fail;go_ret2;exact ⟨_,rfl,OwnB.nil _ _,H.o,ah _ _⟩
 ·obtain ⟨m,rfl⟩:=eN (show 0<=n by omega);have J:=LC p B m bs w h;have hb:=(DC bs (m:Int))
  have f:=h.len;have HE:=DB bs m;have HL:HzD (ie bs (m:Int)≠0->jd bs (m:Int)=[]):=fun e=>ar e
  generalize jd bs (m:Int)=l at *;generalize ie bs (m:Int)=E at *;generalize jG bs (m:Int)=r at *;clear h;delta ClZ;go_in;go_wp2_with fail;refine J.mono ?_;rintro e w1 ⟨u,rfl,hr,a,k1⟩;have J2:=GE u l w1 hr;have HS:=aa a;have HK:=aa k1;obtain ⟨ao,L,d,rfl,_⟩:=hr.open;clear J k1 a hr;rcases HE with rfl | rfl
  ·clear HL;go_wp2_with fail;refine J2.mono ?_;rintro e w2 ⟨u2,rfl,hO,k2⟩;have c:=aa (HS.o.g k2);have HO:=aa (hO.base HK.o.size);have b:=aa (HK.o.trans k2.any);clear J2 k2 hO;go_wp2_with fail;go_ret2;exact ⟨_,rfl,HO.o,c.o,b.o⟩
  ·obtain rfl:=HL.o (by decide);clear J2;go_wp2_with fail;go_ret2;exact ⟨_,rfl,OwnB.nil _ _,HS.o,HK.o⟩

def qO (p:OA) (w:World):Nat:=match p with
 | none=>0
 | some a=>match w.cell? ⟨a.block,0,none⟩,w.cell? ⟨a.block,1,none⟩ with
  | some v,some (.int _ k)=>DO v-k.toNat
  | _,_=>0

theorem Lsc.left (h:Lsc w p B bs):qO p w=bs.length:=by
 rcases h with ⟨rfl,rfl⟩ | ⟨b,v,ps,k,rfl,rfl,h⟩
 ·rfl
 ·obtain ⟨c0,c1⟩:=h.cells;obtain ⟨_,_,e,_⟩:=h.2.1;unfold qO;simp only [c0,c1];rw [e,cV];rfl

open Go.RowKit Go.Shelf

def LowT {β:Type} (B:Nat) (T:Nat->Prop) (J:β->World->Prop):Prop:=∀ s A C,J s A->Kept (fun x=>T x\/B<=x) A C->J s C

theorem uj (h:Below B A C):Kept (fun x=>T x\/B<=x) A C:=
 ⟨h.os,h.tape,h.output,h.size,fun i _ hs=>h.block i (Nat.lt_of_not_le fun e=>hs (.inr e))⟩

theorem LowT.below {β:Type} {J:β->World->Prop} (h:LowT B T J) {s:β} (j:J s A) (k:Below B A C):J s C:=h s A C j (uj k)

def Gg {β:Type} (B:Nat) (J:β->World->Prop):Prop:=∀ s A l o o',J s A->B<=l->A.heap[l]? = some o->o.isCells=false->J s (A.putObj l o')

def IN {α:Type} (n:Nat) (P:Program) (g:Nat) (lb:Array Value) (encs:α->Array Value) (X:List α->α->World->Prop) (Sb T:Nat->Prop) (S:List α->World->Prop) (w:World):Prop:=
 ∀ (l:Nat) (J Jx:List α->World->Prop) (W:World),Kept af w W->l=w.heap.size+1->W.heap.size=w.heap.size+2 ->
  LowT W.heap.size T J ->
  (∀ pre x A,J pre A->X pre x A->YieldAt Fence.wide (n-1) P l (encs x) A fun e C=>
   (e=.returned (.bool true)/\J (pre ++ [x]) C/\Kept (fun b=>Sb b\/b=l\/b+1=l) A C)\/(e=.returned (.bool false)/\Jx (pre ++ [x]) C)) ->
  J [] W ->
  CallsIn Fence.wide n P g (#[.func (.yield l) #[] #[]] ++ lb) W fun e C=>(∃ v,e=.returned v)/\((∃ s,S s C/\J s C)\/∃ s,Jx s C)

theorem rI {α:Type} {P:Program} {g:Operand} {ps:Array Tmp} {assign body:Code} {Q:Exit->Act->World->Prop} {a:Act} (h1:1<=n) {gf:Nat} {lb:Array Value}
  (hg:a.eval g=.func (.func gf) #[] lb) (eg:∀ args w,(callFunc gf args).run P w=.ok (.enter gf args) w)
  {q:α->Array Value} {X:List α->α->World->Prop} {Sb:Nat->Prop} {S:List α->World->Prop} (H:IN (n-1) P gf lb q X Sb T S w) (ae:∀ x,(q x).size=ps.size) (hSb:∀ b,Sb b->b<w.heap.size) (hT:∀ b,T b->b<w.heap.size)
  (hX:∀ m x A l o o',X m x A->A.heap[l]? = some o->o.isCells=false->X m x (A.putObj l o'))
  (I:List α->World->Prop) (Ix:Code->List α->World->Prop) (hI:LowT w.heap.size T I) (M:∀ c,Gg w.heap.size (Ix c)) (hS:Gg w.heap.size S) (h0:I [] w) (a₁:α->Act)
  (y:∀ (l:Nat) (x:α) (W:World) (K:Act->World->Prop),K (a₁ x) W->assign.wpIn (Fence.wide.inRound l) (n-1-1) P (Exit.then K (fun _ _ _=>False)) { tmps:=(ps.zip (q x)).foldl (fun t (p,v)=>t.setIfInBounds p v) a.tmps,defers:=[] } W)
  (hbody:∀ (l:Nat) (m:List α) (x:α) (W:World),I m W->X m x W->body.wpIn (Fence.wide.inRound l) (n-1-1) P (Jt Sb I Ix (m ++ [x]) W) (a₁ x) W)
  (hdone:∀ (D:Nat) (s:List α) (W:World),w.heap.size<=D->S s W->I s W->W.heap[D]? = some (.deferred (some []))->Q .normal { a with defers:={ target:=.collected D,args:=#[] } :: a.defers } W)
  (hstop:∀ (D:Nat) (c:Code) (s:List α) (W:World),w.heap.size<=D->Ix c s W->W.heap[D]? = some (.deferred (some []))->c.wpIn Fence.wide n P Q { a with defers:={ target:=.collected D,args:=#[] } :: a.defers } W) :
  (Code.rangeFunc g ps assign body).wpIn Fence.wide n P Q a w:=by
 refine wpIn_rangeFunc fun fn Y=>?_
 obtain ⟨j,d⟩:=aj (fun st pe=>{ state:=st,pending:=pe,fn,tmps:=a.tmps,params:=ps,assign,body,defers:=w.heap.size }:LoopState->Option Code->Loop)
 obtain ⟨W1,B⟩:=aj ((w.alloc (.deferred (some []))).alloc (.loop (j .ready none)))
 have O:W1.heap.size=w.heap.size+2:=by rw [B];simp
 have N:Kept af w W1:=by rw [B];exact ((ah _ w).alloc _).alloc _
 have U:Books w.heap.size (j .ready none) W1:=by
  rw [B];refine ⟨?_,(Below.heap_alloc _ _ _ (by simp)).trans (World.alloc_heap_new w _)⟩;have:=World.alloc_heap_new (w.alloc (.deferred (some []))) (.loop (j .ready none))
  rwa [World.size_alloc] at this
 refine ⟨w.heap.size+1,[{ target:=.collected w.heap.size,args:=#[] }],W1,{ target:=.fn (.func gf) lb,args:=#[.func (.yield (w.heap.size+1)) #[] #[]] },W1,gf,#[.func (.yield (w.heap.size+1)) #[] #[]] ++ lb,W1,?_,?_,fun _ _=>trivial,?_,fun _=>h1,?_⟩
 ·rw [B,d];exact run_enterLoop_outer _ _ _ _ _
 ·simp only [resolve,hg];simp [go_sem]
 ·simp [invoke,go_sem,eg]
 ·have z:∀ (f:Option Code) (A:World),Books w.heap.size (j .busy none) A->∃ C,(Instr.endRound (w.heap.size+1) f).run P A=.ok (.bool f.isNone) C/\Books w.heap.size (j (if f.isNone then .ready else .done) f) C/\Below w.heap.size A C/\Kept (fun b=>b=w.heap.size+1) A C/\∃ o',C=A.putObj (w.heap.size+1) o':=fun f A hb=>by
   refine ⟨_,run_endRound (P:=P) f hb.1,?_,tw _,qM _ _ _,_,rfl⟩;have:=hb.put { j .busy none with state:=if f.isNone then .ready else .done,pending:=f };rw [d] at this ⊢;exact this
  have E:∀ {β:Type} {J:β->World->Prop} {r:Loop},LowT w.heap.size T J->LowT W1.heap.size T (fun s A=>J s A/\Books w.heap.size r A):=fun hJ s A C h k=>by
   rw [O] at k;refine ⟨hJ s A C h.1 (k.mono (fun x _ e=>?_)),?_⟩
   ·rcases e with e | e
    ·exact .inl e
    ·exact .inr (by omega)
   ·have hl:=h.2.lt;refine ⟨(k.block _ (by omega) ?_).trans h.2.1,(k.block _ (by omega) ?_).trans h.2.2⟩
    all_goals
     rintro (e | e)
     ·have:=hT _ e;omega
     ·omega
  refine (H (w.heap.size+1) (fun s A=>I s A/\Books w.heap.size (j .ready none) A) (fun s A=>∃ c,Ix c s A/\Books w.heap.size (j .done (some c)) A) W1 N rfl O (E hI) ?_ ⟨hI.below h0 (gW N (leR _)),U⟩).mono ?_
  ·rintro m x A ⟨hi,hb⟩ hx;have hy:=run_yield (P:=P) (args:=q x) hb.1 (by rw [d];exact ae x);rw [d] at hy;refine ⟨fn,_,assign,body,hy,roundIn_of_wpIn Y (y _ x A _ ⟨_,run_beginRound hb.1 (by rw [d]),?_⟩)⟩;have V:=hb.put { j .ready none with state:=.busy };have ag:=hX m x A _ _ (.loop { j .ready none with state:=.busy }) hx hb.1 rfl;have Z:=hI.below hi (tw (l:=w.heap.size+1) (.loop { j .ready none with state:=.busy }));have ab:=qM A (w.heap.size+1) (.loop { j .ready none with state:=.busy })
   have F:∀ C,Kept Sb (A.putObj (w.heap.size+1) (.loop { j .ready none with state:=.busy })) C->Books w.heap.size (j .busy none) C:=fun C k=>by
    have:=V.kept k hSb;rw [d] at this ⊢;exact this
   refine wpIn_mono (hbody _ m x _ Z ag) ?_;generalize A.putObj (w.heap.size+1) (.loop { j .ready none with state:=.busy })=A2 at *;have L:∀ (c:Code) (C:World),Kept Sb A2 C->Ix c (m ++ [x]) C->∃ v C',(Instr.endRound (w.heap.size+1) (some c)).run P C=.ok v C'/\((Ending.returned v=.returned (.bool true)/\(I (m ++ [x]) C'/\Books w.heap.size (j .ready none) C')/\Kept (fun b=>Sb b\/b=w.heap.size+1\/b+1=w.heap.size+1) A C')\/(Ending.returned v=.returned (.bool false)/\∃ c,Ix c (m ++ [x]) C'/\Books w.heap.size (j .done (some c)) C')):=fun c C k hc=>by
    obtain ⟨C',hr,G,_,_,o',rfl⟩:=z (some c) C (F C k);exact ⟨_,_,hr,.inr ⟨rfl,c,M c _ _ _ _ o' hc (by omega) (F C k).1 rfl,G⟩⟩
   rintro e a3 C hp;cases e with
   | normal=>
    obtain ⟨k,aa⟩:=hp;obtain ⟨C',hr,G,ad,ac,_⟩:=z none C (F C k);exact ⟨_,_,hr,.inl ⟨rfl,⟨hI.below aa ad,G⟩,((ab.mono (fun _ _ e=>.inr (.inl e))).next k (fun _ _ e=>.inl e)).next ac (fun _ _ e=>.inr (.inl e))⟩⟩
   | ret=>exact L _ C hp.1 hp.2
   | exit i=>exact L _ C hp.1 hp.2
   | goto t=>exact L _ C hp.1 hp.2
   | panic c=>exact hp.elim
   | outgrown=>exact hp.elim
  ·rintro e C ⟨⟨v,rfl⟩,(⟨s,R,hi,hb⟩ | ⟨s,c,hi,hb⟩)⟩
   ·refine ⟨_,_,run_endLoop (P:=P) hb.1 (by rw [d];simp),?_⟩;rw [d] at hb ⊢;exact hdone _ s _ (leR _) (hS _ _ _ _ _ R (by omega) hb.1 rfl) (hI.below hi (tw _)) ((World.putObj_heap_other (by omega)).trans hb.2)
   ·refine ⟨_,_,run_endLoop (P:=P) hb.1 (by rw [d];simp),?_⟩;rw [d] at hb ⊢;exact hstop _ c s _ (leR _) (M c _ _ _ _ _ hi (by omega) hb.1 rfl) ((World.putObj_heap_other (by omega)).trans hb.2)

open Go.Shelf

def Cy:Go.Shelf.Ren:=⟨fun | 129=>149 | n=>n,fun | 53=>24 | 3=>3 | 4=>4 | 46=>95 | 5=>5 | 9=>9 | n=>n,fun n=>n⟩

theorem Hj:Lays.n129 prog Cy:={
 mixed:=by kernel_rfl,
 f129:=func149.trans (congrArg some (by kernel_rfl)),
 t3:=underlying3,
 a3:=Tryz.isAgg3,
 z3:=Tryz.sizeOf3,
 v3:=Tryz.zeroValue3,
 t4:=underlying4,
 a4:=Tryz.isAgg4,
 z4:=Tryz.sizeOf4,
 v4:=Tryz.zeroValue4,
 t5:=underlying5,
 a5:=Tryz.isAgg5,
 z5:=Tryz.sizeOf5,
 v5:=Tryz.zeroValue5,
 t9:=underlying9,
 a9:=Tryz.isAgg9,
 z9:=Tryz.sizeOf9,
 v9:=Tryz.zeroValue9,
 t46:=underlying95,
 a46:=Tryz.isAgg95,
 z46:=Tryz.sizeOf95,
 v46:=Tryz.zeroValue95,
 t53:=underlying24,
 a53:=Tryz.isAgg24,
 z53:=Tryz.sizeOf24,
 v53:=Tryz.zeroValue24 }

theorem zT (v:Value) (zs:LN) (w:World) (h:Row .u64 w v zs) :
  ClZ 97 #[v] w fun r w'=>∃ m v',r=.returned v'/\m<=zs.length/\Row .u64 w v' (zs.take m)/\(∀ i,m<=i->zs.getD i 0=0)/\(m=0\/zs.getD (m-1) 0≠0)/\v'.ownBlock=v.ownBlock/\(∃ ao n c,v=.slice ao n c/\v'=.slice ao m c)/\w'=w:=by
 have hcut:=fun ao n c (e:v=.slice ao n c) m (hm:m<=zs.length)=>(show Row .u64 w (.slice ao n c) zs from e ▸ h).cut hm
 obtain ⟨ao,n,c,rfl,hN,h1,h2,h3,h4⟩:=h.open;have HC:HzD (∀ m,m<=n->Row .u64 w (.slice ao m c) (zs.take m)):=fun m hm=>hcut ao n c rfl m (by have:=hN.o;omega)
 have HL:HzD (∀ i,n<=i->zs.getD i 0=0):=fun i hi=>by have:=hN.o;rw [aA,ip (by omega)];rfl
 clear hcut h h3;delta ClZ;go_in;go_wp2_with fail;go_loop [0] (fun a=>∃ m:Nat,m<=n/\a=.slice ao m c/\HzD (∀ i,m<=i->zs.getD i 0=0)) (fun a=>yv a)
 case atStart=>exact ⟨n,leR _,rfl,HL⟩
 case round=>
  obtain ⟨m,hm,rfl,hz⟩:=hrel;cases m with
  | zero=>
   clear h4;go_wp2;go_ret;exact ⟨0,_,rfl,aQ _,HC.o 0 (aQ _),hz.o,.inl rfl,pW ao 0 n c,⟨ao,n,c,⟨rfl,rfl,rfl⟩,rfl⟩,rfl⟩
  | succ j=>
   obtain ⟨b,off,rfl,hc⟩:=h4 j (by omega);obtain ⟨z,d⟩:=aj (zs.getD j 0)
   rw [<- d] at hc;have HZ:HzD (z=zs.getD j 0):=d;clear d h4;by_cases h0:z=0
   ·have g:((z:Int) == 0)=true:=by simp [h0]
    subst h0;go_wp2;go_round
    case rel=>exact ⟨j,by omega,rfl,fun i hi=>by
     by_cases e:i=j
     ·subst e;exact HZ.o.symm
     ·exact hz.o i (by omega)⟩
    case measure=>simp [yv]
   ·have f:HzD (zs.getD (j+1-1) 0≠0):=by
     unfold HzD;rw [gF,<- HZ.o];exact h0
    have g:((z:Int) == 0)=false:=by simp;omega
    go_wp2;go_ret;exact ⟨j+1,_,rfl,by have:=hN.o;omega,HC.o _ hm,hz.o,.inr f.o,pW _ _ _ _,⟨_,_,_,⟨rfl,rfl,rfl⟩,rfl⟩,rfl⟩

theorem oR {ds:LN} (hd:Digs ds) (ht:iD ds):ds.length=am (val ds):=by
 have h1:=(jm (by omega) hd ht (am (val ds))).2 ((aC _ _).1 (leR _));have h2:=(aC (val ds) ds.length).2 ((jm (by omega) hd ht _).1 (leR _));omega

theorem Gv (v:Value) (xs:LN) (w:World) (h:Row .u64 w v xs) (hd:Digs xs) :
  ClZ 97 #[v] w fun r w'=>∃ v' ys,r=.returned v'/\Row .u64 w v' ys/\Digs ys/\iD ys/\val ys=val xs/\HzD (ys.length=am (val xs))/\ys.length<=xs.length/\v'.ownBlock=v.ownBlock/\w'=w:=by
 refine (zT v xs w h).mono ?_;rintro e w' ⟨m,v',rfl,hm,hr,hz,ht,ho,_,rfl⟩;have e1:=js (B:=18446744073709551616) hm hz;have t1:=jc hm ht;refine ⟨v',xs.take m,rfl,hr,hd.take m,t1,e1,?_,by rw [aR];omega,ho,rfl⟩;have:=oR (hd.take m) t1;rw [e1] at this;exact this

theorem zS (n:Int) (w:World):ClZ 94 #[.int .i64 n] w fun r w'=>r=.returned (.int .i64 (if 300<n then 2 else if n<0 then 1 else 0))/\w'=w:=by
 by_cases h1:300<n
 ·rw [ai h1];delta ClZ;go_in;go_wp2;go_ret;exact ⟨rfl,rfl⟩
 ·rw [ar h1];by_cases h2:n<0
  ·rw [ai h2];delta ClZ;go_in;go_wp2;go_ret;exact ⟨rfl,rfl⟩
  ·rw [ar h2];delta ClZ;go_in;go_wp2;go_ret;exact ⟨rfl,rfl⟩

theorem lQ (x:Nat) (h:x<18446744073709551616):Lib.bitLen x=aN x:=by
 by_cases h0:x=0
 ·subst h0;rfl
 ·obtain ⟨a,b,c⟩:=Lib.bitLenAux_bounds 64 x h h0;unfold Lib.bitLen;have h1:=(bh x _).2 c;have h2:¬ aN x<=Lib.bitLenAux 64 x-1:=fun k=>by have:=(bh x _).1 k;omega
  omega

theorem BU {ys:LN} (hd:Digs ys) (ht:iD ys) (hn:0<ys.length):aN (val ys)=64*(ys.length-1)+aN (ys.getD (ys.length-1) 0):=by
 have e:=bg 18446744073709551616 ys (ys.length-1);have a:ys.drop (ys.length-1)=[ys.getD (ys.length-1) 0]:=by
  rw [eE (by omega),nA (by omega),aA,aS (by omega)];rfl
 rw [a] at e;have b:val (ys.take (ys.length-1))<18446744073709551616^(ys.length-1):=by
  have:=aE (by omega) (hd.take (ys.length-1))
  rwa [aR,fT] at this
 have d:ys.getD (ys.length-1) 0≠0:=by
  rcases ht with h | h
  ·omega
  ·exact h
 simp only [val,df,aV] at e;generalize ys.getD (ys.length-1) 0=y at *;generalize ys.length-1=k at *;generalize val (ys.take k)=L at *;generalize val ys=V at *;have hB:(18446744073709551616:Nat)^k=2^(64*k):=by rw [aW]
 rw [hB] at e b;generalize hM:aN y=M;have h1:y<2^M:=(bh _ _).1 (by omega);have h2:2^(M-1)<=y:=by
  have:¬ aN y<=M-1:=by
   have:0<aN y:=by
    rcases cE (aN y) with z | z
    ·have:=(bh y 0).1 (by omega);omega
    ·exact z
   omega
  have:=mt (bh y (M-1)).2 this;omega
 have f:1<=M:=by
  rcases cE M with z | z
  ·rw [z] at h1;omega
  ·exact z
 have u1:V<2^(64*k+M):=by
  rw [aL];have:2^(64*k)*(y+1)<=2^(64*k)*2^M:=bG _ h1;rw [aJ,bI] at this;omega
 have u2:2^(64*k+(M-1))<=V:=by
  rw [aL];have:2^(64*k)*2^(M-1)<=2^(64*k)*y:=bG _ h2;omega
 have h3:=(bh V _).2 u1;have h4:¬ aN V<=64*k+(M-1):=fun c=>by have:=(bh V _).1 c;omega
 omega

theorem iO (v:Value) (xs:LN) (w:World) (h:Row .u64 w v xs) (hd:Digs xs) (hl:xs.length<=100000000:=by omega) :
  ClZ 93 #[v] w fun r w'=>r=.returned (.int .i64 (aN (val xs):Nat))/\w'=w:=by
 have hN:=Gv v xs w h hd;obtain ⟨R,hR⟩:=aj (aN (val xs))
 rw [<- hR];have HR:HzD (R=aN (val xs)):=hR;clear hR;delta ClZ;go_in;go_wp2_with fail;refine hN.mono ?_;rintro e w' ⟨v',ys,rfl,hr,c,d,hv,_,k,_,rfl⟩;rw [<- hv] at HR;obtain ⟨ao,n,g,rfl,hL,h1,h2,h3,h4⟩:=hr.open;cases n with
 | zero=>
  obtain rfl:ys=[]:=kX hL.o;clear h4 hL;go_wp2;go_ret;exact ⟨by rw [HR.o];rfl,rfl⟩
 | succ j=>
  have hb:=BU c d (by have:=hL.o;omega);have hj:ys.length-1=j:=by have:=hL.o;omega
  rw [hj] at hb;have i:j<100000000:=by have:=hL.o;omega
  obtain ⟨b,off,rfl,hc⟩:=h4 j (by omega);have hy:ys.getD j 0<18446744073709551616:=c.getD (by omega) j;rw [hb] at HR;generalize ys.getD j 0=y at *;have f:aN y<=64:=(bh y 64).2 hy;have a:=Any.bits_Len64 Hj (y:Int) w' (by omega) (by omega);rw [show ((y:Int).toNat)=y from rfl,lQ y hy] at a;clear h4 hb hv hr c d hN h hd;have l:wrap64 ((j:Int)+1-1)=j:=by simp [wrap64];omega
  have m:wrap64 (64*(j:Int)+(aN y:Nat))=64*j+(aN y:Nat):=by simp [wrap64];omega
  generalize aN y=M at *;go_wp2_with fail;refine a.mono ?_;rintro e w' ⟨rfl,rfl⟩;go_wp2;go_ret;exact ⟨by rw [HR.o];simp,rfl⟩

theorem jt (x m:Nat) (hx:x<18446744073709551616):digs x (m+1)=x :: List.replicate m 0:=by
 refine (cS (by omega) (B:=18446744073709551616) (l:=x :: List.replicate m 0) (V:=x) (n:=m+1) ?_ (by simp) ?_).symm
 ·intro d hd;rcases fM.1 hd with rfl | hd
  ·exact hx
  ·rw [ff] at hd;omega
 ·have hz:val (List.replicate m 0)=0:=eY _ (fun d hd=>(ff.1 hd).2);rw [aB (bi hx (by rw [aG];exact Nat.le_mul_of_pos_left _ (aX)))];simp only [val,hz];omega

def Cx:Go.Shelf.Ren:=⟨fun | 122=>98 | 215=>156 | n=>n,fun | 3=>3 | 4=>4 | n=>n,fun n=>n⟩

theorem LV:Lays.n122 prog Cx:={
 mixed:=by kernel_rfl,
 f122:=func98.trans (congrArg some (by kernel_rfl)),
 f215:=func156.trans (congrArg some (by kernel_rfl)),
 t3:=underlying3,
 a3:=Tryz.isAgg3,
 z3:=Tryz.sizeOf3,
 v3:=Tryz.zeroValue3,
 t4:=underlying4,
 a4:=Tryz.isAgg4,
 z4:=Tryz.sizeOf4,
 v4:=Tryz.zeroValue4 }

theorem Gw (x:Nat) (hx:x<18446744073709551616) (n:Int) (w:World) :
  ClZ 106 #[.int .u64 x,.int .i64 n] w fun r w'=>∃ v',r=.returned v'/\Row .u64 w' v' (digs x (jL n))/\Kept af w w':=by
 obtain ⟨i0,c,f,g,i⟩:=info_parts Tryz.info24;obtain ⟨m,hm⟩:∃ m,jL n=m+1:=⟨jL n-1,by unfold jL;omega⟩
 have hb:m+1<=300:=by rw [<- hm];unfold jL;omega
 have hc:min (max n 1) 300=((m+1:Nat):Int):=by rw [<- hm];unfold jL;omega
 rw [hm,jt x m hx];clear hm;delta ClZ;go_in;go_wp2_with (at_make;refine wpList_make_full _ rfl _ _ 23 rfl w.heap.size 24 i0 _ 1 underlying23 c f g _ _ _ _ (m+1) rfl rfl (by first | exact hc | rfl) (by first | exact hc | rfl) (by rw [i];omega) (by unfold maxLen;omega) (leR _) ?_;intro w1 a b;rw [bD] at a;have k1:=bf b;have j:w1.cell? ⟨w.heap.size,0,none⟩=some (.int .u64 0):=(by rw [World.ownsRow.cellAt a 0 (by omega)];rfl);have hf:=World.ownsRow.frozenAt a 0;have d:=(World.ownsRow.stored a 0 (.int .u64 (x:Nat))).1);go_ret;refine ⟨_,rfl,Row.of_own (base:=w.heap.size) (e:=24) ?_,k1.setCell _ (fun h=>by simp at h) _⟩
 simpa [List.replicate_succ] using d

theorem Jz (v:Value) (xs:LN) (i:Int) (w:World) (h:Row .u64 w v xs) (hd:Digs xs) (hi:i<=9223372036854775807:=by omega) :
  ClZ 188 #[v,.int .i64 i] w fun r w'=>r=.returned (.int .u64 (uk (val xs) i:Nat))/\w'=w:=by
 obtain ⟨ao,n,c,rfl,hL,h1,h2,h3,h4⟩:=h.open;by_cases hi0:i<0
 ·rw [show uk (val xs) i=0 from ai hi0];clear h4 h hd;delta ClZ;go_in;go_wp2;go_ret;exact ⟨rfl,rfl⟩
 ·obtain ⟨j,rfl⟩:=eN (show 0<=i by omega);rw [kH,<- oH,dn (by omega) hd];by_cases hlt:j/64<n
  ·obtain ⟨b,off,rfl,hc⟩:=h4 (j/64) hlt;have hx:xs.getD (j/64) 0<18446744073709551616:=hd.getD (by omega) _;clear h4 h hd;generalize xs.getD (j/64) 0=x at *;have g1:(j:Int)/64<(n:Int):=by omega
   have g2:(0:Int)<=(j:Int)/64:=by omega
   have g3:((j:Int)/64).toNat=j/64:=by omega
   have hy:=em x (2^(j%64));have a:HzD (bits .and .u64 ((x:Int)/2^(j%64)) 1=((x/2^(j%64)%2:Nat):Int)):=by
    unfold HzD;have e:(x:Int)/2^(j%64)=((x/2^(j%64):Nat):Int):=by simp
    rw [e];generalize x/2^(j%64)=Y at *;rw [and_one_u64 (Y:Int) (by omega) (by omega)];omega
   clear hy;generalize x/2^(j%64)%2=R at *;delta ClZ;go_in;go_wp2;go_ret;refine ⟨?_,rfl⟩;show Ending.returned (Value.int .u64 (bits .and .u64 ((x:Int)/2^(j%64)) 1))=_
   rw [a.o]
  ·have hz:xs.getD (j/64) 0=0:=by have:=hL.o;rw [aA,ip (by omega)];rfl
   rw [hz,Nat.zero_div];have g1:¬ (j:Int)/64<(n:Int):=by omega
   clear h4 h hd;delta ClZ;go_in;go_wp2;go_ret;exact ⟨rfl,rfl⟩

theorem vw (v:Value) (xs:LN) (n:Int) (w:World) (h:Row .u64 w v xs) (hd:Digs xs) :
  ClZ 203 #[v,.int .i64 n] w fun r w'=>∃ v',r=.returned (.tuple #[v',.int .i64 (ee (val xs) n)])/\Row .u64 w' v' (eP (val xs) n)/\(∀ b,v'.ownBlock=some b->w.heap.size<=b)/\Kept af w w':=by
 obtain ⟨i0,x,G,y,H⟩:=info_parts Tryz.info24;have hE:=zS n w;have hN:=Gv v xs w h hd;by_cases h1:300<n
 ·obtain ⟨e1,e2⟩:=xi (V:=val xs) h1;rw [e1,e2];rw [ai h1] at hE;delta ClZ;go_in;go_wp2_with fail;refine hE.mono ?_;rintro e w' ⟨rfl,rfl⟩;go_wp2;go_ret2;exact ⟨_,rfl,Row.nil _ _,(fun b hb=>by cases hb),ah _ _⟩
 ·rw [ar h1] at hE;by_cases h2:n<0
  ·obtain ⟨e1,e2⟩:=mz (V:=val xs) h1 (.inl h2);rw [e1,e2];rw [ai h2] at hE;delta ClZ;go_in;go_wp2_with fail;refine hE.mono ?_;rintro e w' ⟨rfl,rfl⟩;go_wp2;go_ret2;exact ⟨_,rfl,Row.nil _ _,(fun b hb=>by cases hb),ah _ _⟩
  ·rw [ar h2] at hE;obtain ⟨m,rfl⟩:=eN (show 0<=n by omega);obtain ⟨RC,g⟩:=aj (ee (val xs) (m:Int))
   obtain ⟨RL,i⟩:=aj (eP (val xs) (m:Int))
   rw [<- g,<- i];have HC:HzD (RC=ee (val xs) (m:Int)):=g;have HL:HzD (RL=eP (val xs) (m:Int)):=i;clear g i;delta ClZ;go_in;go_wp2_with fail;refine hE.mono ?_;rintro e w' ⟨rfl,rfl⟩;go_wp2_with fail;refine hN.mono ?_;rintro e w' ⟨v',ys,rfl,hr,E,J,hv,k,_,_,rfl⟩;obtain ⟨ao,q,C,rfl,hL,g1,g2,g3,g4⟩:=hr.open;have hq:q=am (val xs):=by rw [<- hL.o];exact k.o
   by_cases h3:q<=m
   ·obtain ⟨e1,e2⟩:=tL (V:=val xs) (n:=m);have D:¬ (q:Int) > (m:Int):=by omega
    rw [e1] at HC;rw [e2,iN E hv (by rw [hL.o];exact h3)] at HL;obtain ⟨CS,a⟩:=aj (ys.map (fun z:Nat=>Value.int .u64 (z:Int)))
    have s:CS.length=q:=by rw [a,cJ];exact hL.o
    have B:HzD (CS=ys.map (fun z:Nat=>Value.int .u64 (z:Int))):=a;have d:∀ u ∈ CS,u.oneCell'=true:=by
     intro u hu;rw [a] at hu;obtain ⟨z,_,rfl⟩:=jv.1 hu;rfl
    have f:∀ W,Kept af w' W->0<CS.length->∃ ad,ao=some ad/\∀ j u,CS[j]? = some u->W.cell? (ad.add j)=some u:=by
     intro W hk hp;obtain ⟨b,off,rfl,_⟩:=g4 0 (by omega);refine ⟨_,rfl,fun j u hu=>?_⟩;have hj:j<q:=by
      have:=(nB.1 hu).1;omega
     obtain ⟨b',I,e,hc⟩:=(g4 j hj).g hk;simp only [iI,Addr.mk.injEq] at e;obtain ⟨rfl,rfl,_⟩:=e;rw [a,bV,aS (by rw [hL.o];exact hj)] at hu;rw [show (⟨b,off,none⟩:Addr).add j=⟨b,off+j,none⟩ by simp [Addr.add],hc,<- hu,aA,aS (by rw [hL.o];exact hj)];rfl
    have HP:HzD (∀ W,Kept af w' W->0<CS.length->∃ ad,ao=some ad/\∀ j u,CS[j]? = some u->W.cell? (ad.add j)=some u):=f;have HO:HzD (∀ u ∈ CS,u.oneCell'=true):=d;have o:HzD (CS.length=q):=s;clear a g4 hr hN h hE f d s hq hv e1 e2
    go_wp2_with (at_make;refine wpList_make_full _ rfl _ _ 23 rfl w'.heap.size 24 i0 _ 1 underlying23 x G y _ _ _ _ m rfl rfl rfl rfl (by rw [H];omega) (by unfold maxLen;omega) (leR _) ?_;intro w1 l t;rw [bD] at l;have k1:=bf t;obtain ⟨w2,F,p,k2⟩:=ew (P:=prog) 23 23 3 24 w'.heap.size 0 m m (some ⟨w'.heap.size,0,none⟩) ao q C _ 24 CS underlying23 (by rw [x];simp [y]) (iy l) (by rw [o.o];exact (jw h3).symm) (fun hp=>⟨rfl,HP.o _ k1 hp⟩) (by have:=o.o;simp;omega) HO.o;have A:HzD _:=p;clear p l t);go_ret2;have c:=A.o;rw [B.o,ig] at c;rw [HC.o,HL.o]
    exact ⟨_,rfl,Row.of_block c (by simp [hL.o];omega) (by unfold maxLen;omega),(fun b hb=>by simp [Value.ownBlock] at hb;omega),fH k1 k2 (leR _)⟩
   ·obtain ⟨e1,e2⟩:=mz (V:=val xs) (n:=(m:Int)) (by omega) (.inr (by simp;omega));have D:(q:Int) > (m:Int):=by omega
    rw [e1] at HC;rw [e2] at HL;clear g4 hr hN h hE hq hv;go_wp2;go_ret2;rw [HC.o,HL.o];exact ⟨_,rfl,Row.nil _ _,(fun b hb=>by cases hb),ah _ _⟩

theorem Fm (v:Value) (xs:LN) (n:Int) (w:World) (h:Row .u64 w v xs) (hd:Digs xs) :
  ClZ 203 #[v,.int .i64 n] w fun r w'=>∃ v',r=.returned (.tuple #[v',.int .i64 (ee (val xs) n)])/\Row .u64 w' v' (eP (val xs) n)/\Kept af w w':=
 (vw v xs n w h hd).mono fun _ _ ⟨v',e,hr,_,k⟩=>⟨v',e,hr,k⟩

def KeepB (S:Nat->Prop) (W W':World):Prop:=∀ k,S k->W'.heap[k]? = W.heap[k]?

theorem KeepB.refl (S:Nat->Prop) (W:World):KeepB S W W:=fun _ _=>rfl

theorem KeepB.trans {B:World} (h:KeepB S A B) (k:KeepB S B C):KeepB S A C:=fun i hi=>(k i hi).trans (h i hi)

theorem KeepB.put (hS:∀ k,S k->k<w.heap.size) (W:World) (l:Nat) (o o':Obj) (hl:w.heap.size<=l) (_:W.heap[l]? = some o) (_:o.isCells=false) (_:o.isWalk=false):KeepB S W (W.putObj l o'):=fun k hk=>
 World.putObj_heap_other (fun e=>by have:=hS k hk;omega)

theorem KeepB.cell (h:KeepB S W W') {p:Addr} (hp:S p.block):W'.cell? p=W.cell? p:=World.cell?_of_block (h p.block hp)

theorem KeepB.row {v:Value} (h:KeepB S W W') (hs:∀ b,v.ownBlock=some b->0<zs.length->S b) (hr:Row k W v zs):Row k W' v zs:=by
 obtain ⟨ao,a,rfl,h1,h2,h3,h4⟩:=hr;refine ⟨ao,a,rfl,h1,h2,h3,fun i hi=>?_⟩;obtain ⟨b,off,rfl,hc⟩:=h4 i hi;exact ⟨b,off,rfl,(h.cell (p:=⟨b,off+i,none⟩) (hs b rfl (by omega))).trans hc⟩

theorem Gi {a:Addr} {v:Value} (o:Obj) (h:W.cell? a=some v):(W.alloc o).cell? a=some v:=cell_kept h (World.grownBy_alloc W o none) (fun r e=>by cases e)

theorem ER {a:Addr} {v:Value} (o:Obj) (h:W.cell? a=some v) (hf:W.frozen? a=false):(W.alloc o).frozen? a=false:=(frozen_kept h (World.grownBy_alloc W o none) (fun r e=>by cases e)).trans hf

def Turn (B:Nat) (W W':World):Prop:=∃ row,W.grownBy W' row/\∀ r,row=some r->B<=r/\∃ o:Obj,W.heap[r]? = some o/\o.isCells=false

theorem re {a:Option Nat} {base size:Nat} {e:TypeId} {v:Value} {xs:List Value} (h:W.ownsRow base e size v n xs) (hg:W.grownBy W' a) (hr:∀ r,a=some r->∃ o:Obj,W.heap[r]? = some o/\o.isCells=false):W'.ownsRow base e size v n xs:=by
 refine ⟨h.1,?_⟩;rcases h.2 with h1 | ⟨g,cap,cur,e1,hb,hblk,h4⟩
 ·exact .inl h1
 ·refine .inr ⟨g,cap,cur,e1,hb,?_,h4⟩;rw [hg.block g (mf.1 hblk).1 ?_]
  ·exact hblk
  ·intro e;obtain ⟨o,ho,hc⟩:=hr g e.symm;rw [hblk] at ho;cases ho
   cases hc

theorem xV {a:Option Nat} {t:TypeId} {v:Value} (h:Boxed W B t v) (hg:W.grownBy W' a) (hr:∀ r,a=some r->∃ o:Obj,W.heap[r]? = some o/\o.isCells=false):Boxed W' B t v:=h.kept hg (fun e=>by
 obtain ⟨o,ho,hc⟩:=hr B e.symm;have hb:W.heap[B]? = some _:=h;rw [hb] at ho;cases ho
 cases hc)

theorem Turn.cells (t:Turn B W W') {b:Nat} {c:Array Value} {ty:TypeId} {f:Nat × Nat} (h:W.heap[b]? = some (.cells c ty f)):W'.heap[b]? = some (.cells c ty f):=by
 obtain ⟨a,hg,hr⟩:=t;rw [hg.block b (mf.1 h).1 ?_]
 ·exact h
 ·intro e;obtain ⟨_,o,ho,hc⟩:=hr b e.symm;rw [h] at ho;cases ho
  cases hc

theorem Turn.kept (t:Turn B W W') (k:Kept S w W) (hB:w.heap.size<=B):Kept S w W':=by
 obtain ⟨a,hg,hr⟩:=t;exact k.grown hg (fun b e hb=>by have:=(hr b e).1;omega)

theorem Turn.own (t:Turn B W W') {base size:Nat} {e:TypeId} {v:Value} {xs:List Value} (h:W.ownsRow base e size v n xs):W'.ownsRow base e size v n xs:=by
 obtain ⟨a,hg,hr⟩:=t;exact re h hg (fun r e=>(hr r e).2)

theorem Turn.cell (t:Turn B W W') {a:Addr} {v:Value} (h:W.cell? a=some v):W'.cell? a=some v:=by
 obtain ⟨b,hg,hr⟩:=t;exact cell_kept h hg (fun r e=>(hr r e).2)

theorem Turn.row (t:Turn B W W') {v:Value} (h:Row k W v zs):Row k W' v zs:=by
 obtain ⟨ao,a,rfl,h1,h2,h3,h4⟩:=h;refine ⟨ao,a,rfl,h1,h2,h3,fun i hi=>?_⟩;obtain ⟨b,off,rfl,hc⟩:=h4 i hi;exact ⟨b,off,rfl,t.cell hc⟩

theorem xy {D:Nat} {o:Obj} (hD:B<=D) (hK:W.heap[D]? = some o) (ho:o.isCells=false) (o':Obj):Turn B W (W.putObj D o'):=
 ⟨some D,grownBy_putObj' W D o',fun r e=>by cases e;exact ⟨hD,o,hK,ho⟩⟩

theorem om {β:Type} {I:β->World->Prop} (h:∀ s W W',I s W->Turn B W W'->I s W'):OwnFrom B I:=fun s W W' a hs hg hr=>h s W W' hs ⟨a,hg,hr⟩

theorem l8 (k:Kept S W W') (hS:∀ b,S b->B<=b->∃ c ty f,W.heap[b]? = some (.cells c ty f)):KeepsFrom B W W':=
 ⟨k.size,fun b o hb hk ho=>by
  rw [<- hk];refine k.block b (mf.1 hk).1 (fun hs=>?_);obtain ⟨c,ty,f,h⟩:=hS b hs hb;rw [h] at hk;cases hk
  cases ho⟩

attribute [local go_sem] Oper.semAt_some

def fu (L:Nat) (r:Nat):LN:=(List.range (L-r)).map fun j=>L-1-j

theorem uI (L:Nat):fu L L=[]:=by simp [fu]

theorem lG (h:j<L):fu L j=fu L (j+1) ++ [j]:=by
 unfold fu;rw [show L-j=(L-(j+1))+1 by omega,kZ,dR,List.map_singleton,show L-1-(L-(j+1))=j by omega]

theorem qz (L r:Nat):(fu L r).length=L-r:=by simp [fu]

theorem IU (F:Fence) (n:Nat) (hf:F.fn 157) (A:F.round=none) (hn:1<=n) (l Bs L:Nat) (g:Nat->Nat) (v:Value) (zs:LN) (hL:HzD (zs.length=L)) (hg:HzD (∀ j,zs.getD j 0=g j)) (S:Nat->Prop) (hS:S Bs) (w:∀ b,v.ownBlock=some b->0<L->S b)
  (J Jx:List (Fin L)->World->Prop)
  (hY:∀ a (x:Fin L) W,J a W->a.length<L->YieldAt F (n-1) prog l #[.int .i64 (x.val:Nat),.int .u64 (g x.val:Nat)] W fun e W'=>
   (e=.returned (.bool true)/\J (a ++ [x]) W'/\KeepB S W W')\/(e=.returned (.bool false)/\Jx (a ++ [x]) W'))
  (W:World) (s:W.cell? ⟨Bs,0,none⟩=some v) (hr:Row .u64 W v zs) (h0:J [] W) :
  CallsIn F n prog 157 #[.func (.yield l) #[] #[],.pointer (some ⟨Bs,0,none⟩)] W fun e W'=>(∃ v,e=.returned v) /\
   ((∃ ys,ys.map Fin.val=fu L 0/\J ys W')\/(∃ a,(∃ r,r<L/\a.map Fin.val=fu L r)/\Jx a W')):=by
 obtain ⟨ao,m,B,rfl,hN,c1,c2,c3,f⟩:=hr.open;obtain rfl:m=L:=by rw [<- hN.o];exact hL.o
 have d:HzD (∀ i,i<m->NumAt .u64 W ao zs i):=f;clear f hr;refine callsIn_of_wp func157 rfl hf ?_ A;simp only [ntmps157,iW,dh,fB,Nat.reduceAdd,Nat.reduceSub,iS,iT,iV,iU,bZ,fJ]
 gi_wp2
 gi_loopw [3] (fun i wr=>∃ r:Nat,r<=m/\i=.int .i64 ((r:Int)-1)/\(∃ a:List (Fin m),HzD (a.map Fin.val=fu m r)/\J a wr)/\KeepB S W wr)
  (fun i _=>(intOf i+1).toNat)
 case atStart=>exact ⟨m,leR _,by simp,⟨[],by simp [HzD,uI],h0⟩,KeepB.refl _ _⟩
 case round=>
  obtain ⟨r,hr,rfl,⟨a,c,q⟩,k⟩:=hrel;cases r with
  | zero=>
   gi_wp2
   go_end0
   exact ⟨⟨_,rfl⟩,.inl ⟨a,c.o,q⟩⟩
  | succ j=>
   rw [show (((j+1:Nat):Int)-1)=(j:Int) by omega];obtain ⟨b,off,rfl,hc⟩:=d.o j (by omega);have C:wr.cell? ⟨b,off+j,none⟩=some (.int .u64 (g j:Nat)):=by
    rw [k.cell (p:=⟨b,off+j,none⟩) (w b rfl (by omega)),hc,hg.o]
   have y:=(k.cell (p:=⟨Bs,0,none⟩) hS).trans s;have o:a.length<m:=by
    have:=congrArg List.length c.o;rw [cJ,qz] at this;omega
   obtain ⟨fn,tmps,assign,body,hy,hR⟩:=hY a ⟨j,by omega⟩ wr q o;dsimp only at hy;clear hc d
   gi_wp2
   refine hR.mono ?_;rintro e W3 (⟨rfl,t,z⟩ | ⟨rfl,h⟩)
   ·gi_wp2
    go_roundw
    case rel=>exact ⟨j,by omega,by simp,⟨a ++ [⟨j,by omega⟩],by unfold HzD;rw [dR,c.o,lG (show j<m by omega)];rfl,t⟩,k.trans z⟩
    case measure=>simp [intOf]
   ·gi_wp2
    refine bodyPost_ret (results_none rfl _ _ _) rfl ?_;exact ⟨⟨_,rfl⟩,.inr ⟨_,⟨j,by omega,by rw [dR,c.o,lG (show j<m by omega)];rfl⟩,h⟩⟩

theorem EI (F:Fence) (n:Nat) (h5:F.fn 99) (c:F.round=none) (ao:OA) (b a:Nat) (w:World) :
  CallsIn F n prog 99 #[.slice ao b a] w fun e w'=>e=.returned (.func (.func 157) #[] #[.pointer (some ⟨w.heap.size,0,none⟩)])/\w'=w.alloc (.cells #[.slice ao b a] 23):=by
 refine callsIn_of_wp func99 rfl h5 ?_ c;simp only [ntmps99,iW,dh,fB,Nat.reduceAdd,Nat.reduceSub,iS,iT,iV,iU,bZ,fJ]
 gi_wp2
 go_ret;exact ⟨rfl,rfl⟩

theorem AL (F:Fence) (n:Nat) (hf:F.fn 157) (e:F.round=none) (hn:1<=n) (Bs L:Nat) (g:Nat->Nat) (v:Value) (zs:LN) (hL:zs.length=L) (hg:∀ j,zs.getD j 0=g j) (S:Nat->Prop) (hS:S Bs) (a:∀ b,v.ownBlock=some b->0<L->S b)
  (w:World) (d:∀ k,S k->k<w.heap.size) (c:w.cell? ⟨Bs,0,none⟩=some v) (hr:Row .u64 w v zs) :
  SeqStopsK F n prog 157 #[.pointer (some ⟨Bs,0,none⟩)] (fun x:Fin L=>#[Value.int .i64 (x.val:Nat),Value.int .u64 (g x.val:Nat)]) (KeepB S) (fun ys=>ys.map Fin.val=fu L 0) (fun f=>∃ r,r<L/\f.map Fin.val=fu L r) L w:=fun l J Jx W hW _ _ hY h0=>by
 have hk:KeepB S w W:=fun k hk=>hW.block k (d k hk)
 exact IU F n hf e hn l Bs L g v zs hL hg S hS a J Jx hY W ((hk.cell (p:=⟨Bs,0,none⟩) hS).trans c) (hk.row (fun b hb hp=>a b hb (by omega)) hr) h0

attribute [local go_sem] Oper.semAt_some

theorem CV (ao:OA) (n a:Nat) (xs:LN) (w:World) (h:Row .u64 w (.slice ao n a) xs) (hd:Digs xs) :
  ClZ 97 #[.slice ao n a] w fun r w'=>r=.returned (.slice ao (am (val xs)) a)/\w'=w:=by
 refine (zT _ xs w h).mono ?_;rintro e w' ⟨m,v',rfl,hm,hr,hz,ht,ho,⟨c,n',b,e1,rfl⟩,rfl⟩;have e2:=oR (hd.take m) (jc hm ht);rw [js (B:=18446744073709551616) hm hz,aR,jw hm] at e2;cases e1
 rw [e2];exact ⟨rfl,rfl⟩

theorem kO {xs:LN} (hd:Digs xs):am (val xs)<=xs.length:=(aC _ _).2 (aE (by omega) hd)

theorem sC {xs:LN} (hd:Digs xs):∃ ys,ys=xs.take (am (val xs))/\ys.length=am (val xs)/\Digs ys/\val ys=val xs/\(∀ j,j<am (val xs)->ys.getD j 0=xs.getD j 0):=by
 have hl:=kO hd;refine ⟨_,rfl,by rw [aR];omega,hd.take _,?_,fun j hj=>?_⟩
 ·refine js hl (fun i hi=>?_);rw [<- dn (by omega) hd i];unfold dig;rw [bJ,iw];exact (aC _ _).1 hi
 ·rw [aA,aA,eG,ai hj]

theorem Hq (x y:Nat) (w:World):ClZ 100 #[.int .u64 x,.int .u64 y] w fun r w'=>r=.returned (.int .i64 (cY x y))/\w'=w:=by
 rcases Nat.lt_trichotomy x y with h | h | h
 ·rw [fh h];have h':(x:Int)<(y:Int):=by omega
  delta ClZ;go_in;go_wp2;go_ret;exact ⟨rfl,rfl⟩
 ·rw [jz h];subst h;delta ClZ;go_in;go_wp2;go_ret;exact ⟨rfl,rfl⟩
 ·rw [jA h];have h':¬ (x:Int)<(y:Int):=by omega
  have a:(x:Int) > (y:Int):=by omega
  delta ClZ;go_in;go_wp2;go_ret;exact ⟨rfl,rfl⟩

theorem GQ (x y:Nat):Lib.compareInt (x:Int) (y:Int)=cY x y:=by
 unfold Lib.compareInt cY;by_cases h:x<y
 ·rw [ai h,cf]
 ·rw [ar h,aK];by_cases h2:x=y
  ·rw [ai h2,aK]
  ·rw [ar h2,cf]

theorem AD {A:Nat} (h:am A≠am B):cY (am A) (am B)=cY A B:=by
 rcases Nat.lt_or_gt_of_ne h with k | k
 ·rw [fh k,fh];have h1:=(aC A _).1 (leR _);have h2:¬ am B<=am A:=by omega
  have h3:=mt (aC B (am A)).2 h2;omega
 ·rw [jA k,jA];have h1:=(aC B _).1 (leR _);have h2:¬ am A<=am B:=by omega
  have h3:=mt (aC A (am B)).2 h2;omega

theorem GR {a b:LN} {k:Nat} (ha:Digs a) (hb:Digs b) (hl:a.length=b.length) (hk:k<a.length) (he:∀ j,k<j->j<a.length->a.getD j 0=b.getD j 0) :
  a.getD k 0≠b.getD k 0->cY (a.getD k 0) (b.getD k 0)=cY (val a) (val b):=by
 intro d;have ea:=bg 18446744073709551616 a (k+1);have eb:=bg 18446744073709551616 b (k+1);have c:a.drop (k+1)=b.drop (k+1):=by
  apply List.ext_getElem?;intro i;rw [fd,fd];by_cases hi:k+1+i<a.length
  ·have:=he (k+1+i) (by omega) hi;rw [aA,aA,aS hi,aS (show k+1+i<b.length by omega)] at this;rw [aS hi,aS (show k+1+i<b.length by omega)];exact congrArg some this
  ·rw [ip (by omega),ip (by omega)]
 have ta:a.take (k+1)=a.take k ++ [a.getD k 0]:=by rw [List.take_add_one,aA,aS hk];rfl
 have tb:b.take (k+1)=b.take k ++ [b.getD k 0]:=by rw [List.take_add_one,aA,aS (show k<b.length by omega)];rfl
 rw [ta,dG,aR,fT] at ea;rw [tb,dG,aR,fT,<- c] at eb;have la:val (a.take k)<18446744073709551616^k:=by
  have:=aE (by omega) (ha.take k)
  rwa [aR,fT] at this
 have lb:val (b.take k)<18446744073709551616^k:=by
  have:=aE (by omega) (hb.take k)
  rwa [aR,fT] at this
 generalize a.getD k 0=x at *;generalize b.getD k 0=y at *;generalize 18446744073709551616^(k+1)*val (a.drop (k+1))=H at *;generalize val (a.take k)=p at *;generalize val (b.take k)=q at *;generalize 18446744073709551616^k=M at *;rcases Nat.lt_or_gt_of_ne d with h | h
 ·have:M*(x+1)<=M*y:=bG _ h;rw [aJ,bI] at this;rw [fh h,fh (by omega)]
 ·have:M*(y+1)<=M*x:=bG _ h;rw [aJ,bI] at this;rw [jA h,jA (by omega)]

theorem nT {y:Nat}:cY x y=0↔x=y:=by
 unfold cY;by_cases h:x<y
 ·rw [ai h];constructor <;> intro h2 <;> omega
 ·rw [ar h];by_cases h2:x=y
  ·simp [h2]
  ·rw [ar h2];constructor <;> intro h3 <;> omega

attribute [local go_sem] Oper.semAt_some

theorem uJ:j ∈ fu L r↔r<=j/\j<L:=by
 unfold fu;simp only [jv,j8];constructor
 ·rintro ⟨i,hi,rfl⟩;omega
 ·rintro ⟨h1,h2⟩;exact ⟨L-1-j,by omega,by omega⟩

theorem vk {a:List (Fin L)} (h:a.map Fin.val=fu L r) (h1:r<=j) (h2:j<L):∃ x ∈ a,x.val=j:=by
 have:j ∈ a.map Fin.val:=by rw [h];exact uJ.2 ⟨h1,h2⟩
 simpa using this

theorem AM {a:List (Fin L)} {x:Fin L} (hr:r<L) (h:(a ++ [x]).map Fin.val=fu L r):x.val=r/\a.map Fin.val=fu L (r+1):=by
 rw [lG hr,dR] at h;obtain ⟨h1,h2⟩:=List.append_inj' h (by simp);exact ⟨by simpa using h2,h1⟩

theorem ol (u v:Value) (xs ys:LN) (w:World) (hu:Row .u64 w u xs) (hv:Row .u64 w v ys) (O:Digs xs) (P:Digs ys) :
  ClZ 60 #[u,v] w fun r w'=>r=.returned (.int .i64 (cY (val xs) (val ys)))/\Kept af w w':=by
 obtain ⟨R,hR⟩:=aj (cY (val xs) (val ys))
 rw [<- hR];have HR:HzD (R=cY (val xs) (val ys)):=hR;clear hR;have X:=fun ao n d (e:u=.slice ao n d) W (hk:Kept af w W)=>CV ao n d xs W (e ▸ hu.g hk) O
 have Y:=fun ao n d (e:v=.slice ao n d) W (hk:Kept af w W)=>CV ao n d ys W (e ▸ hv.g hk) P
 obtain ⟨ao,n,d,rfl,ag,c1,c2,c3,aE⟩:=hu.open;obtain ⟨bo,m,a,rfl,ai,d1,d2,d3,aF⟩:=hv.open;have X:=X ao n d rfl;have Y:=Y bo m a rfl;obtain ⟨A,hA,lA,dA,vA,gA⟩:=sC O;obtain ⟨B,hB,lB,dB,vB,gB⟩:=sC P;have rA:Row .u64 w (.slice ao (am (val xs)) d) A:=hA ▸ hu.cut (kO O);have rB:Row .u64 w (.slice bo (am (val ys)) a) B:=hB ▸ hv.cut (kO P);have HW:HzD (cY (am (val xs)) (am (val ys))=0\/cY (am (val xs)) (am (val ys))=R):=by
  unfold HzD;rw [HR.o];by_cases e:am (val xs)=am (val ys)
  ·exact .inl (nT.2 e)
  ·exact .inr (AD e)
 rw [<- vA,<- vB] at HR;clear hA hB gA gB vA vB hu hv aE aF;have w1:am (val xs)<=n:=by have:=kO O;have:=ag.o;omega
 have w2:am (val ys)<=m:=by have:=kO P;have:=ai.o;omega
 clear O P ag ai;generalize am (val xs)=p at *;generalize am (val ys)=q at *;refine (callsIn_wide (n:=9)).1 ?_;refine callsIn_of_wp_marks func60 rfl trivial ?_ rfl;simp only [ntmps60,iW,dh,fB,Nat.reduceAdd,Nat.reduceSub,iS,iT,iV,iU,bZ,fJ];refine wpIn_wide.2 ?_;go_wp2_with fail;have G:Kept af w ((w.alloc (.cells #[.slice bo m a] 23)).alloc (.cells #[.int .i64 0] 3)):=((ah af w).alloc _).alloc _
 have ak:((w.alloc (.cells #[.slice bo m a] 23)).alloc (.cells #[.int .i64 0] 3)).cell? ⟨w.heap.size,0,none⟩=some (.slice bo m a):=((Boxed.new w 23 (.slice bo m a)).alloc _).cell;have aC:((w.alloc (.cells #[.slice bo m a] 23)).alloc (.cells #[.int .i64 0] 3)).frozen? ⟨w.heap.size,0,none⟩=false:=((Boxed.new w 23 (.slice bo m a)).alloc _).frozen;have al:((w.alloc (.cells #[.slice bo m a] 23)).alloc (.cells #[.int .i64 0] 3)).cell? ⟨w.heap.size+1,0,none⟩=some (.int .i64 0):=by have:=(Boxed.new (w.alloc (.cells #[.slice bo m a] 23)) 3 (.int .i64 0)).cell;rwa [World.size_alloc] at this
 have ap:((w.alloc (.cells #[.slice bo m a] 23)).alloc (.cells #[.int .i64 0] 3)).frozen? ⟨w.heap.size+1,0,none⟩=false:=by have:=(Boxed.new (w.alloc (.cells #[.slice bo m a] 23)) 3 (.int .i64 0)).frozen;rwa [World.size_alloc] at this
 have ar:((w.alloc (.cells #[.slice bo m a] 23)).alloc (.cells #[.int .i64 0] 3)).heap.size=w.heap.size+2:=by simp
 generalize hw1:(w.alloc (.cells #[.slice bo m a] 23)).alloc (.cells #[.int .i64 0] 3)=W1 at *;clear hw1
 refine Code.wp_mono (Q:=Exit.then (fun a' w'=>a'={ tmps:=#[.slice ao p d,.slice bo m a,undef,.pointer (some ⟨w.heap.size,0,none⟩),.pointer (some ⟨w.heap.size+1,0,none⟩),undef,undef,undef,undef,.slice ao n d,.slice ao p d,.slice bo m a,.slice bo q a,undef,undef,undef,undef,undef,undef,undef,undef,undef,undef,undef,undef,undef,undef,undef,undef,undef,undef,undef,undef,undef],defers:=[] }/\w'.cell? ⟨w.heap.size,0,none⟩=some (.slice bo q a)/\w'.cell? ⟨w.heap.size+1,0,none⟩=some (.int .i64 0)/\w'.frozen? ⟨w.heap.size+1,0,none⟩=false/\w'.heap.size=w.heap.size+2/\Kept af w w') (fun _ _ _=>False)) ?_ ?_
 ·rintro e a' w' h;cases e with
  | normal=>
   obtain ⟨rfl,az,ac,aB,I,ae⟩:=h;have hC:=Any.cmp_Compare_int LV (p:Int) (q:Int) w';rw [GQ] at hC;clear X Y G ak aC al ap ar;by_cases hpq:p=q
   ·subst hpq;rw [jz rfl] at hC;clear HW;have hD:=callsIn_wide.1 (EI Fence.wide 0 trivial rfl ao p d w');go_wp2_with fail;refine hC.mono ?_;rintro e w3 ⟨rfl,rfl⟩;go_wp2_with fail;refine hD.mono ?_;rintro e w4 ⟨rfl,rfl⟩;clear hC hD;have bN:=Boxed.new w3 23 (.slice ao p d);rw [I] at bN;have z:∀ b,(Value.slice ao p d).ownBlock=some b->0<p->b<w.heap.size:=by
     intro b hb hp;obtain ⟨aJ,n',av,e1,aD,_,_,_,h4⟩:=rA.open;cases e1
     obtain ⟨b',off,rfl,hc⟩:=h4 0 hp;cases hb
     exact World.block_lt_of_cell? w _ hc
    have ay:Below w.heap.size w (w3.alloc (.cells #[.slice ao p d] 23)):=(ae.alloc _).below (leR _) (fun _ f=>f.elim);have aa:=rA.g (ae.alloc (.cells #[.slice ao p d] 23));have Z:HzD (∀ W,Below w.heap.size w W->Row .u64 W (.slice bo p a) B):=fun W hb=>rB.kept (S:=af) ⟨hb.os,hb.tape,hb.output,hb.size,fun k hk _=>hb.block k hk⟩ (fun _ _ f=>f)
    go_wp2_with fail;obtain ⟨g,hg⟩:∃ g:Nat->Nat,∀ j,A.getD j 0=g j:=⟨_,fun _=>rfl⟩
    refine (wpIn_wide (n:=9)).1 ?_;refine wpIn_rangeFunc_ownG (F:=Fence.wide) (n:=9) rfl (by omega) (gf:=157) (lb:=#[.pointer (some ⟨w.heap.size+2,0,none⟩)]) rfl trivial (enters_of func157 (by kernel_rfl) rfl)
     (AL Fence.wide 8 trivial rfl (by omega) (w.heap.size+2) p g (.slice ao p d) A lA hg (fun k=>k=w.heap.size+2\/((Value.slice ao p d).ownBlock=some k/\0<p)) (.inl rfl) (fun b hb hp=>.inr ⟨hb,hp⟩) _ ?hsw bN.cell aa) KeepB.trans (KeepB.put ?hsw2) (Below.refl _ _) (fun _=>rfl)
     (fun L W=>((∀ x ∈ L,g x.val=B.getD x.val 0)/\W.cell? ⟨w.heap.size,0,none⟩=some (.slice bo p a)/\W.cell? ⟨w.heap.size+1,0,none⟩=some (.int .i64 0)/\W.frozen? ⟨w.heap.size+1,0,none⟩=false)/\Below w.heap.size w W)
     (fun c L W=>(c=.ret/\∃ V o,L=V ++ [o]/\(∀ x ∈ V,g x.val=B.getD x.val 0)/\g o.val≠B.getD o.val 0/\W.cell? ⟨w.heap.size+1,0,none⟩=some (.int .i64 (cY (g o.val) (B.getD o.val 0))))/\Below w.heap.size w W)
     (OwnFrom.and (Own.from (fun s A B aI hs hg hr=>⟨hs.1,cell_kept hs.2.1 hg hr,cell_kept hs.2.2.1 hg hr,(frozen_kept hs.2.2.1 hg hr).trans hs.2.2.2⟩) _) (ownFrom_below (leR _) (by simp;omega)))
     (fun c=>OwnFrom.and (Own.from (fun s A B aI hs hg hr=>by obtain ⟨hc,V,o,e1,e2,e3,e4⟩:=hs;exact ⟨hc,V,o,e1,e2,e3,cell_kept e4 hg hr⟩) _) (ownFrom_below (leR _) (by simp;omega)))
     ⟨⟨by simp,Gi _ az,Gi _ ac,ER _ ac aB⟩,ay⟩
     ?act ?assign ?body ?done ?stop
    case hsw=>
     rintro k (rfl | ⟨hk,hp⟩)
     ·simp [I]
     ·have:=z k hk hp;simp [I];omega
    case hsw2=>
     rintro k (rfl | ⟨hk,hp⟩)
     ·simp [I]
     ·have:=z k hk hp;simp [I];omega
    case assign=>
     intro l x W K hK
     gi_wp2
     exact hK
    case body=>
     rintro l L x W ⟨⟨hp,an,E,aq⟩,hB⟩ _;obtain ⟨aK,q',aw,e1,aD,_,_,_,h4⟩:=(Z.o W hB).open;cases e1
     have hx:=x.isLt;obtain ⟨b,off,rfl,hc⟩:=h4 x.val hx;have hN:=Hq (g x.val) (B.getD x.val 0) W;have HP:HzD (∀ x ∈ L,g x.val=B.getD x.val 0):=hp;obtain ⟨yb,J⟩:=aj (B.getD x.val 0)
     rw [<- J] at hN;rw [<- J] at hc;clear h4 hp rA rB Z aa;by_cases he:g x.val=yb
     ·rw [jz he] at hN;have HE:HzD (g x.val=B.getD x.val 0):=by rw [<- J];exact he
      clear J he hg
      gi_wp2_with (refine ⟨trivial,?_⟩;gi_at_call 100;refine (CallsIn.inRound l (callsIn_wide.2 hN)).mono ?_;rintro e w' ⟨rfl,rfl⟩)
      refine ⟨KeepsFrom.refl _ _,KeepB.refl _ _,⟨fun y hy=>?_,an,E,aq⟩,hB⟩;rcases List.mem_append.1 hy with h | h
      ·exact HP.o y h
      ·rw [List.mem_singleton.1 h];exact HE.o
     ·have h0:cY (g x.val) yb≠0:=fun h=>he (nT.1 h)
      have HC:HzD (cY (g x.val) yb=cY (g x.val) (B.getD x.val 0)):=by rw [J];rfl
      have HE:HzD (g x.val≠B.getD x.val 0):=by rw [<- J];exact he
      generalize cY (g x.val) yb=C at *;clear J he hg
      gi_wp2_with (refine ⟨trivial,?_⟩;gi_at_call 100;refine (CallsIn.inRound l (callsIn_wide.2 hN)).mono ?_;rintro e w' ⟨rfl,rfl⟩)
      exact ⟨(KeepsOthers.setCell _ _ _).from _,⟨rfl,L,x,rfl,HP.o,HE.o,by rw [<- HC.o];exact World.cell?_setCell_same _ _ _ E⟩,hB.setCell (p:=⟨w.heap.size+1,0,none⟩) (by simp) _⟩
    case done=>
     rintro D ys W hD au ⟨⟨M,an,E,aq⟩,hB⟩ hK;have ax:A=B:=by
      apply List.ext_getElem
      ·rw [lA,lB]
      ·intro i h1 h2;obtain ⟨x,hx,aG⟩:=vk au (aQ i) (show i<p by omega);have:=M x hx;rw [aG,<- hg,aA,aA,aS h1,aS h2] at this;simpa using this
     rw [ax,jz rfl] at HR;clear M au rA rB Z aa z hg;go_wp2;have ab:=(KeepsOthers.setCell W ⟨w.heap.size+1,0,none⟩ (.int .i64 0)).same D _ hK rfl;refine ⟨by simp,.inl ⟨_,_,rfl,run_takeDeferred ab,?_⟩⟩;have N:=cell_kept (World.cell?_setCell_same W ⟨w.heap.size+1,0,none⟩ (.int .i64 0) E) (grownBy_putObj' _ D (.deferred none)) (fun r e=>by cases e;exact ⟨_,ab,rfl⟩);have t:=(hB.setCell (p:=⟨w.heap.size+1,0,none⟩) (by simp) (.int .i64 0)).trans (belowK_b (w:=w) (leR _) _ D _ (.deferred none) (by simp [I] at hD;omega) ab rfl rfl);refine ⟨.int .i64 0,?_,by rw [HR.o],⟨t.os,t.tape,t.output,t.size,fun k hk _=>t.block k hk⟩⟩;simp [results,Tryz.f60,go_sem,N]
    case stop=>
     rintro D c L W hD ⟨r,hr,U⟩ ⟨⟨rfl,V,o,rfl,e2,e3,E⟩,hB⟩ hK;obtain ⟨H,T⟩:=AM hr U;rw [H,<- hg] at e3 E;have ad:=GR dA dB (by rw [lA,lB]) (show r<A.length by omega) (fun j h1 h2=>by
      obtain ⟨x,hx,aH⟩:=vk T h1 (show j<p by omega);have:=e2 x hx
      rwa [aH,<- hg] at this) e3
     rw [ad,<- HR.o] at E;clear e2 e3 U T H rA rB Z aa z hg
     gi_wp2
     refine ⟨by simp,.inl ⟨_,_,rfl,run_takeDeferred hK,?_⟩⟩;have N:=cell_kept E (grownBy_putObj' _ D (.deferred none)) (fun r e=>by cases e;exact ⟨_,hK,rfl⟩);have t:=hB.trans (belowK_b (w:=w) (leR _) W D _ (.deferred none) (by simp [I] at hD;omega) hK rfl rfl);refine ⟨.int .i64 R,?_,rfl,⟨t.os,t.tape,t.output,t.size,fun k hk _=>t.block k hk⟩⟩;simp [results,Tryz.f60,go_sem,N]
   ·rw [show cY p q=R from HW.o.resolve_left (fun h=>hpq (nT.1 h))] at hC;have aL:R≠0:=by
     rw [<- HW.o.resolve_left (fun h=>hpq (nT.1 h))];exact fun h=>hpq (nT.1 h)
    go_wp2_with fail;refine hC.mono ?_;rintro e w3 ⟨rfl,rfl⟩;go_wp2;have N:=World.cell?_setCell_same w3 ⟨w.heap.size+1,0,none⟩ (.int .i64 R) ac;refine ⟨.int .i64 R,?_,rfl,ae.setCell ⟨w.heap.size+1,0,none⟩ (fun h=>absurd h (by simp)) _⟩;simp [results,Tryz.f60,go_sem,N]
  | _=>exact h.elim
 ·go_region_with (first
   | (go_at_call_of 97 ao;refine (X _ ?_).mono ?_;(first | exact G | exact G.drew | exact G.drewN _);rintro e w' ⟨rfl,rfl⟩)
   | (go_at_call_of 97 bo;refine (Y _ ?_).mono ?_;(first | exact G | exact G.drew | exact G.drewN _);rintro e w' ⟨rfl,rfl⟩))
  all_goals exact ⟨rfl,World.cell?_setCell_same _ _ _ ak,(World.cell?_setCell_other _ _ _ _ (by simp)).trans al,(World.frozen?_setCell _ _ _ _).trans ap,by simpa using ar,(G.setCell ⟨w.heap.size,0,none⟩ (fun h=>absurd h (by simp)) _).drew⟩

attribute [local go_sem] Oper.semAt_some

theorem Db (x y:Nat) (hx:x<72057594037927936) (hy:y<256):bits .or .u64 ((x:Int)*256) (y:Int)=((x*256+y:Nat):Int):=by
 have h:=u64_or_nat (x*256) y (by omega) (by omega);rw [nat_join 8 (x*256) y (by omega) (by omega)] at h;rw [show (x:Int)*256=((x*256:Nat):Int) by omega,h]

theorem BO (m:LN):∀ a,m.foldl (fun a b=>a*256+b) a=a*256^m.length+bev m:=by
 unfold bev
 induction m with
 | nil=>intro a;simp
 | cons x m ih=>
  intro a;rw [List.foldl_cons,ih,List.foldl_cons,ih (0*256+x),dh,aG];simp only [i9,dU,dm,bd,iX,aD 256]

theorem je (l m:LN):bev (l ++ m)=bev l*256^m.length+bev m:=by
 show (l ++ m).foldl _ 0=_
 rw [List.foldl_append,BO];rfl

theorem sV {l:LN} (h:Digs l 256):bev l<256^l.length:=by
 induction l with
 | nil=>simp [bev]
 | cons x m ih=>
  have e:=je [x] m;rw [pI] at e;have hx:=h.head;have hm:=ih h.tail;rw [e,dh,aG];have:(x+1)*256^m.length<=256*256^m.length:=cF _ hx;rw [dm,iG] at this;have e2:bev [x]=x:=by simp [bev]
  rw [e2,aD (256^m.length)];omega

theorem L0 (ao:OA) (a g:Nat) (bs:LN) (w:World) (h:Row .u8 w (.slice ao a g) bs) (hd:Digs bs 256) (hl:a<=8) :
  ClZ 155 #[.slice ao a g] w fun e w'=>e=.returned (.int .u64 (bev bs:Nat))/\w'=w:=by
 obtain ⟨n,m,j,e,hL,_,_,_,d⟩:=h.open;cases e
 have HR:HzD (∀ i,i<a->NumAt .u8 w ao bs i):=d;clear d h;have o:min (a:Int) 8=(a:Int):=by omega
 have c:bs.take a=bs:=by rw [dS];have:=hL.o;omega
 have HA:HzD (bev (bs.take a)=bev bs):=congrArg bev c;clear c;delta ClZ;go_in;go_wp2_with fail;go_loop [3,8] (fun x i=>∃ k:Nat,k<=a/\i=.int .i64 (k:Int)/\∃ t:Nat,HzD (t=bev (bs.take k))/\x=.int .u64 (t:Int)) (fun _ i=>((a:Int)-intOf i).toNat)
 case atStart=>exact ⟨0,by omega,rfl,0,by simp [HzD,bev],rfl⟩
 case round=>
  obtain ⟨k,hk,rfl,t,ht,rfl⟩:=hrel;by_cases hp:k<a
  ·obtain ⟨b,off,rfl,hc⟩:=HR.o k hp;have hz:bs.getD k 0<256:=hd.getD (by omega) k;have l:t<72057594037927936:=by
    rw [ht.o];have h1:=sV (hd.take k);have h2:(256:Nat)^(bs.take k).length<=256^7:=bj (by omega) (by rw [aR];omega);omega
   have hs:HzD (bev (bs.take (k+1))=t*256+bs.getD k 0):=by
    unfold HzD;rw [ht.o];exact mJ (by have:=hL.o;omega)
   generalize bs.getD k 0=z at *;have p:=Db t z l hz;go_wp2_with fail;go_round
   case rel=>exact ⟨k+1,by omega,by go_num,t*256+z,hs.o.symm,rfl⟩
   case measure=>simp [intOf];omega
  ·obtain rfl:k=a:=by omega
   go_wp2_with fail;go_ret;have f:=ht.o.trans HA.o;exact ⟨by rw [f];rfl,rfl⟩

theorem Row.tail {b off m c:Nat} (h:Row k w (.slice (some ⟨b,off,none⟩) (m+1) c) (z :: zs)) (hc:1<c):Row k w (.slice (some ⟨b,off+1,none⟩) m (c-1)) zs:=by
 obtain ⟨ao,d,e,h1,h2,_,h4⟩:=h;cases e
 refine ⟨_,_,rfl,by simp at h1;omega,by omega,(fun e=>by cases e),fun i hi=>?_⟩;obtain ⟨b',f,e,a⟩:=h4 (i+1) (by simp;omega);cases e
 exact ⟨b,off+1,rfl,by rw [show off+1+i=off+(i+1) by omega,a];rfl⟩

theorem Row.none0 (k:IntKind) (w:World) (ao:OA) (a:Nat) (hc:a<=maxLen) (hn:ao=none->a=0):Row k w (.slice ao 0 a) []:=⟨ao,a,rfl,aQ _,hc,hn,fun i hi=>absurd hi (by simp)⟩

theorem Hs (v:Value) (bs:LN) (w:World) (h:Row .u8 w v bs) :
  ClZ 150 #[v,.int .u8 0] w fun r w'=>∃ v',r=.returned v'/\∃ k,Row .u8 w v' (bs.drop k)/\k<=bs.length/\(∀ i,i<k->bs.getD i 0=0)/\(k=bs.length\/bs.getD k 0≠0)/\(v'.ownBlock=v.ownBlock\/v'.ownBlock=none)/\w'=w:=by
 obtain ⟨ob,t⟩:=aj v.ownBlock
 rw [<- t];have E:HzD (v.ownBlock=ob):=t.symm;clear t;obtain ⟨ao,n,H,rfl,hL,h1,h2,h3,_⟩:=h.open;have hr:=h;clear h;delta ClZ;go_in;go_wp2_with fail;go_loop [0] (fun a=>∃ k,HzD (k<=bs.length/\Row .u8 w a (bs.drop k)/\(∀ i,i<k->bs.getD i 0=0)/\a.ownBlock=ob)) (fun a=>yv a)
 case atStart=>exact ⟨0,aQ _,by simpa using hr,fun i hi=>by omega,E.o⟩
 case round=>
  obtain ⟨k,hk⟩:=hrel;obtain ⟨p,c,hz,f⟩:=hk.o;obtain ⟨G,m,o,rfl,hM,g1,g2,g3,g4⟩:=c.open;have HM:HzD (m=bs.length-k):=by have:=hM.o;rw [cV] at this;exact this.symm
  cases m with
  | zero=>
   have C:HzD (k=bs.length):=by have:=HM.o;show k=bs.length;omega
   clear g4 c hr f hz h1 h2 h3 hL hM p;go_wp2;go_ret;obtain ⟨p,c,hz,f⟩:=hk.o;exact ⟨_,rfl,k,by rw [nA (by have:=C.o;omega)];exact Row.nil _ _,p,hz,.inl C.o,.inr rfl,rfl⟩
  | succ j=>
   obtain ⟨b,off,rfl,hc⟩:=g4 0 (by omega);rw [aV] at hc;have B:(bs.drop k).getD 0 0=bs.getD k 0:=by rw [aA,fd,aA];rfl
   rw [B] at hc;have g:k<bs.length:=by have:=HM.o;omega
   have d:bs.drop k=bs.getD k 0 :: bs.drop (k+1):=by rw [eE g,aA,aS g];rfl
   obtain ⟨z,x⟩:=aj (bs.getD k 0)
   rw [<- x] at hc d;rw [d] at c;have HZ:HzD (z=bs.getD k 0):=x;have q:HzD (Row .u8 w (.slice (some ⟨b,off,none⟩) (j+1) o) (z :: bs.drop (k+1))):=c;have y:HzD (k<bs.length):=g;clear x g4 c hr f hz h1 h2 h3 hL hM p B d g;by_cases h0:z=0
   ·subst h0;have l:∀ i,i<k+1->bs.getD i 0=0:=fun i hi=>by
     by_cases e:i=k
     ·subst e;exact HZ.o.symm
     ·exact hk.o.2.2.1 i (by omega)
    have A:HzD (∀ i,i<k+1->bs.getD i 0=0):=l;clear l;by_cases hcap:o=1
    ·obtain rfl:j=0:=by omega
     subst hcap;have s:HzD (bs.drop (k+1)=[]):=by
      show bs.drop (k+1)=[]
      rw [nA];have:=HM.o;omega
     go_wp2;go_round
     case rel=>exact ⟨k+1,y.o,by rw [s.o];exact Row.none0 _ _ _ _ (by unfold maxLen;omega) (fun e=>by cases e),A.o,hk.o.2.2.2⟩
     case measure=>simp [yv]
    ·have F:1<o:=by omega
     go_wp2;go_round
     case rel=>exact ⟨k+1,y.o,q.o.tail F,A.o,hk.o.2.2.2⟩
     case measure=>simp [yv]
   ·have I:((z:Int) == 0)=false:=by simp;omega
    have D:HzD (bs.getD k 0≠0):=by rw [<- HZ.o];exact h0
    go_wp2;go_ret;obtain ⟨p,c,hz,f⟩:=hk.o;exact ⟨_,rfl,k,c,p,hz,.inr D.o,.inl f,rfl⟩

theorem JG (v:Value) (bs:LN) (w:World) (h:Row .u8 w v bs) :
  ClZ 95 #[v,.string { data:=#[0] }] w fun r w'=>∃ v',r=.returned v'/\∃ k,Row .u8 w v' (bs.drop k)/\k<=bs.length/\(∀ i,i<k->bs.getD i 0=0)/\(k=bs.length\/bs.getD k 0≠0)/\(v'.ownBlock=v.ownBlock\/v'.ownBlock=none)/\w'=w:=by
 have hT:=Hs v bs w h;obtain ⟨ao,n,c,rfl,hL,h1,h2,h3,_⟩:=h.open;cases n with
 | zero=>
  have b:bs=[]:=kX hL.o;subst b;clear hT hL h;delta ClZ;go_in;go_wp2_with fail;go_ret;exact ⟨_,rfl,0,Row.nil _ _,leR _,fun i hi=>by omega,.inl rfl,.inr rfl,rfl⟩
 | succ j=>
  clear h;delta ClZ;go_in;go_wp2_with fail;refine hT.mono ?_;rintro e w' ⟨v',rfl,a⟩;go_wp2_with fail;go_ret;exact ⟨v',rfl,a⟩

attribute [local go_sem] Oper.semAt_some

theorem rQ (hd:Digs bs 256) (i:Nat) (h:8*i<bs.length) :
  bev ((bs.drop (bs.length-8*(i+1))).take (bs.length-8*i-(bs.length-8*(i+1))))=dig (bev bs) i:=by
 obtain ⟨s,hs⟩:=aj (bs.length-8*(i+1))
 obtain ⟨e,he⟩:=aj (bs.length-8*i)
 rw [<- hs,<- he];have f:s<e:=by omega
 have d:e<=bs.length:=by omega
 have a:bs=(bs.take s ++ (bs.drop s).take (e-s)) ++ bs.drop e:=by
  rw [dX];have h2:(bs.drop s).take (e-s) ++ bs.drop e=bs.drop s:=by
   have:=kh (e-s) (bs.drop s);rw [ju,show s+(e-s)=e by omega] at this;exact this
  rw [h2,kh]
 have b:bev bs=(bev (bs.take s)*256^(e-s)+bev ((bs.drop s).take (e-s)))*256^(8*i)+bev (bs.drop e):=by
  conv=>lhs;rw [a]
  rw [je,je,aR,cV,cV,fT,show bs.length-e=8*i by omega]
 have h1:bev (bs.drop e)<256^(8*i):=by
  have:=sV (hd.drop e)
  rwa [cV,show bs.length-e=8*i by omega] at this
 have h2:bev ((bs.drop s).take (e-s))<256^(e-s):=by
  have:=sV ((hd.drop s).take (e-s))
  rwa [aR,cV,fT] at this
 have h3:e-s=8\/s=0:=by omega
 have c:e-s<=8:=by omega
 generalize bev ((bs.drop s).take (e-s))=M at *;have hp:(18446744073709551616:Nat)^i=256^(8*i):=by rw [aW]
 unfold dig;rw [hp,b,aD _ (256^(8*i)),gH (aX),bJ h1,aV];rcases h3 with h8 | h0
 ·rw [h8] at h2 ⊢;rw [show (256:Nat)^8=18446744073709551616 from rfl] at h2 ⊢;omega
 ·subst h0;have h4:M<18446744073709551616:=bi h2 (aI (bj (by omega) c) (leR (256^8)));rw [nF,show bev []=0 from rfl,i9,dU,aB h4]

theorem Row.part {b off c s e:Nat} (h:Row k w (.slice (some ⟨b,off,none⟩) n c) zs) (h1:s<e) (h2:e<=n):Row k w (.slice (some ⟨b,off+s,none⟩) (e-s) (c-s)) ((zs.drop s).take (e-s)):=by
 obtain ⟨ao,d,e',c1,c2,_,h4⟩:=h;cases e'
 have hl:((zs.drop s).take (e-s)).length=e-s:=by rw [aR,cV];omega
 refine ⟨_,_,by rw [hl],by omega,by omega,(fun e=>by cases e),fun i hi=>?_⟩;rw [hl] at hi;obtain ⟨b',f,e',a⟩:=h4 (s+i) (by omega);cases e'
 refine ⟨b,off+s,rfl,?_⟩;rw [iX,a,aA,aA,eG,ai hi,fd]

theorem Mk (n:Nat) (hn:1<=n) (l Bs L:Nat) (g:Nat->Nat) (v:Value) (bs:LN) (hd:Digs bs 256) (hL:HzD ((bs.length+7)/8=L)) (hg:HzD (∀ j,dig (bev bs) j=g j)) (S:Nat->Prop) (hS:S Bs) (F:∀ b,v.ownBlock=some b->0<L->S b)
  (J Jx:List (Fin L)->World->Prop)
  (hY:∀ a (x:Fin L) W,J a W->a.length<L->YieldAt Fence.wide (n-1) prog l #[.int .i64 (x.val:Nat),.int .u64 (g x.val:Nat)] W fun e W'=>
   (e=.returned (.bool true)/\J (a ++ [x]) W'/\KeepB S W W')\/(e=.returned (.bool false)/\Jx (a ++ [x]) W'))
  (W:World) (D:W.cell? ⟨Bs,0,none⟩=some v) (hr:Row .u8 W v bs) (h0:J [] W) :
  CallsIn Fence.wide n prog 154 #[.func (.yield l) #[] #[],.pointer (some ⟨Bs,0,none⟩)] W fun e W'=>(∃ v,e=.returned v) /\
   ((∃ ys,ys.map Fin.val=List.range L/\J ys W')\/(∃ a,True/\Jx a W')):=by
 obtain ⟨ao,m,B,rfl,hN,c1,c2,c3,f⟩:=hr.open;have HL:HzD ((m+7)/8=L):=by rw [<- hN.o];exact hL
 have o:HzD (Row .u8 W (.slice ao m B) bs):=hr;have d:HzD (∀ i,i<m->NumAt .u8 W ao bs i):=f;clear f hr hL;refine callsIn_of_wp func154 rfl trivial ?_ rfl;simp only [ntmps154,iW,dh,fB,Nat.reduceAdd,Nat.reduceSub,iS,iT,iV,iU,bZ,fJ]
 gi_wp2
 gi_loopw [3,4] (fun e i wr=>∃ k r:Nat,HzD (k<=L/\r=m-8*k)/\r<=m/\e=.int .i64 (r:Int)/\i=.int .i64 (k:Int)/\(∃ a:List (Fin L),HzD (a.map Fin.val=List.range k)/\J a wr)/\KeepB S W wr)
  (fun e _ _=>(intOf e).toNat)
 case atStart=>exact ⟨0,m,⟨aQ _,by omega⟩,leR _,rfl,rfl,⟨[],by simp [HzD],h0⟩,KeepB.refl _ _⟩
 case round=>
  obtain ⟨k,r,z,M,rfl,rfl,⟨a,c,C⟩,y⟩:=hrel;cases r with
  | zero=>
   have HK:HzD (k=L):=by have h1:=z.o;have h2:=HL.o;show k=L;omega
   gi_wp2
   go_end0
   exact ⟨⟨_,rfl⟩,.inl ⟨a,by rw [c.o,HK.o],C⟩⟩
  | succ q=>
   have w:k<L:=by have h1:=z.o;have h2:=HL.o;omega
   have hq:8*k+(q+1)=m:=by have h1:=z.o;omega
   have I:k<4611686018427387904:=by omega
   obtain ⟨s,hs⟩:=aj (m-8*(k+1):Nat)
   have P:max ((q:Int)+1-8) 0=(s:Int):=by omega
   have N:s<q+1:=by omega
   have O:q+1-s<=8:=by omega
   have HS:HzD (s=m-8*(k+1)):=hs;clear hs;obtain ⟨b,off,rfl,_⟩:=d.o 0 (by omega);have h:=o.o.part N M;have hG:=L0 (some ⟨b,off+s,none⟩) (q+1-s) (B-s) _ wr (y.row (fun b' hb hp=>by cases hb;exact F b rfl (by omega)) h) ((hd.drop s).take _) O;have hw:bev ((bs.drop s).take (q+1-s))=g k:=by
    rw [<- hg.o,<- rQ hd k (by have:=hN.o;omega),hN.o,<- HS.o,show m-8*k=q+1 by omega]
   rw [hw] at hG;have G:=(y.cell (p:=⟨Bs,0,none⟩) hS).trans D;have A:a.length<L:=by
    have:=congrArg List.length c.o;rw [cJ,mn] at this;omega
   obtain ⟨fn,tmps,assign,body,hy,hR⟩:=hY a ⟨k,w⟩ wr C A;dsimp only at hy;clear hw h d hq
   gi_wp2_with fail
   refine ⟨trivial,?_⟩;refine (callsIn_wide.2 hG).mono ?_;rintro e w' ⟨rfl,rfl⟩
   gi_wp2
   refine hR.mono ?_;rintro e W3 (⟨rfl,E,H⟩ | ⟨rfl,t⟩)
   ·gi_wp2
    go_roundw
    case rel=>exact ⟨k+1,s,⟨w,HS.o⟩,by have:=HS.o;omega,rfl,by go_num,⟨a ++ [⟨k,w⟩],by unfold HzD;rw [dR,c.o,kZ];rfl,E⟩,y.trans H⟩
    case measure=>simp [intOf];omega
   ·gi_wp2
    refine bodyPost_ret (results_none rfl _ _ _) rfl ?_;exact ⟨⟨_,rfl⟩,.inr ⟨_,trivial,t⟩⟩

theorem ID (ao:OA) (b a:Nat) (w:World) :
  ClZ 96 #[.slice ao b a] w fun e w'=>e=.returned (.func (.func 154) #[] #[.pointer (some ⟨w.heap.size,0,none⟩)])/\w'=w.alloc (.cells #[.slice ao b a] 28):=by
 delta ClZ;go_in;go_wp2;go_ret;exact ⟨rfl,rfl⟩

theorem Ek (n:Nat) (hn:1<=n) (Bs L:Nat) (g:Nat->Nat) (v:Value) (bs:LN) (hd:Digs bs 256) (hL:(bs.length+7)/8=L) (hg:∀ j,dig (bev bs) j=g j) (S:Nat->Prop) (hS:S Bs) (a:∀ b,v.ownBlock=some b->0<L->S b)
  (w:World) (d:∀ k,S k->k<w.heap.size) (c:w.cell? ⟨Bs,0,none⟩=some v) (hr:Row .u8 w v bs) :
  SeqStopsK Fence.wide n prog 154 #[.pointer (some ⟨Bs,0,none⟩)] (fun x:Fin L=>#[Value.int .i64 (x.val:Nat),Value.int .u64 (g x.val:Nat)]) (KeepB S) (fun ys=>ys.map Fin.val=List.range L) (fun _=>True) L w:=fun l J Jx W hW _ _ hY h0=>by
 have hk:KeepB S w W:=fun k hk=>hW.block k (d k hk)
 exact Mk n hn l Bs L g v bs hd hL hg S hS a J Jx hY W ((hk.cell (p:=⟨Bs,0,none⟩) hS).trans c) (hk.row (fun b hb hp=>a b hb (by omega)) hr) h0

attribute [local go_sem] Oper.semAt_some

theorem BN {k:Nat} (hk:k<=bs.length) (hz:∀ i,i<k->bs.getD i 0=0):bev (bs.drop k)=bev bs:=by
 have h:bev (bs.take k)=0:=by
  have a:∀ d ∈ bs.take k,d=0:=by
   intro d hd;obtain ⟨i,hi,rfl⟩:=List.mem_iff_getElem.1 hd;have b:i<k:=by rw [aR] at hi;omega
   have:=hz i b;rw [aA,aS (by omega)] at this;simpa using this
  have:∀ l:LN,(∀ d ∈ l,d=0)->bev l=0:=by
   intro l
   induction l with
   | nil=>intro _;rfl
   | cons x m ih=>
    intro h;have e:=je [x] m;rw [pI] at e;rw [e,ih (fun d hd=>h d (by simp [hd])),show bev [x]=x by simp [bev],h x (by simp),i9]
  exact this _ a
 have e:=je (bs.take k) (bs.drop k);rw [kh,h,i9,dU] at e;exact e.symm

theorem pE (hd:Digs bs 256) (a:bs.length=0\/bs.getD 0 0≠0) (m:Nat):am (bev bs)<=m↔bs.length<=8*m:=by
 rw [aC];have hp:(18446744073709551616:Nat)^m=256^(8*m):=by rw [aW]
 rw [hp];constructor
 ·intro h;rcases a with h0 | h0
  ·omega
  ·cases bs with
   | nil=>simp
   | cons x t=>
    have hx:x≠0:=by simpa using h0
    have e:=je [x] t;rw [pI,show bev [x]=x by simp [bev]] at e;have h1:1*256^t.length<=x*256^t.length:=cF _ (by omega);have h2:(256:Nat)^t.length<256^(8*m):=by omega
    have:=(Nat.pow_lt_pow_iff_right (by omega:1<256)).1 h2;simp only [dh];omega
 ·intro h;exact bi (sV hd) (bj (by omega) h)

def Put (g:Nat->Nat) (L n:Nat) (pre:List (Fin L)) (zs:LN):Prop:=zs.length=n/\∀ j,zs.getD j 0=if j ∈ pre.map Fin.val then g j else 0

theorem Put.step {g:Nat->Nat} {a:List (Fin L)} (h:Put g L n a zs) (x:Fin L) (hx:x.val<n):Put g L n (a ++ [x]) (zs.set x.val (g x.val)):=by
 refine ⟨by rw [mo];exact h.1,fun j=>?_⟩;rw [aA,List.getElem?_set,dR];by_cases e:x.val=j
 ·subst e;simp [h.1,hx]
 ·rw [ar e,<- aA,h.2 j];have:¬ j=x.val:=fun h=>e h.symm
  simp [this]

theorem Put.all {g:Nat->Nat} {V:Nat} {a:List (Fin L)} (h:Put g L n a zs) (hp:a.map Fin.val=List.range L) (hg:∀ j,dig V j=g j) (hV:am V<=L):zs=digs V n:=by
 apply List.ext_getElem
 ·rw [h.1,ag]
 ·intro i h1 h2;have e:=h.2 i;rw [hp,aA,aS h1,jy] at e;have e2:=jg 18446744073709551616 V n i (by rw [<- h.1];exact h1);rw [aA,aS h2,jy] at e2;rw [e,e2];by_cases hi:i<L
  ·rw [ai (by simpa using hi),hg]
  ·rw [ar (by simpa using hi)];unfold dig;rw [bJ ((aC V i).1 (by omega)),iw]

attribute [local go_sem] Oper.semAt_some

theorem L3 (v:Value) (bs:LN) (n:Int) (w:World) (h:Row .u8 w v bs) (hd:Digs bs 256) :
  ClZ 59 #[v,.int .i64 n] w fun r w'=>∃ v',r=.returned (.tuple #[v',.int .i64 (ee (bev bs) n)])/\OwnN .u64 24 w' w.heap.size v' (eP (bev bs) n).length (eP (bev bs) n)/\Kept af w w':=by
 obtain ⟨i0,ak,an,ap,aq⟩:=info_parts Tryz.info24;have hE:=zS n w;have hT:=JG v bs w h;refine (callsIn_wide (n:=9)).1 ?_;refine callsIn_of_wp_marks func59 rfl trivial ?_ rfl;simp only [ntmps59,iW,dh,fB,Nat.reduceAdd,Nat.reduceSub,iS,iT,iV,iU,bZ,fJ];refine wpIn_wide.2 ?_;obtain ⟨RC,O⟩:=aj (ee (bev bs) n)
 obtain ⟨RL,P⟩:=aj (eP (bev bs) n)
 rw [<- O,<- P];have HC:HzD (RC=ee (bev bs) n):=O;have HL:HzD (RL=eP (bev bs) n):=P;clear O P;by_cases h1:300<n
 ·obtain ⟨e1,e2⟩:=xi (V:=bev bs) h1;rw [e1] at HC;rw [e2] at HL;rw [ai h1] at hE;clear e1 e2 hT;go_wp2_with fail;refine hE.mono ?_;rintro e w' ⟨rfl,rfl⟩;go_wp2;exact ⟨_,results_tmp2 rfl _ _ _,_,by rw [HC.o];rfl,by rw [HL.o];exact World.ownsRow_nil _ _ _ _,ah _ _⟩
 ·rw [ar h1] at hE;by_cases h2:n<0
  ·obtain ⟨e1,e2⟩:=mz (V:=bev bs) h1 (.inl h2);rw [e1] at HC;rw [e2] at HL;rw [ai h2] at hE;clear e1 e2 hT;go_wp2_with fail;refine hE.mono ?_;rintro e w' ⟨rfl,rfl⟩;go_wp2;exact ⟨_,results_tmp2 rfl _ _ _,_,by rw [HC.o];rfl,by rw [HL.o];exact World.ownsRow_nil _ _ _ _,ah _ _⟩
  ·rw [ar h2] at hE;obtain ⟨m,rfl⟩:=eN (show 0<=n by omega);go_wp2_with fail;refine hE.mono ?_;rintro e w' ⟨rfl,rfl⟩;go_wp2_with fail;refine hT.mono ?_;rintro e w' ⟨v',rfl,k,hr,hk,hz,T,al,rfl⟩;have E:=BN hk hz;have Q:=hd.drop k;have o:(bs.drop k).length=0\/(bs.drop k).getD 0 0≠0:=by
    rcases T with e | e
    ·left;rw [cV];omega
    ·right;rw [aA,fd,<- aA];exact e
   have a:=pE Q o m;have X:=(pE Q o (((bs.drop k).length+7)/8)).2 (by omega);rw [<- E] at HC HL;clear hT hE hz T o E hd h hk;generalize bs.drop k=cs at *;clear al;obtain ⟨ao,q,i,rfl,N,g1,g2,g3,g4⟩:=hr.open;rw [N.o] at a;have h8:wrap64 (8*(m:Int))=8*m:=by simp [wrap64];omega
   by_cases h3:q<=8*m
   ·obtain ⟨e1,e2⟩:=tL (V:=bev cs) (n:=m) (by omega) (a.2 h3);rw [e1] at HC;rw [e2] at HL;have ab:¬ (q:Int) > 8*(m:Int):=by omega
    have HW:HzD (am (bev cs)<=(cs.length+7)/8):=X;have av:(cs.length+7)/8<=m:=by have:=N.o;omega
    clear e1 e2 a X;have M:HzD (Row .u8 w' (.slice ao q i) cs):=hr;clear hr;go_wp2_with (at_make;refine wpList_make_full _ rfl _ _ 23 rfl w'.heap.size 24 i0 _ 1 underlying23 ak an ap _ _ _ _ m rfl rfl rfl rfl (by rw [aq];omega) (by unfold maxLen;omega) (leR _) ?_;intro w1 I S;rw [bD] at I;have k1:=bf S);have ae:=lt_of_block (iy I);have Z:HzD _:=I;clear I S;have hD:=ID ao q i (w1.alloc (.cells #[.slice (some ⟨w'.heap.size,0,none⟩) m m] 23));refine hD.mono ?_;rintro e w2 ⟨rfl,rfl⟩;clear hD;have bX:=Boxed.new w1 23 (.slice (some ⟨w'.heap.size,0,none⟩) m m)
    have bN:=Boxed.new (w1.alloc (.cells #[.slice (some ⟨w'.heap.size,0,none⟩) m m] 23)) 28 (.slice ao q i);rw [World.size_alloc] at bN;have kA:=(k1.alloc (.cells #[.slice (some ⟨w'.heap.size,0,none⟩) m m] 23)).alloc (.cells #[.slice ao q i] 28);have ac:=kA.below (leR _) (fun _ f=>f.elim);have y:=M.o.g kA;have t:∀ b,(Value.slice ao q i).ownBlock=some b->0<(cs.length+7)/8->b<w'.heap.size:=by
     intro b hb hp;obtain ⟨b',off,rfl,hc⟩:=g4 0 (by have:=N.o;omega);cases hb
     exact World.block_lt_of_cell? w' _ hc
    clear g4;obtain ⟨g,hg⟩:∃ g:Nat->Nat,∀ j,dig (bev cs) j=g j:=⟨_,fun _=>rfl⟩
    have HG:HzD (∀ j,dig (bev cs) j=g j):=hg;go_wp2_with fail;refine (wpIn_wide (n:=9)).1 ?_;refine wpIn_rangeFunc_ownG (F:=Fence.wide) (n:=9) rfl (by omega) (gf:=154) (lb:=#[.pointer (some ⟨w1.heap.size+1,0,none⟩)]) rfl trivial (enters_of func154 (by kernel_rfl) rfl)
     (Ek 8 (by omega) (w1.heap.size+1) ((cs.length+7)/8) g (.slice ao q i) cs Q rfl hg (fun k=>k=w1.heap.size+1\/((Value.slice ao q i).ownBlock=some k/\0<(cs.length+7)/8)) (.inl rfl) (fun b hb hp=>.inr ⟨hb,hp⟩) _ ?hsw bN.cell y) KeepB.trans (KeepB.put ?hsw2) (Below.refl _ _) (fun _=>rfl)
     (fun J W=>((∃ zs:LN,W.ownsRow w'.heap.size 24 1 (.slice (some ⟨w'.heap.size,0,none⟩) m m) m (zs.map fun z=>.int .u64 (z:Nat))/\Put g ((cs.length+7)/8) m J zs)/\Boxed W w1.heap.size 23 (.slice (some ⟨w'.heap.size,0,none⟩) m m))/\Below w'.heap.size w' W)
     (fun _ _ _=>False)
     (OwnFrom.and (Own.from (fun s A B aw hs hg hr=>⟨by obtain ⟨zs,h1,h2⟩:=hs.1;exact ⟨zs,re h1 hg hr,h2⟩,xV hs.2 hg hr⟩) _) (ownFrom_below (leR _) (by simp;omega)))
     (fun _ _ _ _ _ hs _ _=>hs)
     ⟨⟨⟨List.replicate m 0,World.ownsRow.alloc (World.ownsRow.alloc Z.o _) _,by simp,fun j=>by rw [aA,eF];split <;> simp⟩,bX.alloc _⟩,ac⟩
     ?act ?assign ?body ?done ?stop
    case hsw=>
     rintro k (rfl | ⟨hk,hp⟩)
     ·simp
     ·have:=t k hk hp;simp;omega
    case hsw2=>
     rintro k (rfl | ⟨hk,hp⟩)
     ·simp
     ·have:=t k hk hp;simp;omega
    case assign=>
     intro l x W K hK
     gi_wp2
     exact hK
    case body=>
     rintro l J x W ⟨⟨⟨zs,G,d⟩,H⟩,hB⟩ _;have hx:=x.isLt;have R:x.val<m:=by omega
     have hc:W.cell? ⟨w'.heap.size,x.val,none⟩=some (.int .u64 (zs.getD x.val 0:Nat)):=by
      rw [World.ownsRow.cellAt G x.val (by omega),bV,aS (by rw [d.1];exact R),aA,aS (by rw [d.1];exact R)];rfl
     have hf:=World.ownsRow.frozenAt G x.val;have U:=(World.ownsRow.stored G x.val (.int .u64 (g x.val:Nat))).1;have ad:=H.cell;have L:HzD (Put g ((cs.length+7)/8) m (J ++ [x]) (zs.set x.val (g x.val))):=d.step x R;have aa:HzD (World.ownsRow (W.setCell ⟨w'.heap.size,x.val,none⟩ (.int .u64 (g x.val:Nat))) w'.heap.size 24 1 (.slice (some ⟨w'.heap.size,0,none⟩) m m) m ((zs.map fun z=>.int .u64 (z:Nat)).set x.val (.int .u64 (g x.val:Nat)))):=U;generalize zs.getD x.val 0=old at *;clear U d hg y
     gi_wp2
     refine ⟨(KeepsOthers.setCell _ _ _).from _,?_,⟨⟨zs.set x.val (g x.val),by rw [cG];exact aa.o,L.o⟩,gY H (show w1.heap.size≠w'.heap.size by omega) _⟩,hB.setCell (p:=⟨w'.heap.size,x.val,none⟩) (leR _) _⟩;rintro k (rfl | ⟨hk,hp⟩)
     ·exact Below.heap_setCell W _ _ _ (show w1.heap.size+1≠w'.heap.size by omega)
     ·have:=t k hk hp;exact Below.heap_setCell W _ _ _ (show k≠w'.heap.size by omega)
    case done=>
     rintro D ys W hD Y ⟨⟨⟨zs,G,d⟩,H⟩,hB⟩ hK;have au:=d.all Y HG.o HW.o;subst au;have ad:=H.cell;clear d hg y Y;go_wp2;refine ⟨by simp,.inl ⟨_,_,rfl,run_takeDeferred hK,?_⟩⟩;have C:=hB.trans (belowK_b (w:=w') (leR _) W D _ (.deferred none) (by simp at hD;omega) hK rfl rfl);refine ⟨_,results_tmp2 rfl _ _ _,_,by rw [HC.o];rfl,?_,⟨C.os,C.tape,C.output,C.size,fun k hk _=>C.block k hk⟩⟩;rw [HL.o];rw [ag];exact re G (grownBy_putObj' _ D (.deferred none)) (fun r e=>by cases e;exact ⟨_,hK,rfl⟩)
    case stop=>
     rintro D c J W _ _ h _;exact h.elim
   ·obtain ⟨e1,e2⟩:=mz (V:=bev cs) (n:=(m:Int)) (by omega) (.inr (by simp;omega));rw [e1] at HC;rw [e2] at HL;have ab:(q:Int) > 8*(m:Int):=by omega
    clear e1 e2 a g4 hr;go_wp2;exact ⟨_,results_tmp2 rfl _ _ _,_,by rw [HC.o];rfl,by rw [HL.o];exact World.ownsRow_nil _ _ _ _,ah _ _⟩

theorem Hr (v:Value) (bs:LN) (n:Int) (w:World) (h:Row .u8 w v bs) (hd:Digs bs 256) :
  ClZ 59 #[v,.int .i64 n] w fun r w'=>∃ v',r=.returned (.tuple #[v',.int .i64 (ee (bev bs) n)])/\Row .u64 w' v' (eP (bev bs) n)/\(∀ b,v'.ownBlock=some b->w.heap.size<=b)/\Kept af w w':=by
 refine (L3 v bs n w h hd).mono ?_;rintro e w' ⟨v',he,h1,h2⟩;exact ⟨v',he,Row.of_own h1,fun b hb=>(World.ownsRow.lt h1 b hb).1,h2⟩

attribute [local go_sem] Oper.semAt_some

theorem BP {r:LN} (hr:Digs r 256) {s:Nat} (hs:s<8) (ht:t+s=8*(r.length+1)):bev (x%2^(8-s) :: r)=bev (x :: r)%2^t:=by
 have e:∀ y,bev (y :: r)=y*256^r.length+bev r:=fun y=>by
  have:=ph [y] r;simpa [bev] using this
 have hp:2^t=256^r.length*2^(8-s):=by
  rw [show (256:Nat)=2^8 from rfl,<- aW,<- aL]
  congr 1
  omega
 have hl:=nM hr;have a:0<256^r.length:=aX;rw [e,e,hp,lh,aD x,iZ,aB hl,gH a,bJ hl,aV,aD (x%_)];omega

theorem BI {s:Nat} (hs:s<8):x &&& (255/2^s)=x%2^(8-s):=by
 have e:255/2^s=2^(8-s)-1:=by
  obtain rfl | rfl | rfl | rfl | rfl | rfl | rfl | rfl:s=0\/s=1\/s=2\/s=3\/s=4\/s=5\/s=6\/s=7:=by omega
  all_goals rfl
 rw [e,Nat.and_two_pow_sub_one_eq_mod]

def rL (t z:Nat) (bs:LN) (k:Nat):Nat:=bev ((bs.drop (k*z)).take z)%2^t

def DrwX (p:OA) (B t z L:Nat) (bs:LN) (N:Nat) (pre:List (Nat × Value)) (x:Nat × Value) (A:World):Prop:=
 x.1=pre.length+1/\(pre.length+1)*z<=bs.length/\(Row .u64 A x.2 (digs (rL t z bs pre.length) L)/\∀ b,x.2.ownBlock=some b->N<=b)/\Lsc A p B (bs.drop ((pre.length+1)*z))

def LE (p:OA) (B z:Nat) (bs:LN) (s:List (Nat × Value)) (A:World):Prop:=s.length*z<=bs.length/\bs.length<(s.length+1)*z/\Lsc A p B []

theorem DrwX.put {l N:Nat} {a:List (Nat × Value)} {x:Nat × Value} {o:Obj} (o':Obj) (h:DrwX p B t z L bs N a x A) (hl:A.heap[l]? = some o) (ho:o.isCells=false):DrwX p B t z L bs N a x (A.putObj l o'):=
 ⟨h.1,h.2.1,⟨tO o' h.2.2.1.1 hl ho,h.2.2.1.2⟩,h.2.2.2.put o' hl ho⟩

theorem IF (p:OA) (t n:Nat) (w:World) (ht:t<=1000000) :
  ClZ 131 #[.pointer p,.int .i64 (t:Int),.int .i64 (n:Int)] w fun e w'=>e=.returned (.func (.func 192) #[] #[.pointer (some ⟨w.heap.size,0,none⟩),.pointer (some ⟨w.heap.size+3,0,none⟩),.pointer (some ⟨w.heap.size+1,0,none⟩),.pointer (some ⟨w.heap.size+2,0,none⟩)]) /\
   Boxed w' w.heap.size 38 (.pointer p)/\Boxed w' (w.heap.size+1) 3 (.int .i64 (t:Int))/\Boxed w' (w.heap.size+2) 3 (.int .i64 (n:Int))/\Boxed w' (w.heap.size+3) 3 (.int .i64 ((t+7)/8:Nat))/\Kept af w w'/\w'.heap.size=w.heap.size+4:=by
 obtain ⟨z,hz⟩:=aj ((t+7)/8)
 rw [<- hz];have g1:((t:Int)+8-1)/8=(z:Int):=by omega
 have g2:((t:Int)+8-1).tdiv 8=(z:Int):=by rw [Int.tdiv_eq_ediv_of_nonneg (by omega)];exact g1
 have b0:=(((Boxed.new w 38 (.pointer p)).alloc (.cells #[.int .i64 (t:Int)] 3)).alloc (.cells #[.int .i64 (n:Int)] 3)).alloc (.cells #[.int .i64 (z:Int)] 3);have b1:=((Boxed.new (w.alloc (.cells #[.pointer p] 38)) 3 (.int .i64 (t:Int))).alloc (.cells #[.int .i64 (n:Int)] 3)).alloc (.cells #[.int .i64 (z:Int)] 3);have b2:=(Boxed.new ((w.alloc (.cells #[.pointer p] 38)).alloc (.cells #[.int .i64 (t:Int)] 3)) 3 (.int .i64 (n:Int))).alloc (.cells #[.int .i64 (z:Int)] 3);have b3:=Boxed.new (((w.alloc (.cells #[.pointer p] 38)).alloc (.cells #[.int .i64 (t:Int)] 3)).alloc (.cells #[.int .i64 (n:Int)] 3)) 3 (.int .i64 (z:Int));simp only [World.size_alloc] at b1 b2 b3
 have f:=(((Boxed.new (w.alloc (.cells #[.pointer p] 38)) 3 (.int .i64 (t:Int))).alloc (.cells #[.int .i64 (n:Int)] 3)).cell)
 rw [World.size_alloc] at f;have a:=aa b0;have b:=aa b1;have c:=aa b2;have d:=aa b3;clear hz b0 b1 b2 b3;delta ClZ;go_in;go_wp2_with fail;go_ret;exact ⟨rfl,a.o,b.o,c.o,d.o,((((ah af w).alloc _).alloc _).alloc _).alloc _,by simp⟩

structure BtwD (W wr:World) (p:OA) (B z k bp bz bt bn t L:Nat) (bs:LN):Prop where
 few:k*z<=bs.length
 scr:Lsc wr p B (bs.drop (k*z))
 pb:Boxed wr bp 38 (.pointer p)
 zb:Boxed wr bz 3 (.int .i64 (z:Nat))
 tb:Boxed wr bt 3 (.int .i64 (t:Nat))
 nb:Boxed wr bn 3 (.int .i64 (L:Nat))
 size:W.heap.size<=wr.heap.size

theorem BtwD.kept {wr w':World} {k bp bz bt bn:Nat} (b:BtwD W wr p B z k bp bz bt bn t L bs) (kk:Kept S wr w') (hB:∀ x,x<B->¬ S x) (h1:¬ S bp) (h2:¬ S bz) (h3:¬ S bt) (h4:¬ S bn):BtwD W w' p B z k bp bz bt bn t L bs:=
 ⟨b.few,b.scr.kept kk hB,fm b.pb kk h1,fm b.zb kk h2,fm b.tb kk h3,fm b.nb kk h4,aI b.size kk.size⟩

theorem BtwD.next {wr w':World} {k bp bz bt bn:Nat} (b:BtwD W wr p B z k bp bz bt bn t L bs) (kk:Kept S wr w') (hf:(k+1)*z<=bs.length) (hs:Lsc w' p B (bs.drop ((k+1)*z))) (h1:¬ S bp) (h2:¬ S bz) (h3:¬ S bt) (h4:¬ S bn):BtwD W w' p B z (k+1) bp bz bt bn t L bs:=
 ⟨hf,hs,fm b.pb kk h1,fm b.zb kk h2,fm b.tb kk h3,fm b.nb kk h4,aI b.size kk.size⟩

theorem Gc (n:Nat) (hn:1<=n) (p:OA) (B t z s L bp bz bt bn:Nat) (bs:LN) (w:World) (Sb:Nat->Prop) (hz:1<=z) (al:t+s=8*z) (ag:s<8) (hL:L<=300) (aI:t<=64*L)
  (I:Lsc w p B bs) (hd:Digs bs 256) (hp:Boxed w bp 38 (.pointer p)) (T:Boxed w bz 3 (.int .i64 (z:Nat))) (S:Boxed w bt 3 (.int .i64 (t:Nat))) (P:Boxed w bn 3 (.int .i64 (L:Nat)))
  (hB:B<=w.heap.size) (lp:B<=bp) (lz:B<=bz) (lt:B<=bt) (ln:B<=bn) (hSb:∀ b,Sb b->B<=b/\b<w.heap.size) (sp:¬ Sb bp) (sz:¬ Sb bz) (st:¬ Sb bt) (sn:¬ Sb bn) :
  IN n prog 192 #[.pointer (some ⟨bp,0,none⟩),.pointer (some ⟨bz,0,none⟩),.pointer (some ⟨bt,0,none⟩),.pointer (some ⟨bn,0,none⟩)] (fun x:Nat × Value=>#[.int .i64 (x.1:Nat),x.2]) (DrwX p B t z L bs w.heap.size) Sb (ofP p) (LE p B z bs) w:=by
 rintro l J Jx W o af ai hJ hY h0;have aq:=hp.lt;have au:=T.lt;have ar:=S.lt;have ap:=P.lt;have H0:HzD (BtwD W W p B z 0 bp bz bt bn t L bs):=⟨by omega,by rw [i9];exact I.g o,lw hp o,lw T o,lw S o,lw P o,leR _⟩
 have aM:=I.len;have HD:=aa hd;have U:=aa h0;have G:HzD (∀ x,ofP p x->x<B):=fun x hx=>(I.inP hx).1
 have c:HzD (B<=w.heap.size/\B<=bp/\B<=bz/\B<=bt/\B<=bn/\bp<w.heap.size/\bz<w.heap.size/\bt<w.heap.size/\bn<w.heap.size/\l=w.heap.size+1/\W.heap.size=w.heap.size+2):=⟨hB,lp,lz,lt,ln,aq,au,ar,ap,af,ai⟩
 have A:HzD (t+s=8*z/\t<=64*L/\1<=z):=⟨al,aI,hz⟩
 have gs:(8:Int)*(z:Int)-(t:Int)=(s:Int):=by omega
 obtain ⟨y,hy⟩:=aj (255/2^s)
 have gy:(255:Int)/2^s=(y:Int):=by rw [hy];simp
 have aJ:y<256:=by rw [hy];exact fF (em _ _) (by omega)
 have HY:=aa hy;have T:z<=2401:=by omega
 clear I hd hp S P o h0 hB lp lz lt ln aq au ar ap af ai hy;refine callsIn_of_wp func192 rfl trivial ?_ rfl;simp only [ntmps192,iW,dh,fB,Nat.reduceAdd,Nat.reduceSub,iS,iT,iV,iU,bZ,fJ];refine wpIn_wide.2 ?_;go_wp2_with fail;refine (wpIn_wide (n:=n)).1 ?_
 gi_loopw [6] (fun iv wr=>∃ (k:Nat) (m:List (Nat × Value)),iv=.int .i64 ((k+1:Nat):Int)/\HzD (m.length=k)/\HzD (J m wr)/\HzD (BtwD W wr p B z k bp bz bt bn t L bs)) (fun iv _=>1000002-(intOf iv).toNat)
 case atStart=>exact ⟨0,[],rfl,rfl,U.o,H0.o⟩
 case round=>
  clear U H0;obtain ⟨k,m,rfl,HP,HJ,HB⟩:=hrel;obtain ⟨j,hj⟩:=aj (k+1)
  rw [<- hj];have Y:=aa hj;have aO:k<=1000000:=by
   have h1:=HB.o.few;have h2:k*1<=k*z:=bG _ A.o.2.2;omega
  have aN:j<=1000001:=by omega
  have gj:IntKind.i64.wrap ((j:Int)+1)=(j:Int)+1:=jN
  clear hj;have J1:=LB p B (bs.drop (k*z)) z wr HB.o.scr;have cp:=HB.o.pb.cell;have cz:=HB.o.zb.cell;by_cases hlen:(bs.drop (k*z)).length<z
  ·have t1:ie (bs.drop (k*z)) (z:Int)=150:=by unfold ie;rw [aK,cf]
   have t2:jG (bs.drop (k*z)) (z:Int)=[]:=by unfold jG;rw [aK];exact kU (by show _<=((z:Int)).toNat;omega)
   rw [t1,t2] at J1;have ax:HzD (bs.length<(k+1)*z):=by unfold HzD;rw [cV] at hlen;rw [ll];have:=HB.o.few;omega
   clear t1 t2 hlen
   gi_wp2_with fail
   refine ⟨trivial,?_⟩;refine (callsIn_wide.2 J1).mono ?_;rintro e w3 ⟨u,rfl,hO,h3,k3⟩;have F:=aa (hJ _ _ _ HJ.o (k3.mono fun _ _ e=>.inl e));obtain ⟨xo,xc,rfl⟩:=dK hO;have ay:=aa h3;clear J1 hO h3 k3
   gi_wp2_with fail
   refine bodyPost_ret (results_none rfl _ _ _) rfl ?_;exact ⟨⟨_,rfl⟩,.inl ⟨m,⟨by rw [HP.o];exact HB.o.few,by rw [HP.o];exact ax.o,ay.o⟩,F.o⟩⟩
  ·have t1:ie (bs.drop (k*z)) (z:Int)=0:=by unfold ie;rw [aK,aK]
   have D:(k+1)*z<=bs.length:=by rw [cV] at hlen;rw [ll];have:=HB.o.few;omega
   have t2:jG (bs.drop (k*z)) (z:Int)=bs.drop ((k+1)*z):=by unfold jG;rw [aK,ju,ll];rfl
   have t3:jd (bs.drop (k*z)) (z:Int)=(bs.drop (k*z)).take z:=by unfold jd;rw [t1];rfl
   rw [t1,t2,t3] at J1;obtain ⟨x0,tl,E⟩:∃ x0 tl,(bs.drop (k*z)).take z=x0 :: tl:=by
    cases hc:(bs.drop (k*z)).take z with
    | nil=>
     have e1:=congrArg List.length hc;rw [aR] at e1;have e2:([]:LN).length=0:=rfl;omega
    | cons a b=>exact ⟨a,b,rfl⟩
   have H:Digs (x0 :: tl) 256:=by rw [<- E];exact (HD.o.drop _).take _
   have ak:tl.length+1=z:=by
    have e1:=congrArg List.length E;rw [aR,dh] at e1;omega
   rw [E] at J1;have an:x0<256:=H.head;have e6:=u8_and_nat x0 y an aJ;obtain ⟨q,hq⟩:=aj (x0 &&& y)
   rw [<- hq] at e6;have R:q=x0%2^(8-s):=by rw [hq,HY.o];exact BI ag
   have aH:q<256:=by rw [R];exact fF (Nat.mod_le _ _) an
   have HV:HzD (bev (q :: tl)=rL t z bs k):=by unfold HzD rL;rw [E,R];exact BP H.tail ag (by rw [ak];exact al)
   have av:HzD (Digs (q :: tl) 256):=fun d hd=>by
    rcases fM.1 hd with rfl | hd
    ·exact aH
    ·exact H.tail d hd
   have v:=aa D;clear t1 t2 t3 hlen hq R E H D
   gi_wp2_with fail
   refine ⟨trivial,?_⟩;refine (callsIn_wide.2 J1).mono ?_;rintro e w3 ⟨u,rfl,hO,h3,k3⟩;have F:=aa (hJ _ _ _ HJ.o (k3.mono fun _ _ e=>.inl e));have B3:=aa (HB.o.next k3 v.o h3 (fun e=>by have:=G.o _ e;have:=c.o;omega) (fun e=>by have:=G.o _ e;have:=c.o;omega) (fun e=>by have:=G.o _ e;have:=c.o;omega) (fun e=>by have:=G.o _ e;have:=c.o;omega));have C:w3.ownsRow wr.heap.size 5 1 u z ((x0 :: tl).map fun a:Nat=>Value.int .u8 (a:Int)):=by
    have:=hO;unfold OwnB OwnN at this;rw [dh,ak] at this;exact this
   obtain ⟨g,i,rfl⟩:∃ g i,u=.slice (some ⟨g,0,none⟩) z i:=by
    rcases C.2 with ⟨_,e⟩ | ⟨g,i,_,e,_⟩
    ·omega
    ·exact ⟨g,i,e⟩
   have aD:w3.cell? ⟨g,0,none⟩=some (.int .u8 (x0:Nat)):=by
    obtain ⟨_,_,_,e,_,_,_,_,Q⟩:=hO.row.open;cases e
    obtain ⟨b',aL,e,hc⟩:=Q 0 (by omega);cases e
    exact hc
   have aE:=C.frozenAt 0;obtain ⟨ad,aF⟩:=C.stored 0 (.int .u8 (q:Int));have aG:=C.lt g rfl;have k4:Kept (fun x=>wr.heap.size<=x) w3 (w3.setCell ⟨g,0,none⟩ (.int .u8 (q:Int))):=(ah _ _).setCell _ (fun _=>aG.1) _;have ab:HzD (Row .u8 (w3.setCell ⟨g,0,none⟩ (.int .u8 (q:Int))) (.slice (some ⟨g,0,none⟩) z i) (q :: tl)):=(OwnB.of (n:=z) (zs:=q :: tl) ad).row;have aB:=B3.o.zb.cell;have aA:=B3.o.tb.cell;have Z:=aa k4;clear J1 hO C ad aF h3 k3 k4 cp cz
   gi_wp2_with fail
   gi_region
   have k4:Kept (fun x=>wr.heap.size<=x) w3 (w3.setCell ⟨g,0,none⟩ (.int .u8 (q:Int))).drew:=Z.o.drew;have r4:Row .u8 (w3.setCell ⟨g,0,none⟩ (.int .u8 (q:Int))).drew (.slice (some ⟨g,0,none⟩) z i) (q :: tl):=ab.o.g ((ah _ _).drew);generalize (w3.setCell ⟨g,0,none⟩ (.int .u8 (q:Int))).drew=w4 at *;have h:∀ x,x<w.heap.size->¬ wr.heap.size<=x:=fun x hx=>by have:=c.o;have:=HB.o.size;omega
   have B4:=aa (B3.o.kept k4 (fun x hx=>h x (by have:=c.o;omega)) (h _ (by have:=c.o;omega)) (h _ (by have:=c.o;omega)) (h _ (by have:=c.o;omega)) (h _ (by have:=c.o;omega)));have V:=aa (hJ _ _ _ F.o (k4.mono fun x _ (e:wr.heap.size<=x)=>.inr (by have:=HB.o.size;omega)));have O:am (rL t z bs k)<=L:=by
    rw [aC];refine bi (aY _ (aX)) ?_;rw [show (18446744073709551616:Nat)=2^64 from rfl,<- aW];exact bj (by omega) A.o.2.1
   have N:=Hr (.slice (some ⟨g,0,none⟩) z i) (q :: tl) (L:Int) w4 r4 av.o;rw [HV.o,(tL hL O).1,(tL hL O).2] at N;have az:=B4.o.nb.cell;clear k4 r4 Z ab O aD aE aB aA F B3 h e6
   gi_wp2_with fail
   refine ⟨trivial,?_⟩;refine (callsIn_wide.2 N).mono ?_;rintro e w5 ⟨v5,rfl,r5,f5,k5⟩;have ae:∀ b,v5.ownBlock=some b->w.heap.size<=b:=fun b hb=>by have h1:=f5 b hb;have h2:=B4.o.size;have h3:=c.o;omega
   have B5:=aa (B4.o.kept k5 (fun _ _ f=>f) (fun f=>f) (fun f=>f) (fun f=>f) (fun f=>f));have X:=aa (hJ _ _ _ V.o k5.any);have ao:DrwX p B t z L bs w.heap.size m (j,v5) w5:=⟨by rw [HP.o];exact Y.o,by rw [HP.o];exact v.o,⟨by rw [HP.o];exact r5,ae⟩,by rw [HP.o];exact B5.o.scr⟩
   obtain ⟨fn,tmps,assign,body,hy,hR⟩:=hY m (j,v5) w5 X.o ao;obtain ⟨xo,xn,xc,rfl,_⟩:=r5.open;clear N r5 f5 ae k5 az ao B4 V
   gi_wp2_with fail
   refine hR.mono ?_;rintro e w6 (⟨rfl,ac,k6⟩ | ⟨rfl,M⟩)
   ·have r:∀ x,x<w.heap.size->¬ Sb x->¬ (Sb x\/x=l\/x+1=l):=fun x hx hs=>by
     have:=c.o;rintro (e | e | e)
     ·exact hs e
     ·omega
     ·omega
    have B6:=aa (B5.o.kept k6 (fun x hx=>r x (by have:=c.o;omega) (fun e=>by have:=(hSb x e).1;omega)) (r _ (by have:=c.o;omega) sp) (r _ (by have:=c.o;omega) sz) (r _ (by have:=c.o;omega) st) (r _ (by have:=c.o;omega) sn));have aw:=aa ac;clear hR hy ac k6 B5 X r
    gi_wp2_with fail
    go_roundw
    case rel=>exact ⟨k+1,m ++ [(j,Value.slice xo xn xc)],by rw [<- Y.o];first | rfl | (rw [gj];rfl),by unfold HzD;rw [bk,HP.o];rfl,aw,B6⟩
    case measure=>simp [intOf];omega
   ·gi_wp2_with fail
    refine bodyPost_ret (results_none rfl _ _ _) rfl ?_;exact ⟨⟨_,rfl⟩,.inr ⟨_,M⟩⟩

end Go.Proofs.YtpkmoamgpjcdeaaGreatDoor
