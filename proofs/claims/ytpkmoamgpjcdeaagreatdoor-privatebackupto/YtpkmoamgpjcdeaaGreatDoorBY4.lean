/- Put together of: Tra1 Wor1 Lim1 OpenNats OpenNatsU Pub1 Byt1 Scr1 Scr3 Scr4 Prm4 Bld1 Prv1 Cut0 Prv2 Num2 Held1 WKeyChecks Src1 Rnd1 Seq2 Lsc1. -/
import Derived.Test.YtpkmoamgpjcdeaaGreatDoorBY3
import Derived.Laws.CopyRow
import Derived.Deep.RegionLaw
import Derived.Shelf.Spec.BitsCarry
import Derived.Shelf.Bits.Mul64
import Derived.Deep.Matrix
import Derived.Laws.AppendOwn
import Derived.Laws.AppendOwnNone
import Derived.Laws.BytesArg
import Derived.Lib.Strings
import Derived.RangeFuncWrites
import Derived.RangeFuncNested
import Derived.RangeFuncBound
import Derived.RangeFuncCalls
import Derived.RangeFuncLeaves
import Derived.RangeFuncBox
import Derived.Shelf.Abstract
import Derived.Shelf.RegionOpen
import Derived.OwnWalkIn
import Derived.TacticsInMore
import Derived.LoopNIn
import Derived.LoopIn

namespace Go.Proofs.YtpkmoamgpjcdeaaGreatDoor
open _root_.Go.Proofs.Tryz
set_option maxRecDepth 100000
set_option maxHeartbeats 4000000
open Go.RowKit
variable {A W w w' w2:World} {B D L M QI T X c d e k m n p z:Nat} {P:Program} {Q:Exit->Act->World->Prop} {S:World->Prop} {ao:OA} {at_:Int} {bs fs ns os ps xs zs:LN} {cs:Array Value} {oi:Oper} {ops:Array Oper} {t:TypeId}

abbrev Ev:=Int × Int × Int

def tf (e:Ev):List Value:=[.int .i64 e.1,.int .i64 e.2.1,.int .i64 e.2.2]

def iA:List Ev->List Value
 | []=>[]
 | e :: r=>tf e ++ iA r

theorem lO:∀ l m,iA (l ++ m)=iA l ++ iA m
 | [],m=>by simp [iA]
 | e :: r,m=>by simp [iA,lO r m]

def m7 (s n:Int):Int:=bits .xor .u64 s (n%18446744073709551616)*1099511628211%18446744073709551616

def A5 (s:Int) (e:Ev):Int:=m7 (m7 (m7 s e.1) e.2.1) e.2.2

def n9 (l:List Ev):Int:=l.foldl A5 14695981039346656037

theorem qD (l:List Ev) (e:Ev):n9 (l ++ [e])=A5 (n9 l) e:=by simp [n9]

def EvRow (w:World) (v:Value) (l:List Ev):Prop:=w.ownsRow 0 200 3 v l.length (iA l)

theorem EvRow.lt {v:Value} {l:List Ev} (h:EvRow w v l):∀ k,v.ownBlock=some k->k<w.heap.size:=fun k hk=>(World.ownsRow.lt h k hk).2

theorem EvRow.kept {S:Nat->Prop} {v:Value} {l:List Ev} (h:EvRow w v l) (k:Kept S w w') (hs:∀ k,v.ownBlock=some k->¬ S k):EvRow w' v l:=k.own h hs

def IsTr (w:World) (p:Nat) (g:Option Nat) (l:List Ev):Prop:=
 ∃ v s,w.heap[p]? = some (.cells #[v,.int .i64 l.length,.int .u64 s] 231 (0,0))/\v.ownBlock=g/\EvRow w v (l.take 1000)/\(l≠[]->s=n9 l)

theorem IsTr.lt {g:Option Nat} {l:List Ev} (h:IsTr w p g l):p<w.heap.size/\∀ k,g=some k->k<w.heap.size/\k≠p:=by
 obtain ⟨v,s,hp,hg,hr,_⟩:=h;refine ⟨lt_of_block hp,fun k hk=>⟨hr.lt k (hg.trans hk),fun e=>?_⟩⟩;subst e;rcases hr.2 with ⟨rfl,_⟩ | ⟨g',cap,cur,rfl,_,hgg,_⟩
 ·subst hg;cases hk
 ·have:g'=k:=by subst hg;simpa [Value.ownBlock] using hk
  subst this;rw [hp] at hgg;simp at hgg

theorem IsTr.kept {S:Nat->Prop} {g:Option Nat} {l:List Ev} (h:IsTr w p g l) (k:Kept S w w') (hp:¬ S p) (hg:∀ x,g=some x->¬ S x):IsTr w' p g l:=by
 obtain ⟨v,s,h1,h2,h3,h4⟩:=h;exact ⟨v,s,(k.block p (lt_of_block h1) hp).trans h1,h2,h3.kept k fun x hx=>hg x (h2.symm.trans hx),h4⟩

theorem IsTr.g {g:Option Nat} {l:List Ev} (h:IsTr w p g l) (k:Kept af w w'):IsTr w' p g l:=h.kept k (fun f=>f) fun _ _ f=>f

abbrev Tr:=Option (Nat × Option Nat × List Ev)

def aP:Tr->Value
 | none=>.pointer none
 | some (p,_,_)=>.pointer (some ⟨p,0,none⟩)

def pD:Tr->List Ev
 | none=>[]
 | some (_,_,l)=>l

def TrIn (w:World):Tr->Prop
 | none=>True
 | some (p,g,l)=>IsTr w p g l/\l.length<1000000000000

def dr:Tr->Nat->Prop
 | none,_=>False
 | some (p,g,_),k=>k=p\/g=some k

def Wrote (w:World) (m:List Ev) (w':World):Tr->Prop
 | none=>Kept af w w'
 | some (p,g,l)=>Kept (fun k=>k=p\/g=some k) w w'/\∃ g',IsTr w' p g' (l ++ m)/\(g'=g\/∃ x,g'=some x/\w.heap.size<=x)

theorem TrIn.g {o:Tr} (h:TrIn w o) (k:Kept af w w'):TrIn w' o:=by
 cases o with
 | none=>trivial
 | some x=>exact ⟨h.1.g k,h.2⟩

theorem TrIn.foot {o:Tr} (h:TrIn w o):∀ k,dr o k->k<w.heap.size:=by
 cases o with
 | none=>intro k f;exact f.elim
 | some x=>
  obtain ⟨p,g,l⟩:=x;intro k f;rcases f with rfl | f
  ·exact h.1.lt.1
  ·exact (h.1.lt.2 k f).1

theorem Wrote.kept {m:List Ev} {o:Tr} (h:Wrote w m w' o):Kept (dr o) w w':=by
 cases o with
 | none=>exact Kept.any h
 | some x=>exact h.1

theorem DY (p:Nat) (v:Value) (n:Nat) (s r:Int) (w:World) (hp:w.heap[p]? = some (.cells #[v,.int .i64 n,.int .u64 s] 231 (0,0)))
  (hr:(n=0/\r=14695981039346656037)\/(n≠0/\r=s)) :
  ClZ 226 #[.pointer (some ⟨p,0,none⟩)] w fun e w'=>e=.returned (.int .u64 r)/\w'=w:=by
 have c1:w.cell? ⟨p,1,none⟩=some (.int .i64 n):=by rw [cell_of_row w p 1 _ _ _ hp];rfl
 have c2:w.cell? ⟨p,2,none⟩=some (.int .u64 s):=by rw [cell_of_row w p 2 _ _ _ hp];rfl
 clear hp;have hm:ClZ 249 #[.pointer (some ⟨p,0,none⟩)] w fun e w'=>e=.returned (.int .i64 n)/\w'=w:=by
  delta ClZ;go_in;go_wp2;go_ret;exact ⟨rfl,rfl⟩
 rcases hr with ⟨rfl,rfl⟩ | ⟨h0,rfl⟩
 ·delta ClZ;go_in;go_wp2_with fail;refine hm.mono ?_;rintro e w' ⟨rfl,rfl⟩;go_wp2;go_ret;exact ⟨rfl,rfl⟩
 ·have h1:(n:Int)≠0:=by omega
  delta ClZ;go_in;go_wp2_with fail;refine hm.mono ?_;rintro e w' ⟨rfl,rfl⟩;go_wp2;go_ret;exact ⟨rfl,rfl⟩

theorem Lx (s:Int) (e:Ev) (b:Nat) (w:World) (h:w.heap[b]? = some (.cells (tf e).toArray 3 (0,0))) :
  ClZ 225 #[.int .u64 s,.slice (some ⟨b,0,none⟩) 3 3] w fun r w'=>r=.returned (.int .u64 (A5 s e))/\w'=w:=by
 obtain ⟨k,x,y⟩:=e;have c0:w.cell? ⟨b,0,none⟩=some (.int .i64 k):=by rw [cell_of_row w b 0 _ _ _ h];rfl
 have c1:w.cell? ⟨b,1,none⟩=some (.int .i64 x):=by rw [cell_of_row w b 1 _ _ _ h];rfl
 have c2:w.cell? ⟨b,2,none⟩=some (.int .i64 y):=by rw [cell_of_row w b 2 _ _ _ h];rfl
 clear h;have hm:A5 s (k,x,y)=m7 (m7 (m7 s k) x) y:=rfl;rw [hm];clear hm;delta ClZ;go_in;go_wp2_with fail;go_loop [0,9] (fun t i=>(i=.int .i64 0/\t=.int .u64 s)\/(i=.int .i64 1/\t=.int .u64 (m7 s k))\/(i=.int .i64 2/\t=.int .u64 (m7 (m7 s k) x))\/(i=.int .i64 3/\t=.int .u64 (m7 (m7 (m7 s k) x) y))) (fun _ i=>(3-intOf i).toNat)
 case atStart=>exact .inl ⟨rfl,rfl⟩
 case round=>
  rcases hrel with ⟨rfl,rfl⟩ | ⟨rfl,rfl⟩ | ⟨rfl,rfl⟩ | ⟨rfl,rfl⟩
  ·go_wp2;go_round
   case rel=>exact .inr (.inl ⟨by go_num,by simp [m7,IntKind.wrap_u64]⟩)
   case measure=>simp [intOf]
  ·go_wp2;go_round
   case rel=>exact .inr (.inr (.inl ⟨by go_num,by simp [m7,IntKind.wrap_u64]⟩))
   case measure=>simp [intOf]
  ·go_wp2;go_round
   case rel=>exact .inr (.inr (.inr ⟨by go_num,by simp [m7,IntKind.wrap_u64]⟩))
   case measure=>simp [intOf]
  ·go_wp2;go_ret;exact ⟨rfl,rfl⟩

theorem Tryz.info200:(prog.info? 200).map (fun i=>(i.zero,i.size,i.bytes))=some (some (.agg #[.int .i64 0,.int .i64 0,.int .i64 0]),3,24):=by kernel_rfl

theorem BW (w W:World) (A:Array Value) (t:TypeId) (j:Nat) (hs:W.heap.size=w.heap.size) (B:Obj):((W.alloc (.cells A t)).alloc B).drew.cell? ⟨w.heap.size,j,none⟩=A[j]?:=by
 rw [<- hs];exact cell_of_row _ _ _ A t (0,0) (dj (heap_alloc2_old W _ _))

theorem GA {v n s:Value} (hp:w.heap[p]? = some (.cells #[v,n,s] t (0,0))) (u1 u2:Value):((w.setCell ⟨p,2,none⟩ u2).setCell ⟨p,1,none⟩ u1).heap[p]? = some (.cells #[v,u1,u2] t (0,0)):=by
 have h1:=heap_setCell_same w p 2 _ _ u2 hp;have h2:=heap_setCell_same _ p 1 _ _ u1 h1;simpa using h2

attribute [local go_sem ↓] Go.wp_at_zero Go.wp_at_succ

theorem Bw (k x y:Int) (w:World) :
  ClZ 181 #[.pointer none,.agg #[.int .i64 k,.int .i64 x,.int .i64 y]] w fun r w'=>r=.returned (.tuple #[])/\w'=w.alloc (.cells #[.int .i64 k,.int .i64 x,.int .i64 y] 200):=by
 delta ClZ;go_in;go_wp2;exact bodyPost_ret (v:=.tuple #[]) (by simp [results,results181,go_sem]) rfl ⟨rfl,rfl⟩

theorem yX (p:Nat) (ao:OA) (a n:Nat) (s r k x y:Int) (w:World) (hn:n<1000000000000)
  (hp:w.heap[p]? = some (.cells #[.slice ao 1000 a,.int .i64 n,.int .u64 s] 231 (0,0))) (hr:(n=0/\r=14695981039346656037)\/(n≠0/\r=s)) :
  ClZ 181 #[.pointer (some ⟨p,0,none⟩),.agg #[.int .i64 k,.int .i64 x,.int .i64 y]] w fun e w'=>e=.returned (.tuple #[]) /\
   w'.heap[p]? = some (.cells #[.slice ao 1000 a,.int .i64 (n+1:Nat),.int .u64 (A5 r (k,x,y))] 231 (0,0))/\Kept (fun b=>b=p) w w':=by
 have hlt:=lt_of_block hp;have c0:w.cell? ⟨p,0,none⟩=some (.slice ao 1000 a):=by rw [cell_of_row w p 0 _ _ _ hp];rfl
 have c1:w.cell? ⟨p,1,none⟩=some (.int .i64 n):=by rw [cell_of_row w p 1 _ _ _ hp];rfl
 have c2:w.cell? ⟨p,2,none⟩=some (.int .u64 s):=by rw [cell_of_row w p 2 _ _ _ hp];rfl
 have f:∀ j,w.frozen? ⟨p,j,none⟩=false:=fun j=>frozen_of_row w p j _ _ hp
 delta ClZ;go_in;go_wp2_with fail;go_region_held3 (fun w'=>w'.cell? ⟨w.heap.size,0,none⟩=some (.int .i64 k)/\w'.cell? ⟨w.heap.size,1,none⟩=some (.int .i64 x)/\w'.cell? ⟨w.heap.size,2,none⟩=some (.int .i64 y))
  (((try dsimp only);(repeat' apply And.intro) <;> first | (go_keep;done) | exact (BW w _ _ _ _ (by simp) _).trans rfl))
  (first
   | (go_at_call 225;refine (Lx r (k,x,y) _ _ ?_).mono ?_;(first | exact dj (heap_alloc2_new _ _ _) | exact heap_alloc2_new _ _ _ | exact Go.heap_alloc_new _ _ | (simp;done));rintro e w' ⟨rfl,rfl⟩)
   | (go_at_call 226;refine (DY p (.slice ao 1000 a) n s r _ ?_ hr).mono ?_;(first | exact dj (aw hp) | exact dj (aw (aw hp)) | exact aw (dj (aw hp)));rintro e w' ⟨rfl,rfl⟩))
 all_goals
  go_wp2;go_end0
  refine ⟨rfl,?_,?_⟩
  ·rw [Int.natCast_add];exact dj (aw (aw (GA hp _ _)))
  ·exact (((((ah (fun b=>b=p) w).setCell ⟨p,2,none⟩ (fun _=>rfl) _).setCell ⟨p,1,none⟩ (fun _=>rfl) _).alloc _).alloc _).drew

attribute [local go_sem ↓] Go.wp_at_zero Go.wp_at_succ

theorem rk {base size:Nat} {e:TypeId} {v:Value} {xs:List Value} {fr:Nat × Nat} (h:w.ownsRow base e size v n xs) (hp:w.heap[p]? = some (.cells cs t fr)) (ht:t≠e):some p≠v.ownBlock:=by
 intro he;rcases h.2 with ⟨rfl,_⟩ | ⟨g',cap,cur,rfl,_,hgg,_⟩
 ·cases he
 ·have:p=g':=by simpa [Value.ownBlock] using he
  subst this;rw [hp] at hgg;simp only [iI,Obj.cells.injEq] at hgg;exact ht hgg.2.1

theorem oQ {bx j i:Nat} {u:Value} (h:W.cell? ⟨bx,j,none⟩=some u) (b:bx≠p) (z:Value) (B:Obj):((W.setCell ⟨p,i,none⟩ z).alloc B).drew.cell? ⟨bx,j,none⟩=some u:=by
 have hlt:bx<W.heap.size:=World.block_lt_of_cell? W _ h;have e:((W.setCell ⟨p,i,none⟩ z).alloc B).drew.heap[bx]? = W.heap[bx]?:=(Below.heap_alloc _ _ _ (by simpa using hlt)).trans (Below.heap_setCell W _ z bx b);exact (World.cell?_of_block (a:=⟨bx,j,none⟩) e).trans h

theorem yV {w1:World} {v u c s:Value} {A B:Array Value} {xs:List Value} (hp:w.heap[p]? = some (.cells #[v,c,s] t (0,0)))
  (a:((w.alloc (.cells A 200)).alloc (.cells B 200)).drew.grownBy w1 v.ownBlock) (f:w1.heap[p]? = some (.cells #[v,c,s] t (0,0)))
  (ho:w1.ownsRow 0 200 3 u m xs) (d:∀ b,v.ownBlock=some b->b<w.heap.size) (ht:t≠200:=by decide) :
  (w1.setCell ⟨p,0,none⟩ u).heap[p]? = some (.cells #[u,c,s] t (0,0))/\(w1.setCell ⟨p,0,none⟩ u).heap[w.heap.size]? = some (.cells A 200 (0,0)) /\
   (w1.setCell ⟨p,0,none⟩ u).ownsRow 0 200 3 u m xs/\Kept (fun b=>b=p\/v.ownBlock=some b) w (w1.setCell ⟨p,0,none⟩ u)/\w.heap.size<(w1.setCell ⟨p,0,none⟩ u).heap.size:=by
 have hlt:=lt_of_block hp;have hs:=a.size;have h:w.heap.size+2<=w1.heap.size:=by simpa using hs
 have g:some w.heap.size≠v.ownBlock:=fun e=>by have:=d _ e.symm;omega
 refine ⟨?_,?_,ownsRow_setCell_other ho (fun e=>rk ho f ht e.symm) _,?_,by simp;omega⟩
 ·simpa using heap_setCell_same w1 p 0 _ _ u f
 ·refine gY ?_ (by simp;omega) _;rw [a.block w.heap.size (by simp;omega) g];exact dj (heap_alloc2_old w _ _)
 ·exact (((((ah (fun b=>b=p\/v.ownBlock=some b) w).alloc _).alloc _).drew).grown a (fun k hk _=>.inr hk)).setCell ⟨p,0,none⟩ (fun _=>.inl rfl) _

theorem DG {v:Value} {xs:List Value} (hp:W.heap[p]? = some (.cells cs t (0,0))) (ho:W.ownsRow 0 200 3 v m xs) (u1 u2:Value) (B:Obj) (ht:t≠200:=by decide) :
  (((W.setCell ⟨p,2,none⟩ u2).setCell ⟨p,1,none⟩ u1).alloc B).drew.ownsRow 0 200 3 v m xs:=
 ((ownsRow_setCell_other (ownsRow_setCell_other ho (a:=⟨p,2,none⟩) (fun e=>rk ho hp ht e.symm) u2) (a:=⟨p,1,none⟩) (fun e=>rk ho hp ht e.symm) u1).alloc B).drew

theorem yY (p:Nat) (v:Value) (ao:OA) (h n:Nat) (xs:List Value) (s r k x y:Int) (w:World) (hn:n<1000) (hv:v=.slice ao n h)
  (hp:w.heap[p]? = some (.cells #[v,.int .i64 n,.int .u64 s] 231 (0,0))) (c:w.ownsRow 0 200 3 v n xs) (hr:(n=0/\r=14695981039346656037)\/(n≠0/\r=s)) :
  ClZ 181 #[.pointer (some ⟨p,0,none⟩),.agg #[.int .i64 k,.int .i64 x,.int .i64 y]] w fun e w'=>e=.returned (.tuple #[]) /\
   ∃ g c',w'.heap[p]? = some (.cells #[.slice (some ⟨g,0,none⟩) (n+1) c',.int .i64 (n+1:Nat),.int .u64 (A5 r (k,x,y))] 231 (0,0)) /\
    w'.ownsRow 0 200 3 (.slice (some ⟨g,0,none⟩) (n+1) c') (n+1) (xs ++ tf (k,x,y))/\(v.ownBlock=some g\/w.heap.size<=g)/\Kept (fun b=>b=p\/v.ownBlock=some b) w w':=by
 subst hv;obtain ⟨i0,B,D,E,F⟩:=info_parts Tryz.info200;have hlt:=lt_of_block hp;have l:∀ b,(Value.slice ao n h).ownBlock=some b->b<w.heap.size:=fun b hb=>(c.lt b hb).2
 have J:(Value.slice ao n h).ownBlock≠some w.heap.size:=fun e=>by have:=l _ e;omega
 have c0:w.cell? ⟨p,0,none⟩=some (.slice ao n h):=by rw [cell_of_row w p 0 _ _ _ hp];rfl
 have z:=World.new_ne w _ c0;have f:∀ j,w.frozen? ⟨p,j,none⟩=false:=fun j=>frozen_of_row w p j _ _ hp
 have C:some p≠(Value.slice ao n h).ownBlock:=rk c hp (by decide);have M:(n:Int)<1000:=by omega
 delta ClZ;go_in;go_wp2_with fail
 go_region_law ((refine step_append_lies _ (by rfl) _ _ _ (by rfl) 0 200 i0 _ 3 24 underlying229 B D E F rfl (by omega) (.slice ao n h) n xs (by rfl) (((c.alloc _).alloc _).drew) ⟨w.heap.size+1,0,none⟩ 1 1 [.int .i64 k,.int .i64 x,.int .i64 y] (by rfl) (by rfl) (World.news_of_block (cs:=#[.int .i64 k,.int .i64 x,.int .i64 y]) (t:=200) (fr:=(0,0)) (heap_alloc2_new w _ _)) (by simp [Value.oneCell']) (by omega) (by unfold maxLen;omega) (by omega) (by simp) (w.heap.size+2) (by simp) ?_;intro gg c' w1 i a A G;have m:=(a.block p (by simp;omega) C).trans (dj (aw (aw hp)));have cp:=(cell_of_row w1 p 0 _ _ _ m).trans rfl;have fp:=frozen_of_row w1 p 0 _ _ m))
 all_goals
  go_wp2_with fail;obtain ⟨d,q,L,H,N⟩:=yV (u:=.slice (some ⟨gg,0,none⟩) (n+1) c') hp a m i l;have o:(Value.slice ao n h).ownBlock=some gg\/w.heap.size<=gg:=A.imp id (fun e=>by omega);clear i a m cp fp c hp c0 f A G C l J B D E F;generalize w1.setCell ⟨p,0,none⟩ (.slice (some ⟨gg,0,none⟩) (n+1) c')=W at *;clear w1;have b0:W.cell? ⟨w.heap.size,0,none⟩=some (.int .i64 k):=(cell_of_row W _ 0 _ _ _ q).trans rfl;have b1:W.cell? ⟨w.heap.size,1,none⟩=some (.int .i64 x):=(cell_of_row W _ 1 _ _ _ q).trans rfl;have b2:W.cell? ⟨w.heap.size,2,none⟩=some (.int .i64 y):=(cell_of_row W _ 2 _ _ _ q).trans rfl
  have c1:W.cell? ⟨p,1,none⟩=some (.int .i64 n):=by rw [cell_of_row W p 1 _ _ _ d];rfl
  have c2:W.cell? ⟨p,2,none⟩=some (.int .u64 s):=by rw [cell_of_row W p 2 _ _ _ d];rfl
  have f:∀ j,W.frozen? ⟨p,j,none⟩=false:=fun j=>frozen_of_row W p j _ _ d
  have I:=lt_of_block d;generalize hbx:w.heap.size=bx at *;have HB:HzD (w.heap.size=bx):=hbx;clear hbx;go_region_held3 (fun w'=>w'.cell? ⟨bx,0,none⟩=some (.int .i64 k)/\w'.cell? ⟨bx,1,none⟩=some (.int .i64 x)/\w'.cell? ⟨bx,2,none⟩=some (.int .i64 y))
   (((try dsimp only);(repeat' apply And.intro) <;> first | (go_keep;done) | exact oQ b0 z _ _ | exact oQ b1 z _ _ | exact oQ b2 z _ _))
   (first
    | (go_at_call 225;refine (Lx r (k,x,y) _ _ ?_).mono ?_;(first | exact dj (Go.heap_alloc_new _ _) | exact Go.heap_alloc_new _ _ );rintro e w' ⟨rfl,rfl⟩)
    | (go_at_call 226;refine (DY p (.slice (some ⟨gg,0,none⟩) (n+1) c') n s r _ ?_ hr).mono ?_;(first | exact dj d | exact dj (aw d) | exact aw (dj d));rintro e w' ⟨rfl,rfl⟩))
  all_goals
   go_wp2;go_end0
   refine ⟨rfl,gg,c',?_,?_,by rw [HB.o];exact o,?_⟩
   ·rw [Int.natCast_add];exact dj (aw (GA d _ _))
   ·exact DG d L _ _ _
   ·exact H.trans (((((ah (fun b=>b=p\/(Value.slice ao n h).ownBlock=some b) W).setCell ⟨p,2,none⟩ (fun _=>.inl rfl) _).setCell ⟨p,1,none⟩ (fun _=>.inl rfl) _).alloc _).drew)

def Gk (e:Ev):Value:=.agg #[.int .i64 e.1,.int .i64 e.2.1,.int .i64 e.2.2]

theorem DX {l:List Ev} {s:Int} (hs:l≠[]->s=n9 l):(l.length=0/\n9 l=14695981039346656037)\/(l.length≠0/\n9 l=s):=by
 by_cases h:l=[]
 ·subst h;exact .inl ⟨rfl,rfl⟩
 ·exact .inr ⟨fun e=>h (kX e),(hs h).symm⟩

theorem DZ (l:List Ev) (h:l.length<1000):l.take 1000=l:=dS (by omega)

theorem rz (l:List Ev) (e:Ev) (h:l.length<1000):(l ++ [e]).take 1000=l ++ [e]:=dS (by simp;omega)

theorem ru (l:List Ev) (e:Ev) (h:1000<=l.length):(l ++ [e]).take 1000=l.take 1000:=List.take_append_of_le_length h

theorem Is (o:Tr) (e:Ev) (w:World) (h:TrIn w o) :
  ClZ 181 #[aP o,Gk e] w fun r w'=>r=.returned (.tuple #[])/\Wrote w [e] w' o:=by
 obtain ⟨k,x,y⟩:=e;cases o with
 | none=>
  refine (Bw k x y w).mono ?_;rintro r w' ⟨rfl,rfl⟩;exact ⟨rfl,(ah af w).alloc _⟩
 | some q=>
  obtain ⟨p,g,l⟩:=q;obtain ⟨⟨v,s,hp,hg,hr,hs⟩,hl⟩:=h;by_cases hf:l.length<1000
  ·have ht:=DZ l hf;unfold EvRow at hr;rw [ht] at hr;obtain ⟨ao,c,hv⟩:=dK hr;refine (yY p v ao c l.length (iA l) s (n9 l) k x y w hf hv hp hr (DX hs)).mono ?_;rintro r w' ⟨rfl,g',c',d,i,f,hk⟩;refine ⟨rfl,?_⟩;rw [hg] at f hk;refine ⟨hk,some g',⟨_,_,by simpa using d,rfl,?_,fun _=>(qD l _).symm⟩,?_⟩
   ·unfold EvRow;rw [rz l _ hf,lO];simpa [iA] using i
   ·rcases f with h | h
    ·exact .inl h.symm
    ·exact .inr ⟨g',rfl,h⟩
  ·have a:(l.take 1000).length=1000:=by rw [aR];omega
   have j:w.ownsRow 0 200 3 v 1000 (iA (l.take 1000)):=by rw [<- a];rw [a];unfold EvRow at hr;rw [a] at hr;exact hr
   obtain ⟨ao,c,rfl⟩:=dK j;refine (yX p ao c l.length s (n9 l) k x y w hl hp (DX hs)).mono ?_;rintro r w' ⟨rfl,d,hk⟩;refine ⟨rfl,hk.mono (fun _ _ h=>.inl h),g,⟨_,_,by simpa using d,hg,?_,fun _=>(qD l _).symm⟩,.inl rfl⟩;rw [ru l _ (by omega)];refine EvRow.kept hr hk fun b hb e=>?_
   subst e;exact rk hr hp (by decide) hb.symm

theorem Ly (o:Tr) (n:Int) (w:World) (h:TrIn w o) :
  ClZ 116 #[aP o,.int .i64 n] w fun r w'=>r=.returned (.tuple #[])/\Wrote w [(1,n,0)] w' o:=by
 have hc:=Is o (1,n,0) w h;unfold Gk at hc;generalize aP o=tp at *;delta ClZ;go_in;go_wp2_with fail;refine hc.mono ?_;rintro e w' ⟨rfl,hw⟩;go_wp2;go_end0
 exact ⟨rfl,hw⟩

def Did (w:World) (o:Tr) (m:List Ev) (w':World) (o':Tr):Prop:=
 Kept (dr o) w w'/\((o=none/\o'=none)\/∃ p g l g',o=some (p,g,l)/\o'=some (p,g',l ++ m)/\IsTr w' p g' (l ++ m)/\(g'=g\/∃ x,g'=some x/\w.heap.size<=x))

def TrRoom (w:World) (o:Tr) (k:Nat):Prop:=TrIn w o/\(pD o).length+k<1000000000000

theorem TrRoom.none (w:World) (k:Nat) (hk:k<1000000000000):TrRoom w none k:=⟨trivial,by simp [pD];omega⟩

theorem TrRoom.l {o:Tr} {j:Nat} (h:TrRoom w o k) (hj:j<=k):TrRoom w o j:=⟨h.1,by have:=h.2;omega⟩

theorem TrRoom.g {o:Tr} (h:TrRoom w o k) (hk:Kept af w w'):TrRoom w' o k:=⟨h.1.g hk,h.2⟩

theorem Did.kept {o o':Tr} {m:List Ev} (h:Did w o m w' o'):Kept (dr o) w w':=h.1

theorem Did.size {o o':Tr} {m:List Ev} (h:Did w o m w' o'):w.heap.size<=w'.heap.size:=h.1.size

theorem Did.ptr {o o':Tr} {m:List Ev} (h:Did w o m w' o'):aP o'=aP o:=by
 rcases h.2 with ⟨rfl,rfl⟩ | ⟨p,g,l,g',rfl,rfl,_⟩ <;> rfl

theorem Did.len {o o':Tr} {m:List Ev} (h:Did w o m w' o'):(pD o').length<=(pD o).length+m.length:=by
 rcases h.2 with ⟨rfl,rfl⟩ | ⟨p,g,l,g',rfl,rfl,_⟩
 ·simp
 ·simp [pD]

theorem Did.room {o o':Tr} {m:List Ev} (h:Did w o m w' o') (hr:TrRoom w o (m.length+k)):TrRoom w' o' k:=by
 have hl:=h.len;have h2:=hr.2;refine ⟨?_,by omega⟩;rcases h.2 with ⟨rfl,rfl⟩ | ⟨p,g,l,g',rfl,rfl,ht,_⟩
 ·trivial
 ·exact ⟨ht,by simp only [pD] at hl;simp only [pD] at h2;rw [bk];omega⟩

theorem Did.foot {o o':Tr} {m:List Ev} (h:Did w o m w' o') {b:Nat} (hb:b<w.heap.size) (hf:dr o' b):dr o b:=by
 rcases h.2 with ⟨rfl,rfl⟩ | ⟨p,g,l,g',rfl,rfl,_,hg⟩
 ·exact hf
 ·rcases hf with rfl | hf
  ·exact .inl rfl
  ·rcases hg with rfl | ⟨x,rfl,hx⟩
   ·exact .inr hf
   ·simp at hf;omega

theorem Did.trans {w1:World} {o o1 o2:Tr} {m m':List Ev} (h:Did w o m w1 o1) (k:Did w1 o1 m' w2 o2):Did w o (m ++ m') w2 o2:=by
 refine ⟨h.1.next k.1 (fun x hx hf=>h.foot hx hf),?_⟩;rcases h.2 with ⟨rfl,rfl⟩ | ⟨p,g,l,g',rfl,rfl,ht,hg⟩
 ·rcases k.2 with ⟨_,rfl⟩ | ⟨_,_,_,_,e,_⟩
  ·exact .inl ⟨rfl,rfl⟩
  ·cases e
 ·rcases k.2 with ⟨e,_⟩ | ⟨p2,g2,l2,g2',e,rfl,ht2,hg2⟩
  ·cases e
  ·simp only [iI,fN] at e;obtain ⟨rfl,rfl,rfl⟩:=e;refine .inr ⟨_,_,_,_,rfl,by rw [dX],by rw [<- dX];exact ht2,?_⟩;rcases hg2 with rfl | ⟨x,rfl,hx⟩
   ·exact hg
   ·exact .inr ⟨x,rfl,aI h.1.size hx⟩

theorem Did.of_kept {o:Tr} (h:Kept af w w') (ht:TrIn w o):Did w o [] w' o:=by
 refine ⟨h.any,?_⟩;cases o with
 | none=>exact .inl ⟨rfl,rfl⟩
 | some x=>
  obtain ⟨p,g,l⟩:=x;exact .inr ⟨p,g,l,g,rfl,by simp,by simpa using ht.1.g h,.inl rfl⟩

theorem Did.g {o o':Tr} {m:List Ev} (h:Did w o m w' o') (k:Kept af w' w2):Did w o m w2 o':=by
 refine ⟨h.1.trans k.any,?_⟩;rcases h.2 with h1 | ⟨p,g,l,g',e1,e2,ht,hg⟩
 ·exact .inl h1
 ·exact .inr ⟨p,g,l,g',e1,e2,ht.g k,hg⟩

theorem Did.b {a:World} {o o':Tr} {m:List Ev} (k:Kept af a w) (h:Did w o m w' o'):Did a o m w' o':=by
 refine ⟨k.any.trans h.1,?_⟩;rcases h.2 with h1 | ⟨p,g,l,g',e1,e2,ht,hg⟩
 ·exact .inl h1
 ·refine .inr ⟨p,g,l,g',e1,e2,ht,?_⟩;rcases hg with hg | ⟨x,e,hx⟩
  ·exact .inl hg
  ·exact .inr ⟨x,e,aI k.size hx⟩

theorem Did.of_wrote {o:Tr} {m:List Ev} (h:Wrote w m w' o):∃ o',Did w o m w' o':=by
 have hk:=h.kept;cases o with
 | none=>exact ⟨none,hk,.inl ⟨rfl,rfl⟩⟩
 | some x=>
  obtain ⟨p,g,l⟩:=x;obtain ⟨_,g',ht,hg⟩:=h;exact ⟨some (p,g',l ++ m),hk,.inr ⟨p,g,l,g',rfl,rfl,ht,hg⟩⟩

theorem Did.none {o':Tr} {m:List Ev} (h:Did w none m w' o'):o'=none/\Kept af w w':=by
 rcases h.2 with ⟨_,rfl⟩ | ⟨_,_,_,_,e,_⟩
 ·exact ⟨rfl,h.1.mono (fun _ _ f=>f)⟩
 ·cases e

def RowT (w:World) (o:Tr) (v:Value) (xs:LN):Prop:=Row .u64 w v xs/\(xs≠[]->∀ b,v.ownBlock=some b->¬ dr o b)

theorem RowT.none {v:Value} (h:Row .u64 w v xs):RowT w none v xs:=⟨h,fun _ _ _ f=>f⟩

theorem RowT.did {o o':Tr} {m:List Ev} {v:Value} (h:RowT w o v xs) (d:Did w o m w' o'):RowT w' o' v xs:=
 ⟨h.1.kept' d.1 h.2,fun a b hb hf=>h.2 a b hb (d.foot (h.1.lt a b hb) hf)⟩

theorem RowT.g {o:Tr} {v:Value} (h:RowT w o v xs) (k:Kept af w w'):RowT w' o v xs:=⟨h.1.g k,h.2⟩

theorem fq {o:Tr} {base size:Nat} {v:Value} {xs:List Value} (h:w.ownsRow base 24 size v n xs) (ht:TrIn w o):∀ b,v.ownBlock=some b->¬ dr o b:=by
 cases o with
 | none=>intro _ _ f;exact f
 | some x=>
  obtain ⟨p,g,l⟩:=x;obtain ⟨⟨u,s,hp,hg,hr,_⟩,_⟩:=ht;rcases h.2 with ⟨rfl,_⟩ | ⟨g',cap,cur,rfl,_,hgg,_⟩
  ·intro b hb;cases hb
  ·intro b hb hf;have e:g'=b:=by simpa [Value.ownBlock] using hb
   subst e;rcases hf with rfl | hf
   ·rw [hp] at hgg;simp at hgg
   ·rcases hr.2 with ⟨rfl,_⟩ | ⟨g2,cap2,cur2,rfl,_,hgg2,_⟩
    ·rw [<- hg] at hf;cases hf
    ·rw [<- hg] at hf;have e:g2=g':=by simpa [Value.ownBlock] using hf
     subst e;rw [hgg2] at hgg;simp at hgg

theorem aH {o:Tr} {g:Nat} {fr:Nat × Nat} (h:w.heap[g]? = some (.cells cs t fr)) (ht:TrIn w o) (h1:t≠231:=by decide) (h2:t≠200:=by decide):¬ dr o g:=by
 cases o with
 | none=>intro f;exact f
 | some x=>
  obtain ⟨p,g1,l⟩:=x;obtain ⟨⟨u,s,hp,hg,hr,_⟩,_⟩:=ht;intro hf;rcases hf with rfl | hf
  ·rw [hp] at h;simp only [iI,Obj.cells.injEq] at h;exact h1 h.2.1.symm
  ·rcases hr.2 with ⟨rfl,_⟩ | ⟨g2,cap2,cur2,rfl,_,hgg2,_⟩
   ·rw [<- hg] at hf;cases hf
   ·rw [<- hg] at hf;have e:g2=g:=by simpa [Value.ownBlock] using hf
    subst e;rw [hgg2] at h;simp only [iI,Obj.cells.injEq] at h;exact h2 h.2.1.symm

theorem ib {o:Tr} {base:Nat} {v:Value} (h:OwnN .u64 24 w base v n zs) (hl:zs.length=n) (ht:TrIn w o):RowT w o v zs:=
 ⟨Row.of_own (base:=base) (e:=24) (by rw [hl];exact h),fun _=>fq h ht⟩

theorem Did.wroteNew {o o':Tr} {m:List Ev} {h:Nat} (d:Did w o m w' o') (k:Kept (fun b=>b=h) w' w2) (hh:w.heap.size<=h) (hf:¬ dr o' h):Did w o m w2 o':=by
 refine ⟨d.1.next k (fun x hx e=>by omega),?_⟩;rcases d.2 with h1 | ⟨p,g,l,g',e1,e2,ht,hg⟩
 ·exact .inl h1
 ·subst e2;exact .inr ⟨p,g,l,g',e1,rfl,ht.kept k (fun e=>hf (.inl e.symm)) (fun x hx e=>hf (.inr (by rw [<- e];exact hx))),hg⟩

theorem gh (o:Tr) (n:Int) (w:World) (h:TrIn w o) :
  ClZ 116 #[aP o,.int .i64 n] w fun r w'=>r=.returned (.tuple #[])/\∃ o',Did w o [(1,n,0)] w' o':=by
 refine (Ly o n w h).mono ?_;rintro r w' ⟨rfl,hw⟩;exact ⟨rfl,Did.of_wrote hw⟩

def U64s (w:World) (v:Value):Prop:=∀ b,v.ownBlock=some b->∃ cs fr,w.heap[b]? = some (.cells cs 24 fr)

theorem U64s.own {base:Nat} {v:Value} (h:OwnN .u64 24 w base v n zs):U64s w v:=by
 intro b hb;rcases h.2 with ⟨rfl,_⟩ | ⟨g',cap,cur,rfl,_,hgg,_⟩
 ·cases hb
 ·have e:g'=b:=by simpa [Value.ownBlock] using hb
  subst e;exact ⟨_,_,hgg⟩

theorem U64s.kept {S:Nat->Prop} {v:Value} (h:U64s w v) (k:Kept S w w') (hS:∀ b,v.ownBlock=some b->¬ S b):U64s w' v:=by
 intro b hb;obtain ⟨cs,fr,hg⟩:=h b hb;exact ⟨cs,fr,(k.block _ (lt_of_block hg) (hS b hb)).trans hg⟩

theorem U64s.g {v:Value} (h:U64s w v) (k:Kept af w w'):U64s w' v:=h.kept k (fun _ _ f=>f)

theorem U64s.nil (w:World):U64s w (.slice none 0 0):=fun b hb=>by cases hb

theorem U64s.rowT {o:Tr} {v:Value} (h:U64s w v) (hr:Row .u64 w v xs) (ht:TrIn w o):RowT w o v xs:=
 ⟨hr,fun _ b hb=>by
  obtain ⟨cs,fr,hg⟩:=h b hb;exact aH hg ht⟩

theorem U64s.did {o o':Tr} {m:List Ev} {v:Value} (h:U64s w v) (d:Did w o m w' o') (ht:TrIn w o):U64s w' v:=
 h.kept d.kept (fun b hb=>by
  obtain ⟨cs,fr,hg⟩:=h b hb;exact aH hg ht)

def bor (x y:Int):Int:=if x<y then 1 else 0

theorem Gh (x y c:Int) (hx:0<=x) (hy:0<=y) (a:0<=c) (hc:c<=1) (w:World) :
  (callFunc 246 #[.int .u64 x,.int .u64 y,.int .u64 c]).run prog w =
   .ok (.value (.tuple #[.int .u64 ((x+y+c)%18446744073709551616),.int .u64 ((x+y+c)/18446744073709551616)])) w:=by
 rw [run_callFunc_extern func246 (by kernel_rfl) (by kernel_rfl) (by kernel_rfl) (e:=add64Entry) (by kernel_rfl),run_add64 x y c hx hy a hc];simp only [Result.andThen]

theorem zp (x y:Int) (hx:0<=x) (hy:0<=y) (w:World) :
  (callFunc 246 #[.int .u64 x,.int .u64 y,.int .u64 0]).run prog w =
   .ok (.value (.tuple #[.int .u64 ((x+y)%18446744073709551616),.int .u64 ((x+y)/18446744073709551616)])) w:=by
 have h:=Gh x y 0 hx hy (Int.le_refl 0) (by decide) w;rw [Int.add_zero] at h;exact h

theorem Lw (x y c:Int) (hx:0<=x) (hy:0<=y) (b:y<18446744073709551616) (a:0<=c) (hc:c<=1) (w:World) :
  (callFunc 219 #[.int .u64 x,.int .u64 y,.int .u64 c]).run prog w =
   .ok (.value (.tuple #[.int .u64 ((x-y-c)%18446744073709551616),.int .u64 (bor x (y+c))])) w:=by
 obtain ⟨X,rfl⟩:=eN hx;obtain ⟨Y,rfl⟩:=eN hy;obtain ⟨C,rfl⟩:=eN a;rw [run_callFunc_extern func219 (by kernel_rfl) (by kernel_rfl) (by kernel_rfl) (e:=sub64Entry) (by kernel_rfl),run_sub64 X Y C (by omega)];simp only [Result.andThen];have e1:(((X+18446744073709551616-Y-C)%18446744073709551616:Nat):Int)=((X:Int)-Y-C)%18446744073709551616:=by omega
 have e2:((if X<Y+C then 1 else 0:Nat):Int)=bor (X:Int) ((Y:Int)+C):=by
  unfold bor;split <;> split <;> omega
 rw [e1,e2]

theorem mA {a b c d:Int} (h:a=c) (k:b=d):Ending.returned (.tuple #[.int .u64 a,.int .u64 b])=Ending.returned (.tuple #[.int .u64 c,.int .u64 d]):=by rw [h,k]

theorem Ah {a c:Int} (h:a=c):Ending.returned (.int .u64 a)=Ending.returned (.int .u64 c):=by rw [h]

theorem Ii (x y:Int) (hx:0<=x) (c:x<18446744073709551616) (hy:0<=y) (d:y<18446744073709551616) :
  ∃ x0 x1 y0 y1 p q r s:Int,bits .and .u64 x 4294967295=x0/\x/4294967296=x1/\bits .and .u64 y 4294967295=y0/\y/4294967296=y1 /\
   x0*y0=p/\x1*y0=q/\x0*y1=r/\x1*y1=s /\
   (0<=p/\p<=18446744065119617025)/\(0<=q/\q<=18446744065119617025)/\(0<=r/\r<=18446744065119617025)/\(0<=s/\s<=18446744065119617025) /\
   x*y=s*18446744073709551616+(q+r)*4294967296+p:=by
 obtain ⟨X,rfl⟩:=eN hx;obtain ⟨Y,rfl⟩:=eN hy;have bp:=Lib.half_mul_le (a:=X%4294967296) (b:=Y%4294967296) (by omega) (by omega);have bq:=Lib.half_mul_le (a:=X/4294967296) (b:=Y%4294967296) (by omega) (by omega);have br:=Lib.half_mul_le (a:=X%4294967296) (b:=Y/4294967296) (by omega) (by omega);have bs:=Lib.half_mul_le (a:=X/4294967296) (b:=Y/4294967296) (by omega) (by omega);have e:X*Y=(X/4294967296)*(Y/4294967296)*(4294967296*4294967296)+((X/4294967296)*(Y%4294967296)+(X%4294967296)*(Y/4294967296))*4294967296+(X%4294967296)*(Y%4294967296):=by
  rw [<- Lib.split_mul,Nat.div_add_mod' X 4294967296,Nat.div_add_mod' Y 4294967296]
 refine ⟨((X%4294967296:Nat):Int),((X/4294967296:Nat):Int),((Y%4294967296:Nat):Int),((Y/4294967296:Nat):Int),
  (((X%4294967296)*(Y%4294967296):Nat):Int),(((X/4294967296)*(Y%4294967296):Nat):Int),(((X%4294967296)*(Y/4294967296):Nat):Int),(((X/4294967296)*(Y/4294967296):Nat):Int),
  Mul64.maskN X (by omega),Mul64.divN X,Mul64.maskN Y (by omega),Mul64.divN Y,Mul64.mulN _ _,Mul64.mulN _ _,Mul64.mulN _ _,Mul64.mulN _ _,?_⟩
 rw [Mul64.mulN,e];generalize (X%4294967296)*(Y%4294967296)=p at *;generalize (X/4294967296)*(Y%4294967296)=q at *;generalize (X%4294967296)*(Y/4294967296)=r at *;generalize (X/4294967296)*(Y/4294967296)=s at *;omega

theorem Ho (a:Int) (h0:0<=a) (h1:a<18446744073709551616):bits .and .u64 a 4294967295=a%4294967296:=by
 obtain ⟨A,rfl⟩:=eN h0;rw [Mul64.maskN A (by omega)];omega

theorem sy (x y:Int) (hx:0<=x) (c:x<18446744073709551616) (hy:0<=y) (d:y<18446744073709551616) (w:World) :
  ClZ 260 #[.int .u64 x,.int .u64 y] w fun e w'=>e=.returned (.tuple #[.int .u64 (x*y/18446744073709551616),.int .u64 (x*y%18446744073709551616)])/\w'=w:=by
 obtain ⟨x0,x1,y0,y1,p,q,r,s,h1,h2,h3,h4,h5,h6,h7,h8,⟨p0,p1⟩,⟨q0,q1⟩,⟨r0,r1⟩,⟨s0,s1⟩,b⟩:=Ii x y hx c hy d;have hm:=Ho (q+p/4294967296) (by omega) (by omega);have a:HzD (x*y=s*18446744073709551616+(q+r)*4294967296+p):=b;clear b;delta ClZ;go_in;go_wp2;go_ret2;refine ⟨mA ?_ ?_,rfl⟩
 ·rw [a.o];omega
 ·rw [a.o,IntKind.wrap_u64]

theorem and_one (x:Int) (h0:0<=x) (h1:x<18446744073709551616):bits .and .u64 x 1=x%2:=and_one_u64 x h0 (by omega)

theorem Mf (a b c:Int) (a0:0<=a) (b0:0<=b) (c0:0<=c) (c1:c<18446744073709551616) (w:World) :
  ClZ 216 #[.int .u64 a,.int .u64 b,.int .u64 c] w fun e w'=>
   e=.returned (.tuple #[.int .u64 ((a+b+c%2)%18446744073709551616),.int .u64 ((a+b+c%2)/18446744073709551616)])/\w'=w:=by
 have hb:=and_one c c0 c1;have k0:0<=c%2:=by omega
 have k1:c%2<=1:=by omega
 delta ClZ;go_in;go_wp2_with (simp only [Gh a b (c%2) a0 b0 k0 k1]);go_ret2;exact ⟨rfl,rfl⟩

theorem Mi (a b c:Int) (a0:0<=a) (b0:0<=b) (b1:b<18446744073709551616) (c0:0<=c) (c1:c<18446744073709551616) (w:World) :
  ClZ 171 #[.int .u64 a,.int .u64 b,.int .u64 c] w fun e w'=>
   e=.returned (.tuple #[.int .u64 ((a-b-c%2)%18446744073709551616),.int .u64 (bor a (b+c%2))])/\w'=w:=by
 have hb:=and_one c c0 c1;have k0:0<=c%2:=by omega
 have k1:c%2<=1:=by omega
 delta ClZ;go_in;go_wp2_with (simp only [Lw a b (c%2) a0 b0 b1 k0 k1]);go_ret2;exact ⟨rfl,rfl⟩

theorem Fr (a b:Int) (a0:0<=a) (a1:a<18446744073709551616) (b0:0<=b) (b1:b<18446744073709551616) :
  0<=a*b/\a*b<=340282366920938463426481119284349108225:=
 ⟨mi a0 b0,(Int.mul_le_mul (c:=18446744073709551615) (d:=18446744073709551615) (by omega) (by omega) b0 (by decide):a*b<=18446744073709551615*18446744073709551615)⟩

theorem vu (a b p:Int) (a0:0<=a) (a1:a<18446744073709551616) (b0:0<=b) (b1:b<18446744073709551616) (h:HzD (a*b=p)) (w:World) :
  ClZ 260 #[.int .u64 a,.int .u64 b] w fun e w'=>e=.returned (.tuple #[.int .u64 (p/18446744073709551616),.int .u64 (p%18446744073709551616)])/\w'=w:=by
 rw [<- h.o];exact sy a b a0 a1 b0 b1 w

theorem Mh (a b c d:Int) (a0:0<=a) (a1:a<18446744073709551616) (b0:0<=b) (b1:b<18446744073709551616) (c0:0<=c) (c1:c<18446744073709551616) (d0:0<=d) (d1:d<18446744073709551616) (w:World) :
  ClZ 247 #[.int .u64 a,.int .u64 b,.int .u64 c,.int .u64 d] w fun e w'=>
   e=.returned (.tuple #[.int .u64 ((a*b+c+d)/18446744073709551616),.int .u64 ((a*b+c+d)%18446744073709551616)])/\w'=w:=by
 have hp:=Fr a b a0 a1 b0 b1;obtain ⟨p,f⟩:∃ p,a*b=p:=⟨_,rfl⟩
 rw [f] at hp ⊢;have HM:HzD (a*b=p):=f;clear f;obtain ⟨p0,p1⟩:=hp;delta ClZ;go_in;go_wp2_with (first | (go_at_call 260;refine (vu a b p a0 a1 b0 b1 HM _).mono ?_;rintro e w' ⟨rfl,rfl⟩) | simp only [zp (p%18446744073709551616) c (by omega) c0] | simp only [zp ((p+c)%18446744073709551616) d (by omega) d0]);go_ret2;refine ⟨mA ?_ ?_,rfl⟩ <;> omega

def msk (x:Int):Int:=x%2*18446744073709551615

theorem sL (a:Int) (a0:0<=a) (a1:a<18446744073709551616) (w:World) :
  ClZ 182 #[.int .u64 a] w fun e w'=>e=.returned (.int .u64 (msk a))/\w'=w:=by
 have hb:=and_one a a0 a1;delta ClZ;go_in;go_wp2;go_ret;refine ⟨Ah ?_,rfl⟩;unfold msk;rw [IntKind.wrap_u64];omega

def sel (k a b:Int):Int:=if k%2=1 then a else b

theorem Ij (k a b:Int) (a0:0<=a) (a1:a<18446744073709551616) (b0:0<=b) (b1:b<18446744073709551616) :
  bits .xor .u64 b (bits .and .u64 (msk k) (bits .xor .u64 a b))=sel k a b:=by
 obtain ⟨A,rfl⟩:=eN a0;obtain ⟨B,rfl⟩:=eN b0;have hx:A ^^^ B<2^64:=Nat.xor_lt_two_pow (by omega) (by omega);rw [u64_xor_nat A B (by omega) (by omega)];unfold sel msk;have:k%2=0\/k%2=1:=by omega
 rcases this with h | h
 ·rw [h];have e:=u64_and_nat 0 (A ^^^ B) (by omega) (by omega);rw [Nat.zero_and] at e;have e':bits .and .u64 (0*18446744073709551615) ((A ^^^ B:Nat):Int)=((0:Nat):Int):=e;rw [e',u64_xor_nat B 0 (by omega) (by omega),Nat.xor_zero];simp
 ·rw [h];have e:=u64_and_nat 18446744073709551615 (A ^^^ B) (by omega) (by omega);rw [Nat.and_comm,show (18446744073709551615:Nat)=2^64-1 from rfl,sS hx] at e;have e':bits .and .u64 (1*18446744073709551615) ((A ^^^ B:Nat):Int)=((A ^^^ B:Nat):Int):=e;rw [e',u64_xor_nat B (A ^^^ B) (by omega) (by omega),Nat.xor_comm A B,<- Nat.xor_assoc,Nat.xor_self,Nat.zero_xor];simp

theorem F8 (k a b:Int) (k0:0<=k) (k1:k<18446744073709551616) (a0:0<=a) (a1:a<18446744073709551616) (b0:0<=b) (b1:b<18446744073709551616) (w:World) :
  ClZ 118 #[.int .u64 k,.int .u64 a,.int .u64 b] w fun e w'=>e=.returned (.int .u64 (sel k a b))/\w'=w:=by
 have hs:=Ij k a b a0 a1 b0 b1;delta ClZ;go_in;go_wp2_with (go_at_call 182;refine (sL k k0 k1 _).mono ?_;rintro e w' ⟨rfl,rfl⟩);go_ret;exact ⟨rfl,rfl⟩

def zer (a:Int):Int:=if a=0 then 1 else 0

theorem II (a:Int) (a0:0<=a) (a1:a<18446744073709551616) :
  bits .xor .u64 (bits .or .u64 a (IntKind.u64.wrap (-a))/9223372036854775808) 1=zer a:=by
 obtain ⟨A,rfl⟩:=eN a0;unfold zer;by_cases h:A=0
 ·subst h;decide +kernel
 ·have e:IntKind.u64.wrap (-(A:Int))=((18446744073709551616-A:Nat):Int):=eC
  rw [e,u64_or_nat A _ (by omega) (by omega)];have hl:A<=A ||| (18446744073709551616-A):=Nat.left_le_or;have hr:18446744073709551616-A<=A ||| (18446744073709551616-A):=Nat.right_le_or;have hu:A ||| (18446744073709551616-A)<2^64:=Nat.or_lt_two_pow (by omega) (by omega);generalize A ||| (18446744073709551616-A)=B at *;have hq:(B:Int)/9223372036854775808=1:=by omega
  rw [hq,aK];decide +kernel

theorem Eg (a:Int) (a0:0<=a) (a1:a<18446744073709551616) (w:World) :
  ClZ 117 #[.int .u64 a] w fun e w'=>e=.returned (.int .u64 (zer a))/\w'=w:=by
 have hz:=II a a0 a1;delta ClZ;go_in;go_wp2;go_ret;exact ⟨rfl,rfl⟩

def eqw (a b:Int):Int:=if a=b then 1 else 0

theorem Gd (a b:Int) (a0:0<=a) (a1:a<18446744073709551616) (b0:0<=b) (b1:b<18446744073709551616) :
  0<=bits .xor .u64 a b/\bits .xor .u64 a b<18446744073709551616/\zer (bits .xor .u64 a b)=eqw a b:=by
 obtain ⟨A,rfl⟩:=eN a0;obtain ⟨B,rfl⟩:=eN b0;have hx:A ^^^ B<2^64:=Nat.xor_lt_two_pow (by omega) (by omega);rw [u64_xor_nat A B (by omega) (by omega)];refine ⟨by omega,by omega,?_⟩;unfold zer eqw;by_cases h:A=B
 ·subst h;simp
 ·have:A ^^^ B≠0:=fun e=>h (by
   have e2:A ^^^ (A ^^^ B)=A ^^^ 0:=by rw [e]
   rw [<- Nat.xor_assoc,Nat.xor_self,Nat.zero_xor,Nat.xor_zero] at e2;exact e2.symm)
  rw [aK,aK]

theorem Iz (a b:Int) (a0:0<=a) (a1:a<18446744073709551616) (b0:0<=b) (b1:b<18446744073709551616) (w:World) :
  ClZ 259 #[.int .u64 a,.int .u64 b] w fun e w'=>e=.returned (.int .u64 (eqw a b))/\w'=w:=by
 obtain ⟨x0,x1,hx⟩:=Gd a b a0 a1 b0 b1;delta ClZ;go_in;go_wp2_with (go_at_call 117;refine (Eg _ x0 x1 _).mono ?_;rintro e w' ⟨rfl,rfl⟩);go_ret;exact ⟨rfl,rfl⟩

def gM (L:Nat->Nat):Nat->Nat
 | 0=>0
 | n+1=>max (gM L n) (L n)

theorem uV (L:Nat->Nat):∀ n i,i<n->L i<=gM L n
 | n+1,i,h=>by
  by_cases e:i=n
  ·subst e;simp only [gM];omega
  ·have:=uV L n i (by omega);simp only [gM];omega

theorem vj (L:Nat->Nat) (B:Nat):∀ n,(∀ i,i<n->L i<=B)->gM L n<=B
 | 0,_=>aQ _
 | n+1,h=>by
  have h1:=vj L B n (fun i hi=>h i (by omega));have h2:=h n (by omega);simp only [gM];omega

def Slots (w:World) (ao:OA) (n:Nat) (A:Nat->OA) (L C:Nat->Nat):Prop:=
 ∀ i,i<n->∃ b off,ao=some ⟨b,off,none⟩/\w.cell? ⟨b,off+i,none⟩=some (.slice (A i) (L i) (C i))

theorem zM (ao:OA) (n l:Nat) (A:Nat->OA) (L C:Nat->Nat) (w:World) (hn:n<=1000000000) (hc:Slots w ao n A L C) :
  ClZ 115 #[.slice ao n l] w fun e w'=>e=.returned (.tuple #[.int .i64 (gM L n:Nat),.func (.func 180) #[] #[.pointer (some ⟨w.heap.size,0,none⟩)]])/\w'=w.alloc (.cells #[.int .i64 (gM L n:Nat)] 3):=by
 have HC:HzD (Slots w ao n A L C):=hc;clear hc;delta ClZ;go_in;go_wp2_with fail;go_loopw [9] (fun i wr=>∃ (k m:Nat),k<=n/\i=.int .i64 (k:Int)/\wr=w.alloc (.cells #[.int .i64 (m:Int)] 3)/\HzD (m=gM L k)) (fun i _=>((n:Int)-intOf i).toNat)
 case atStart=>exact ⟨0,0,aQ _,rfl,rfl,rfl⟩
 case round=>
  obtain ⟨k,m,hk,rfl,rfl,hm⟩:=hrel;by_cases hkn:k<n
  ·have o:(k:Int)<(n:Int):=by omega
   obtain ⟨b,off,rfl,a⟩:=HC.o k hkn;obtain ⟨ao,j⟩:=aj (A k)
   obtain ⟨f,c⟩:=aj (L k)
   obtain ⟨cp,d⟩:=aj (C k)
   rw [<- j,<- c,<- d] at a;have g:HzD (f=L k):=c;have h:=((ah af w).alloc (.cells #[.int .i64 (m:Int)] 3)).cellN a;clear j c d HC;go_wp2_with fail;go_roundw
   case rel=>exact ⟨k+1,max m f,by omega,by go_num,by rw [show ((max m f:Nat):Int)=max (m:Int) (f:Int) by omega],by unfold HzD;rw [gM,<- hm.o,<- g.o]⟩
   case measure=>simp [intOf];omega
  ·have o:¬ (k:Int)<(n:Int):=by omega
   have e:k=n:=by omega
   subst e;go_wp2_with fail;go_ret2;rw [hm.o];exact ⟨rfl,rfl⟩

theorem Row.source {k:IntKind} {a:Nat} (h:Row k w (.slice ao L a) xs) (hk:Kept af w W) (hp:0<(xs.map fun z:Nat=>Value.int k (z:Int)).length) :
  ∃ ad,ao=some ad/\∀ j u,(xs.map fun z:Nat=>Value.int k (z:Int))[j]? = some u->W.cell? (ad.add j)=some u:=by
 obtain ⟨f,n,c,e,hL,_,_,_,g4⟩:=h.open;simp only [Value.slice.injEq] at e;obtain ⟨rfl,rfl,rfl⟩:=e;rw [cJ] at hp;have hl:=hL.o;obtain ⟨b,off,rfl,_⟩:=g4 0 (by omega);refine ⟨_,rfl,fun j u hu=>?_⟩;have hj:j<xs.length:=by
  have:=(nB.1 hu).1;simpa using this
 obtain ⟨b',d,e,hc⟩:=(g4 j (by omega)).g hk;simp only [iI,Addr.mk.injEq] at e;obtain ⟨rfl,rfl,_⟩:=e;rw [bV,aS hj] at hu;rw [show (⟨b,off,none⟩:Addr).add j=⟨b,off+j,none⟩ by simp [Addr.add],hc,<- hu,aA,aS hj];rfl

theorem jE (k:IntKind) (xs:LN):∀ u ∈ xs.map (fun z:Nat=>Value.int k (z:Int)),u.oneCell'=true:=by
 intro u hu;obtain ⟨z,_,rfl⟩:=jv.1 hu;rfl

theorem Gr (o:Tr) (v:Value) (xs:LN) (n g:Nat) (w:World) (ht:TrIn w o) (h:RowT w o v xs) (hd:Digs xs) (hl:xs.length<=n) (hn:n<=1000000000) (hg:w.heap[g]? = some (.cells #[.int .i64 (n:Nat)] 3 (0,0))) :
  ClZ 180 #[v,.pointer (some ⟨g,0,none⟩)] w fun e w'=>∃ v',e=.returned v'/\RowT w' o v' (digs (val xs) n)/\Kept af w w'/\(v'=v\/∀ b,v'.ownBlock=some b->w.heap.size<=b):=by
 obtain ⟨i0,m,y,p,A⟩:=info_parts Tryz.info24;have hb:w.cell? ⟨g,0,none⟩=some (.int .i64 (n:Nat)):=(cell_of_row w g 0 _ _ _ hg).trans rfl;rw [iN hd rfl hl];obtain ⟨ao,q,i,rfl,hL,_,_,_,_⟩:=h.1.open;by_cases he:q=n
 ·have t:(q:Int)=(n:Int):=by omega
  rw [show n-xs.length=0 by rw [hL.o];omega,fg,dY];have H:HzD (RowT w o (.slice ao q i) xs):=h;clear h hg hd;delta ClZ;go_in;go_wp2;go_ret;exact ⟨_,rfl,H.o,ah _ _,.inl rfl⟩
 ·have t:¬ (q:Int)=(n:Int):=by omega
  have HS:HzD (∀ W,Kept af w W->0<(xs.map fun z:Nat=>Value.int .u64 (z:Int)).length->∃ ad,ao=some ad/\∀ j u,(xs.map fun z:Nat=>Value.int .u64 (z:Int))[j]? = some u->W.cell? (ad.add j)=some u):=fun W hk hp=>h.1.source hk hp
  have HO:=aa (jE .u64 xs);have c:HzD ((xs.map fun z:Nat=>Value.int .u64 (z:Int)).length=q):=by unfold HzD;rw [cJ];exact hL.o
  obtain ⟨CS,d⟩:=aj (xs.map (fun z:Nat=>Value.int .u64 (z:Int)))
  rw [<- d] at HS HO c;have s:HzD (CS=xs.map (fun z:Nat=>Value.int .u64 (z:Int))):=d;have hq:q<=n:=by rw [<- hL.o];exact hl
  have HT:HzD (TrIn w o):=ht;clear d h hg hd ht hl;delta ClZ;go_in;go_wp2_with (at_make;refine wpList_make_full _ rfl _ _ 23 rfl w.heap.size 24 i0 _ 1 underlying23 m y p _ _ _ _ n rfl rfl rfl rfl (by rw [A];omega) (by unfold maxLen;omega) (leR _) ?_;intro w1 f l;rw [bD] at f;have k1:=bf l;obtain ⟨w2,x,k,k2⟩:=ew (P:=prog) 23 23 3 24 w.heap.size 0 n n (some ⟨w.heap.size,0,none⟩) ao q i _ 24 CS underlying23 (by rw [m];simp [p]) (iy f) (by rw [c.o];exact (jw hq).symm) (fun hp=>⟨rfl,HS.o _ k1 hp⟩) (by have:=c.o;simp;omega) HO.o;have r:HzD _:=k;clear k f l);go_ret
  have a:=r.o;rw [s.o,ig] at a;have kk:=fH k1 k2 (leR _);exact ⟨_,rfl,ib (base:=w.heap.size) (dZ a (by simp [hL.o];omega) (by unfold maxLen;omega) (leR _)) (by simp [hL.o];omega) (HT.o.g kk),kk,.inr (fun b hb=>by simp [Value.ownBlock] at hb;omega)⟩

theorem rN (o:Tr) (v:Value) (xs:LN) (n g:Nat) (w:World) (ht:TrIn w o) (h:RowT w o v xs) (hd:Digs xs) (hl:xs.length<=n) (hn:n<=1000000000) (hg:w.heap[g]? = some (.cells #[.int .i64 (n:Nat)] 3 (0,0))) :
  ClZ 180 #[v,.pointer (some ⟨g,0,none⟩)] w fun e w'=>∃ v',e=.returned v'/\RowT w' o v' (digs (val xs) n)/\Kept af w w':=by
 refine (Gr o v xs n g w ht h hd hl hn hg).mono ?_;rintro e w' ⟨v',rfl,hr,hk,_⟩;exact ⟨v',rfl,hr,hk⟩

def dF (b:Bool):Nat:=if b=true then 1 else 0

def gV (A B n:Nat):Nat:=if A<B then A+2^(64*n)-B else A-B

def cZ (bit A B:Nat):Nat:=if bit%2=1 then A else B

theorem nV (ao bo:OA) (L M a b:Nat) (w:World) :
  ClZ 115 #[.slice (some ⟨w.heap.size,0,none⟩) 2 2] (w.alloc (.cells #[.slice ao L a,.slice bo M b] 23)) fun e w'=>∃ g,e=.returned (.tuple #[.int .i64 (max L M:Nat),.func (.func 180) #[] #[.pointer (some ⟨g,0,none⟩)]])/\w'.heap[g]? = some (.cells #[.int .i64 (max L M:Nat)] 3 (0,0))/\w.heap.size<=g/\Kept af w w':=by
 have hn:=JH w (.slice ao L a) (.slice bo M b) 23;refine (zM (some ⟨w.heap.size,0,none⟩) 2 2 (fun i=>if i=0 then ao else bo) (fun i=>if i=0 then L else M) (fun i=>if i=0 then a else b) _ (by omega) ?_).mono ?_
 ·intro i hi;refine ⟨_,_,rfl,?_⟩;rw [dU,World.ownsRow.cellAt hn i (by omega)];have:i=0\/i=1:=by omega
  rcases this with rfl | rfl <;> rfl
 ·rintro e w' ⟨rfl,rfl⟩;have hm:gM (fun i=>if i=0 then L else M) 2=max L M:=by simp [gM]
  rw [hm];exact ⟨_,rfl,heap_alloc_new _ _,by simp,((ah af w).alloc _).alloc _⟩

theorem Eb (x y c:Nat) (hx:x<18446744073709551616) (hy:y<18446744073709551616) (hc:c<=1) (w:World) :
  ClZ 216 #[.int .u64 (x:Nat),.int .u64 (y:Nat),.int .u64 (c:Nat)] w fun e w'=>∃ z c':Nat,e=.returned (.tuple #[.int .u64 (z:Nat),.int .u64 (c':Nat)])/\z<18446744073709551616/\c'<=1/\z+18446744073709551616*c'=x+y+c/\w'=w:=by
 refine (Mf (x:Int) (y:Int) (c:Int) (by omega) (by omega) (by omega) (by omega) w).mono ?_;rintro e w' ⟨rfl,rfl⟩;refine ⟨(x+y+c)%18446744073709551616,(x+y+c)/18446744073709551616,mA ?_ ?_,bu,by omega,by omega,rfl⟩ <;> omega

theorem Ar (x y c:Nat) (hx:x<18446744073709551616) (hy:y<18446744073709551616) (hc:c<=1) (w:World) :
  ClZ 171 #[.int .u64 (x:Nat),.int .u64 (y:Nat),.int .u64 (c:Nat)] w fun e w'=>∃ z c':Nat,e=.returned (.tuple #[.int .u64 (z:Nat),.int .u64 (c':Nat)])/\z<18446744073709551616/\c'<=1/\z+y+c=x+18446744073709551616*c'/\w'=w:=by
 refine (Mi (x:Int) (y:Int) (c:Int) (by omega) (by omega) (by omega) (by omega) (by omega) w).mono ?_;rintro e w' ⟨rfl,rfl⟩;unfold bor;by_cases h:(x:Int)<(y:Int)+(c:Int)%2
 ·rw [ai h];refine ⟨x+18446744073709551616-(y+c),1,mA ?_ ?_,by omega,by omega,by omega,rfl⟩ <;> omega
 ·rw [ar h];refine ⟨x-(y+c),0,mA ?_ ?_,by omega,by omega,by omega,rfl⟩ <;> omega

theorem pN (y bit:Nat) (hy:y<18446744073709551616):bits .and .u64 (y:Int) (msk (bit:Int))=((y*(bit%2):Nat):Int):=by
 unfold msk;have:bit%2=0\/bit%2=1:=by omega
 rcases this with h | h
 ·rw [show (bit:Int)%2=0 by omega,h];have e:=u64_and_nat y 0 (by omega) (by omega);rw [Nat.and_zero] at e;exact e
 ·rw [show (bit:Int)%2=1 by omega,h];have e:=u64_and_nat y 18446744073709551615 (by omega) (by omega);rw [show (18446744073709551615:Nat)=2^64-1 from rfl,sS (by omega)] at e;rw [bI];exact e

theorem fw (B X k:Nat):X%B^(k+1)=X%B^k+B^k*dig X k B:=by rw [dig,aG,lh]

theorem zB (B Y bit k:Nat):dig (Y*(bit%2)) k B=dig Y k B*(bit%2):=by
 have:bit%2=0\/bit%2=1:=by omega
 rcases this with h | h <;> rw [h] <;> simp [dig]

theorem Av {Y c':Nat} (hl:os.length=k) (h:val os B+B^k*c=X%B^k+Y%B^k) (hz:z+B*c'=dig X k B+dig Y k B+c) :
  val (os ++ [z]) B+B^(k+1)*c'=X%B^(k+1)+Y%B^(k+1):=by
 rw [dG,hl,fw,fw,aG,bd];have e:B^k*(z+B*c')=B^k*(dig X k B+dig Y k B+c):=by rw [hz]
 rw [aJ,aJ,aJ] at e;omega

theorem Bu {Y c':Nat} (hl:os.length=k) (h:val os B+Y%B^k=X%B^k+B^k*c) (hz:z+dig Y k B+c=dig X k B+B*c') :
  val (os ++ [z]) B+Y%B^(k+1)=X%B^(k+1)+B^(k+1)*c':=by
 rw [dG,hl,fw,fw,aG,bd];have e:B^k*(z+dig Y k B+c)=B^k*(dig X k B+B*c'):=by rw [hz]
 rw [aJ,aJ,aJ] at e;omega

theorem kM (os:LN) (n k z:Nat) (hl:os.length=k) (h:k<n:=by omega):(os ++ List.replicate (n-k) 0).set k z=(os ++ [z]) ++ List.replicate (n-(k+1)) 0:=by
 rw [ir _ _ (by omega),hl,cj,show n-k=(n-(k+1))+1 by omega,j9];simp

theorem B64 (n:Nat):(18446744073709551616:Nat)^n=2^(64*n):=by rw [aW]

theorem jh {base g:Nat} (h:OwnN .u64 t w base (.slice (some ⟨g,0,none⟩) n n) n (os ++ List.replicate (n-k) 0)) (hl:os.length=k) (hk:k<n:=by omega):w.cell? ⟨g,k,none⟩=some (.int .u64 0):=by
 rw [World.ownsRow.cellAt h k (by omega),bV,io (by omega),hl,cj,eF,cf];rfl

theorem Slots.g {A:Nat->OA} {L C:Nat->Nat} (h:Slots w ao n A L C) (k:Kept af w w'):Slots w' ao n A L C:=by
 intro i hi;obtain ⟨b,off,rfl,hc⟩:=h i hi;exact ⟨b,off,rfl,k.cellN hc⟩

open Go.RowKit Go.Deep

def NatsIn (w:World) (v:Value) (n:Nat) (A:Nat->OA) (L C:Nat->Nat) (xss:Nat->LN):Prop:=
 ∃ ao cap,v=.slice ao n cap/\n<=cap/\cap<=maxLen/\Slots w ao n A L C/\∀ p,p<n->Row .u64 w (.slice (A p) (L p) (C p)) (xss p)/\Digs (xss p)

open Go.RowKit Go.Deep Go.ChangeShapes

theorem BZ {H:Type} (d:DataW H):1<=Rows.uptoBulk d:=by
 cases d
 case lit l=>cases l <;> simp [Rows.uptoBulk]
 all_goals simp [Rows.uptoBulk]

theorem qh {H:Type}:∀ l:List (DataW H),l.length<=Rows.uptoBulkAll l
 | []=>aQ _
 | d :: r=>by
  have h1:=BZ d;have h2:=qh r;simp only [Rows.uptoBulkAll,dh];omega

theorem uA {H:Type} {d:DataW H}:∀ {l:List (DataW H)},d ∈ l->Rows.uptoBulk d<=Rows.uptoBulkAll l
 | [],h=>by cases h
 | c :: r,h=>by
  simp only [Rows.uptoBulkAll];rcases fM.1 h with rfl | h
  ·omega
  ·have:=uA h;omega

theorem B7 {H:Type} {A:OA} {C:Nat} {Z:List Int} (hL:L<=C) (hZ:Z.length=C) (hA:A=none->C=0):L<=Rows.uptoBulk (intRow (H:=H) .u64 A L Z):=by
 cases A with
 | none=>
  have:=hA rfl;omega
 | some a=>
  have h:=qh (lits (H:=H) .u64 (Z.take L));simp only [lits,cJ,aR] at h;show L<=Rows.uptoBulk (.slice (lits .u64 (Z.take L)) (lits .u64 (Z.drop L)))
  simp only [Rows.uptoBulk,lits];omega

theorem open_natsU {H:Type} {s:TypeId × Value->H} {base l:Nat} {m:Bool} {a:OA} {g:Nat} {d:DataW H} {p:List MemPlace} (h:DataW.trod s prog w base (fun _=>true) m l 27 [.slice a c g]=some (d,p)) :
  ∃ n A L C t,NatsIn w (.slice a c g) n A L C t/\n<=Rows.uptoBulk d/\∀ i,i<n->L i<=Rows.uptoBulk d:=by
 rcases open_int_rows underlying27 underlying23 underlying24 (by kernel_rfl) (by kernel_rfl) h with ⟨hcs,_⟩ | ⟨a',len',cap',A,L,C,Z,hcs,_,hl,hm,hxe,hx⟩
 ·simp at hcs;obtain ⟨rfl,rfl,rfl⟩:=hcs;exact ⟨0,fun _=>none,fun _=>0,fun _=>0,fun _=>[],⟨none,0,rfl,leR _,aQ _,fun i hi=>by omega,fun p hp=>by omega⟩,aQ _,fun i hi=>by omega⟩
 ·simp at hcs;obtain ⟨rfl,rfl,rfl⟩:=hcs;have k:∀ r,r<c->∃ ns:LN,Row .u64 w (.slice (A r) (L r) (C r)) ns/\Digs ns:=fun r hr=>by
   obtain ⟨_,h1,h2,h3,h4,h5,h6⟩:=hx r (by omega);cases hA:A r with
   | none=>
    have e:=h5 hA;rw [e] at h1 h3;have eL:L r=0:=by omega
    rw [e,eL];exact row_of_ints tV (zs:=[]) (.inl ⟨rfl,rfl,rfl,rfl⟩)
   | some b=>
    exact row_of_ints tV (.inr ⟨b,rfl,h1,h2,h3,fun i hi=>(h6 b hA).2 i (by omega),h4⟩)
  obtain ⟨q,hq⟩:=choose_lt k;have hd:d=.slice ((List.range c).map fun r=>intRow .u64 (A r) (L r) (Z r)) ((List.range (g-c)).map fun j=>intRow .u64 (A (c+j)) (L (c+j)) (Z (c+j))):=congrArg Prod.fst hxe;have hB:Rows.uptoBulkAll (H:=H) ((List.range c).map fun r=>intRow .u64 (A r) (L r) (Z r))<=Rows.uptoBulk d:=by
   rw [hd];simp only [Rows.uptoBulk];omega
  refine ⟨c,A,L,C,q,⟨some a',g,rfl,hl,hm,fun i hi=>?_,hq⟩,?_,fun i hi=>?_⟩
  ·obtain ⟨b,off,o⟩:=a';have hc:=(hx i (by omega)).1;have f:o=none:=by simpa [Addr.add] using World.cell?_spot (hx 0 (by omega)).1
   subst f;rw [Go.WideShapes.add_plain] at hc;exact ⟨b,off,rfl,hc⟩
  ·have h1:=qh ((List.range c).map fun r=>intRow (H:=H) .u64 (A r) (L r) (Z r));simp only [cJ,mn] at h1;omega
  ·obtain ⟨_,h1,_,h3,_,h5,_⟩:=hx i (by omega);have h2:=uA (H:=H) (d:=intRow .u64 (A i) (L i) (Z i)) (jv.2 ⟨i,j8.2 hi,rfl⟩:intRow .u64 (A i) (L i) (Z i) ∈ (List.range c).map fun r=>intRow .u64 (A r) (L r) (Z r));have h4:=B7 (H:=H) h1 h3 h5;omega

def iR (N:Nat) (ms:LN):Nat:=if ms.length=fI N/\bev ms<N then 0 else 1

theorem Ce {ms:LN} (h:Digs ms 256):cC (bev ms)<=ms.length:=(dI _ _).2 (bi (nM h) (Nat.pow_le_pow_left (by omega) _))

theorem yd (hd:Digs xs):cC (val xs)<=2*xs.length:=(dI _ _).2 (by
 rw [aW];exact aE (by omega) hd)

theorem GS {a b:Nat}:cY a b≥0↔b<=a:=by
 unfold cY
 split
 ·constructor <;> intro h <;> omega
 ·split <;> constructor <;> intro h <;> omega

theorem Bi (u:Value) (ns:LN) (bo:OA) (M l:Nat) (ms:LN) (w:World) (hu:Row .u64 w u ns) (a:Digs ns) (o:ns.length<=1000000) (hv:Row .u8 w (.slice bo M l) ms) (m:Digs ms 256) (s:M<=1000000) :
  ClZ 34 #[u,.slice bo M l] w fun e w'=>∃ v',e=.returned (.tuple #[v',.int .i64 (iR (val ns) ms:Nat)])/\(iR (val ns) ms=0->IsBig w' v' (bev ms)/\∀ x,v'.ownBlock=some x->w.heap.size<=x)/\(∃ xo xn xc,v'=.slice xo xn xc)/\Kept af w w':=by
 obtain ⟨_,_,_,e1,hM,-,-,-,-⟩:=hv.open;cases e1
 have hF:=yR _ ms w hv m (by rw [hM.o];omega);have JS:=aa fun W (k:Kept af w W)=>Fz u ns W (hu.g k) a (by omega)
 have JO:=aa fun W (k:Kept af w W)=>rOf u ns W (hu.g k) a
 obtain ⟨ao,L,p,rfl,-,-,-,-,-⟩:=hu.open;have HM:=aa hM.o;have t:fI (val ns)<=8000001:=by
  unfold fI;have:=uu a;omega
 clear hu a o hv m hM;generalize val ns=N at *;delta ClZ;go_in;go_wp2_with fail;refine hF.mono ?_;rintro e w1 ⟨v1,rfl,b1,f1,k1⟩;have g:=aa k1;have n:=aa f1;have hS:=JS.o w1 k1;obtain ⟨xo,xn,xc,rfl,-,-⟩:=b1.length;have b:=aa b1;clear hF k1 b1 JS f1;generalize hz:fI N=z at *;have HZ:=aa hz;clear hz;by_cases h1:M=z
 ·have g1:((M:Int) == (z:Int))=true:=by simp [h1]
  have q:(M:Int)=(z:Int):=by omega
  subst h1;go_wp2_with fail;refine hS.mono ?_;rintro e w2 ⟨rfl,k2⟩;have i:=aa (g.o.trans k2);have d:=aa (b.o.g k2);have hO:=JO.o w2 i.o;clear hS k2 b;go_wp2_with fail;refine hO.mono ?_;rintro e w3 ⟨v3,rfl,b3,_,k3⟩;have j:=aa (i.o.trans k3);have f:=aa (d.o.g k3);have hC:=mI _ v3 (bev ms) N w3 f.o b3;obtain ⟨yo,yn,yc,rfl,-,-⟩:=b3.length;clear hO k3 d b3;by_cases h2:bev ms<N
  ·have HE:HzD (iR N ms=0):=by unfold HzD iR;rw [ai ⟨by rw [HM.o,HZ.o],h2⟩]
   rw [fh h2] at hC;clear h2;go_wp2_with fail;refine hC.mono ?_;rintro e w4 ⟨rfl,m4,rfl⟩;have k4:Kept af w3 (w3.drewN m4):=(ah af w3).drewN m4;go_wp2_with fail;go_ret2;exact ⟨_,by rw [HE.o];rfl,fun _=>⟨f.o.g k4,n.o⟩,⟨_,_,_,rfl⟩,j.o.trans k4⟩
  ·have HE:HzD (iR N ms=1):=by unfold HzD iR;rw [ar (fun h=>h2 h.2)]
   have g2:cY (bev ms) N≥0:=GS.2 (by omega);have r:(0:Int)<=cY (bev ms) N:=g2;generalize cY (bev ms) N=c at *;clear h2;go_wp2_with fail;refine hC.mono ?_;rintro e w4 ⟨rfl,m4,rfl⟩;have k4:Kept af w3 (w3.drewN m4):=(ah af w3).drewN m4;go_wp2_with fail;go_ret2;exact ⟨_,by rw [HE.o];rfl,fun h=>by rw [HE.o] at h;omega,⟨_,_,_,rfl⟩,j.o.trans k4⟩
 ·have HE:HzD (iR N ms=1):=by unfold HzD iR;rw [ar (fun h=>h1 (by rw [<- HM.o,<- HZ.o];exact h.1))]
  have g1:¬ (M:Int)=(z:Int):=by omega
  clear h1;go_wp2_with fail;refine hS.mono ?_;rintro e w2 ⟨rfl,k2⟩;clear hS;go_wp2_with fail;go_ret2;exact ⟨_,by rw [HE.o];rfl,fun h=>by rw [HE.o] at h;omega,⟨_,_,_,rfl⟩,g.o.trans k2⟩

def sU (ns:LN) (e:Nat) (ms:LN):Nat:=if gU ns e=0 then iR (val ns) ms else 190

def BK (ns:LN) (e:Nat) (ms:LN):LN:=if sU ns e ms=0 then bes (bev ms^e%val ns) ms.length ms.length else []

theorem yN (ns:LN) (e:Nat):gU ns e=0\/gU ns e=190:=by unfold gU;split <;> simp

theorem Do (h:gU ns e=0):ns.length<=1000:=by
 unfold gU at h
 split at h
 ·cases h
 ·next h1=>omega

theorem yB (N:Nat) (ms:LN):iR N ms=0\/iR N ms=1:=by unfold iR;split <;> simp

theorem Dw (ao:OA) (L c:Nat) (ns:LN) (e:Nat) (he:e<18446744073709551616) (bo:OA) (M j:Nat) (ms:LN) (w:World) (hu:Row .u64 w (.slice ao L c) ns) (d:Digs ns) (s:L<=1000000) (hv:Row .u8 w (.slice bo M j) ms) (l:Digs ms 256) (F:M<=1000000) :
  ClZ 12 (mzA ao L c e bo M j) w fun q w'=>∃ v',q=.returned (.tuple #[v',.int .i64 (sU ns e ms:Nat)])/\Row .u8 w' v' (BK ns e ms)/\(∀ b,v'.ownBlock=some b->w.heap.size<=b)/\Kept af w w':=by
 obtain ⟨_,_,_,e1,hL,-,-,-,-⟩:=hu.open;cases e1
 obtain ⟨_,_,_,e1,hM,-,-,-,-⟩:=hv.open;cases e1
 have hP:=sI ao L c ns e he _ rfl w hu d s;have JN:=aa fun W (k:Kept af w W)=>Bi (.slice ao L c) ns bo M j ms W (hu.g k) d (by have:=hL.o;omega) (hv.g k) l F
 have JO:=aa fun W (k:Kept af w W)=>rOf (.slice ao L c) ns W (hu.g k) d (by have:=hL.o;omega)
 have HD:HzD (cC (bev ms)<=M):=by unfold HzD;rw [<- hM.o];exact Ce l
 have x:HzD (gU ns e=0->cC (val ns)<=2000):=fun h=>by
  have h1:=Do h;have h2:=yd d;omega
 have HA:HzD (sU ns e ms=if gU ns e=0 then iR (val ns) ms else 190):=rfl;have f:HzD (BK ns e ms=if sU ns e ms=0 then bes (bev ms^e%val ns) M M else []):=by unfold HzD;rw [<- hM.o];rfl
 have HC:=yN ns e;have C:=yB (val ns) ms;have B:HzD (iR (val ns) ms=0->bev ms<val ns):=fun h=>by
  unfold iR at h
  split at h
  ·next h1=>exact h1.2
  ·cases h
 clear hu d s hv l hL hM;generalize val ns=N at *;generalize gU ns e=pe at *;generalize sU ns e ms=ae at *;generalize BK ns e ms=al at *;delta ClZ;go_in;go_wp2_with fail;refine hP.mono ?_;rintro r w1 ⟨rfl,k1⟩;have g:=aa k1;clear hP k1;rcases HC with rfl | rfl
 ·have hN:=JN.o w1 g.o;go_wp2_with fail;refine hN.mono ?_;rintro r w2 ⟨v2,rfl,b2,⟨xo,xn,xc,rfl⟩,k2⟩;have n:=aa (g.o.trans k2);clear hN k2;rcases C with h0 | h0
  ·have t:=aa (b2 h0).1;have hlt:=B.o h0;have m:HzD (ae=0):=by unfold HzD;have h9:=HA.o;simp at h9;rw [h9,h0]
   have HS:=aa (jp e he w2);rw [h0];clear b2 h0;go_wp2_with fail;refine HS.o.mono ?_;rintro r w3 ⟨v3,rfl,b3,_,k3⟩;have o:=aa (n.o.trans k3);have hO:=JO.o w3 o.o;have v:=aa (t.o.g k3);have y:=aa b3;obtain ⟨yo,yn,yc,rfl,-,-⟩:=b3.length;clear HS k3 b3;go_wp2_with fail;refine hO.mono ?_;rintro r w4 ⟨v4,rfl,b4,_,k4⟩;have z:=aa (o.o.trans k4);have hX:=tG _ _ v4 (bev ms) e N w4 (v.o.g k4) (y.o.g k4) b4 (by omega) (by have:=HD.o;omega) (by have:=x.o (by first | rfl | trivial);omega);obtain ⟨zo,zn,zc,rfl,-,-⟩:=b4.length;clear hO k4 b4;go_wp2_with fail;refine hX.mono ?_;rintro r w5 ⟨v5,rfl,b5,_,k5⟩
   have p:=aa (z.o.trans k5);have hT:=Dy v5 (bev ms^e%N) M w5 b5 (by omega);obtain ⟨tq,tn,tc,rfl,-,-⟩:=b5.length;clear hX k5 b5;go_wp2_with fail;refine hT.mono ?_;rintro r w6 ⟨v6,rfl,r6,o6,k6⟩;have A:=aa (p.o.trans k6);have E:HzD (Row .u8 w6 v6 al):=by unfold HzD;rw [f.o,ai m.o];exact r6
   have D:HzD (∀ b,v6.ownBlock=some b->w.heap.size<=b):=fun b hb=>by
    rw [o6] at hb;cases hb
    exact p.o.size
   obtain ⟨ro,rn,rc,rfl,-,-⟩:=r6.open;clear hT k6 r6 o6;go_wp2_with fail;go_ret2;exact ⟨_,by rw [m.o];rfl,E.o,D.o,A.o⟩
  ·have a:HzD (ae=1):=by unfold HzD;have h9:=HA.o;simp at h9;rw [h9,h0]
   have i:HzD (al=[]):=by unfold HzD;rw [f.o,ar (by rw [a.o];omega)]
   rw [h0];clear b2 h0;go_wp2_with fail;go_ret2;exact ⟨_,by rw [a.o];rfl,by rw [i.o];exact Row.nil _ _,(fun b hb=>by cases hb),n.o⟩
 ·have a:HzD (ae=190):=by unfold HzD;have h9:=HA.o;simp at h9;exact h9
  have i:HzD (al=[]):=by unfold HzD;rw [f.o,ar (by rw [a.o];omega)]
  go_wp2_with fail;go_ret2;exact ⟨_,by rw [a.o];rfl,by rw [i.o];exact Row.nil _ _,(fun b hb=>by cases hb),g.o⟩

theorem Tryz.info8s:(prog.info? 5).map (fun i=>(i.zero,i.size,i.bytes))=some (some (.int .u8 0),1,1):=by kernel_rfl

def OwnB (w:World) (base:Nat) (v:Value) (zs:LN):Prop:=OwnN .u8 5 w base v zs.length zs

theorem OwnB.row {base:Nat} {v:Value} (h:OwnB w base v zs):Row .u8 w v zs:=Row.of_own (base:=base) (e:=5) h

theorem OwnB.of {base:Nat} {v:Value} (h:OwnN .u8 5 w base v n zs):OwnB w base v zs:=by
 have hn:zs.length=n:=by
  have:=h.1;rw [cJ] at this;omega
 unfold OwnB;rw [hn];exact h

theorem OwnB.base {base base':Nat} {v:Value} (h:OwnB w base v zs) (hb:base'<=base):OwnB w base' v zs:=dg h fun k hk=>aI hb (h.lt k hk).1

theorem OwnB.nil (w:World) (base:Nat):OwnB w base (.slice none 0 0) []:=World.ownsRow_nil _ _ _ _

def DO:Value->Nat
 | .slice _ n _=>n
 | _=>0

theorem DJ {k:IntKind} {b off s:Nat} (h:Row k w (.slice (some ⟨b,off,none⟩) n c) zs) (h2:s+m<=n):Row k w (.slice (some ⟨b,off+s,none⟩) m (c-s)) ((zs.drop s).take m):=by
 obtain ⟨ao,d,e',c1,c2,_,h4⟩:=h;cases e'
 have hl:((zs.drop s).take m).length=m:=by rw [aR,cV];omega
 refine ⟨_,_,by rw [hl],by omega,by omega,(fun e=>by cases e),fun i hi=>?_⟩;rw [hl] at hi;obtain ⟨b',f,e',a⟩:=h4 (s+i) (by omega);cases e'
 refine ⟨b,off+s,rfl,?_⟩;rw [iX,a,aA,aA,eG,ai hi,fd]

theorem CX {k:IntKind} {ad:Addr} (h:Row k w (.slice (some ad) n d) zs) (kk:Kept af w W):∀ j u,(zs.map fun z:Nat=>Value.int k (z:Int))[j]? = some u->W.cell? (ad.add j)=some u:=fun j u hj=>by
 obtain ⟨hlt,hv⟩:=nB.1 hj;rw [cJ] at hlt;obtain ⟨ao,e,e',c1,c2,_,h4⟩:=h;cases e'
 obtain ⟨b,off,e',a⟩:=h4 j hlt;cases e'
 have c:(⟨b,off,none⟩:Addr).add j=⟨b,off+j,none⟩:=by unfold Addr.add;split <;> simp_all
 rw [c,kk.cellN a,<- hv,List.getElem_map,aA,aS hlt];rfl

theorem JU (k:IntKind) (zs:LN):∀ u ∈ (zs.map fun z:Nat=>Value.int k (z:Int)),u.oneCell'=true:=fun u hu=>by
 obtain ⟨x,_,rfl⟩:=jv.1 hu;rfl

def sZ (bs:LN):ByteArray:=if bs=[] then ByteArray.empty else strOfNums (bs.map fun b:Nat=>(b:Int))

theorem xq {a:Nat} (h:Row .u8 w (.slice ao n a) bs) :
  ∀ dst,prog.underlying dst=some .string->(convert 28 dst (.slice ao n a)).run prog w=.ok (.string (sZ bs)) w:=by
 obtain ⟨f,c,e,c1,c2,c3,h4⟩:=h;cases e
 cases bs with
 | nil=>
  intro dst hd;rw [run_convert_bytes_string w 28 dst 5 _ _ a underlying28 underlying5 hd];cases ao <;> simp [Conv.bytesToString,loadCells,sZ]
  all_goals rfl
 | cons x t=>
  obtain ⟨b,off,rfl,_⟩:=h4 0 (by simp);have:=run_convert_bytes_arg (P:=prog) w 28 5 underlying28 underlying5 b off (x :: t).length a ((x :: t).map fun b:Nat=>(b:Int)) (by simp) (fun i hi=>by
   obtain ⟨b',d,e,hc⟩:=h4 i hi;cases e
   rw [hc,aA,aA,bV,aS hi];rfl)
  intro dst hd;rw [this dst hd];simp [sZ]

theorem rZ (bs:LN):(sZ bs).data.toList=bs.map fun b=>UInt8.ofNat b:=by
 unfold sZ
 split
 ·next h=>rw [h];rfl
 ·rw [strOfNums_data,List.map_map];rfl

theorem r8:∀ {xs bs:LN},Digs xs 256->Digs bs 256->(xs.map fun b=>UInt8.ofNat b)=(bs.map fun b=>UInt8.ofNat b)->xs=bs
 | [],[],_,_,_=>rfl
 | [],_ :: _,_,_,h=>by simp at h
 | _ :: _,[],_,_,h=>by simp at h
 | a :: xs,b :: bs,ha,hb,h=>by
  rw [jP,jP,List.cons.injEq] at h;have e1:a=b:=by
   have:=congrArg UInt8.toNat h.1;rw [UInt8.toNat_ofNat',UInt8.toNat_ofNat'] at this;have h1:=ha a (by simp);have h2:=hb b (by simp);omega
  rw [e1,r8 (fun d hd=>ha d (by simp [hd])) (fun d hd=>hb d (by simp [hd])) h.2]

theorem Ae (u v:Value) (xs bs:LN) (w:World) (ha:Row .u8 w u xs) (hb:Row .u8 w v bs) (da:Digs xs 256) (db:Digs bs 256) :
  ClZ 13 #[u,v] w fun e w'=>e=.returned (.bool (decide (xs=bs)))/\w'=w:=by
 obtain ⟨ao,na,ca,rfl,_⟩:=ha.open;obtain ⟨bo,nb,cb,rfl,_⟩:=hb.open;have k1:=xq ha 9 underlying9;have k2:=xq hb 9 underlying9;have hd:decide (xs=bs)=((sZ xs).toList == (sZ bs).toList):=by
  rw [Lib.toList_data,Lib.toList_data,rZ,rZ];by_cases h:xs=bs
  ·rw [h];simp
  ·rw [cI h]
   symm
   exact beq_eq_false_iff_ne.2 fun e=>h (r8 da db e)
 rw [hd];generalize sZ xs=s at *;generalize sZ bs=t at *;clear ha hb hd;delta ClZ;go_in;go_wp2;go_ret;exact ⟨rfl,rfl⟩

def ie (bs:LN) (n:Int):Nat:=if n<0 then 1 else if (bs.length:Int)<n then 150 else 0
def jd (bs:LN) (n:Int):LN:=if ie bs n=0 then bs.take n.toNat else []
def jG (bs:LN) (n:Int):LN:=if n<0 then bs else bs.drop n.toNat

def ja (M t z:Nat):Nat->LN->Nat->Nat × Nat × LN
 | 0,_,_=>(0,0,[])
 | f+1,bs,k=>if bs.length<z then (0,0,[]) else if 0<bev (bs.take z)%2^t/\bev (bs.take z)%2^t<M then (bev (bs.take z)%2^t,k,bs.drop z) else ja M t z f (bs.drop z) (k+1)

def uf (M:Nat) (bs:LN):Nat × Nat × LN:=ja M (aN M) ((aN M+7)/8) (bs.length+1) bs 1

theorem zr (M t z:Nat) (hM:0<M):∀ f bs k,(ja M t z f bs k).1<M
 | 0,_,_=>hM
 | f+1,bs,k=>by
  unfold ja
  split
  ·exact hM
  ·split
   ·next h=>exact h.2
   ·exact zr M t z hM f _ _

theorem rT (M t z:Nat):∀ f bs k,∃ n,(ja M t z f bs k).2.2=bs.drop n
 | 0,bs,_=>⟨bs.length,by rw [List.drop_length];rfl⟩
 | f+1,bs,k=>by
  unfold ja
  split
  ·exact ⟨bs.length,by rw [List.drop_length]⟩
  ·split
   ·exact ⟨z,rfl⟩
   ·obtain ⟨n,hn⟩:=rT M t z f (bs.drop z) (k+1);exact ⟨z+n,by rw [hn,ju]⟩

def fG (xs bs:LN):Nat:=if 300<xs.length then 2 else if val xs<2 then 1 else if (uf (val xs) bs).1=0 then 150 else 0
def jK (xs bs:LN):LN:=if fG xs bs=0 then digs (uf (val xs) bs).1 xs.length else []
def lu (xs bs:LN):Nat:=if fG xs bs=0 then (uf (val xs) bs).2.1 else 0
def jJ (xs bs:LN):LN:=if 300<xs.length\/val xs<2 then bs else (uf (val xs) bs).2.2

theorem rU {t f:Nat} (hf:bs.length<f) (hz:0<z):(bs.length<z/\ja M t z f bs k=(0,0,[])) \/
  (¬ bs.length<z/\(0<bev (bs.take z)%2^t/\bev (bs.take z)%2^t<M)/\ja M t z f bs k=(bev (bs.take z)%2^t,k,bs.drop z)) \/
  (¬ bs.length<z/\¬ (0<bev (bs.take z)%2^t/\bev (bs.take z)%2^t<M)/\∃ g,(bs.drop z).length<g/\ja M t z f bs k=ja M t z g (bs.drop z) (k+1)):=by
 obtain ⟨g,rfl⟩:∃ g,f=g+1:=⟨f-1,by omega⟩
 by_cases h1:bs.length<z
 ·exact .inl ⟨h1,by rw [ja,ai h1]⟩
 ·by_cases h2:0<bev (bs.take z)%2^t/\bev (bs.take z)%2^t<M
  ·exact .inr (.inl ⟨h1,h2,by rw [ja,ar h1,ai h2]⟩)
  ·exact .inr (.inr ⟨h1,h2,g,by rw [cV];omega,by rw [ja,ar h1,ar h2]⟩)

theorem rS (M t z:Nat) (hz:0<z):∀ f bs k,(ja M t z f bs k).1≠0->(ja M t z f bs k).2.2.length<bs.length
 | 0,_,_,h=>absurd rfl h
 | f+1,bs,k,h=>by
  unfold ja at *
  split at h
  ·exact absurd rfl h
  ·next h1=>
   rw [ar h1]
   split at h
   ·next h2=>rw [ai h2];simp only [cV];omega
   ·next h2=>
    rw [ar h2];have:=rS M t z hz f (bs.drop z) (k+1) h;rw [cV] at this;omega

theorem BT (h:0<M):0<aN M:=by
 rcases cE (aN M) with e | e
 ·have:=(bh M 0).1 (by omega);simp at this;omega
 ·exact e

theorem BL (h:fG xs bs=0):(jJ xs bs).length<bs.length:=by
 unfold fG at h;unfold jJ
 split at h
 ·omega
 ·next h1=>
  split at h
  ·omega
  ·next h2=>
   split at h
   ·omega
   ·next h3=>
    rw [aK];exact rS _ _ _ (by have:=BT (show 0<val xs by omega);omega) _ _ _ h3

theorem BM (xs bs:LN):∃ n,jJ xs bs=bs.drop n:=by
 unfold jJ
 split
 ·exact ⟨0,by simp⟩
 ·exact rT _ _ _ _ _ _

theorem Ew (h:fG xs bs=0):(jK xs bs).length=xs.length:=by
 unfold jK;rw [ai h,ag]

theorem zt (hd:Digs xs) (h:fG xs bs=0):0<val (jK xs bs)/\val (jK xs bs)<val xs:=by
 have hb:=h;unfold fG at h
 split at h
 ·omega
 ·split at h
  ·omega
  ·next h2=>
   split at h
   ·omega
   ·next h3=>
    have hlt:=zr (val xs) (aN (val xs)) ((aN (val xs)+7)/8) (by omega) (bs.length+1) bs 1;have a:(uf (val xs) bs).1<val xs:=hlt;unfold jK;rw [ai hb,ay,aB (bH a (aE (by omega) hd))];exact ⟨by omega,a⟩

def nO (ns:LN):Prop:=ns.length<=300/\(aN (val ns)+63)/64<=130/\2<=val ns/\val ns%2=1

instance (ns:LN):Decidable (nO ns):=by unfold nO;infer_instance

def mW (ns:LN):Nat->LN->Nat->LN × Nat × Nat × LN
 | 0,_,_=>([],0,150,[])
 | f+1,bs,a=>if fG ns bs≠0 then ([],0,fG ns bs,jJ ns bs) else if Nat.gcd (val (jK ns bs)) (val ns)=1 then (jK ns bs,a+lu ns bs,0,jJ ns bs) else mW ns f (jJ ns bs) (a+lu ns bs)

def oI (ns bs:LN):LN × Nat × Nat × LN:=if nO ns then mW ns (bs.length+1) bs 0 else ([],0,1,bs)

theorem p9 (M t z:Nat) (hz:0<z):∀ f bs k,(ja M t z f bs k).1≠0->(ja M t z f bs k).2.1+(ja M t z f bs k).2.2.length<k+bs.length
 | 0,_,_,h=>absurd rfl h
 | f+1,bs,k,h=>by
  unfold ja at *
  split at h
  ·exact absurd rfl h
  ·next h1=>
   rw [ar h1]
   split at h
   ·next h2=>
    rw [ai h2];show k+(bs.drop z).length<_
    rw [cV];omega
   ·next h2=>
    rw [ar h2];have:=p9 M t z hz f (bs.drop z) (k+1) h;rw [cV] at this;omega

theorem Ax (h:fG xs bs=0):lu xs bs+(jJ xs bs).length<=bs.length:=by
 have h0:=h;unfold fG at h;unfold lu jJ;rw [ai h0]
 split at h
 ·omega
 ·next h1=>
  split at h
  ·omega
  ·next h2=>
   split at h
   ·omega
   ·next h3=>
    rw [aK];have hb:2<=aN (val xs):=by
     have:=(bh (val xs) 1).1;by_cases h4:aN (val xs)<=1
     ·have:=this h4;omega
     ·omega
    have:=p9 (val xs) (aN (val xs)) ((aN (val xs)+7)/8) (by omega) (bs.length+1) bs 1 h3;unfold uf;omega

def rP (at_ k:Int) (fs:LN) (X n M:Nat):Nat:=if at_=k then val (fs.take n)%M else X

theorem KeyGood.a {a j b c f g i:LN} (h:KeyGood a j b c f g i e):val a=val b*val c/\eI (val b)/\eI (val c)/\gU a e=0/\cC (val a)<=512/\3<=val a:=by
 obtain ⟨⟨_,hP,hQ,_,hp,_⟩,d,u,_,_,_,_,hn,_⟩:=h;generalize val b=P at *;generalize val c=Q at *;have h1:val a=P*Q:=by rw [hn,cK,ay,aB ((aC _ _).1 (by omega))]
 have h2:cC (P*Q)<=512:=by
  have:=lU P Q;have:=jU (n:=256) hP.2.2;have:=jU (n:=256) hQ.2.2;omega
 refine ⟨h1,hP,hQ,by rw [hn];exact hp,by rw [h1];exact h2,?_⟩;rw [h1];have:=er hP.1 hQ.1;omega

theorem mB {k:IntKind} {a:Nat} (h:ao=none->a=0) (hc:a<=maxLen):Row k w (.slice ao 0 a) []:=
 ⟨ao,a,rfl,aQ _,hc,h,fun i hi=>absurd hi (by simp)⟩

theorem FC {k:IntKind} {a s:Nat} (h:Row k w (.slice ao L a) zs) (h2:s+m<=L) :
  (ao=none->Row k w (.slice none 0 0) ((zs.drop s).take m))/\(∀ ad,ao=some ad->a=s->Row k w (.slice (some ad) 0 0) ((zs.drop s).take m))/\(∀ ad,ao=some ad->a≠s->Row k w (.slice (some (ad.add s)) m (a-s)) ((zs.drop s).take m)):=by
 obtain ⟨_,_,_,e,hL,f,g,d,c⟩:=h.open;cases e
 have hz:m=0->(zs.drop s).take m=[]:=fun e=>by rw [e];rfl
 refine ⟨fun e=>?_,fun ad e ec=>?_,fun ad e ec=>?_⟩
 ·have:=d e;rw [hz (by omega)];exact Row.nil _ _
 ·rw [hz (by omega)];exact mB (fun e=>by cases e) (aQ _)
 ·subst e;by_cases hm:m=0
  ·rw [hz hm,hm];exact mB (fun e=>by cases e) (by unfold maxLen at *;omega)
  ·obtain ⟨b,off,e,_⟩:=c 0 (by omega);cases e
   have ea:(⟨b,off,none⟩:Addr).add s=⟨b,off+s,none⟩:=by unfold Addr.add;split <;> simp_all
   rw [ea];exact DJ h h2

theorem FL {k:Int} (h:X<M):rP at_ k fs X n M<M:=by
 unfold rP
 split
 ·exact bu
 ·exact h

def FN (u v P:Nat):Nat:=if v<=u then u-v else u+P-v

def yL (at_:Int) (fs:LN) (b P DP pl:Nat):Nat:=rP at_ 1 fs (b^DP%P) pl P
def tD (at_:Int) (fs:LN) (b Q DQ ql:Nat):Nat:=rP at_ 2 fs (b^DQ%Q) ql Q
def vM (u v P QI:Nat):Nat:=QI*FN u (v%P) P%P
def Ft (at_:Int) (fs:LN) (v h Q N nl:Nat):Nat:=rP at_ 3 fs ((v+Q*h)%N) nl N
def Fs (at_:Int) (fs:LN) (z T N nl:Nat):Nat:=rP at_ 4 fs (z*T%N) nl N
def ni (at_:Int) (fs:LN) (b T N P Q DP DQ QI nl pl ql:Nat):Nat:=
 Fs at_ fs (Ft at_ fs (tD at_ fs b Q DQ ql) (vM (yL at_ fs b P DP pl) (tD at_ fs b Q DQ ql) P QI) Q N nl) T N nl

theorem rW:∀ {f:Nat} {bs:LN} {a:Nat} {r1:LN} {k:Nat} {r4:LN},mW ns f bs a=(r1,k,0,r4)->Digs ns->Digs r1/\r1.length=ns.length/\Nat.gcd (val r1) (val ns)=1/\val r1<val ns
 | 0,_,_,_,_,_,h,_=>by simp [mW] at h
 | f+1,bs,a,r1,k,r4,h,hd=>by
  unfold mW at h;by_cases h1:fG ns bs=0
  ·rw [aK] at h
   split at h
   ·next h2=>
    simp only [fN] at h;obtain ⟨rfl,_⟩:=h;exact ⟨by unfold jK;rw [ai h1];exact ak (by omega) _ _,Ew h1,h2,(zt hd h1).2⟩
   ·exact rW h hd
  ·rw [ai h1] at h;simp only [fN] at h;exact absurd h.2.2.1 h1

theorem AB {r1 r4:LN} (h:oI ns bs=(r1,k,0,r4)) (hd:Digs ns):Digs r1/\r1.length=ns.length/\Nat.gcd (val r1) (val ns)=1/\val r1<val ns:=by
 unfold oI at h
 split at h
 ·exact rW h hd
 ·simp only [fN] at h;exact absurd h.2.2.1 (by omega)

theorem qp (P Q:Nat):∃ a,eW P Q=(P-1)*a:=by
 unfold eW;obtain ⟨b,hb⟩:=Nat.gcd_dvd_right (P-1) (Q-1);obtain ⟨a,ha⟩:=Nat.gcd_dvd_left (P-1) (Q-1);by_cases hg:Nat.gcd (P-1) (Q-1)=0
 ·rw [hg,Nat.div_zero,i9];exact ⟨0,by simp⟩
 ·refine ⟨b,?_⟩;generalize hG:Nat.gcd (P-1) (Q-1)=g at *;have h1:(P-1)/g=a:=by rw [ha,Nat.mul_div_cancel_left _ (Nat.pos_of_ne_zero hg)]
  rw [h1,hb,ha];rw [<- bd,aD a g]

theorem oJ (P Q:Nat):∃ a,eW P Q=(Q-1)*a:=⟨(P-1)/Nat.gcd (P-1) (Q-1),by unfold eW;exact aD _ _⟩

theorem kI {x a C:Nat} (hC:C=m*a) (hm:2<=m) (h:x%C=1):(∃ v,x=m*v+1)/\x%m=1:=by
 have h1:=dD x C;rw [h,hC,bd] at h1;refine ⟨⟨_,h1.symm⟩,?_⟩;rw [<- h1,iZ,dH]

theorem vL {b:Nat} (hp:PrimeN p) (h2:2<=p-1) (he:e*D%(p-1)=1):b^(D%(p-1))%p=b^D%p:=by
 have a:=hp.pos;have hr:D%(p-1)≠0:=fun h=>by
  rw [cH,h,df,iw] at he;exact absurd he (by decide)
 have hD:D≠0:=fun h=>hr (by rw [h,iw])
 by_cases hb:b%p=0
 ·rw [jx,hb,Nat.zero_pow (by omega),jx b D,hb,Nat.zero_pow (by omega)]
 ·have hf:=yg hp hb;have h1:=kr (show 1<p by omega) hf (D/(p-1));have h3:=dD D (p-1);rw [<- h3,aL,cH,h1,iG,ep,h3]

theorem EF {P Q u v A:Nat} (hP:0<P) (hc:Nat.Coprime P Q) (a:Q*QI%P=1%P) (hu:u=A%P) (hv:v=A%Q):(v+Q*vM u v P QI)%(P*Q)=A%(P*Q):=by
 have b:v%P<P:=aY _ hP;refine uD hc ?_ ?_
 ·-- modulo P
  have hs:(v+FN u (v%P) P)%P=u%P:=by
   unfold FN
   split
   ·next h=>
    have:v+(u-v%P)=u+P*(v/P):=by have:=dD v P;omega
    rw [this,eO]
   ·next h=>
    have:v+(u+P-v%P)=u+P*(v/P+1):=by have:=dD v P;rw [aJ,bI];omega
    rw [this,eO]
  have hm:Q*vM u v P QI%P=FN u (v%P) P%P:=by
   unfold vM;rw [cH,ep,<- cH,<- bd,cH,a,<- cH,iG]
  rw [ki,hm,<- ki,hs,hu,ep]
 ·rw [eO,hv,ep]

theorem mD {k:Int} (h:at_≠k:=by omega):rP at_ k fs X n M=X:=by unfold rP;rw [ar h]

theorem AC {N r:Nat} (hT:r*T%N=1%N) (a:r^(e*D)%N=r%N):(c*(r^e%N)%N)^D%N*T%N=c^D%N:=by
 have h1:(c*(r^e%N)%N)^D%N=c^D*r%N:=by
  rw [<- jx,Nat.mul_pow,cH,<- jx (r^e),<- aW,a,<- cH]
 rw [h1,cH,ep,<- cH,bd,cH,hT,<- cH,bI]

theorem Be {P Q r:Nat} {nl pl ql:Nat} (hP:PrimeN P) (hQ:PrimeN Q) (h:3<=P) (i:3<=Q) (hc:Nat.Coprime P Q) (d:e*D%eW P Q=1) (l:Q*QI%P=1) (hT:r*T%(P*Q)=1) (m:¬ (1<=at_/\at_<=4)) :
  ni at_ fs (c*(r^e%(P*Q))%(P*Q)) T (P*Q) P Q (D%(P-1)) (D%(Q-1)) QI nl pl ql=c^D%(P*Q):=by
 obtain ⟨a1,j⟩:=qp P Q;obtain ⟨a2,k⟩:=oJ P Q;obtain ⟨e1,e2⟩:=kI j (by omega) d;obtain ⟨f1,f2⟩:=kI k (by omega) d;have a:=rt (x:=r) hP hQ hc e1 f1;have f:1%(P*Q)=1:=aB (by have:=er h i;omega);have g:1%P=1:=dH;generalize hb:c*(r^e%(P*Q))%(P*Q)=b;have hU:yL at_ fs b P (D%(P-1)) pl=b^D%P:=by
  unfold yL;rw [mD,vL hP (by omega) e2]
 have hV:tD at_ fs b Q (D%(Q-1)) ql=b^D%Q:=by
  unfold tD;rw [mD,vL hQ (by omega) f2]
 unfold ni;rw [hU,hV];have hZ:Ft at_ fs (b^D%Q) (vM (b^D%P) (b^D%Q) P QI) Q (P*Q) nl=b^D%(P*Q):=by
  unfold Ft;rw [mD];exact EF (by omega) hc (by rw [l,g]) rfl rfl
 rw [hZ];unfold Fs;rw [mD,<- hb];exact AC (by rw [hT,f]) a

theorem Bf {P Q:Nat} (hP:PrimeN P) (hQ:PrimeN Q) (h:3<=P) (i:3<=Q) (hc:Nat.Coprime P Q) (b:e*D%eW P Q=1) (hm:m<P*Q) (g:m^e%(P*Q)=c):c^D%(P*Q)=m:=by
 obtain ⟨a1,d⟩:=qp P Q;obtain ⟨a2,f⟩:=oJ P Q;obtain ⟨e1,_⟩:=kI d (by omega) b;obtain ⟨f1,_⟩:=kI f (by omega) b;have a:=rt (x:=m) hP hQ hc e1 f1;rw [<- g,<- jx,<- aW,a,aB hm]

theorem yI {P Q:Nat} (hP:PrimeN P) (hQ:PrimeN Q) (g:3<=P) (h:3<=Q) (hc:Nat.Coprime P Q) (b:e*D%eW P Q=1) (hlt:c<P*Q):(c^D%(P*Q))^e%(P*Q)=c:=by
 obtain ⟨a1,d⟩:=qp P Q;obtain ⟨a2,f⟩:=oJ P Q;obtain ⟨e1,_⟩:=kI d (by omega) b;obtain ⟨f1,_⟩:=kI f (by omega) b;have a:=rt (x:=c) hP hQ hc e1 f1;rw [<- jx,<- aW,aD,a,aB hlt]

theorem Bc {b N P Q DP DQ nl pl ql:Nat} (hN:0<N):ni at_ fs b T N P Q DP DQ QI nl pl ql<N:=by
 unfold ni Fs;exact FL (aY _ hN)

theorem Gb {md:Region.Mode} {b:Array Bool} {a:Act} (i:Nat) {o:Oper} (hr:Region.ready md ops b=[i]) (hi:ops[i]? = some o) (hg:o.guard=none) (f:Nat) (args:List Operand) (k:Array TypeId) (d:List Value)
  (ho:o.op=.call { callee:=.value (.func f),args:=args.toArray,argTypes:=k }) (hv:args.map a.eval=d) (he:∀ args w,(callFunc f args).run P w=.ok (.enter f args) w) {R:Ending->World->Prop} (hc:Calls P f d.toArray w R)
  (h:∀ e w',R e w'->(∃ v,e=.returned v/\S w'/\wpAnyH P md ops Q S c (b.setIfInBounds i true) (a.put o.dst v) w')\/∃ ch,e=.panicked ch/\Q (.panic ch) a w') :
  wpAnyH P md ops Q S (c+1) b a w:=by
 refine wpAnyH_all hr (by simp) fun j hj=>?_
 obtain rfl:j=i:=by simpa using hj
 have hw:Region.wanted o (yielded ops a.tmps)=true:=by simp [Region.wanted,hg]
 unfold wpOp;rw [hi];dsimp only;rw [ai hw];refine .inl ?_;have g:Calls P f d.toArray w fun
   | .returned v,w''=>S w''/\wpAnyH P md ops Q S c (b.setIfInBounds j true) (a.put o.dst v) w''
   | .panicked chain,w''=>Q (.panic chain) a w''
   | .outgrown,_=>LetsOut Q:=hc.mono (fun e w' r=>by
  rcases h e w' r with ⟨v,rfl,hk⟩ | ⟨ch,rfl,hk⟩
  ·exact hk
  ·exact hk)
 unfold Oper.wp;simp [execOp,ho,resolve,invoke,hv,he,go_sem];exact g

theorem xJ {md:Region.Mode} {b:Array Bool} {a:Act} (i:Nat) {o:Oper} (hr:Region.ready md ops b=[i]) (hi:ops[i]? = some o)
  (hw:Region.wanted o (yielded ops a.tmps)=false) (hS:S w) (h:wpAnyH P md ops Q S c (b.setIfInBounds i true) (a.put o.dst undef) w):wpAnyH P md ops Q S (c+1) b a w:=by
 refine wpAnyH_all hr (by simp) fun j hj=>?_
 obtain rfl:j=i:=by simpa using hj
 unfold wpOp;rw [hi];dsimp only;rw [ar (by rw [hw];decide)];exact ⟨hS,h⟩

theorem GC {md:Region.Mode} {b:Array Bool} {a:Act} (i:Nat) (d:Option Tmp) (v:Value) (hi:ops[i]? = some oi) (hd:oi.dst=d)
  (hs:Region.noSelect ops=true) (hf:Region.free md ops b i=true) (hr:(Region.ready md ops b).contains i=true)
  (hQ:∀ c a w,Q (.panic c) (a.put d v) w->Q (.panic c) a w) (hy:YieldsIf P ops S oi v a) (hS:S w)
  (h:wpAnyH P md ops Q S e (b.setIfInBounds i true) (a.put d v) w):wpAnyH P md ops Q S (e+1) b a w:=by
 subst hd;exact wpAnyH_take hi hs hf hr hQ hy hS h

theorem Lv {md:Region.Mode} {b:Array Bool} {a:Act} {o:Oper} (i:Nat) (d:Option Tmp) (hr:Region.ready md ops b=[i]) (hi:ops[i]? = some o) (hd:o.dst=d)
  (hw:Region.wanted o (yielded ops a.tmps)=false) (hS:S w) (h:wpAnyH P md ops Q S c (b.setIfInBounds i true) (a.put d undef) w):wpAnyH P md ops Q S (c+1) b a w:=by
 subst hd;exact xJ i hr hi hw hS h

theorem zw {md:Region.Mode} {b:Array Bool} {a:Act} {o:Oper} (i:Nat) (d:Option Tmp) (hr:Region.ready md ops b=[i]) (hi:ops[i]? = some o) (hd:o.dst=d) (hw:Region.wanted o (yielded ops a.tmps)=true) (f:Nat) (args:List Operand) (l:Array TypeId) (g:List Value)
  (ho:o.op=.call { callee:=.value (.func f),args:=args.toArray,argTypes:=l }) (hv:args.map a.eval=g) (he:∀ args w,(callFunc f args).run P w=.ok (.enter f args) w) {R:Ending->World->Prop} (hc:Calls P f g.toArray w R)
  (h:∀ e w',R e w'->(∃ v,e=.returned v/\S w'/\wpAnyH P md ops Q S c (b.setIfInBounds i true) (a.put d v) w')\/∃ ch,e=.panicked ch/\Q (.panic ch) a w') :
  wpAnyH P md ops Q S (c+1) b a w:=by
 subst hd;refine wpAnyH_all hr (by simp) fun j hj=>?_
 obtain rfl:j=i:=by simpa using hj
 unfold wpOp;rw [hi];dsimp only;rw [ai hw];refine .inl ?_;have k:Calls P f g.toArray w fun
   | .returned v,w''=>S w''/\wpAnyH P md ops Q S c (b.setIfInBounds j true) (a.put o.dst v) w''
   | .panicked chain,w''=>Q (.panic chain) a w''
   | .outgrown,_=>LetsOut Q:=hc.mono (fun e w' r=>by
  rcases h e w' r with ⟨v,rfl,hk⟩ | ⟨ch,rfl,hk⟩
  ·exact hk
  ·exact hk)
 unfold Oper.wp;simp [execOp,ho,resolve,invoke,hv,he,go_sem];exact k

theorem dL {o:Oper} {v:Value} {a:Act} (h:∀ w,S w->(execOp a.eval o).run P w=.ok (.value v) w) (e:Region.wanted o (yielded ops a.tmps)=true:=by rfl):YieldsIf P ops S o v a:=.inl ⟨e,h⟩

theorem aU:(∀ (a:Act) (k:Nat) (v:Value),a.put (some k) v={a with tmps:=a.tmps.setIfInBounds k v}) /\ (∀ (a:Act) (v:Value),a.put none v=a) /\ (∀ (l:List Value) (i:Nat) (a:Value),l.toArray.setIfInBounds i a=(l.set i a).toArray) /\ (∀ (x:Value) (xs:List Value) (i:Nat) (a:Value),(x :: xs).set (i+1) a=x :: xs.set i a) /\ (∀ (x:Value) (xs:List Value) (a:Value),(x :: xs).set 0 a=a :: xs) /\ (∀ (l:List Bool) (i:Nat) (a:Bool),l.toArray.setIfInBounds i a=(l.set i a).toArray) /\ (∀ (x:Bool) (xs:List Bool) (i:Nat) (a:Bool),(x :: xs).set (i+1) a=x :: xs.set i a) /\ (∀ (x:Bool) (xs:List Bool) (a:Bool),(x :: xs).set 0 a=a :: xs):=⟨fun _ _ _=>rfl,fun _ _=>rfl,fun _ _ _=>by simp,fun _ _ _ _=>rfl,fun _ _ _=>rfl,fun _ _ _=>by simp,fun _ _ _ _=>rfl,fun _ _ _=>rfl⟩

theorem aO {md:Region.Mode} {b:Array Bool} {a:Act} (i:Nat) (d:Option Tmp) (v:Value) (s:S w) (k:wpAnyH P md ops Q S e (b.setIfInBounds i true) (a.put d v) w) (hi:ops[i]? = some oi:=by exact rfl) (hd:oi.dst=d:=by exact rfl)
  (hs:Region.noSelect ops=true:=by kernel_rfl) (hf:Region.free md ops b i=true:=by kernel_rfl) (hr:(Region.ready md ops b).contains i=true:=by kernel_rfl)
  (hQ:∀ c a w,Q (.panic c) (a.put d v) w->Q (.panic c) a w:=by exact fun _ _ _ h=>h) (y:YieldsIf P ops S oi v a:=by exact .inl ⟨by rfl,fun w h=>by simp [execOp,go_sem]⟩):wpAnyH P md ops Q S (e+1) b a w:=GC i d v hi hd hs hf hr hQ y s k

theorem aT {md:Region.Mode} {b:Array Bool} {a:Act} (hQ:∀ c a (d:Option Tmp) (v:Value) w,Q (.panic c) (a.put d v) w->Q (.panic c) a w) (i:Nat) (d:Option Tmp) (v:Value) (s:S w) (k:wpAnyH P md ops Q S e (b.setIfInBounds i true) (a.put d v) w) (hi:ops[i]? = some oi:=by exact rfl) (hd:oi.dst=d:=by exact rfl)
  (hs:Region.noSelect ops=true:=by kernel_rfl) (hf:Region.free md ops b i=true:=by kernel_rfl) (hr:(Region.ready md ops b).contains i=true:=by kernel_rfl)
  (y:YieldsIf P ops S oi v a:=by exact .inl ⟨by rfl,fun w h=>by simp [execOp,go_sem]⟩):wpAnyH P md ops Q S (e+1) b a w:=GC i d v hi hd hs hf hr (fun c a w=>hQ c a _ _ w) y s k

theorem GB {md:Region.Mode} {b:Array Bool} {a:Act} {o:Oper} (i:Nat) (d:Option Tmp) (s:S w) (k:wpAnyH P md ops Q S c (b.setIfInBounds i true) (a.put d undef) w) (hr:Region.ready md ops b=[i]:=by kernel_rfl) (hi:ops[i]? = some o:=by exact rfl) (hd:o.dst=d:=by exact rfl)
  (hw:Region.wanted o (yielded ops a.tmps)=false:=by rfl):wpAnyH P md ops Q S (c+1) b a w:=Lv i d hr hi hd hw s k

theorem cD {md:Region.Mode} {g:Nat} {b:Array Bool} {a:Act} {o:Oper} (i:Nat) (d:Option Tmp) (f:Nat) {args:List Operand} {j:Array TypeId} (c:List Value) {R:Ending->World->Prop} (hc:Calls P f c.toArray w R)
  (h:∀ e w',R e w'->(∃ v,e=.returned v /\ S w' /\ wpAnyH P md ops Q S g (b.setIfInBounds i true) (a.put d v) w') \/ ∃ ch,e=.panicked ch /\ Q (.panic ch) a w') (hr:Region.ready md ops b=[i]:=by kernel_rfl) (hi:ops[i]? = some o:=by exact rfl) (hd:o.dst=d:=by exact rfl) (hw:Region.wanted o (yielded ops a.tmps)=true:=by rfl)
  (ho:o.op=.call {callee:=.value (.func f),args:=args.toArray,argTypes:=j}:=by exact rfl) (hv:args.map a.eval=c:=by exact rfl) (he:∀ args w,(callFunc f args).run P w=.ok (.enter f args) w:=by exact fun _ _=>by simp [go_sem]):wpAnyH P md ops Q S (g+1) b a w:=zw i d hr hi hd hw f args j c ho hv he hc h

def KS.few (t:KS):Prop:=fewL t.nl/\fewL t.dl/\fewL t.pl/\fewL t.ql/\fewL t.dpl/\fewL t.dql/\fewL t.qil

theorem Ci (t:KS) (R:Bool) (hR:R=true↔t.few) (w:World) :
  ClZ 15 #[.agg t.v] w fun r w'=>r=.returned (.bool R)/\Kept af w w':=by
 obtain ⟨W1,a⟩:=aj (w.alloc (.cells t.v 26))
 have k1:Kept af w W1:=by rw [a];exact (ah af w).alloc _
 have c:W1.heap[w.heap.size]? = some (.cells t.v 26 (0,0)):=by rw [a];exact heap_alloc_new _ _
 obtain ⟨c0,c1,c2,c3,c4,c5,c6,c7⟩:=aZ c;have J1:ClZ 40 #[.slice (some ⟨W1.heap.size,0,none⟩) 7 7] (W1.alloc (.cells #[.slice t.no t.nl t.nc,.slice t.dO t.dl t.dc,.slice t.po t.pl t.pc,.slice t.qo t.ql t.qc,.slice t.dpo t.dpl t.dpc,.slice t.dqo t.dql t.dqc,.slice t.qio t.qil t.qic] 23)) fun r w'=>r=.returned (.bool R)/\w'=W1.alloc (.cells #[.slice t.no t.nl t.nc,.slice t.dO t.dl t.dc,.slice t.po t.pl t.pc,.slice t.qo t.ql t.qc,.slice t.dpo t.dpl t.dpc,.slice t.dqo t.dql t.dqc,.slice t.qio t.qil t.qic] 23):=by
  refine GV (some ⟨W1.heap.size,0,none⟩) 7 7 (fun i=>[t.no,t.dO,t.po,t.qo,t.dpo,t.dqo,t.qio].getD i none) (fun i=>[t.nl,t.dl,t.pl,t.ql,t.dpl,t.dql,t.qil].getD i 0) (fun i=>[t.nc,t.dc,t.pc,t.qc,t.dpc,t.dqc,t.qic].getD i 0) _ (by omega) R ?_ ?_
  ·rw [hR];refine ⟨fun h i hi=>?_,fun h=>⟨h 0 (by omega),h 1 (by omega),h 2 (by omega),h 3 (by omega),h 4 (by omega),h 5 (by omega),h 6 (by omega)⟩⟩;obtain ⟨h0,h1,h2,h3,h4,h5,h6⟩:=h;have:i=0\/i=1\/i=2\/i=3\/i=4\/i=5\/i=6:=by omega
   rcases this with rfl | rfl | rfl | rfl | rfl | rfl | rfl
   ·exact h0
   ·exact h1
   ·exact h2
   ·exact h3
   ·exact h4
   ·exact h5
   ·exact h6
  ·intro i hi;refine ⟨_,_,rfl,?_⟩;have:i=0\/i=1\/i=2\/i=3\/i=4\/i=5\/i=6:=by omega
   rcases this with rfl | rfl | rfl | rfl | rfl | rfl | rfl <;> exact (cell_of_row _ _ _ _ _ _ (heap_alloc_new W1 _)).trans rfl
 have d:=aa (k1.alloc (.cells #[.slice t.no t.nl t.nc,.slice t.dO t.dl t.dc,.slice t.po t.pl t.pc,.slice t.qo t.ql t.qc,.slice t.dpo t.dpl t.dpc,.slice t.dqo t.dql t.dqc,.slice t.qio t.qil t.qic] 23));have b:=aa a;clear hR c k1 a;unfold KS.v at b ⊢;delta ClZ;go_in;go_wp2_with (rw [<- b.o]);refine J1.mono ?_;rintro r w3 ⟨rfl,rfl⟩;clear J1 c0 c1 c2 c3 c4 c5 c6 c7;go_wp2_with fail;go_ret;exact ⟨rfl,d.o⟩

theorem FD {k:IntKind} {a:Nat} (h:Row k w (.slice ao n a) zs) (kk:Kept af w W) (hp:0<(zs.map fun z:Nat=>Value.int k (z:Int)).length):∃ ad,ao=some ad/\∀ j u,(zs.map fun z:Nat=>Value.int k (z:Int))[j]? = some u->W.cell? (ad.add j)=some u:=by
 rw [cJ] at hp;obtain ⟨d,n',c,e,hL,_,_,_,hn⟩:=h.open;cases e
 obtain ⟨b,off,rfl,_⟩:=hn 0 (by have:=hL.o;omega);exact ⟨_,rfl,CX h kk⟩

open Go.RowKit Go.Shelf

theorem yE {o:Oper} {a:Act} {l:Nat} {K:Act->World->Prop} (hd:∀ c,o.op≠.defer c) (h:o.wp P a w K Q):o.wpIn (Fence.wide.inRound l) n P a w K Q:=by
 refine ⟨fun _ _=>trivial,?_⟩;rw [show (Fence.wide.inRound l).round=some l from rfl,Oper.semAt_some l a.eval o hd];unfold Oper.wp at h;generalize (execOp a.eval o).run P w=r at *;cases r with
 | ok x w'=>
  cases x with
  | enter f args=>exact ⟨fun e=>(by cases e),CallsIn.inRound l (callsIn_wide.2 h)⟩
  | row row args=>exact ⟨fun e=>(by cases e),fun c cs _=>let ⟨v,w'',r,s⟩:=h c cs;⟨v,w'',r,stepsIn_wide.2 s⟩⟩
  | round l f tmps assign body=>exact h.elim
  | _=>exact h
 | halt x w'=>cases x <;> exact h

def pV (ops:Array Oper):Bool:=ops.toList.all fun o=>match o.op with | .defer _=>false | _=>true

theorem yA (h:pV ops=true) {i:Nat} {o:Oper} (ho:ops[i]? = some o):∀ c,o.op≠.defer c:=by
 intro c e;unfold pV at h;rw [List.all_eq_true] at h;have hm:o ∈ ops.toList:=by
  rw [Array.mem_toList_iff];exact Array.mem_of_getElem? ho
 have:=h o hm;rw [e] at this;cases this

theorem jS {md:Region.Mode} {l:Nat} (d:pV ops=true) (c:¬ LetsOut Q):∀ (fuel:Nat) (b:Array Bool) (a:Act) (w:World),wpAny P md ops Q fuel b a w->wpAnyIn (Fence.wide.inRound l) n P md ops Q fuel b a w
 | 0,_,_,_,h=>h
 | fuel+1,b,a,w,h=>⟨h.1,fun i hi=>by
  have h2:=h.2 i hi;unfold wpOp at h2;unfold wpOpIn;cases ho:ops[i]? with
  | none=>
   rw [ho] at h2;exact jS d c fuel _ a w h2
  | some o=>
   rw [ho] at h2;dsimp only at h2 ⊢
   split
   ·rename_i hw
    rw [ai hw] at h2;rcases h2 with h2 | h2
    ·exact Oper.wpIn_mono (fun a w=>jS d c fuel _ a w) (yE (yA d ho) h2)
    ·exact absurd h2.2 c
   ·rename_i hw
    rw [ar hw] at h2;exact ⟨fun _ _=>trivial,jS d c fuel _ _ w h2⟩⟩

theorem tK {l id:Nat} {a:Act} (hm:P.follows .mixedOrders=true) (c:pV ops=true) (b:¬ LetsOut Q)
  (h:wpAnyH P .any ops Q S ops.size (Array.replicate ops.size false) a w.drew):(Code.region id ops true).wpIn (Fence.wide.inRound l) n P Q a w:=
 wpIn_region_any hm (jS c b _ _ _ _ (wpAny_of_held _ _ _ _ h))

theorem iP {o:Oper} {a:Act} {K:Act->World->Prop} {E:Prop} (f:Nat) (args:List Operand) (d:Array TypeId) (b:List Value) (hg:o.guard=none)
  (ho:o.op=.call { callee:=.value (.func f),args:=args.toArray,argTypes:=d }) (hv:args.map a.eval=b) (he:∀ args w,(callFunc f args).run P w=.ok (.enter f args) w) {R:Ending->World->Prop} (hc:Calls P f b.toArray w R)
  (h:∀ e w',R e w'->∃ v,e=.returned v/\K (a.put o.dst v) w') :
  if Region.wanted o (yielded ops a.tmps)=true then Oper.wp P o a w K Q else E:=by
 have hw:Region.wanted o (yielded ops a.tmps)=true:=by simp [Region.wanted,hg]
 rw [ai hw];have c:Calls P f b.toArray w fun
   | .returned v,w''=>K (a.put o.dst v) w''
   | .panicked chain,w''=>Q (.panic chain) a w''
   | .outgrown,_=>LetsOut Q:=hc.mono (fun e w' r=>by
  obtain ⟨v,rfl,hk⟩:=h e w' r;exact hk)
 unfold Oper.wp;simp [execOp,ho,resolve,invoke,hv,he,go_sem];exact c

def Jt {α:Type} (Sb:Nat->Prop) (I:List α->World->Prop) (Ix:Code->List α->World->Prop) (s:List α) (W:World):Exit->Act->World->Prop
 | .normal,_,W'=>Kept Sb W W'/\I s W'
 | .ret,_,W'=>Kept Sb W W'/\Ix .ret s W'
 | .exit i,_,W'=>Kept Sb W W'/\Ix (.exit i) s W'
 | .goto t,_,W'=>Kept Sb W W'/\Ix (.goto t) s W'
 | .panic _,_,_=>False
 | .outgrown,_,_=>False

theorem tw {l:Nat} (o:Obj) (h:B<=l:=by omega):Below B W (W.putObj l o):=
 ⟨rfl,rfl,rfl,by simp,fun _ hk=>World.putObj_heap_other (by omega)⟩

theorem qM (W:World) (l:Nat) (o:Obj):Kept (fun b=>b=l) W (W.putObj l o):=
 ⟨rfl,rfl,rfl,by simp,fun _ _ hk=>World.putObj_heap_other hk⟩

theorem tO {k:IntKind} {l:Nat} {o:Obj} {v:Value} (o':Obj) (h:Row k W v zs) (hl:W.heap[l]? = some o) (ho:o.isCells=false):Row k (W.putObj l o') v zs:=by
 obtain ⟨ao,a,rfl,h1,h2,h3,h4⟩:=h;refine ⟨ao,a,rfl,h1,h2,h3,fun i hi=>?_⟩;obtain ⟨b,off,rfl,hc⟩:=h4 i hi;exact ⟨b,off,rfl,cell_kept hc (grownBy_putObj' W l o') (fun r e=>by cases e;exact ⟨o,hl,ho⟩)⟩

theorem lw {b:Nat} {v:Value} (h:Boxed w b t v) (k:Kept af w w'):Boxed w' b t v:=(k.block _ h.lt (fun f=>f)).trans h

theorem fm {S:Nat->Prop} {b:Nat} {v:Value} (h:Boxed w b t v) (k:Kept S w w') (hs:¬ S b):Boxed w' b t v:=(k.block _ h.lt hs).trans h

def Books (d:Nat) (r:Loop) (W:World):Prop:=W.heap[d+1]? = some (.loop r)/\W.heap[d]? = some (.deferred (some []))

theorem Books.lt {r:Loop} (h:Books d r A):d+1<A.heap.size:=(mf.1 h.1).1

theorem Books.put {r:Loop} (h:Books d r A) (r':Loop):Books d r' (A.putObj (d+1) (.loop r')):=
 ⟨World.putObj_heap_same h.lt,(World.putObj_heap_other (by omega)).trans h.2⟩

theorem Books.kept {r:Loop} {C:World} {Sb:Nat->Prop} (h:Books d r A) (k:Kept Sb A C) (hs:∀ b,Sb b->b<d):Books d r C:=by
 have hl:=h.lt;exact ⟨(k.block _ hl (fun e=>by have:=hs _ e;omega)).trans h.1,(k.block _ (by omega) (fun e=>by have:=hs _ e;omega)).trans h.2⟩

def LscB (w:World) (b B:Nat) (v:Value) (ps:LN) (k:Nat):Prop:=
 w.heap[b]? = some (.cells #[v,.int .i64 (k:Nat)] 66 (0,0))/\Row .u8 w v ps/\k<=ps.length/\ps.length<=1000000/\b<B/\(ps≠[]->∀ x,v.ownBlock=some x->x<B/\x≠b)

def Lsc (w:World) (p:OA) (B:Nat) (bs:LN):Prop:=(p=none/\bs=[])\/∃ b v ps k,p=some ⟨b,0,none⟩/\bs=ps.drop k/\LscB w b B v ps k

def ofP (p:OA) (x:Nat):Prop:=p.map Addr.block=some x

theorem LscB.lt {b:Nat} {v:Value} (h:LscB w b B v ps k):b<w.heap.size:=lt_of_block h.1

theorem LscB.cells {b:Nat} {v:Value} (h:LscB w b B v ps k):w.cell? ⟨b,0,none⟩=some v/\w.cell? ⟨b,1,none⟩=some (.int .i64 (k:Nat)):=
 ⟨(cell_of_row w b 0 _ _ _ h.1).trans rfl,(cell_of_row w b 1 _ _ _ h.1).trans rfl⟩

theorem LscB.free {b:Nat} {v:Value} (h:LscB w b B v ps k):w.frozen? ⟨b,1,none⟩=false:=by simp [World.frozen?,h.1]

theorem LscB.kept {S:Nat->Prop} {b:Nat} {v:Value} (h:LscB w b B v ps k) (kk:Kept S w w') (hS:∀ x,x<B->¬ S x):LscB w' b B v ps k:=
 ⟨(kk.block b h.lt (hS b h.2.2.2.2.1)).trans h.1,h.2.1.kept' kk (fun e x hx=>hS x (h.2.2.2.2.2 e x hx).1),h.2.2⟩

theorem LscB.put {b:Nat} {v:Value} (h:LscB w b B v ps k) (m:Nat) (hm:m<=ps.length):LscB (w.setCell ⟨b,1,none⟩ (.int .i64 (m:Nat))) b B v ps m:=by
 refine ⟨?_,h.2.1.kept' ((ah (fun x=>x=b) w).setCell ⟨b,1,none⟩ (fun _=>rfl) _) (fun e x hx=>(h.2.2.2.2.2 e x hx).2),hm,h.2.2.2⟩;have:=heap_setCell_same w b 1 _ 66 (.int .i64 (m:Nat)) h.1;rw [this];rfl

theorem LscB.lsc {b:Nat} {v:Value} (h:LscB w b B v ps k):Lsc w (some ⟨b,0,none⟩) B (ps.drop k):=.inr ⟨b,v,ps,k,rfl,rfl,h⟩

theorem Lsc.len {p:OA} (h:Lsc w p B bs):bs.length<=1000000:=by
 rcases h with ⟨_,rfl⟩ | ⟨b,v,ps,k,_,rfl,_,_,_,h,_⟩
 ·simp
 ·rw [cV];omega

theorem Lsc.kept {S:Nat->Prop} {p:OA} (h:Lsc w p B bs) (k:Kept S w w') (hS:∀ x,x<B->¬ S x):Lsc w' p B bs:=by
 rcases h with h | ⟨b,v,ps,k',e,e2,h⟩
 ·exact .inl h
 ·exact .inr ⟨b,v,ps,k',e,e2,h.kept k hS⟩

theorem Lsc.g {p:OA} (h:Lsc w p B bs) (k:Kept af w w'):Lsc w' p B bs:=h.kept k fun _ _ f=>f

theorem Lsc.inP {p:OA} {x:Nat} (h:Lsc w p B bs) (hx:ofP p x):x<B/\x<w.heap.size:=by
 rcases h with ⟨rfl,_⟩ | ⟨b,v,ps,k,rfl,_,h⟩
 ·cases hx
 ·cases hx
  exact ⟨h.2.2.2.2.1,h.lt⟩

theorem Lsc.put {p:OA} {l:Nat} {o:Obj} (o':Obj) (h:Lsc w p B bs) (hl:w.heap[l]? = some o) (ho:o.isCells=false):Lsc (w.putObj l o') p B bs:=by
 rcases h with h | ⟨b,v,ps,k,e,e2,h1,h2,h3⟩
 ·exact .inl h
 ·refine .inr ⟨b,v,ps,k,e,e2,(World.putObj_heap_other fun e=>?_).trans h1,tO o' h2 hl ho,h3⟩;subst e;rw [hl] at h1;cases h1
  cases ho

theorem GE (v:Value) (bs:LN) (w:World) (h:Row .u8 w v bs) (hl:bs.length<=1000000:=by omega) :
  ClZ 27 #[v] w fun e w'=>∃ u,e=.returned u/\OwnB w' w.heap.size u bs/\Kept af w w':=by
 obtain ⟨i0,l,r,m,s⟩:=info_parts Tryz.info8s;have HX:=aa h;obtain ⟨ao,na,ca,rfl,b,t,x,_⟩:=h.open;obtain ⟨CS,a⟩:=aj (bs.map fun z:Nat=>Value.int .u8 (z:Int))
 have HC:=aa a;have f:HzD (CS.length=na):=by unfold HzD;rw [a,cJ];exact b.o
 have c:HzD (∀ W,Kept af w W->0<CS.length->∃ ad,ao=some ad/\∀ j u,CS[j]? = some u->W.cell? (ad.add j)=some u):=by rw [a];exact fun W k hp=>FD HX.o k hp
 have p:HzD (∀ u ∈ CS,u.oneCell'=true):=by rw [a];exact JU _ _
 have y:na<=1000000:=by have:=b.o;omega
 clear h a;delta ClZ;go_in;go_wp2_with (at_make;refine wpList_make_full _ rfl _ _ 28 rfl w.heap.size 5 i0 _ 1 underlying28 l r m _ _ _ _ na rfl rfl rfl rfl (by rw [s];omega) (by unfold maxLen;omega) (leR _) ?_;intro w1 d i;rw [bD] at d;have k1:=bf i;obtain ⟨w2,q,g,k2⟩:=ew (P:=prog) 28 28 3 5 w.heap.size 0 na na (some ⟨w.heap.size,0,none⟩) ao na ca _ 5 CS underlying28 (by rw [l];simp [m]) (iy d) (by rw [f.o];exact (Nat.min_self _).symm) (fun hp=>⟨rfl,c.o _ k1 hp⟩) (by have:=f.o;simp;omega) p.o;have n:HzD _:=g;have o:=aa (fH k1 k2 (leR _));clear g d i k1 k2)
 have hA:=n.o;rw [HC.o,ig,b.o,cj,fg,dY] at hA;go_ret;exact ⟨_,rfl,OwnB.of (dZ hA b.o (by unfold maxLen;omega) (leR _)),o.o⟩

theorem IG (v:Value) (bs:LN) (w:World) (h:Row .u8 w v bs) (hl:bs.length<=1000000) :
  ClZ 10 #[v] w fun e w'=>∃ b,e=.returned (.pointer (some ⟨b,0,none⟩))/\w.heap.size<=b/\Lsc w' (some ⟨b,0,none⟩) w'.heap.size bs/\Kept af w w':=by
 have J:=GE v bs w h hl;clear h;delta ClZ;go_in;go_wp2_with fail;refine J.mono ?_;rintro e w1 ⟨u,rfl,hO,k1⟩;have hs:=k1.size;have k2:Kept af w1 (w1.alloc (.cells #[u,.int .i64 0] 66)):=(ah _ _).alloc _;have HR:HzD (LscB (w1.alloc (.cells #[u,.int .i64 0] 66)) w1.heap.size (w1.alloc (.cells #[u,.int .i64 0] 66)).heap.size u bs 0):=by
  refine ⟨World.alloc_heap_new w1 _,hO.row.g k2,aQ _,hl,by simp,fun _ x hx=>?_⟩;have:=(hO.lt x hx).2;rw [World.size_alloc];omega
 have HK:=aa (k1.alloc (.cells #[u,.int .i64 0] 66));obtain ⟨ao,a,rfl⟩:=dK hO;clear J k1 k2 hO;go_wp2_with fail;go_ret;exact ⟨_,rfl,hs,HR.o.lsc,HK.o⟩

theorem El (p:OA) (B:Nat) (bs:LN) (w:World) (h:Lsc w p B bs) :
  ClZ 250 #[.pointer p] w fun e w'=>e=.returned (.int .i64 (bs.length:Nat))/\Kept af w w':=by
 rcases h with ⟨rfl,rfl⟩ | ⟨b,v,ps,k,rfl,rfl,h⟩
 ·delta ClZ;go_in;go_wp2_with fail;go_ret;exact ⟨rfl,ah _ _⟩
 ·obtain ⟨c0,c1⟩:=h.cells;obtain ⟨ao,L,f,rfl,hL,i,j,c,a⟩:=h.2.1.open;have hk:k<=L:=by rw [<- hL.o];exact h.2.2.1
  have g:L<=1000000:=by rw [<- hL.o];exact h.2.2.2.1
  have e1:(ps.drop k).length=L-k:=by rw [cV,hL.o]
  rw [e1];obtain ⟨d,hd⟩:=aj (L-k)
  rw [<- hd];have g1:(L:Int)-(k:Int)=(d:Int):=by omega
  clear hd e1 a h c;delta ClZ;go_in;go_wp2_with fail;go_quiet (fail);go_wp2_with fail;go_ret;exact ⟨rfl,(ah _ _).drewN _⟩

end Go.Proofs.YtpkmoamgpjcdeaaGreatDoor
