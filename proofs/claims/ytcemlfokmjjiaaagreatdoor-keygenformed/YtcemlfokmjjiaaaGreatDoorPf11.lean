/- Put together of: Tra1 Wor1. -/
import Derived.Test.YtcemlfokmjjiaaaGreatDoorPf1
import Derived.Laws.CopyRow
import Derived.Deep.RegionHeld3
import Derived.Deep.DrawnRows
import Derived.Deep.RegionLaw
import Derived.Shelf.Spec.BitsCarry
import Derived.Shelf.Bits.Mul64

namespace Go.Proofs.YtcemlfokmjjiaaaGreatDoor
set_option maxRecDepth 100000
set_option maxHeartbeats 4000000
open Go.RowKit

abbrev Ev:=Int × Int × Int

def mf (e:Ev):List Value:=[.int .i64 e.1,.int .i64 e.2.1,.int .i64 e.2.2]

def dz:List Ev→List Value
 | []=>[]
 | e :: r=>mf e ++ dz r

theorem gD:∀ l m,dz (l ++ m)=dz l ++ dz m
 | [],m=>by simp [dz]
 | e :: r,m=>by simp [dz,gD r m]

def iA (s n:Int):Int:=bits .xor .u64 s (n%18446744073709551616)*1099511628211%18446744073709551616

def rM (s:Int) (e:Ev):Int:=iA (iA (iA s e.1) e.2.1) e.2.2

def iI (l:List Ev):Int:=l.foldl rM 14695981039346656037

theorem jL (l:List Ev) (e:Ev):iI (l ++ [e])=rM (iI l) e:=by simp [iI]

def EvRow (w:World) (v:Value) (l:List Ev):Prop:=w.ownsRow 0 189 3 v l.length (dz l)

theorem EvRow.lt {w:World} {v:Value} {l:List Ev} (h:EvRow w v l):∀ k,v.ownBlock=some k→k<w.heap.size:=fun k hk=>(World.ownsRow.lt h k hk).2

theorem EvRow.kept {S:Nat→Prop} {w w':World} {v:Value} {l:List Ev} (h:EvRow w v l) (k:Kept S w w') (hs:∀ k,v.ownBlock=some k→¬ S k):EvRow w' v l:=k.own h hs

def IsTr (w:World) (p:Nat) (g:Option Nat) (l:List Ev):Prop:=
 ∃ v s,w.heap[p]? = some (.cells #[v,.int .i64 l.length,.int .u64 s] 225 (0,0))∧v.ownBlock=g∧EvRow w v (l.take 1000)∧(l≠[]→s=iI l)

theorem IsTr.lt {w:World} {p:Nat} {g:Option Nat} {l:List Ev} (h:IsTr w p g l):p<w.heap.size∧∀ k,g=some k→k<w.heap.size∧k≠p:=by
 obtain ⟨v,s,hp,hg,hr,_⟩:=h;refine ⟨lt_of_block hp,fun k hk=>⟨hr.lt k (hg.trans hk),fun e=>?_⟩⟩;subst e;rcases hr.2 with ⟨rfl,_⟩ | ⟨g',cap,cur,rfl,_,hgg,_⟩
 ·subst hg;cases hk
 ·have:g'=k:=by subst hg;simpa [Value.ownBlock] using hk
  subst this;rw [hp] at hgg;simp at hgg

theorem IsTr.kept {S:Nat→Prop} {w w':World} {p:Nat} {g:Option Nat} {l:List Ev} (h:IsTr w p g l) (k:Kept S w w') (hp:¬ S p) (hg:∀ x,g=some x→¬ S x):IsTr w' p g l:=by
 obtain ⟨v,s,h1,h2,h3,h4⟩:=h;exact ⟨v,s,(k.block p (lt_of_block h1) hp).trans h1,h2,h3.kept k fun x hx=>hg x (h2.symm.trans hx),h4⟩

theorem IsTr.grew {w w':World} {p:Nat} {g:Option Nat} {l:List Ev} (h:IsTr w p g l) (k:Kept af w w'):IsTr w' p g l:=h.kept k (fun f=>f) fun _ _ f=>f

abbrev Tr:=Option (Nat × Option Nat × List Ev)

def aE:Tr→Value
 | none=>.pointer none
 | some (p,_,_)=>.pointer (some ⟨p,0,none⟩)

def jG:Tr→List Ev
 | none=>[]
 | some (_,_,l)=>l

def TrIn (w:World):Tr→Prop
 | none=>True
 | some (p,g,l)=>IsTr w p g l∧l.length<1000000000000

def dx:Tr→Nat→Prop
 | none,_=>False
 | some (p,g,_),k=>k=p∨g=some k

def Wrote (w:World) (m:List Ev) (w':World):Tr→Prop
 | none=>Kept af w w'
 | some (p,g,l)=>Kept (fun k=>k=p∨g=some k) w w'∧∃ g',IsTr w' p g' (l ++ m)∧(g'=g∨∃ x,g'=some x∧w.heap.size≤x)

theorem TrIn.grew {w w':World} {o:Tr} (h:TrIn w o) (k:Kept af w w'):TrIn w' o:=by
 cases o with
 | none=>trivial
 | some x=>exact ⟨h.1.grew k,h.2⟩

theorem TrIn.foot {w:World} {o:Tr} (h:TrIn w o):∀ k,dx o k→k<w.heap.size:=by
 cases o with
 | none=>intro k f;exact f.elim
 | some x=>
  obtain ⟨p,g,l⟩:=x;intro k f;rcases f with rfl | f
  ·exact h.1.lt.1
  ·exact (h.1.lt.2 k f).1

theorem Wrote.kept {w w':World} {m:List Ev} {o:Tr} (h:Wrote w m w' o):Kept (dx o) w w':=by
 cases o with
 | none=>exact Kept.any h
 | some x=>exact h.1

theorem uV (p:Nat) (v:Value) (n:Nat) (s r:Int) (w:World) (hp:w.heap[p]? = some (.cells #[v,.int .i64 n,.int .u64 s] 225 (0,0)))
  (hr:(n=0∧r=14695981039346656037)∨(n≠0∧r=s)) :
  Calls Tryz.prog 219 #[.pointer (some ⟨p,0,none⟩)] w fun e w'=>e=.returned (.int .u64 r)∧w'=w:=by
 have c1:w.cell? ⟨p,1,none⟩=some (.int .i64 n):=by rw [cell_of_row w p 1 _ _ _ hp];rfl
 have c2:w.cell? ⟨p,2,none⟩=some (.int .u64 s):=by rw [cell_of_row w p 2 _ _ _ hp];rfl
 clear hp;have hm:Calls Tryz.prog 245 #[.pointer (some ⟨p,0,none⟩)] w fun e w'=>e=.returned (.int .i64 n)∧w'=w:=by
  go_enter Tryz.func245,Tryz.ntmps245;go_wp2;go_ret;exact ⟨rfl,rfl⟩
 rcases hr with ⟨rfl,rfl⟩ | ⟨h0,rfl⟩
 ·go_enter Tryz.func219,Tryz.ntmps219;go_wp2_with fail;refine hm.mono ?_;rintro e w' ⟨rfl,rfl⟩;go_wp2;go_ret;exact ⟨rfl,rfl⟩
 ·have h1:(n:Int)≠0:=by omega
  go_enter Tryz.func219,Tryz.ntmps219;go_wp2_with fail;refine hm.mono ?_;rintro e w' ⟨rfl,rfl⟩;go_wp2;go_ret;exact ⟨rfl,rfl⟩

theorem A4 (s:Int) (e:Ev) (b:Nat) (w:World) (h:w.heap[b]? = some (.cells (mf e).toArray 3 (0,0))) :
  Calls Tryz.prog 218 #[.int .u64 s,.slice (some ⟨b,0,none⟩) 3 3] w fun r w'=>r=.returned (.int .u64 (rM s e))∧w'=w:=by
 obtain ⟨k,x,y⟩:=e;have c0:w.cell? ⟨b,0,none⟩=some (.int .i64 k):=by rw [cell_of_row w b 0 _ _ _ h];rfl
 have c1:w.cell? ⟨b,1,none⟩=some (.int .i64 x):=by rw [cell_of_row w b 1 _ _ _ h];rfl
 have c2:w.cell? ⟨b,2,none⟩=some (.int .i64 y):=by rw [cell_of_row w b 2 _ _ _ h];rfl
 clear h;have hm:rM s (k,x,y)=iA (iA (iA s k) x) y:=rfl;rw [hm];clear hm;go_enter Tryz.func218,Tryz.ntmps218;go_wp2_with fail;go_loop [0,9] (fun t i=>(i=.int .i64 0∧t=.int .u64 s)∨(i=.int .i64 1∧t=.int .u64 (iA s k))∨(i=.int .i64 2∧t=.int .u64 (iA (iA s k) x))∨(i=.int .i64 3∧t=.int .u64 (iA (iA (iA s k) x) y))) (fun _ i=>(3-intOf i).toNat)
 case atStart=>exact .inl ⟨rfl,rfl⟩
 case round=>
  rcases hrel with ⟨rfl,rfl⟩ | ⟨rfl,rfl⟩ | ⟨rfl,rfl⟩ | ⟨rfl,rfl⟩
  ·go_wp2;go_round
   case rel=>exact .inr (.inl ⟨by go_num,by simp [iA,IntKind.wrap_u64]⟩)
   case measure=>simp [intOf]
  ·go_wp2;go_round
   case rel=>exact .inr (.inr (.inl ⟨by go_num,by simp [iA,IntKind.wrap_u64]⟩))
   case measure=>simp [intOf]
  ·go_wp2;go_round
   case rel=>exact .inr (.inr (.inr ⟨by go_num,by simp [iA,IntKind.wrap_u64]⟩))
   case measure=>simp [intOf]
  ·go_wp2;go_ret;exact ⟨rfl,rfl⟩

theorem Tryz.info189:(Tryz.prog.info? 189).map (fun i=>(i.zero,i.size,i.bytes))=some (some (.agg #[.int .i64 0,.int .i64 0,.int .i64 0]),3,24):=by kernel_rfl

theorem ub (w W:World) (A:Array Value) (t:TypeId) (j:Nat) (hs:W.heap.size=w.heap.size) (B:Obj):((W.alloc (.cells A t)).alloc B).drew.cell? ⟨w.heap.size,j,none⟩=A[j]?:=by
 rw [← hs];exact cell_of_row _ _ _ A t (0,0) (aQ (heap_alloc2_old W _ _))

theorem yX {w:World} {p:Nat} {v n s:Value} {t:TypeId} (hp:w.heap[p]? = some (.cells #[v,n,s] t (0,0))) (u1 u2:Value):((w.setCell ⟨p,2,none⟩ u2).setCell ⟨p,1,none⟩ u1).heap[p]? = some (.cells #[v,u1,u2] t (0,0)):=by
 have h1:=heap_setCell_same w p 2 _ _ u2 hp;have h2:=heap_setCell_same _ p 1 _ _ u1 h1;simpa using h2

attribute [local go_sem ↓] Go.wp_at_zero Go.wp_at_succ

theorem rj (k x y:Int) (w:World) :
  Calls Tryz.prog 177 #[.pointer none,.agg #[.int .i64 k,.int .i64 x,.int .i64 y]] w fun r w'=>r=.returned (.tuple #[])∧w'=w.alloc (.cells #[.int .i64 k,.int .i64 x,.int .i64 y] 189):=by
 go_enter Tryz.func177,Tryz.ntmps177;go_wp2;exact bodyPost_ret (v:=.tuple #[]) (by simp [results,Tryz.results177,go_sem]) rfl ⟨rfl,rfl⟩

theorem oP (p:Nat) (ao:Option Addr) (cap n:Nat) (s r k x y:Int) (w:World) (hn:n<1000000000000)
  (hp:w.heap[p]? = some (.cells #[.slice ao 1000 cap,.int .i64 n,.int .u64 s] 225 (0,0))) (hr:(n=0∧r=14695981039346656037)∨(n≠0∧r=s)) :
  Calls Tryz.prog 177 #[.pointer (some ⟨p,0,none⟩),.agg #[.int .i64 k,.int .i64 x,.int .i64 y]] w fun e w'=>e=.returned (.tuple #[]) ∧
   w'.heap[p]? = some (.cells #[.slice ao 1000 cap,.int .i64 (n+1:Nat),.int .u64 (rM r (k,x,y))] 225 (0,0))∧Kept (fun b=>b=p) w w':=by
 have hlt:=lt_of_block hp;have c0:w.cell? ⟨p,0,none⟩=some (.slice ao 1000 cap):=by rw [cell_of_row w p 0 _ _ _ hp];rfl
 have c1:w.cell? ⟨p,1,none⟩=some (.int .i64 n):=by rw [cell_of_row w p 1 _ _ _ hp];rfl
 have c2:w.cell? ⟨p,2,none⟩=some (.int .u64 s):=by rw [cell_of_row w p 2 _ _ _ hp];rfl
 have a:=World.new_ne w _ c2;have f:∀ j,w.frozen? ⟨p,j,none⟩=false:=fun j=>frozen_of_row w p j _ _ hp
 go_enter Tryz.func177,Tryz.ntmps177;go_wp2_with fail;go_region_held3 (fun w'=>w'.cell? ⟨w.heap.size,0,none⟩=some (.int .i64 k)∧w'.cell? ⟨w.heap.size,1,none⟩=some (.int .i64 x)∧w'.cell? ⟨w.heap.size,2,none⟩=some (.int .i64 y))
  (((try dsimp only);(repeat' apply And.intro) <;> first | (go_keep;done) | exact (ub w _ _ _ _ (by simp) _).trans rfl))
  (first
   | (go_at_call 218;refine (A4 r (k,x,y) _ _ ?_).mono ?_;(first | exact aQ (heap_alloc2_new _ _ _) | exact heap_alloc2_new _ _ _ | exact Go.heap_alloc_new _ _ | (simp;done));rintro e w' ⟨rfl,rfl⟩)
   | (go_at_call 219;refine (uV p (.slice ao 1000 cap) n s r _ ?_ hr).mono ?_;(first | exact aQ (ap hp) | exact aQ (ap (ap hp)) | exact ap (aQ (ap hp)));rintro e w' ⟨rfl,rfl⟩))
 all_goals
  go_wp2;go_end0
  refine ⟨rfl,?_,?_⟩
  ·rw [Int.natCast_add];exact aQ (ap (ap (yX hp _ _)))
  ·exact (((((ai (fun b=>b=p) w).setCell ⟨p,2,none⟩ (fun _=>rfl) _).setCell ⟨p,1,none⟩ (fun _=>rfl) _).alloc _).alloc _).drew

attribute [local go_sem ↓] Go.wp_at_zero Go.wp_at_succ

theorem ke {w:World} {base a n:Nat} {e t:TypeId} {v:Value} {xs:List Value} {p:Nat} {cs:Array Value} {fr:Nat × Nat} (h:w.ownsRow base e a v n xs) (hp:w.heap[p]? = some (.cells cs t fr)) (ht:t≠e):some p≠v.ownBlock:=by
 intro he;rcases h.2 with ⟨rfl,_⟩ | ⟨g',cap,cur,rfl,_,hgg,_⟩
 ·cases he
 ·have:p=g':=by simpa [Value.ownBlock] using he
  subst this;rw [hp] at hgg;simp only [Option.some.injEq,Obj.cells.injEq] at hgg;exact ht hgg.2.1

theorem iV {W:World} {bx j p i:Nat} {u:Value} (h:W.cell? ⟨bx,j,none⟩=some u) (b:bx≠p) (z:Value) (B:Obj):((W.setCell ⟨p,i,none⟩ z).alloc B).drew.cell? ⟨bx,j,none⟩=some u:=by
 have hlt:bx<W.heap.size:=World.block_lt_of_cell? W _ h;have e:((W.setCell ⟨p,i,none⟩ z).alloc B).drew.heap[bx]? = W.heap[bx]?:=(Below.heap_alloc _ _ _ (by simpa using hlt)).trans (Below.heap_setCell W _ z bx b);exact (World.cell?_of_block (a:=⟨bx,j,none⟩) e).trans h

theorem oB {w w1:World} {p m:Nat} {v u c s:Value} {A B:Array Value} {xs:List Value} {t:TypeId} (hp:w.heap[p]? = some (.cells #[v,c,s] t (0,0)))
  (a:((w.alloc (.cells A 189)).alloc (.cells B 189)).drew.grownBy w1 v.ownBlock) (f:w1.heap[p]? = some (.cells #[v,c,s] t (0,0)))
  (ho:w1.ownsRow 0 189 3 u m xs) (d:∀ b,v.ownBlock=some b→b<w.heap.size) (ht:t≠189:=by decide) :
  (w1.setCell ⟨p,0,none⟩ u).heap[p]? = some (.cells #[u,c,s] t (0,0))∧(w1.setCell ⟨p,0,none⟩ u).heap[w.heap.size]? = some (.cells A 189 (0,0)) ∧
   (w1.setCell ⟨p,0,none⟩ u).ownsRow 0 189 3 u m xs∧Kept (fun b=>b=p∨v.ownBlock=some b) w (w1.setCell ⟨p,0,none⟩ u)∧w.heap.size<(w1.setCell ⟨p,0,none⟩ u).heap.size:=by
 have hlt:=lt_of_block hp;have hs:=a.size;have h:w.heap.size+2≤w1.heap.size:=by simpa using hs
 have g:some w.heap.size≠v.ownBlock:=fun e=>by have:=d _ e.symm;omega
 refine ⟨?_,?_,ownsRow_setCell_other ho (fun e=>ke ho f ht e.symm) _,?_,by simp;omega⟩
 ·simpa using heap_setCell_same w1 p 0 _ _ u f
 ·refine dj ?_ (by simp;omega) _;rw [a.block w.heap.size (by simp;omega) g];exact aQ (heap_alloc2_old w _ _)
 ·exact (((((ai (fun b=>b=p∨v.ownBlock=some b) w).alloc _).alloc _).drew).grown a (fun k hk _=>.inr hk)).setCell ⟨p,0,none⟩ (fun _=>.inl rfl) _

theorem uL {W:World} {p m:Nat} {v:Value} {cs:Array Value} {xs:List Value} {t:TypeId} (hp:W.heap[p]? = some (.cells cs t (0,0))) (ho:W.ownsRow 0 189 3 v m xs) (u1 u2:Value) (B:Obj) (ht:t≠189:=by decide) :
  (((W.setCell ⟨p,2,none⟩ u2).setCell ⟨p,1,none⟩ u1).alloc B).drew.ownsRow 0 189 3 v m xs:=
 ((ownsRow_setCell_other (ownsRow_setCell_other ho (a:=⟨p,2,none⟩) (fun e=>ke ho hp ht e.symm) u2) (a:=⟨p,1,none⟩) (fun e=>ke ho hp ht e.symm) u1).alloc B).drew

theorem oO (p:Nat) (v:Value) (ao:Option Addr) (cap n:Nat) (xs:List Value) (s r k x y:Int) (w:World) (hn:n<1000) (hv:v=.slice ao n cap)
  (hp:w.heap[p]? = some (.cells #[v,.int .i64 n,.int .u64 s] 225 (0,0))) (d:w.ownsRow 0 189 3 v n xs) (hr:(n=0∧r=14695981039346656037)∨(n≠0∧r=s)) :
  Calls Tryz.prog 177 #[.pointer (some ⟨p,0,none⟩),.agg #[.int .i64 k,.int .i64 x,.int .i64 y]] w fun e w'=>e=.returned (.tuple #[]) ∧
   ∃ g c',w'.heap[p]? = some (.cells #[.slice (some ⟨g,0,none⟩) (n+1) c',.int .i64 (n+1:Nat),.int .u64 (rM r (k,x,y))] 225 (0,0)) ∧
    w'.ownsRow 0 189 3 (.slice (some ⟨g,0,none⟩) (n+1) c') (n+1) (xs ++ mf (k,x,y))∧(v.ownBlock=some g∨w.heap.size≤g)∧Kept (fun b=>b=p∨v.ownBlock=some b) w w':=by
 subst hv;obtain ⟨i0,z,B,C,A⟩:=info_parts Tryz.info189;have hlt:=lt_of_block hp;have i:∀ b,(Value.slice ao n cap).ownBlock=some b→b<w.heap.size:=fun b hb=>(d.lt b hb).2
 have G:(Value.slice ao n cap).ownBlock≠some w.heap.size:=fun e=>by have:=i _ e;omega
 have c0:w.cell? ⟨p,0,none⟩=some (.slice ao n cap):=by rw [cell_of_row w p 0 _ _ _ hp];rfl
 have o:=World.new_ne w _ c0;have f:∀ j,w.frozen? ⟨p,j,none⟩=false:=fun j=>frozen_of_row w p j _ _ hp
 have D:some p≠(Value.slice ao n cap).ownBlock:=ke d hp (by decide);have L:(n:Int)<1000:=by omega
 go_enter Tryz.func177,Tryz.ntmps177;go_wp2_with fail
 go_region_law ((refine step_append_lies _ (by rfl) _ _ _ (by rfl) 0 189 i0 _ 3 24 Tryz.underlying223 z B C A rfl (by omega) (.slice ao n cap) n xs (by rfl) (((d.alloc _).alloc _).drew) ⟨w.heap.size+1,0,none⟩ 1 1 [.int .i64 k,.int .i64 x,.int .i64 y] (by rfl) (by rfl) (World.news_of_block (cs:=#[.int .i64 k,.int .i64 x,.int .i64 y]) (t:=189) (fr:=(0,0)) (heap_alloc2_new w _ _)) (by simp [Value.oneCell']) (by omega) (by unfold maxLen;omega) (by omega) (by simp) (w.heap.size+2) (by simp) ?_;intro gg c' w1 h a E J;have l:=(a.block p (by simp;omega) D).trans (aQ (ap (ap hp)));have cp:=(cell_of_row w1 p 0 _ _ _ l).trans rfl;have fp:=frozen_of_row w1 p 0 _ _ l))
 all_goals
  go_wp2_with fail;obtain ⟨c,q,H,F,M⟩:=oB (u:=.slice (some ⟨gg,0,none⟩) (n+1) c') hp a l h i;have m:(Value.slice ao n cap).ownBlock=some gg∨w.heap.size≤gg:=E.imp id (fun e=>by omega);clear h a l cp fp d hp c0 f E J D i G z B C A;generalize w1.setCell ⟨p,0,none⟩ (.slice (some ⟨gg,0,none⟩) (n+1) c')=W at *;clear w1;have b0:W.cell? ⟨w.heap.size,0,none⟩=some (.int .i64 k):=(cell_of_row W _ 0 _ _ _ q).trans rfl;have b1:W.cell? ⟨w.heap.size,1,none⟩=some (.int .i64 x):=(cell_of_row W _ 1 _ _ _ q).trans rfl;have b2:W.cell? ⟨w.heap.size,2,none⟩=some (.int .i64 y):=(cell_of_row W _ 2 _ _ _ q).trans rfl
  have c1:W.cell? ⟨p,1,none⟩=some (.int .i64 n):=by rw [cell_of_row W p 1 _ _ _ c];rfl
  have c2:W.cell? ⟨p,2,none⟩=some (.int .u64 s):=by rw [cell_of_row W p 2 _ _ _ c];rfl
  have f:∀ j,W.frozen? ⟨p,j,none⟩=false:=fun j=>frozen_of_row W p j _ _ c
  have I:=lt_of_block c;generalize hbx:w.heap.size=bx at *;have HB:Hid (w.heap.size=bx):=hbx;clear hbx;go_region_held3 (fun w'=>w'.cell? ⟨bx,0,none⟩=some (.int .i64 k)∧w'.cell? ⟨bx,1,none⟩=some (.int .i64 x)∧w'.cell? ⟨bx,2,none⟩=some (.int .i64 y))
   (((try dsimp only);(repeat' apply And.intro) <;> first | (go_keep;done) | exact iV b0 o _ _ | exact iV b1 o _ _ | exact iV b2 o _ _))
   (first
    | (go_at_call 218;refine (A4 r (k,x,y) _ _ ?_).mono ?_;(first | exact aQ (Go.heap_alloc_new _ _) | exact Go.heap_alloc_new _ _ );rintro e w' ⟨rfl,rfl⟩)
    | (go_at_call 219;refine (uV p (.slice (some ⟨gg,0,none⟩) (n+1) c') n s r _ ?_ hr).mono ?_;(first | exact aQ c | exact aQ (ap c) | exact ap (aQ c));rintro e w' ⟨rfl,rfl⟩))
  all_goals
   go_wp2;go_end0
   refine ⟨rfl,gg,c',?_,?_,by rw [HB.out];exact m,?_⟩
   ·rw [Int.natCast_add];exact aQ (ap (yX c _ _))
   ·exact uL c H _ _ _
   ·exact F.trans (((((ai (fun b=>b=p∨(Value.slice ao n cap).ownBlock=some b) W).setCell ⟨p,2,none⟩ (fun _=>.inl rfl) _).setCell ⟨p,1,none⟩ (fun _=>.inl rfl) _).alloc _).drew)

def yS (e:Ev):Value:=.agg #[.int .i64 e.1,.int .i64 e.2.1,.int .i64 e.2.2]

theorem uK {l:List Ev} {s:Int} (hs:l≠[]→s=iI l):(l.length=0∧iI l=14695981039346656037)∨(l.length≠0∧iI l=s):=by
 by_cases h:l=[]
 ·subst h;exact .inl ⟨rfl,rfl⟩
 ·exact .inr ⟨fun e=>h (List.eq_nil_of_length_eq_zero e),(hs h).symm⟩

theorem tA (l:List Ev) (h:l.length<1000):l.take 1000=l:=List.take_of_length_le (by omega)

theorem jY (l:List Ev) (e:Ev) (h:l.length<1000):(l ++ [e]).take 1000=l ++ [e]:=List.take_of_length_le (by simp;omega)

theorem jO (l:List Ev) (e:Ev) (h:1000≤l.length):(l ++ [e]).take 1000=l.take 1000:=List.take_append_of_le_length h

theorem zJ (o:Tr) (e:Ev) (w:World) (h:TrIn w o) :
  Calls Tryz.prog 177 #[aE o,yS e] w fun r w'=>r=.returned (.tuple #[])∧Wrote w [e] w' o:=by
 obtain ⟨k,x,y⟩:=e;cases o with
 | none=>
  refine (rj k x y w).mono ?_;rintro r w' ⟨rfl,rfl⟩;exact ⟨rfl,(ai af w).alloc _⟩
 | some q=>
  obtain ⟨p,g,l⟩:=q;obtain ⟨⟨v,s,hp,hg,hr,hs⟩,hl⟩:=h;by_cases hf:l.length<1000
  ·have ht:=tA l hf;unfold EvRow at hr;rw [ht] at hr;obtain ⟨ao,cap,hv⟩:=bh hr;refine (oO p v ao cap l.length (dz l) s (iI l) k x y w hf hv hp hr (uK hs)).mono ?_;rintro r w' ⟨rfl,g',c',c,i,d,hk⟩;refine ⟨rfl,?_⟩;rw [hg] at d hk;refine ⟨hk,some g',⟨_,_,by simpa using c,rfl,?_,fun _=>(jL l _).symm⟩,?_⟩
   ·unfold EvRow;rw [jY l _ hf,gD];simpa [dz] using i
   ·rcases d with h | h
    ·exact .inl h.symm
    ·exact .inr ⟨g',rfl,h⟩
  ·have a:(l.take 1000).length=1000:=by rw [List.length_take];omega
   have f:w.ownsRow 0 189 3 v 1000 (dz (l.take 1000)):=by rw [← a];rw [a];unfold EvRow at hr;rw [a] at hr;exact hr
   obtain ⟨ao,cap,rfl⟩:=bh f;refine (oP p ao cap l.length s (iI l) k x y w hl hp (uK hs)).mono ?_;rintro r w' ⟨rfl,c,hk⟩;refine ⟨rfl,hk.mono (fun _ _ h=>.inl h),g,⟨_,_,by simpa using c,hg,?_,fun _=>(jL l _).symm⟩,.inl rfl⟩;rw [jO l _ (by omega)];refine EvRow.kept hr hk fun b hb e=>?_
   subst e;exact ke hr hp (by decide) hb.symm

theorem Bc (o:Tr) (n:Int) (w:World) (h:TrIn w o) :
  Calls Tryz.prog 135 #[aE o,.int .i64 n] w fun r w'=>r=.returned (.tuple #[])∧Wrote w [(1,n,0)] w' o:=by
 have hc:=zJ o (1,n,0) w h;unfold yS at hc;generalize aE o=tp at *;go_enter Tryz.func135,Tryz.ntmps135;go_wp2_with fail;refine hc.mono ?_;rintro e w' ⟨rfl,hw⟩;go_wp2;go_end0
 exact ⟨rfl,hw⟩

def Did (w:World) (o:Tr) (m:List Ev) (w':World) (o':Tr):Prop:=
 Kept (dx o) w w'∧((o=none∧o'=none)∨∃ p g l g',o=some (p,g,l)∧o'=some (p,g',l ++ m)∧IsTr w' p g' (l ++ m)∧(g'=g∨∃ x,g'=some x∧w.heap.size≤x))

def TrRoom (w:World) (o:Tr) (k:Nat):Prop:=TrIn w o∧(jG o).length+k<1000000000000

theorem TrRoom.none (w:World) (k:Nat) (hk:k<1000000000000):TrRoom w none k:=⟨trivial,by simp [jG];omega⟩

theorem TrRoom.less {w:World} {o:Tr} {k j:Nat} (h:TrRoom w o k) (hj:j≤k):TrRoom w o j:=⟨h.1,by have:=h.2;omega⟩

theorem TrRoom.grew {w w':World} {o:Tr} {k:Nat} (h:TrRoom w o k) (hk:Kept af w w'):TrRoom w' o k:=⟨h.1.grew hk,h.2⟩

theorem Did.kept {w w':World} {o o':Tr} {m:List Ev} (h:Did w o m w' o'):Kept (dx o) w w':=h.1

theorem Did.size {w w':World} {o o':Tr} {m:List Ev} (h:Did w o m w' o'):w.heap.size≤w'.heap.size:=h.1.size

theorem Did.ptr {w w':World} {o o':Tr} {m:List Ev} (h:Did w o m w' o'):aE o'=aE o:=by
 rcases h.2 with ⟨rfl,rfl⟩ | ⟨p,g,l,g',rfl,rfl,_⟩ <;> rfl

theorem Did.len {w w':World} {o o':Tr} {m:List Ev} (h:Did w o m w' o'):(jG o').length≤(jG o).length+m.length:=by
 rcases h.2 with ⟨rfl,rfl⟩ | ⟨p,g,l,g',rfl,rfl,_⟩
 ·simp
 ·simp [jG]

theorem Did.room {w w':World} {o o':Tr} {m:List Ev} {k:Nat} (h:Did w o m w' o') (hr:TrRoom w o (m.length+k)):TrRoom w' o' k:=by
 have hl:=h.len;have h2:=hr.2;refine ⟨?_,by omega⟩;rcases h.2 with ⟨rfl,rfl⟩ | ⟨p,g,l,g',rfl,rfl,ht,_⟩
 ·trivial
 ·exact ⟨ht,by simp only [jG] at hl;simp only [jG] at h2;rw [List.length_append];omega⟩

theorem Did.foot {w w':World} {o o':Tr} {m:List Ev} (h:Did w o m w' o') {b:Nat} (hb:b<w.heap.size) (hf:dx o' b):dx o b:=by
 rcases h.2 with ⟨rfl,rfl⟩ | ⟨p,g,l,g',rfl,rfl,_,hg⟩
 ·exact hf
 ·rcases hf with rfl | hf
  ·exact .inl rfl
  ·rcases hg with rfl | ⟨x,rfl,hx⟩
   ·exact .inr hf
   ·simp at hf;omega

theorem Did.trans {w w1 w2:World} {o o1 o2:Tr} {m m':List Ev} (h:Did w o m w1 o1) (k:Did w1 o1 m' w2 o2):Did w o (m ++ m') w2 o2:=by
 refine ⟨h.1.next k.1 (fun x hx hf=>h.foot hx hf),?_⟩;rcases h.2 with ⟨rfl,rfl⟩ | ⟨p,g,l,g',rfl,rfl,ht,hg⟩
 ·rcases k.2 with ⟨_,rfl⟩ | ⟨_,_,_,_,e,_⟩
  ·exact .inl ⟨rfl,rfl⟩
  ·cases e
 ·rcases k.2 with ⟨e,_⟩ | ⟨p2,g2,l2,g2',e,rfl,ht2,hg2⟩
  ·cases e
  ·simp only [Option.some.injEq,Prod.mk.injEq] at e;obtain ⟨rfl,rfl,rfl⟩:=e;refine .inr ⟨_,_,_,_,rfl,by rw [List.append_assoc],by rw [← List.append_assoc];exact ht2,?_⟩;rcases hg2 with rfl | ⟨x,rfl,hx⟩
   ·exact hg
   ·exact .inr ⟨x,rfl,Nat.le_trans h.1.size hx⟩

theorem Did.of_kept {w w':World} {o:Tr} (h:Kept af w w') (ht:TrIn w o):Did w o [] w' o:=by
 refine ⟨h.any,?_⟩;cases o with
 | none=>exact .inl ⟨rfl,rfl⟩
 | some x=>
  obtain ⟨p,g,l⟩:=x;exact .inr ⟨p,g,l,g,rfl,by simp,by simpa using ht.1.grew h,.inl rfl⟩

theorem Did.grew {w w' w2:World} {o o':Tr} {m:List Ev} (h:Did w o m w' o') (k:Kept af w' w2):Did w o m w2 o':=by
 refine ⟨h.1.trans k.any,?_⟩;rcases h.2 with h1 | ⟨p,g,l,g',e1,e2,ht,hg⟩
 ·exact .inl h1
 ·exact .inr ⟨p,g,l,g',e1,e2,ht.grew k,hg⟩

theorem Did.after {a w w':World} {o o':Tr} {m:List Ev} (k:Kept af a w) (h:Did w o m w' o'):Did a o m w' o':=by
 refine ⟨k.any.trans h.1,?_⟩;rcases h.2 with h1 | ⟨p,g,l,g',e1,e2,ht,hg⟩
 ·exact .inl h1
 ·refine .inr ⟨p,g,l,g',e1,e2,ht,?_⟩;rcases hg with hg | ⟨x,e,hx⟩
  ·exact .inl hg
  ·exact .inr ⟨x,e,Nat.le_trans k.size hx⟩

theorem Did.of_wrote {w w':World} {o:Tr} {m:List Ev} (h:Wrote w m w' o):∃ o',Did w o m w' o':=by
 have hk:=h.kept;cases o with
 | none=>exact ⟨none,hk,.inl ⟨rfl,rfl⟩⟩
 | some x=>
  obtain ⟨p,g,l⟩:=x;obtain ⟨_,g',ht,hg⟩:=h;exact ⟨some (p,g',l ++ m),hk,.inr ⟨p,g,l,g',rfl,rfl,ht,hg⟩⟩

theorem Did.none {w w':World} {o':Tr} {m:List Ev} (h:Did w none m w' o'):o'=none∧Kept af w w':=by
 rcases h.2 with ⟨_,rfl⟩ | ⟨_,_,_,_,e,_⟩
 ·exact ⟨rfl,h.1.mono (fun _ _ f=>f)⟩
 ·cases e

def RowT (w:World) (o:Tr) (v:Value) (xs:List Nat):Prop:=Row .u64 w v xs∧(xs≠[]→∀ b,v.ownBlock=some b→¬ dx o b)

theorem RowT.none {w:World} {v:Value} {xs:List Nat} (h:Row .u64 w v xs):RowT w none v xs:=⟨h,fun _ _ _ f=>f⟩

theorem RowT.did {w w':World} {o o':Tr} {m:List Ev} {v:Value} {xs:List Nat} (h:RowT w o v xs) (d:Did w o m w' o'):RowT w' o' v xs:=
 ⟨h.1.kept' d.1 h.2,fun a b hb hf=>h.2 a b hb (d.foot (h.1.lt a b hb) hf)⟩

theorem RowT.grew {w w':World} {o:Tr} {v:Value} {xs:List Nat} (h:RowT w o v xs) (k:Kept af w w'):RowT w' o v xs:=⟨h.1.grew k,h.2⟩

theorem eS {w:World} {o:Tr} {base a n:Nat} {v:Value} {xs:List Value} (h:w.ownsRow base 23 a v n xs) (ht:TrIn w o):∀ b,v.ownBlock=some b→¬ dx o b:=by
 cases o with
 | none=>intro _ _ f;exact f
 | some x=>
  obtain ⟨p,g,l⟩:=x;obtain ⟨⟨u,s,hp,hg,hr,_⟩,_⟩:=ht;rcases h.2 with ⟨rfl,_⟩ | ⟨g',cap,cur,rfl,_,hgg,_⟩
  ·intro b hb;cases hb
  ·intro b hb hf;have e:g'=b:=by simpa [Value.ownBlock] using hb
   subst e;rcases hf with rfl | hf
   ·rw [hp] at hgg;simp at hgg
   ·rcases hr.2 with ⟨rfl,_⟩ | ⟨g2,cap2,cur2,rfl,_,hgg2,_⟩
    ·rw [← hg] at hf;cases hf
    ·rw [← hg] at hf;have e:g2=g':=by simpa [Value.ownBlock] using hf
     subst e;rw [hgg2] at hgg;simp at hgg

theorem ay {w:World} {o:Tr} {g:Nat} {cs:Array Value} {t:TypeId} {fr:Nat × Nat} (h:w.heap[g]? = some (.cells cs t fr)) (ht:TrIn w o) (h1:t≠225) (h2:t≠189):¬ dx o g:=by
 cases o with
 | none=>intro f;exact f
 | some x=>
  obtain ⟨p,g1,l⟩:=x;obtain ⟨⟨u,s,hp,hg,hr,_⟩,_⟩:=ht;intro hf;rcases hf with rfl | hf
  ·rw [hp] at h;simp only [Option.some.injEq,Obj.cells.injEq] at h;exact h1 h.2.1.symm
  ·rcases hr.2 with ⟨rfl,_⟩ | ⟨g2,cap2,cur2,rfl,_,hgg2,_⟩
   ·rw [← hg] at hf;cases hf
   ·rw [← hg] at hf;have e:g2=g:=by simpa [Value.ownBlock] using hf
    subst e;rw [hgg2] at h;simp only [Option.some.injEq,Obj.cells.injEq] at h;exact h2 h.2.1.symm

theorem fN {w:World} {o:Tr} {base n:Nat} {v:Value} {zs:List Nat} (h:OwnN .u64 23 w base v n zs) (hl:zs.length=n) (ht:TrIn w o):RowT w o v zs:=
 ⟨Row.of_own (base:=base) (e:=23) (by rw [hl];exact h),fun _=>eS h ht⟩

theorem Did.wroteNew {w w' w2:World} {o o':Tr} {m:List Ev} {h:Nat} (d:Did w o m w' o') (k:Kept (fun b=>b=h) w' w2) (hh:w.heap.size≤h) (hf:¬ dx o' h):Did w o m w2 o':=by
 refine ⟨d.1.next k (fun x hx e=>by omega),?_⟩;rcases d.2 with h1 | ⟨p,g,l,g',e1,e2,ht,hg⟩
 ·exact .inl h1
 ·subst e2;exact .inr ⟨p,g,l,g',e1,rfl,ht.kept k (fun e=>hf (.inl e.symm)) (fun x hx e=>hf (.inr (by rw [← e];exact hx))),hg⟩

theorem dC (o:Tr) (n:Int) (w:World) (h:TrIn w o) :
  Calls Tryz.prog 135 #[aE o,.int .i64 n] w fun r w'=>r=.returned (.tuple #[])∧∃ o',Did w o [(1,n,0)] w' o':=by
 refine (Bc o n w h).mono ?_;rintro r w' ⟨rfl,hw⟩;exact ⟨rfl,Did.of_wrote hw⟩

def U64s (w:World) (v:Value):Prop:=∀ b,v.ownBlock=some b→∃ cs fr,w.heap[b]? = some (.cells cs 23 fr)

theorem U64s.own {w:World} {base n:Nat} {v:Value} {zs:List Nat} (h:OwnN .u64 23 w base v n zs):U64s w v:=by
 intro b hb;rcases h.2 with ⟨rfl,_⟩ | ⟨g',cap,cur,rfl,_,hgg,_⟩
 ·cases hb
 ·have e:g'=b:=by simpa [Value.ownBlock] using hb
  subst e;exact ⟨_,_,hgg⟩

theorem U64s.kept {S:Nat→Prop} {w w':World} {v:Value} (h:U64s w v) (k:Kept S w w') (hS:∀ b,v.ownBlock=some b→¬ S b):U64s w' v:=by
 intro b hb;obtain ⟨cs,fr,hg⟩:=h b hb;exact ⟨cs,fr,(k.block _ (lt_of_block hg) (hS b hb)).trans hg⟩

theorem U64s.grew {w w':World} {v:Value} (h:U64s w v) (k:Kept af w w'):U64s w' v:=h.kept k (fun _ _ f=>f)

theorem U64s.nil (w:World):U64s w (.slice none 0 0):=fun b hb=>by cases hb

theorem U64s.rowT {w:World} {o:Tr} {v:Value} {xs:List Nat} (h:U64s w v) (hr:Row .u64 w v xs) (ht:TrIn w o):RowT w o v xs:=
 ⟨hr,fun _ b hb=>by
  obtain ⟨cs,fr,hg⟩:=h b hb;exact ay hg ht (by decide) (by decide)⟩

theorem U64s.did {w w':World} {o o':Tr} {m:List Ev} {v:Value} (h:U64s w v) (d:Did w o m w' o') (ht:TrIn w o):U64s w' v:=
 h.kept d.kept (fun b hb=>by
  obtain ⟨cs,fr,hg⟩:=h b hb;exact ay hg ht (by decide) (by decide))

def bor (x y:Int):Int:=if x<y then 1 else 0

theorem yL (x y c:Int) (hx:0≤x) (hy:0≤y) (a:0≤c) (hc:c≤1) (w:World) :
  (callFunc 221 #[.int .u64 x,.int .u64 y,.int .u64 c]).run Tryz.prog w =
   .ok (.value (.tuple #[.int .u64 ((x+y+c)%18446744073709551616),.int .u64 ((x+y+c)/18446744073709551616)])) w:=by
 rw [run_callFunc_extern Tryz.func221 (by kernel_rfl) (by kernel_rfl) (by kernel_rfl) (e:=add64Entry) (by kernel_rfl),run_add64 x y c hx hy a hc];simp only [Result.andThen]

theorem pz (x y:Int) (hx:0≤x) (hy:0≤y) (w:World) :
  (callFunc 221 #[.int .u64 x,.int .u64 y,.int .u64 0]).run Tryz.prog w =
   .ok (.value (.tuple #[.int .u64 ((x+y)%18446744073709551616),.int .u64 ((x+y)/18446744073709551616)])) w:=by
 have h:=yL x y 0 hx hy (Int.le_refl 0) (by decide) w;rw [Int.add_zero] at h;exact h
theorem yM (x y c:Int) (hx:0≤x) (hy:0≤y) (hy1:y<18446744073709551616) (hc0:0≤c) (hc:c≤1) (w:World) :
  (callFunc 208 #[.int .u64 x,.int .u64 y,.int .u64 c]).run Tryz.prog w =
   .ok (.value (.tuple #[.int .u64 ((x-y-c)%18446744073709551616),.int .u64 (bor x (y+c))])) w:=by
 obtain ⟨X,rfl⟩:=Int.eq_ofNat_of_zero_le hx;obtain ⟨Y,rfl⟩:=Int.eq_ofNat_of_zero_le hy;obtain ⟨C,rfl⟩:=Int.eq_ofNat_of_zero_le hc0;rw [run_callFunc_extern Tryz.func208 (by kernel_rfl) (by kernel_rfl) (by kernel_rfl) (e:=sub64Entry) (by kernel_rfl),run_sub64 X Y C (by omega)];simp only [Result.andThen];have e1:(((X+18446744073709551616-Y-C)%18446744073709551616:Nat):Int)=((X:Int)-Y-C)%18446744073709551616:=by omega
 have e2:((if X<Y+C then 1 else 0:Nat):Int)=bor (X:Int) ((Y:Int)+C):=by
  unfold bor;split <;> split <;> omega
 rw [e1,e2]

theorem Ci (x y:Int) (hx:0≤x) (hy:0≤y) (e:y<18446744073709551616) (w:World) :
  (callFunc 208 #[.int .u64 x,.int .u64 y,.int .u64 0]).run Tryz.prog w =
   .ok (.value (.tuple #[.int .u64 ((x-y)%18446744073709551616),.int .u64 (bor x y)])) w:=by
 have h:=yM x y 0 hx hy e (Int.le_refl 0) (by decide) w;rw [Int.add_zero,Int.sub_zero] at h;exact h
theorem ia {a b c d:Int} (h:a=c) (k:b=d):Ending.returned (.tuple #[.int .u64 a,.int .u64 b])=Ending.returned (.tuple #[.int .u64 c,.int .u64 d]):=by rw [h,k]
theorem pJ {a c:Int} (h:a=c):Ending.returned (.int .u64 a)=Ending.returned (.int .u64 c):=by rw [h]

theorem Ar (x y:Int) (hx:0≤x) (c:x<18446744073709551616) (hy:0≤y) (d:y<18446744073709551616) :
  ∃ x0 x1 y0 y1 p q r s:Int,bits .and .u64 x 4294967295=x0∧x/4294967296=x1∧bits .and .u64 y 4294967295=y0∧y/4294967296=y1 ∧
   x0*y0=p∧x1*y0=q∧x0*y1=r∧x1*y1=s ∧
   (0≤p∧p≤18446744065119617025)∧(0≤q∧q≤18446744065119617025)∧(0≤r∧r≤18446744065119617025)∧(0≤s∧s≤18446744065119617025) ∧
   x*y=s*18446744073709551616+(q+r)*4294967296+p:=by
 obtain ⟨X,rfl⟩:=Int.eq_ofNat_of_zero_le hx;obtain ⟨Y,rfl⟩:=Int.eq_ofNat_of_zero_le hy;have bp:=Lib.half_mul_le (a:=X%4294967296) (b:=Y%4294967296) (by omega) (by omega);have bq:=Lib.half_mul_le (a:=X/4294967296) (b:=Y%4294967296) (by omega) (by omega);have br:=Lib.half_mul_le (a:=X%4294967296) (b:=Y/4294967296) (by omega) (by omega);have bs:=Lib.half_mul_le (a:=X/4294967296) (b:=Y/4294967296) (by omega) (by omega);have e:X*Y=(X/4294967296)*(Y/4294967296)*(4294967296*4294967296)+((X/4294967296)*(Y%4294967296)+(X%4294967296)*(Y/4294967296))*4294967296+(X%4294967296)*(Y%4294967296):=by
  rw [← Lib.split_mul,Nat.div_add_mod' X 4294967296,Nat.div_add_mod' Y 4294967296]
 refine ⟨((X%4294967296:Nat):Int),((X/4294967296:Nat):Int),((Y%4294967296:Nat):Int),((Y/4294967296:Nat):Int),
  (((X%4294967296)*(Y%4294967296):Nat):Int),(((X/4294967296)*(Y%4294967296):Nat):Int),(((X%4294967296)*(Y/4294967296):Nat):Int),(((X/4294967296)*(Y/4294967296):Nat):Int),
  Mul64.maskN X (by omega),Mul64.divN X,Mul64.maskN Y (by omega),Mul64.divN Y,Mul64.mulN _ _,Mul64.mulN _ _,Mul64.mulN _ _,Mul64.mulN _ _,?_⟩
 rw [Mul64.mulN,e];generalize (X%4294967296)*(Y%4294967296)=p at *;generalize (X/4294967296)*(Y%4294967296)=q at *;generalize (X%4294967296)*(Y/4294967296)=r at *;generalize (X/4294967296)*(Y/4294967296)=s at *;omega

theorem zp (a:Int) (h0:0≤a) (h1:a<18446744073709551616):bits .and .u64 a 4294967295=a%4294967296:=by
 obtain ⟨A,rfl⟩:=Int.eq_ofNat_of_zero_le h0;rw [Mul64.maskN A (by omega)];omega

theorem qZ (x y:Int) (hx:0≤x) (c:x<18446744073709551616) (hy:0≤y) (d:y<18446744073709551616) (w:World) :
  Calls Tryz.prog 220 #[.int .u64 x,.int .u64 y] w fun e w'=>e=.returned (.tuple #[.int .u64 (x*y/18446744073709551616),.int .u64 (x*y%18446744073709551616)])∧w'=w:=by
 obtain ⟨x0,x1,y0,y1,p,q,r,s,h1,h2,h3,h4,h5,h6,h7,h8,⟨p0,p1⟩,⟨q0,q1⟩,⟨r0,r1⟩,⟨s0,s1⟩,b⟩:=Ar x y hx c hy d;have hm:=zp (q+p/4294967296) (by omega) (by omega);have a:Hid (x*y=s*18446744073709551616+(q+r)*4294967296+p):=b;clear b;go_enter Tryz.func220,Tryz.ntmps220;go_wp2;go_ret2;refine ⟨ia ?_ ?_,rfl⟩
 ·rw [a.out];omega
 ·rw [a.out,IntKind.wrap_u64]

theorem and_one (x:Int) (h0:0≤x) (h1:x<18446744073709551616):bits .and .u64 x 1=x%2:=and_one_u64 x h0 (by omega)

theorem Cx (a b c:Int) (a0:0≤a) (b0:0≤b) (c0:0≤c) (c1:c<18446744073709551616) (w:World) :
  Calls Tryz.prog 251 #[.int .u64 a,.int .u64 b,.int .u64 c] w fun e w'=>
   e=.returned (.tuple #[.int .u64 ((a+b+c%2)%18446744073709551616),.int .u64 ((a+b+c%2)/18446744073709551616)])∧w'=w:=by
 have hb:=and_one c c0 c1;have k0:0≤c%2:=by omega
 have k1:c%2≤1:=by omega
 go_enter Tryz.func251,Tryz.ntmps251;go_wp2_with (simp only [yL a b (c%2) a0 b0 k0 k1]);go_ret2;exact ⟨rfl,rfl⟩

theorem Ct (a b c:Int) (a0:0≤a) (b0:0≤b) (b1:b<18446744073709551616) (c0:0≤c) (c1:c<18446744073709551616) (w:World) :
  Calls Tryz.prog 165 #[.int .u64 a,.int .u64 b,.int .u64 c] w fun e w'=>
   e=.returned (.tuple #[.int .u64 ((a-b-c%2)%18446744073709551616),.int .u64 (bor a (b+c%2))])∧w'=w:=by
 have hb:=and_one c c0 c1;have k0:0≤c%2:=by omega
 have k1:c%2≤1:=by omega
 go_enter Tryz.func165,Tryz.ntmps165;go_wp2_with (simp only [yM a b (c%2) a0 b0 b1 k0 k1]);go_ret2;exact ⟨rfl,rfl⟩

theorem vI (a b:Int) (a0:0≤a) (a1:a<18446744073709551616) (b0:0≤b) (b1:b<18446744073709551616) :
  0≤a*b∧a*b≤340282366920938463426481119284349108225:=
 ⟨Int.mul_nonneg a0 b0,(Int.mul_le_mul (c:=18446744073709551615) (d:=18446744073709551615) (by omega) (by omega) b0 (by decide):a*b≤18446744073709551615*18446744073709551615)⟩

theorem mI (a b p:Int) (a0:0≤a) (a1:a<18446744073709551616) (b0:0≤b) (b1:b<18446744073709551616) (h:Hid (a*b=p)) (w:World) :
  Calls Tryz.prog 220 #[.int .u64 a,.int .u64 b] w fun e w'=>e=.returned (.tuple #[.int .u64 (p/18446744073709551616),.int .u64 (p%18446744073709551616)])∧w'=w:=by
 rw [← h.out];exact qZ a b a0 a1 b0 b1 w

theorem Cz (a b c d:Int) (a0:0≤a) (a1:a<18446744073709551616) (b0:0≤b) (b1:b<18446744073709551616) (c0:0≤c) (c1:c<18446744073709551616) (d0:0≤d) (d1:d<18446744073709551616) (w:World) :
  Calls Tryz.prog 178 #[.int .u64 a,.int .u64 b,.int .u64 c,.int .u64 d] w fun e w'=>
   e=.returned (.tuple #[.int .u64 ((a*b+c+d)/18446744073709551616),.int .u64 ((a*b+c+d)%18446744073709551616)])∧w'=w:=by
 have hp:=vI a b a0 a1 b0 b1;obtain ⟨p,f⟩:∃ p,a*b=p:=⟨_,rfl⟩
 rw [f] at hp ⊢;have HM:Hid (a*b=p):=f;clear f;obtain ⟨p0,p1⟩:=hp;go_enter Tryz.func178,Tryz.ntmps178;go_wp2_with (first | (go_at_call 220;refine (mI a b p a0 a1 b0 b1 HM _).mono ?_;rintro e w' ⟨rfl,rfl⟩) | simp only [pz (p%18446744073709551616) c (by omega) c0] | simp only [pz ((p+c)%18446744073709551616) d (by omega) d0]);go_ret2;refine ⟨ia ?_ ?_,rfl⟩ <;> omega

def msk (x:Int):Int:=x%2*18446744073709551615

theorem mF (a:Int) (a0:0≤a) (a1:a<18446744073709551616) (w:World) :
  Calls Tryz.prog 164 #[.int .u64 a] w fun e w'=>e=.returned (.int .u64 (msk a))∧w'=w:=by
 have hb:=and_one a a0 a1;go_enter Tryz.func164,Tryz.ntmps164;go_wp2;go_ret;refine ⟨pJ ?_,rfl⟩;unfold msk;rw [IntKind.wrap_u64];omega

def sel (k a b:Int):Int:=if k%2=1 then a else b

theorem AR (k a b:Int) (a0:0≤a) (a1:a<18446744073709551616) (b0:0≤b) (b1:b<18446744073709551616) :
  bits .xor .u64 b (bits .and .u64 (msk k) (bits .xor .u64 a b))=sel k a b:=by
 obtain ⟨A,rfl⟩:=Int.eq_ofNat_of_zero_le a0;obtain ⟨B,rfl⟩:=Int.eq_ofNat_of_zero_le b0;have hx:A ^^^ B<2^64:=Nat.xor_lt_two_pow (by omega) (by omega);rw [u64_xor_nat A B (by omega) (by omega)];unfold sel msk;have:k%2=0∨k%2=1:=by omega
 rcases this with h | h
 ·rw [h];have e:=u64_and_nat 0 (A ^^^ B) (by omega) (by omega);rw [Nat.zero_and] at e;have e':bits .and .u64 (0*18446744073709551615) ((A ^^^ B:Nat):Int)=((0:Nat):Int):=e;rw [e',u64_xor_nat B 0 (by omega) (by omega),Nat.xor_zero];simp
 ·rw [h];have e:=u64_and_nat 18446744073709551615 (A ^^^ B) (by omega) (by omega);rw [Nat.and_comm,show (18446744073709551615:Nat)=2^64-1 from rfl,Nat.and_two_pow_sub_one_of_lt_two_pow hx] at e;have e':bits .and .u64 (1*18446744073709551615) ((A ^^^ B:Nat):Int)=((A ^^^ B:Nat):Int):=e;rw [e',u64_xor_nat B (A ^^^ B) (by omega) (by omega),Nat.xor_comm A B,← Nat.xor_assoc,Nat.xor_self,Nat.zero_xor];simp

theorem yJ (k a b:Int) (k0:0≤k) (k1:k<18446744073709551616) (a0:0≤a) (a1:a<18446744073709551616) (b0:0≤b) (b1:b<18446744073709551616) (w:World) :
  Calls Tryz.prog 228 #[.int .u64 k,.int .u64 a,.int .u64 b] w fun e w'=>e=.returned (.int .u64 (sel k a b))∧w'=w:=by
 have hs:=AR k a b a0 a1 b0 b1;go_enter Tryz.func228,Tryz.ntmps228;go_wp2_with (go_at_call 164;refine (mF k k0 k1 _).mono ?_;rintro e w' ⟨rfl,rfl⟩);go_ret;exact ⟨rfl,rfl⟩

def zer (a:Int):Int:=if a=0 then 1 else 0

theorem zy (a:Int) (a0:0≤a) (a1:a<18446744073709551616) :
  bits .xor .u64 (bits .or .u64 a (IntKind.u64.wrap (-a))/9223372036854775808) 1=zer a:=by
 obtain ⟨A,rfl⟩:=Int.eq_ofNat_of_zero_le a0;unfold zer;by_cases h:A=0
 ·subst h;decide +kernel
 ·have e:IntKind.u64.wrap (-(A:Int))=((18446744073709551616-A:Nat):Int):=by rw [IntKind.wrap_u64];omega
  rw [e,u64_or_nat A _ (by omega) (by omega)];have hl:A≤A ||| (18446744073709551616-A):=Nat.left_le_or;have hr:18446744073709551616-A≤A ||| (18446744073709551616-A):=Nat.right_le_or;have hu:A ||| (18446744073709551616-A)<2^64:=Nat.or_lt_two_pow (by omega) (by omega);generalize A ||| (18446744073709551616-A)=B at *;have hq:(B:Int)/9223372036854775808=1:=by omega
  rw [hq,if_neg (by omega)];decide +kernel

theorem ze (a:Int) (a0:0≤a) (a1:a<18446744073709551616) (w:World) :
  Calls Tryz.prog 229 #[.int .u64 a] w fun e w'=>e=.returned (.int .u64 (zer a))∧w'=w:=by
 have hz:=zy a a0 a1;go_enter Tryz.func229,Tryz.ntmps229;go_wp2;go_ret;exact ⟨rfl,rfl⟩

end Go.Proofs.YtcemlfokmjjiaaaGreatDoor
