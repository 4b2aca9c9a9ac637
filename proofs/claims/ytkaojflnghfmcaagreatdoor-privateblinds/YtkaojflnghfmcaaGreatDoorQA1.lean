/- Put together of: Base1 OpenRow. -/
import Derived.Test.YtkaojflnghfmcaaGreatDoorRows
import Derived.WalkKit
import Derived.WalkSpells
import Derived.WalkLawsBesides
import Derived.OwnWalk
import Derived.OneCell
import Derived.Deep.AppendLies
import Derived.Deep.Draws
import Derived.Lib.MinMax
import Derived.Deep.QuietTactic
import Derived.BigQuiet
import Derived.Laws.BitsAllLaws
import Derived.Laws.CopyOwn
import Derived.Laws.IdiomCopy
import Derived.OpenShut

namespace Go.Proofs.YtkaojflnghfmcaaGreatDoor
set_option maxRecDepth 100000
set_option maxHeartbeats 4000000
open Go.RowKit

theorem ak {a b:Nat} (h:a < b):a%b=a:=Nat.mod_eq_of_lt h

theorem leR (n:Nat):n≤n:=Nat.le_refl n

theorem aI {p:Prop} [Decidable p] (h:¬ p):decide p=false:=decide_eq_false h

theorem aU {p:Prop} [Decidable p] (h:p):decide p=true:=decide_eq_true h

theorem lsA {α:Type _} (l:List α) (i:Nat) (a:α):l.toArray.setIfInBounds i a=(l.set i a).toArray:=List.setIfInBounds_toArray l i a

theorem lsZ {α:Type _} {x:α} {xs:List α} {a:α}:(x :: xs).set 0 a=a :: xs:=List.set_cons_zero

theorem lsS {α:Type _} {x:α} {xs:List α} {i:Nat} {a:α}:(x :: xs).set (i+1) a=x :: xs.set i a:=List.set_cons_succ

theorem eP:∀ (fn:Fn) (first a:Array Value) (w:World),(Instr.makeFunc fn first a).run Tryz.prog w=.ok (.func fn first a) w:=fun _ _ _ _=>rfl

structure Kept (S:Nat→Prop) (w w':World):Prop where
 os:w'.os=w.os
 tape:w'.tape=w.tape
 output:w'.output=w.output
 size:w.heap.size≤w'.heap.size
 block:∀ k,k<w.heap.size→¬ S k→w'.heap[k]? = w.heap[k]?

def af:Nat→Prop:=fun _=>False

theorem ah (S:Nat→Prop) (w:World):Kept S w w:=⟨rfl,rfl,rfl,leR _,fun _ _ _=>rfl⟩

theorem Kept.trans {S:Nat→Prop} {a b c:World} (h:Kept S a b) (k:Kept S b c):Kept S a c:=
 ⟨k.os.trans h.os,k.tape.trans h.tape,k.output.trans h.output,Nat.le_trans h.size k.size,fun i hi hs=>(k.block i (Nat.lt_of_lt_of_le hi h.size) hs).trans (h.block i hi hs)⟩

theorem Kept.next {S T:Nat→Prop} {a b c:World} (h:Kept S a b) (k:Kept T b c) (ht:∀ x,x<a.heap.size→T x→S x):Kept S a c:=
 ⟨k.os.trans h.os,k.tape.trans h.tape,k.output.trans h.output,Nat.le_trans h.size k.size,fun i hi hs=>(k.block i (Nat.lt_of_lt_of_le hi h.size) (fun t=>hs (ht i hi t))).trans (h.block i hi hs)⟩

theorem Kept.mono {S T:Nat→Prop} {w w':World} (h:Kept S w w') (hs:∀ k,k<w.heap.size→S k→T k):Kept T w w':=
 ⟨h.os,h.tape,h.output,h.size,fun k hk hn=>h.block k hk fun s=>hn (hs k hk s)⟩

theorem Kept.any {S:Nat→Prop} {w w':World} (h:Kept af w w'):Kept S w w':=h.mono fun _ _ f=>f.elim

theorem Kept.drew {S:Nat→Prop} {a w:World} (h:Kept S a w):Kept S a w.drew:=⟨h.os,h.tape,h.output,h.size,h.block⟩

theorem Kept.drewN {S:Nat→Prop} {a w:World} (h:Kept S a w) (n:Nat):Kept S a (w.drewN n):=⟨h.os,h.tape,h.output,h.size,h.block⟩

theorem Kept.alloc {S:Nat→Prop} {a w:World} (h:Kept S a w) (o:Obj):Kept S a (w.alloc o):=
 h.trans ⟨rfl,rfl,rfl,by simp,fun k hk _=>Below.heap_alloc _ _ _ hk⟩

theorem Kept.grown {S:Nat→Prop} {a w w':World} {b:Option Nat} (h:Kept S a w) (hg:w.grownBy w' b) (hr:∀ k,b=some k→k<a.heap.size→S k):Kept S a w':=
 ⟨hg.os.trans h.os,hg.tape.trans h.tape,hg.output.trans h.output,Nat.le_trans h.size hg.size,fun k hk hn=>
  (hg.block k (Nat.lt_of_lt_of_le hk h.size) (fun e=>hn (hr k e.symm hk))).trans (h.block k hk hn)⟩

theorem Kept.setCell {S:Nat→Prop} {a w:World} (h:Kept S a w) (p:Addr) (hp:p.block<a.heap.size→S p.block) (u:Value):Kept S a (w.setCell p u):=
 ⟨h.os,h.tape,h.output,by have:=h.size;simpa [World.setCell] using this,fun k hk hn=>
  (Below.heap_setCell _ _ _ _ (fun e=>hn (by rw [e];exact hp (by rw [← e];exact hk)))).trans (h.block k hk hn)⟩

theorem Kept.below {S:Nat→Prop} {w w':World} {B:Nat} (h:Kept S w w') (hB:B≤w.heap.size) (hs:∀ k,S k→B≤k):Below B w w':=
 ⟨h.os,h.tape,h.output,h.size,fun k hk=>h.block k (by omega) (fun s=>by have:=hs k s;omega)⟩

theorem Kept.own {S:Nat→Prop} {w w':World} {base a n:Nat} {e:TypeId} {v:Value} {xs:List Value} (h:Kept S w w') (ho:w.ownsRow base e a v n xs) (hs:∀ k,v.ownBlock=some k→¬ S k):w'.ownsRow base e a v n xs:=by
 refine ⟨ho.1,?_⟩;rcases ho.2 with hn | ⟨g,cap,cur,rfl,hb,hgg,rest⟩
 ·exact .inl hn
 ·refine .inr ⟨g,cap,cur,rfl,hb,?_,rest⟩;rw [h.block g (Array.getElem?_eq_some_iff.1 hgg).1 (hs g rfl)];exact hgg

theorem aR {w:World} {base base' a n:Nat} {e:TypeId} {v:Value} {xs:List Value} (h:w.ownsRow base e a v n xs) (hb:∀ k,v.ownBlock=some k→base'≤k):w.ownsRow base' e a v n xs:=by
 refine ⟨h.1,?_⟩;rcases h.2 with hn | ⟨g,cap,cur,rfl,_,rest⟩
 ·exact .inl hn
 ·exact .inr ⟨g,cap,cur,rfl,hb g rfl,rest⟩

theorem Kept.cellN {w w':World} {a:Addr} {u:Value} (h:Kept af w w') (hc:w.cell? a=some u):w'.cell? a=some u:=
 (World.cell?_of_block (h.block a.block (World.block_lt_of_cell? w _ hc) (fun f=>f))).trans hc

theorem am {w:World} {o X:Obj} {p:Nat} (h:w.heap[p]? = some X):(w.alloc o).heap[p]? = some X:=(Below.heap_alloc w o p (lt_of_block h)).trans h

theorem aQ {w:World} {X:Obj} {p:Nat} (h:w.heap[p]? = some X):w.drew.heap[p]? = some X:=h

theorem dt {w:World} {b:Nat} {a:Addr} {X:Obj} (h:w.heap[b]? = some X) (c:b≠a.block) (u:Value):(w.setCell a u).heap[b]? = some X:=(Below.heap_setCell w a u b c).trans h

theorem aC {w w':World} (h:w.grownBy w' none):Kept af w w':=(ah af w).grown h (fun _ e=>by cases e)

theorem aW {w:World} {base n a:Nat} {e:TypeId} {v:Value} {xs:List Value} (h:w.ownsRow base e a v n xs):∃ ao b,v=.slice ao n b:=by
 rcases h.2 with ⟨rfl,rfl⟩ | ⟨g,b,cur,rfl,_⟩
 ·exact ⟨none,0,rfl⟩
 ·exact ⟨_,_,rfl⟩

def val (l:List Nat) (B:Nat:=18446744073709551616):Nat:=match l with
 | []=>0
 | d :: r=>d+B*val r B

def Digs (l:List Nat) (B:Nat:=18446744073709551616):Prop:=∀ d ∈ l,d<B

theorem Digs.nil (B:Nat):Digs [] B:=fun _ h=>by cases h

theorem Digs.append {B:Nat} {l m:List Nat} (h:Digs l B) (k:Digs m B):Digs (l ++ m) B:=fun d hd=>by
 rcases List.mem_append.1 hd with h1 | h1
 ·exact h d h1
 ·exact k d h1

theorem Digs.one {B d:Nat} (h:d<B):Digs [d] B:=fun x hx=>by simp at hx;omega

theorem Digs.take {B:Nat} {l:List Nat} (h:Digs l B) (n:Nat):Digs (l.take n) B:=fun d hd=>h d (List.mem_of_mem_take hd)

theorem Digs.drop {B:Nat} {l:List Nat} (h:Digs l B) (n:Nat):Digs (l.drop n) B:=fun d hd=>h d (List.mem_of_mem_drop hd)

theorem Digs.tail {B x:Nat} {l:List Nat} (h:Digs (x :: l) B):Digs l B:=fun d hd=>h d (by simp [hd])

theorem Digs.head {B x:Nat} {l:List Nat} (h:Digs (x :: l) B):x<B:=h x (by simp)

theorem Digs.getD {B:Nat} {l:List Nat} (h:Digs l B) (hB:0<B) (i:Nat):l.getD i 0<B:=by
 rw [List.getD_eq_getElem?_getD];by_cases hi:i<l.length
 ·rw [List.getElem?_eq_getElem hi];exact h _ (List.getElem_mem hi)
 ·rw [List.getElem?_eq_none (by omega)];exact hB

theorem bG (B:Nat):∀ l m:List Nat,val (l ++ m) B=val l B+B^l.length*val m B
 | [],m=>by simp [val]
 | d :: r,m=>by
  simp only [List.cons_append,val,bG B r m,List.length_cons,Nat.pow_succ];rw [Nat.mul_add,← Nat.mul_assoc,Nat.mul_comm B (B^r.length)];omega

theorem aT (B:Nat) (l:List Nat) (d:Nat):val (l ++ [d]) B=val l B+B^l.length*d:=by
 rw [bG];simp [val]

theorem ap {B:Nat} (hB:0<B):∀ {l:List Nat},Digs l B→val l B<B^l.length
  | [],_=>by simp [val]
  | d :: r,h=>by
    have h1:=ap hB h.tail
    have h2:=h.head
    simp only [val,List.length_cons,Nat.pow_succ]
    have:B*val r B+B≤B^r.length*B:=by
      calc B*val r B+B=B*(val r B+1):=by rw [Nat.mul_add,Nat.mul_one]
        _≤B*B^r.length:=Nat.mul_le_mul_left _ h1
        _=B^r.length*B:=Nat.mul_comm _ _
    omega

theorem cC (B:Nat):∀ {l:List Nat},(∀ d ∈ l,d=0)→val l B=0
 | [],_=>rfl
 | d :: r,h=>by
  have h1:=h d (by simp);have h2:=cC B (l:=r) fun x hx=>h x (by simp [hx])
  simp [val,h1,h2]

def dig (V i:Nat) (B:Nat:=18446744073709551616):Nat:=V/B^i%B

def digs (V n:Nat) (B:Nat:=18446744073709551616):List Nat:=match n with
 | 0=>[]
 | n+1=>digs V n B++[dig V n B]

theorem ag (B V:Nat):∀ n,(digs V n B).length=n
 | 0=>rfl
 | n+1=>by simp [digs,ag B V n]

theorem ai {B:Nat} (hB:0<B) (V:Nat):∀ n,Digs (digs V n B) B
 | 0=>Digs.nil B
 | n+1=>(ai hB V n).append (Digs.one (Nat.mod_lt _ hB))

theorem al {B:Nat} (V:Nat):∀ n,val (digs V n B) B=V%B^n
 | 0=>by simp [digs,val,Nat.mod_one]
 | n+1=>by
  rw [digs,aT,al V n,ag,dig,Nat.pow_succ,Nat.mod_mul]

theorem aN {B:Nat} (hB:0<B):∀ {l:List Nat} {V n:Nat},Digs l B→l.length=n→val l B=V%B^n→l=digs V n B:=by
 intro l V n
 induction n generalizing l with
 | zero=>intro _ hl _;exact List.eq_nil_of_length_eq_zero hl
 | succ n ih=>
  intro hd hl hv;obtain ⟨m,d,rfl⟩:∃ m d,l=m ++ [d]:=by
   refine ⟨l.dropLast,l.getLast (by intro e;subst e;simp at hl),?_⟩;exact (List.dropLast_concat_getLast _).symm
  have hm:m.length=n:=by simpa using hl
  have b:Digs m B:=fun x hx=>hd x (by simp [hx])
  have c:d<B:=hd d (by simp);have hlt:=ap hB b;rw [aT,hm,Nat.pow_succ,Nat.mod_mul] at hv;rw [hm] at hlt;have a:0<B^n:=Nat.pow_pos hB;have e1:val m B=V%B^n:=by
   have h1:(val m B+B^n*d)%B^n=(V%B^n+B^n*(V/B^n%B))%B^n:=by rw [hv]
   rw [Nat.add_mul_mod_self_left,Nat.add_mul_mod_self_left,ak hlt,Nat.mod_mod] at h1;exact h1
  have e2:d=V/B^n%B:=by
   have:B^n*d=B^n*(V/B^n%B):=by omega
   exact Nat.eq_of_mul_eq_mul_left a this
  rw [digs,dig,← e2,ih b hm e1]

theorem eW (B V:Nat):∀ n i,i<n→(digs V n B).getD i 0=dig V i B
 | n+1,i,h=>by
  rw [digs,List.getD_eq_getElem?_getD];by_cases hi:i<n
  ·rw [List.getElem?_append_left (by rw [ag];exact hi),← List.getD_eq_getElem?_getD,eW B V n i hi]
  ·have:i=n:=by omega
   subst this;rw [List.getElem?_append_right (by rw [ag];omega),ag];simp

theorem ax (B:Nat) (l:List Nat) (n:Nat) (h:n≤l.length):val l B=val (l.take n) B+B^n*val (l.drop n) B:=by
 have:=bG B (l.take n) (l.drop n);rw [List.take_append_drop,List.length_take,Nat.min_eq_left h] at this;exact this

theorem aP {B:Nat} (hB:0<B) {l:List Nat} (h:Digs l B) (i:Nat):dig (val l B) i B=l.getD i 0:=by
 unfold dig;by_cases hi:i<l.length
 ·have e:=ax B l i (by omega);have hlt:val (l.take i) B<B^i:=by
   have:=ap hB (h.take i)
   rwa [List.length_take,Nat.min_eq_left (by omega)] at this
  have hd:l.drop i=l[i] :: l.drop (i+1):=List.drop_eq_getElem_cons hi;rw [hd] at e;rw [e,Nat.add_mul_div_left _ _ (Nat.pow_pos hB),Nat.div_eq_of_lt hlt,Nat.zero_add];simp only [val];rw [Nat.add_mul_mod_self_left,ak (h _ (List.getElem_mem hi))];rw [List.getD_eq_getElem?_getD,List.getElem?_eq_getElem hi];rfl
 ·have:=ap hB h;have h2:B^l.length≤B^i:=Nat.pow_le_pow_right hB (by omega);rw [Nat.div_eq_of_lt (by omega),List.getD_eq_getElem?_getD,List.getElem?_eq_none (by omega)];simp

def Row (k:IntKind) (w:World) (v:Value) (zs:List Nat):Prop:=
 ∃ ao cap,v=.slice ao zs.length cap∧zs.length≤cap∧cap≤maxLen∧(ao=none→cap=0)∧∀ i,i<zs.length→∃ b off,ao=some ⟨b,off,none⟩∧w.cell? ⟨b,off+i,none⟩=some (.int k (zs.getD i 0:Nat))

def NumAt (k:IntKind) (w:World) (ao:Option Addr) (zs:List Nat) (i:Nat):Prop:=
 ∃ b off,ao=some ⟨b,off,none⟩∧w.cell? ⟨b,off+i,none⟩=some (.int k (zs.getD i 0:Nat))

theorem Row.open {k:IntKind} {w:World} {v:Value} {zs:List Nat} (h:Row k w v zs) :
  ∃ ao n a,v=.slice ao n a∧Hid (zs.length=n)∧n≤a∧a≤9223372036854775807∧(ao=none→a=0)∧∀ i,i<n→NumAt k w ao zs i:=by
 obtain ⟨ao,a,rfl,h1,h2,h3,h4⟩:=h;exact ⟨ao,_,a,rfl,rfl,h1,by unfold maxLen at h2;omega,h3,h4⟩

theorem Row.nil (k:IntKind) (w:World):Row k w (.slice none 0 0) []:=⟨none,0,rfl,leR _,by unfold maxLen;omega,fun _=>rfl,fun i hi=>absurd hi (by simp)⟩

theorem NumAt.kept {S:Nat→Prop} {k:IntKind} {w w':World} {ao:Option Addr} {zs:List Nat} {i:Nat} (h:NumAt k w ao zs i) (hk:Kept S w w') (hs:∀ a,ao=some a→¬ S a.block):NumAt k w' ao zs i:=by
 obtain ⟨b,off,rfl,hc⟩:=h;have hb:b<w.heap.size:=World.block_lt_of_cell? w _ hc;exact ⟨b,off,rfl,(World.cell?_of_block (a:=⟨b,off+i,none⟩) (hk.block b hb (hs _ rfl))).trans hc⟩

theorem NumAt.grew {k:IntKind} {w w':World} {ao:Option Addr} {zs:List Nat} {i:Nat} (h:NumAt k w ao zs i) (hk:Kept af w w'):NumAt k w' ao zs i:=h.kept hk (fun _ _ f=>f)

theorem Row.kept {S:Nat→Prop} {k:IntKind} {w w':World} {v:Value} {zs:List Nat} (h:Row k w v zs) (hk:Kept S w w') (hs:∀ b,v.ownBlock=some b→¬ S b):Row k w' v zs:=by
 obtain ⟨ao,c,rfl,h1,h2,h3,h4⟩:=h;exact ⟨ao,c,rfl,h1,h2,h3,fun i hi=>NumAt.kept (h4 i hi) hk (fun a ha=>hs _ (by subst ha;rfl))⟩

theorem Row.grew {k:IntKind} {w w':World} {v:Value} {zs:List Nat} (h:Row k w v zs) (hk:Kept af w w'):Row k w' v zs:=h.kept hk (fun _ _ f=>f)

theorem Row.of_own {k:IntKind} {w:World} {base:Nat} {e:TypeId} {v:Value} {zs:List Nat} (h:w.ownsRow base e 1 v zs.length (zs.map fun z=>.int k (z:Nat))):Row k w v zs:=by
 rcases h.2 with ⟨rfl,h0⟩ | ⟨g,cap,cur,rfl,_,hg,hnc,hm,_,_⟩
 ·obtain rfl:zs=[]:=List.eq_nil_of_length_eq_zero h0;exact Row.nil k w
 ·refine ⟨_,_,rfl,hnc,hm,(fun e=>by cases e),fun i hi=>⟨g,0,rfl,?_⟩⟩;rw [Nat.zero_add,World.ownsRow.cellAt h i (by omega),List.getElem?_map,List.getElem?_eq_getElem hi,List.getD_eq_getElem?_getD,List.getElem?_eq_getElem hi];rfl

theorem Row.cut {k:IntKind} {w:World} {ao:Option Addr} {n a m:Nat} {zs:List Nat} (h:Row k w (.slice ao n a) zs) (hm:m≤zs.length):Row k w (.slice ao m a) (zs.take m):=by
 obtain ⟨d,c,e,h1,h2,h3,h4⟩:=h;simp only [Value.slice.injEq] at e;obtain ⟨rfl,_,rfl⟩:=e;have hl:(zs.take m).length=m:=by rw [List.length_take];omega
 refine ⟨ao,a,by rw [hl],by omega,h2,h3,fun i hi=>?_⟩;rw [hl] at hi;obtain ⟨b,off,e,hc⟩:=h4 i (by omega);refine ⟨b,off,e,?_⟩;rw [hc,List.getD_eq_getElem?_getD,List.getD_eq_getElem?_getD,List.getElem?_take,if_pos hi]

theorem jk (ao:Option Addr) (n m a:Nat):(Value.slice ao n a).ownBlock=(Value.slice ao m a).ownBlock:=by cases ao <;> rfl

def oE:Value→Nat
 | .slice _ n _=>n
 | _=>0

theorem tw (v:Value) (zs:List Nat) (w:World) (h:Row .u32 w v zs) :
  Calls Tryz.prog 80 #[v] w fun r w'=>∃ m v',r=.returned v'∧m≤zs.length∧Row .u32 w v' (zs.take m)∧(∀ i,m≤i→zs.getD i 0=0)∧(m=0∨zs.getD (m-1) 0≠0)∧v'.ownBlock=v.ownBlock∧(∃ ao n c,v=.slice ao n c∧v'=.slice ao m c)∧w'=w:=by
 have hcut:=fun ao n c (e:v=.slice ao n c) m (hm:m≤zs.length)=>(show Row .u32 w (.slice ao n c) zs from e ▸ h).cut hm
 obtain ⟨ao,n,c,rfl,hN,h1,h2,h3,h4⟩:=h.open;have HC:Hid (∀ m,m≤n→Row .u32 w (.slice ao m c) (zs.take m)):=fun m hm=>hcut ao n c rfl m (by have:=hN.out;omega)
 have HL:Hid (∀ i,n≤i→zs.getD i 0=0):=fun i hi=>by have:=hN.out;rw [List.getD_eq_getElem?_getD,List.getElem?_eq_none (by omega)];rfl
 clear hcut h h3;go_enter Tryz.func80,Tryz.ntmps80;go_wp2_with fail;go_loop [0] (fun a=>∃ m:Nat,m≤n∧a=.slice ao m c∧Hid (∀ i,m≤i→zs.getD i 0=0)) (fun a=>oE a)
 case atStart=>exact ⟨n,leR _,rfl,HL⟩
 case round=>
  obtain ⟨m,hm,rfl,hz⟩:=hrel;cases m with
  | zero=>
   clear h4;go_wp2;go_ret;exact ⟨0,_,rfl,Nat.zero_le _,HC.out 0 (Nat.zero_le _),hz.out,.inl rfl,jk ao 0 n c,⟨ao,n,c,⟨rfl,rfl,rfl⟩,rfl⟩,rfl⟩
  | succ j=>
   obtain ⟨b,off,rfl,hc⟩:=h4 j (by omega);obtain ⟨z,d⟩:∃ z,z=zs.getD j 0:=⟨_,rfl⟩
   rw [← d] at hc;have HZ:Hid (z=zs.getD j 0):=d;clear d h4;by_cases h0:z=0
   ·have g:((z:Int) == 0)=true:=by simp [h0]
    subst h0;go_wp2;go_round
    case rel=>exact ⟨j,by omega,rfl,fun i hi=>by
     by_cases e:i=j
     ·subst e;exact HZ.out.symm
     ·exact hz.out i (by omega)⟩
    case measure=>simp [oE]
   ·have f:Hid (zs.getD (j+1-1) 0≠0):=by
     unfold Hid;rw [Nat.add_sub_cancel,← HZ.out];exact h0
    have g:((z:Int) == 0)=false:=by simp;omega
    have k:¬ ((z:Int)=0):=by omega
    go_wp2;go_ret;exact ⟨j+1,_,rfl,by have:=hN.out;omega,HC.out _ hm,hz.out,.inr f.out,jk _ _ _ _,⟨_,_,_,⟨rfl,rfl,rfl⟩,rfl⟩,rfl⟩

theorem ii (v:Value) (zs:List Nat) (i:Nat) (w:World) (h:Row .u32 w v zs) :
  Calls Tryz.prog 76 #[v,.int .i64 i] w fun r w'=>r=.returned (.int .u32 (zs.getD i 0:Nat))∧w'=w:=by
 obtain ⟨ao,n,c,rfl,hN,h1,h2,h3,h4⟩:=h.open;by_cases hi:i<n
 ·obtain ⟨b,off,rfl,hc⟩:=h4 i hi;have a:(i:Int)<(n:Int):=by omega
  generalize zs.getD i 0=z at *;clear h h4;go_enter Tryz.func76,Tryz.ntmps76;go_wp2;go_ret;exact ⟨rfl,rfl⟩
 ·have a:¬ (i:Int)<(n:Int):=by omega
  have hz:zs.getD i 0=0:=by have:=hN.out;rw [List.getD_eq_getElem?_getD,List.getElem?_eq_none (by omega)];rfl
  rw [hz];clear h h4 hz;go_enter Tryz.func76,Tryz.ntmps76;go_wp2;go_ret;exact ⟨rfl,rfl⟩

theorem zH (v:Value) (zs:List Nat) (w:World) (h:Row .u32 w v zs) (hb:zs.length≤1000000000000) :
  Calls Tryz.prog 52 #[v] w fun r w'=>r=.returned (.int .i64 ((zs.length+1)/2:Nat))∧w'=w:=by
 obtain ⟨ao,n,a,rfl,hN,h1,h2,h3,h4⟩:=h.open;rw [hN.out] at hb ⊢;clear h h4;go_enter Tryz.func52,Tryz.ntmps52;go_wp2;go_ret;exact ⟨by simp,rfl⟩

def dR (ds:List Nat):Prop:=ds.length=0∨ds.getD (ds.length-1) 0≠0

def IsBig (w:World) (v:Value) (V:Nat):Prop:=
 ∃ ds,Row .u32 w v ds∧Digs ds 4294967296∧dR ds∧val ds 4294967296=V∧ds.length≤1000000000

theorem IsBig.kept {S:Nat→Prop} {w w':World} {v:Value} {V:Nat} (h:IsBig w v V) (hk:Kept S w w') (hs:∀ b,v.ownBlock=some b→¬ S b):IsBig w' v V:=by
 obtain ⟨ds,h1,h2⟩:=h;exact ⟨ds,h1.kept hk hs,h2⟩

theorem IsBig.grew {w w':World} {v:Value} {V:Nat} (h:IsBig w v V) (hk:Kept af w w'):IsBig w' v V:=h.kept hk (fun _ _ f=>f)

theorem IsBig.nil (w:World):IsBig w (.slice none 0 0) 0:=⟨[],Row.nil _ _,Digs.nil _,.inl rfl,rfl,by simp⟩

theorem fw {B:Nat} {ds:List Nat} (ht:dR ds) (hn:0<ds.length):B^(ds.length-1)≤val ds B:=by
 rcases ht with h | h
 ·omega
 ·have e:=ax B ds (ds.length-1) (by omega);have hd:ds.drop (ds.length-1)=[ds.getD (ds.length-1) 0]:=by
   rw [List.drop_eq_getElem_cons (by omega),List.drop_of_length_le (by omega),List.getD_eq_getElem?_getD,List.getElem?_eq_getElem (by omega)];rfl
  rw [hd] at e;simp only [val,Nat.mul_zero,Nat.add_zero] at e;have:B^(ds.length-1)*1≤B^(ds.length-1)*ds.getD (ds.length-1) 0:=Nat.mul_le_mul_left _ (by omega);omega

theorem eu {B:Nat} (hB:1<B) {ds:List Nat} (hd:Digs ds B) (ht:dR ds) (n:Nat):ds.length≤n↔val ds B<B^n:=by
 constructor
 ·intro h;exact Nat.lt_of_lt_of_le (ap (by omega) hd) (Nat.pow_le_pow_right (by omega) h)
 ·intro h;rcases Nat.lt_or_ge n ds.length with hn | hn
  ·have h1:=fw (B:=B) ht (by omega);have h2:B^n≤B^(ds.length-1):=Nat.pow_le_pow_right (by omega) (by omega);omega
  ·exact hn

def aH (V:Nat):Nat:=if V=0 then 0 else Nat.log2 V/32+1

theorem aS (V n:Nat):aH V≤n↔V<4294967296^n:=by
 unfold aH;have e:(4294967296:Nat)^n=2^(32*n):=by rw [Nat.pow_mul]
 rw [e];by_cases h:V=0
 ·subst h;simp [Nat.pow_pos]
 ·rw [if_neg h];have:=Nat.log2_lt (n:=V) (k:=32*n) h;omega

theorem cY {ds:List Nat} (hd:Digs ds 4294967296) (ht:dR ds):ds.length=aH (val ds 4294967296):=by
 have h1:=(aS _ _).2 ((eu (by omega) hd ht ds.length).1 (leR _));have h2:=(eu (by omega) hd ht (aH (val ds 4294967296))).2 ((aS _ _).1 (leR _));omega

theorem bZ {a b:Nat} (h:a≤b):aH a≤aH b:=(aS _ _).2 (Nat.lt_of_le_of_lt h ((aS _ _).1 (leR _)))

theorem eG {B:Nat} {zs:List Nat} {m:Nat} (hm:m≤zs.length) (hz:∀ i,m≤i→zs.getD i 0=0):val (zs.take m) B=val zs B:=by
 rw [ax B zs m hm,cC B (l:=zs.drop m),Nat.mul_zero,Nat.add_zero];intro d hd;obtain ⟨i,hi,rfl⟩:=List.getElem_of_mem hd;have:=hz (m+i) (by omega);rw [List.getD_eq_getElem?_getD,List.getElem?_eq_getElem (by simp at hi;omega)] at this;simpa using this

theorem eh {zs:List Nat} {m:Nat} (hm:m≤zs.length) (ht:m=0∨zs.getD (m-1) 0≠0):dR (zs.take m):=by
 have hl:(zs.take m).length=m:=by rw [List.length_take];omega
 rcases ht with h | h
 ·left;omega
 ·by_cases h0:m=0
  ·left;omega
  ·right
   rw [hl,List.getD_eq_getElem?_getD,List.getElem?_take,if_pos (by omega),← List.getD_eq_getElem?_getD];exact h

theorem df (v:Value) (zs:List Nat) (w:World) (h:Row .u32 w v zs) (hd:Digs zs 4294967296) (hl:zs.length≤1000000000) :
  Calls Tryz.prog 80 #[v] w fun r w'=>∃ v',r=.returned v'∧IsBig w v' (val zs 4294967296)∧v'.ownBlock=v.ownBlock∧w'=w:=by
 refine (tw v zs w h).mono ?_;rintro r w' ⟨m,v',rfl,hm,hr,hz,ht,ho,_,rfl⟩;exact ⟨v',rfl,⟨zs.take m,hr,hd.take m,eh hm ht,eG hm hz,by rw [List.length_take];omega⟩,ho,rfl⟩

abbrev OwnN (k:IntKind) (e:TypeId) (w:World) (base:Nat) (v:Value) (n:Nat) (zs:List Nat):Prop:=w.ownsRow base e 1 v n (zs.map fun z=>.int k (z:Nat))

def OwnBig (w:World) (base:Nat) (v:Value) (V:Nat):Prop:=
 ∃ ds,OwnN .u32 91 w base v ds.length ds∧Digs ds 4294967296∧dR ds∧val ds 4294967296=V∧ds.length≤1000000000

theorem OwnBig.big {w:World} {base:Nat} {v:Value} {V:Nat} (h:OwnBig w base v V):IsBig w v V:=by
 obtain ⟨ds,ho,hd,ht,hv,hl⟩:=h;exact ⟨ds,Row.of_own ho,hd,ht,hv,hl⟩

theorem lP {k:IntKind} {e:TypeId} {w:World} {base n m a:Nat} {ao:Option Addr} {zs:List Nat} (h:OwnN k e w base (.slice ao n a) n zs) (hm:m≤n):OwnN k e w base (.slice ao m a) m (zs.take m):=by
 have hl:zs.length=n:=by simpa using h.1
 refine ⟨by simp;omega,?_⟩;rcases h.2 with ⟨h',h0⟩ | ⟨g,cap',cur,h',hb,hg,hnc,hcm,hcs,htake⟩
 ·simp only [Value.slice.injEq] at h';obtain ⟨rfl,rfl,rfl⟩:=h';have:m=0:=by omega
  subst this;exact .inl ⟨rfl,rfl⟩
 ·simp only [Value.slice.injEq] at h';obtain ⟨rfl,_,rfl⟩:=h';refine .inr ⟨g,a,cur,rfl,hb,hg,by omega,hcm,hcs,?_⟩;rw [List.map_take,← htake,List.take_take,Nat.mul_one,Nat.mul_one,Nat.min_eq_left hm]

theorem tx (v:Value) (zs:List Nat) (base n:Nat) (w:World) (h:OwnN .u32 91 w base v n zs) (hd:Digs zs 4294967296) (hl:n≤1000000000) :
  Calls Tryz.prog 80 #[v] w fun r w'=>∃ v',r=.returned v'∧OwnBig w base v' (val zs 4294967296)∧w'=w:=by
 have hn:zs.length=n:=by simpa using h.1
 refine (tw v zs w (Row.of_own (by rw [hn];exact h))).mono ?_;rintro r w' ⟨m,v',rfl,hm,hr,hz,ht,ho,⟨ao,n',f,rfl,rfl⟩,rfl⟩;have c:n'=n:=by
  obtain ⟨d,a,e⟩:=aW h;simp only [Value.slice.injEq] at e;exact e.2.1
 subst c;have b:(zs.take m).length=m:=by rw [List.length_take];omega
 exact ⟨_,rfl,⟨zs.take m,by rw [b];exact lP h (by omega),hd.take m,eh hm ht,eG hm hz,by omega⟩,rfl⟩

theorem AV (w:World) (x y:Value) (e:TypeId):(w.alloc (.cells #[x,y] e)).ownsRow w.heap.size e 1 (.slice (some ⟨w.heap.size,0,none⟩) 2 2) 2 [x,y]:=
 World.ownsRow_lit w #[x,y] 2 (leR _) (by unfold maxLen;omega) rfl

theorem eF (x:Nat) (hx:x<18446744073709551616) (w:World) :
  Calls Tryz.prog 46 #[.int .u64 x] w fun r w'=>∃ v',r=.returned v'∧IsBig w' v' x∧(∀ b,v'.ownBlock=some b→w.heap.size≤b)∧Kept af w w':=by
 have hv:val [x%4294967296,x/4294967296] 4294967296=x:=by simp [val];omega
 have f:Digs [x%4294967296,x/4294967296] 4294967296:=fun d hd=>by simp at hd;omega
 have e1:(x:Int)%4294967296=((x%4294967296:Nat):Int):=by omega
 have e2:(x:Int)/4294967296=((x/4294967296:Nat):Int):=by omega
 have a:Row .u32 (w.alloc (.cells #[.int .u32 ((x:Int)%4294967296),.int .u32 ((x:Int)/4294967296)] 91)) (.slice (some ⟨w.heap.size,0,none⟩) 2 2) [x%4294967296,x/4294967296]:=by
  rw [e1,e2];exact Row.of_own (AV w _ _ _)
 have ht:=df _ _ _ a f (by simp);rw [hv] at ht;clear e1 e2 a f hv;go_enter Tryz.func46,Tryz.ntmps46;go_wp2_with fail;refine ht.mono ?_;rintro e w' ⟨v',rfl,hb,ho,rfl⟩;go_wp2;go_ret;exact ⟨v',rfl,hb,fun b c=>by rw [ho] at c;simp [Value.ownBlock] at c;omega,(ah af w).alloc _⟩

def cV:List Nat→List Nat
 | []=>[]
 | x :: r=>x%4294967296 :: x/4294967296 :: cV r

theorem jC:∀ l,val (cV l) 4294967296=val l
 | []=>rfl
 | x :: r=>by simp only [cV,val,jC r];omega

theorem gV:∀ l,(cV l).length=l.length*2
 | []=>rfl
 | x :: r=>by simp [cV,gV r];omega

theorem gU:∀ l m,cV (l ++ m)=cV l ++ cV m
 | [],m=>rfl
 | x :: r,m=>by simp [cV,gU r m]

theorem iY:∀ {l},Digs l→Digs (cV l) 4294967296
 | [],_=>Digs.nil _
 | x :: r,h=>fun d hd=>by
  have h1:=h.head;simp only [cV,List.mem_cons] at hd;rcases hd with hd | hd | hd
  ·omega
  ·omega
  ·exact iY h.tail d hd

theorem iH {l:List Nat} {k:Nat} (h:k<l.length):cV (l.take (k+1))=cV (l.take k) ++ [l.getD k 0%4294967296,l.getD k 0/4294967296]:=by
 rw [List.take_succ_eq_append_getElem h,gU,List.getD_eq_getElem?_getD,List.getElem?_eq_getElem h];rfl

theorem Tryz.info91:(Tryz.prog.info? 91).map (fun i=>(i.zero,i.size,i.bytes))=some (some (.int .u32 0),1,4):=by kernel_rfl

theorem jK (w:World) (x y:Value) (e:TypeId):∀ j u,[x,y][j]? = some u→(w.alloc (.cells #[x,y] e)).cell? ((⟨w.heap.size,0,none⟩:Addr).add j)=some u:=
 World.news_of_block (cs:=#[x,y]) (t:=e) (fr:=(0,0)) (Go.heap_alloc_new w _)

theorem rOf (v:Value) (xs:List Nat) (w:World) (h:Row .u64 w v xs) (hd:Digs xs) (hl:xs.length≤100000000) :
  Calls Tryz.prog 39 #[v] w fun r w'=>∃ v',r=.returned v'∧IsBig w' v' (val xs)∧(∀ b,v'.ownBlock=some b→w.heap.size≤b)∧Kept af w w':=by
 obtain ⟨i0,l,t,y,A⟩:=info_parts Tryz.info91;obtain ⟨ao,n,B,rfl,hN,h1,h2,h3,h4⟩:=h.open;rw [hN.out] at hl;clear h h3;go_enter Tryz.func39,Tryz.ntmps39;go_wp2_with fail;go_loopw [3,8] (fun a i wr=>∃ k:Nat,k≤n∧i=.int .i64 k∧wr.ownsRow w.heap.size 91 1 a (k*2) ((cV (xs.take k)).map fun z=>.int .u32 (z:Nat))∧Kept af w wr) (fun _ i _=>n-(intOf i).toNat)
 case atStart=>exact ⟨0,Nat.zero_le _,rfl,World.ownsRow_nil _ _ _ _,ah _ _⟩
 case round=>
  obtain ⟨k,hk,rfl,ho,c⟩:=hrel;by_cases hlt:k<n
  ·obtain ⟨b,off,rfl,hc⟩:=(h4 k hlt).grew c;have HS:Hid (cV (xs.take (k+1))=cV (xs.take k) ++ [xs.getD k 0%4294967296,xs.getD k 0/4294967296]):=iH (by have:=hN.out;omega);have hx:xs.getD k 0<18446744073709551616:=hd.getD (by omega) k;clear h4;generalize xs.getD k 0=x at *;have m:(k:Int)<(n:Int):=by omega
   go_wp2_with (at_builtin;refine wpList_append_lies _ rfl _ _ 76 rfl w.heap.size 91 i0 _ 1 4 Tryz.underlying76 l t y A rfl (by omega) _ _ _ rfl (ho.alloc _) ⟨wr.heap.size,0,none⟩ 2 2 [.int .u32 ((x:Int)%4294967296),.int .u32 ((x:Int)/4294967296)] rfl rfl (jK wr _ _ _) (by simp [Value.oneCell']) (by omega) (by unfold maxLen;omega) (by omega) (by have:=c.size;simp;omega) (wr.heap.size+1) (by simp) ?_;intro gg c' w4 d hg g j);have e1:(x:Int)%4294967296=((x%4294967296:Nat):Int):=by omega
   have e2:(x:Int)/4294967296=((x/4294967296:Nat):Int):=by omega
   have s:w4.ownsRow w.heap.size 91 1 (.slice (some ⟨gg,0,none⟩) (k*2+2) c') ((k+1)*2) ((cV (xs.take (k+1))).map fun z=>.int .u32 (z:Nat)):=by
    rw [HS.out,List.map_append,show (k+1)*2=k*2+2 by omega];rw [e1,e2] at d;exact d
   have o:Kept af w w4:=(c.alloc _).grown hg (fun b hb hlt=>by have:=(ho.lt b hb).1;omega);clear d hg g j ho HS;go_roundw
   case rel=>exact ⟨k+1,by omega,by go_num,s,o⟩
   case measure=>simp [intOf];omega
  ·have hs:xs.take k=xs:=List.take_of_length_le (by have:=hN.out;omega);rw [hs] at ho;have p:(cV xs).length=k*2:=by rw [gV];have:=hN.out;omega
   have hr:Row .u32 wr _ (cV xs):=Row.of_own (by rw [p];exact ho);have m:¬ (k:Int)<(n:Int):=by omega
   have ht:=df _ _ _ hr (iY hd) (by omega);rw [jC] at ht;clear h4 hr hs;go_wp2_with fail;refine ht.mono ?_;rintro e w' ⟨v',rfl,hb,q,rfl⟩;go_wp2;go_ret;exact ⟨v',rfl,hb,fun b f=>by rw [q] at f;exact (ho.lt b f).1,c⟩

theorem rT (V k:Nat):dig V k=dig V (2*k) 4294967296+4294967296*dig V (2*k+1) 4294967296:=by
 unfold dig;have e:(18446744073709551616:Nat)^k=4294967296^(2*k):=by rw [Nat.pow_mul]
 have e2:(4294967296:Nat)^(2*k+1)=4294967296^(2*k)*4294967296:=Nat.pow_succ ..;rw [e,e2,← Nat.div_div_eq_div_mul];generalize V/4294967296^(2*k)=x;omega

theorem kQ (x y:Nat) (hx:x<4294967296) (hy:y<4294967296):bits .or .u64 (x:Int) ((y:Int)*4294967296)=((x+4294967296*y:Nat):Int):=by
 have h:=u64_or_nat x (y*4294967296) (by omega) (by omega);have hj:=nat_join 32 (y*4294967296) x (by omega) (by omega);rw [Nat.or_comm,hj] at h;have e1:(y:Int)*4294967296=((y*4294967296:Nat):Int):=by omega
 rw [e1,h];omega

theorem nO (V n k:Nat) (h:k<n):(digs V k ++ List.replicate (n-k) 0).set k (dig V k)=digs V (k+1) ++ List.replicate (n-(k+1)) 0:=by
 rw [List.set_append_right _ _ (by rw [ag];omega),ag,Nat.sub_self,digs,show n-k=(n-(k+1))+1 by omega,List.replicate_succ];simp

theorem Tryz.info24:(Tryz.prog.info? 24).map (fun i=>(i.zero,i.size,i.bytes))=some (some (.int .u64 0),1,8):=by kernel_rfl

theorem aG (k:IntKind) (n:Nat):(madeCells (Value.int k 0).cells (n*1)).toList=(List.replicate n 0).map fun z:Nat=>Value.int k (z:Int):=by
 rw [Nat.mul_one];show (madeCells #[Value.int k 0] n).toList=_
 rw [toList_madeCells_one,List.map_replicate];rfl

theorem nH (v:Value) (V n:Nat) (w:World) (h:IsBig w v V) (hn:n≤1000000000) :
  Calls Tryz.prog 86 #[v,.int .i64 n] w fun r w'=>∃ v',r=.returned v'∧Row .u64 w' v' (digs V n)∧v'.ownBlock=some w.heap.size∧Kept af w w':=by
 obtain ⟨i0,g,m,o,p⟩:=info_parts Tryz.info24;obtain ⟨ds,hr,hd,_,rfl,_⟩:=h;have HD:=fun i W (hk:Kept af w W)=>ii v ds i W (hr.grew hk)
 have hV:∀ i,ds.getD i 0=dig (val ds 4294967296) i 4294967296:=fun i=>(aP (by omega) hd i).symm
 have hlt:∀ i,dig (val ds 4294967296) i 4294967296<4294967296:=fun i=>Nat.mod_lt _ (by omega)
 simp only [hV] at HD;clear hr hd hV;generalize val ds 4294967296=V at *;have hm:max (n:Int) 0=(n:Int):=by omega
 go_enter Tryz.func86,Tryz.ntmps86;go_wp2_with (at_make;refine wpList_make_full _ rfl _ _ 23 rfl w.heap.size 24 i0 _ 1 Tryz.underlying23 g m o _ _ _ _ n rfl rfl rfl rfl (by rw [p];omega) (by unfold maxLen;omega) (leR _) ?_;intro w1 b f);rw [aG] at b;have k1:=aC f;go_loopw [12] (fun i wr=>∃ k:Nat,k≤n∧i=.int .i64 k∧wr.ownsRow w.heap.size 24 1 (.slice (some ⟨w.heap.size,0,none⟩) n n) n ((digs V k ++ List.replicate (n-k) 0).map fun z=>.int .u64 (z:Nat))∧Kept af w wr) (fun i _=>n-(intOf i).toNat)
 case atStart=>exact ⟨0,Nat.zero_le _,rfl,by simpa [digs] using b,k1⟩
 case round=>
  clear b f k1;obtain ⟨k,hk,rfl,ho,a⟩:=hrel;by_cases hkn:k<n
  ·have j:(k:Int)<(n:Int):=by omega
   have hc:wr.cell? ⟨w.heap.size,k,none⟩=some (.int .u64 0):=by
    rw [World.ownsRow.cellAt ho k (by omega),List.getElem?_map,List.getElem?_append_right (by rw [ag];omega),ag,Nat.sub_self,List.getElem?_replicate,if_pos (by omega)];rfl
   have hf:=World.ownsRow.frozenAt ho k;have l:=fun u=>(World.ownsRow.stored ho k u).1
   have c:=HD (2*k) wr a;have d:=HD (2*k+1) wr a;rw [show ((2*k:Nat):Int)=2*(k:Int) by omega] at c;rw [show ((2*k+1:Nat):Int)=2*(k:Int)+1 by omega] at d;have hj:Hid (bits .or .u64 (dig V (2*k) 4294967296:Nat) ((dig V (2*k+1) 4294967296:Nat)*4294967296)=((dig V k:Nat):Int)):=by
    unfold Hid;rw [rT];exact kQ _ _ (hlt _) (hlt _)
   have l0:=hlt (2*k);have l1:=hlt (2*k+1);clear HD hlt;generalize dig V (2*k) 4294967296=d0 at *;generalize dig V (2*k+1) 4294967296=d1 at *;go_wp2_with fail;refine c.mono ?_;rintro e w' ⟨rfl,rfl⟩;go_wp2_with fail;refine d.mono ?_;rintro e w' ⟨rfl,rfl⟩;go_wp2;rw [hj.out];go_roundw
   case rel=>
    refine ⟨k+1,by omega,by go_num,?_,a.setCell _ (fun h=>by simp at h) _⟩;rw [← nO V n k hkn,List.map_set];exact l _
   case measure=>simp [intOf];omega
  ·have j:¬ (k:Int)<(n:Int):=by omega
   have e:k=n:=by omega
   subst e;rw [Nat.sub_self,List.replicate_zero,List.append_nil] at ho;clear HD hlt;go_wp2;go_ret;exact ⟨_,rfl,Row.of_own (by rw [ag];exact ho),rfl,a⟩

def aj (V:Nat):Nat:=if V=0 then 0 else Nat.log2 V/64+1

theorem aq (V n:Nat):aj V≤n↔V<18446744073709551616^n:=by
 unfold aj;have e:(18446744073709551616:Nat)^n=2^(64*n):=by rw [Nat.pow_mul]
 rw [e];by_cases h:V=0
 ·subst h;simp [Nat.pow_pos]
 ·rw [if_neg h];have:=Nat.log2_lt (n:=V) (k:=64*n) h;omega

theorem j5 {ds:List Nat} (hd:Digs ds 4294967296) (ht:dR ds):(ds.length+1)/2=aj (val ds 4294967296):=by
 have a:∀ n,(ds.length+1)/2≤n↔aj (val ds 4294967296)≤n:=fun n=>by
  rw [aq];have e:(18446744073709551616:Nat)^n=4294967296^(2*n):=by rw [Nat.pow_mul]
  rw [e,← eu (by omega) hd ht];omega
 have h1:=(a ((ds.length+1)/2)).1 (leR _);have h2:=(a (aj (val ds 4294967296))).2 (leR _);omega

theorem iQ (v:Value) (V:Nat) (w:World) (h:IsBig w v V):Calls Tryz.prog 52 #[v] w fun r w'=>r=.returned (.int .i64 (aj V:Nat))∧w'=w:=by
 obtain ⟨ds,hr,hd,ht,rfl,hl⟩:=h;rw [← j5 hd ht];exact zH v ds w hr (by omega)

theorem rh {w:World} {v:Value} {V:Nat} (h:IsBig w v V):aj V≤500000000:=by
 obtain ⟨ds,hr,hd,ht,rfl,hl⟩:=h;rw [← j5 hd ht];omega

theorem lW (v:Value) (V:Nat) (w:World) (h:IsBig w v V) :
  Calls Tryz.prog 97 #[v] w fun r w'=>∃ v',r=.returned v'∧Row .u64 w' v' (digs V (max (aj V) 1))∧v'.ownBlock=some w.heap.size∧Kept af w w':=by
 have hb:=rh h;have h1:=iQ v V w h;have h2:=nH v V (max (aj V) 1) w h (by omega);rw [show ((max (aj V) 1:Nat):Int)=max (aj V:Int) 1 by omega] at h2;generalize aj V=n at *;go_enter Tryz.func97,Tryz.ntmps97;go_wp2_with fail;refine h1.mono ?_;rintro e w' ⟨rfl,rfl⟩;go_wp2_with fail;refine h2.mono ?_;rintro e w1 ⟨v',rfl,hr⟩;go_wp2;go_ret;exact ⟨_,rfl,hr⟩

def aK (a b:Nat):Int:=if a<b then -1 else if a=b then 0 else 1

theorem bk {a b:Nat} (h:a<b):aK a b=-1:=if_pos h

theorem eH {a b:Nat} (h:b<a):aK a b=1:=by unfold aK;rw [if_neg (by omega),if_neg (by omega)]

theorem fI {a b:Nat} (h:a=b):aK a b=0:=by unfold aK;rw [if_neg (by omega),if_pos h]

theorem jX {a b:List Nat} (ha:Digs a 4294967296) (tb:dR b) (h:a.length<b.length):val a 4294967296<val b 4294967296:=by
 have h1:=ap (by omega) ha;have h2:=fw (B:=4294967296) tb (by omega);have h3:(4294967296:Nat)^a.length≤4294967296^(b.length-1):=Nat.pow_le_pow_right (by omega) (by omega);omega

theorem jY {a b:List Nat} {k:Nat} (ha:Digs a 4294967296) (hl:a.length=b.length) (hk:k<a.length) (hd:a.drop (k+1)=b.drop (k+1)) (h:a.getD k 0<b.getD k 0):val a 4294967296<val b 4294967296:=by
 have ea:=ax 4294967296 a k (by omega);have eb:=ax 4294967296 b k (by omega);rw [List.drop_eq_getElem_cons hk] at ea;rw [List.drop_eq_getElem_cons (by omega:k<b.length),← hd] at eb;simp only [val] at ea eb;have h1:val (a.take k) 4294967296<4294967296^k:=by
  have:=ap (by omega) (ha.take k)
  rwa [List.length_take,Nat.min_eq_left (by omega)] at this
 rw [List.getD_eq_getElem?_getD,List.getD_eq_getElem?_getD,List.getElem?_eq_getElem hk,List.getElem?_eq_getElem (by omega:k<b.length)] at h;simp only [Option.getD_some] at h;have h2:4294967296^k*(a[k]+4294967296*val (a.drop (k+1)) 4294967296+1)≤4294967296^k*(b[k]+4294967296*val (a.drop (k+1)) 4294967296):=Nat.mul_le_mul_left _ (by omega);rw [Nat.mul_add,Nat.mul_one] at h2;omega

theorem qh {a b:List Nat} {k:Nat} (hl:a.length=b.length) (hk:k<a.length) (hd:a.drop (k+1)=b.drop (k+1)) (h:a.getD k 0=b.getD k 0):a.drop k=b.drop k:=by
 rw [List.drop_eq_getElem_cons hk,List.drop_eq_getElem_cons (by omega:k<b.length),hd];rw [List.getD_eq_getElem?_getD,List.getD_eq_getElem?_getD,List.getElem?_eq_getElem hk,List.getElem?_eq_getElem (by omega:k<b.length)] at h;simp only [Option.getD_some] at h;rw [h]

theorem xT (w:World) (a b c:Nat):∃ n,((w.drewN a).drewN b).drewN c=w.drewN n:=⟨_,by rw [World.drewN_drewN,World.drewN_drewN]⟩

theorem iP (u v:Value) (A B:Nat) (w:World) (hu:IsBig w u A) (hv:IsBig w v B) :
  Calls Tryz.prog 45 #[u,v] w fun r w'=>r=.returned (.int .i64 (aK A B))∧∃ n,w'=w.drewN n:=by
 obtain ⟨a,ra,da,ta,rfl,la⟩:=hu;obtain ⟨b,rb,db,tb,rfl,lb⟩:=hv;obtain ⟨ao,n,ac,rfl,hN,h1,h2,_,hA⟩:=ra.open;obtain ⟨bo,m,bc,rfl,hM,f,g,_,hB⟩:=rb.open;rw [hN.out] at la;rw [hM.out] at lb;clear ra rb;by_cases hl:n=m
 ·subst hl;have hL:Hid (a.length=b.length):=hN.out.trans hM.out.symm;go_enter Tryz.func45,Tryz.ntmps45;go_wp2_with fail;go_loopw [5] (fun i wr=>∃ k:Nat,k≤n∧i=.int .i64 ((k:Int)-1)∧Hid (a.drop k=b.drop k)∧∃ j,wr=w.drewN j) (fun i _=>(intOf i+1).toNat)
  case atStart=>exact ⟨n,leR _,rfl,by have:=hN.out;have:=hM.out;unfold Hid;rw [List.drop_of_length_le (by omega),List.drop_of_length_le (by omega)],0,rfl⟩
  case round=>
   obtain ⟨k,hk,rfl,hd,j,rfl⟩:=hrel;cases k with
   | zero=>
    have he:Hid (aK (val a 4294967296) (val b 4294967296)=0):=by
     have:=hd.out;rw [List.drop_zero,List.drop_zero] at this;exact fI (by rw [this])
    clear hA hB;go_wp2;go_ret;rw [he.out];exact ⟨rfl,j,rfl⟩
   | succ i=>
    obtain ⟨ga,oa,rfl,ca⟩:=hA i (by omega);obtain ⟨gb,ob,rfl,cb⟩:=hB i (by omega);have hlt:Hid (a.getD i 0<b.getD i 0→val a 4294967296<val b 4294967296):=fun h=>jY da hL.out (by have:=hN.out;omega) hd.out h
    have d:Hid (b.getD i 0<a.getD i 0→val b 4294967296<val a 4294967296):=fun h=>jY db hL.out.symm (by have:=hM.out;omega) hd.out.symm h
    have e:Hid (a.getD i 0=b.getD i 0→a.drop i=b.drop i):=fun h=>qh hL.out (by have:=hN.out;omega) hd.out h
    clear hA hB hd;generalize a.getD i 0=x at *;generalize b.getD i 0=y at *;have l:(0:Int)≤(i:Int):=Int.natCast_nonneg _;have o:(i:Int)<(n:Int):=by omega
    by_cases he:x=y
    ·have hq:((x:Int) == (y:Int))=true:=by simp [he]
     subst he;go_wp2_with fail;go_quiet (fail);go_wp2;go_roundw
     case rel=>exact ⟨i,by omega,by go_num,e.out (by first | rfl | trivial),_,rfl⟩
     case measure=>simp [intOf]
    ·have hq:((x:Int) == (y:Int))=false:=by simp;omega
     have q:((x:Int) != (y:Int))=true:=by simp;omega
     by_cases hc:x<y
     ·have hr:Hid (aK (val a 4294967296) (val b 4294967296)=-1):=bk (hlt.out hc);have c:decide ((x:Int)<(y:Int))=true:=by simp;omega
      go_wp2_with fail;go_quiet (fail);go_wp2_with fail;go_quiet (fail);go_wp2;go_ret;rw [hr.out];exact ⟨rfl,xT _ _ _ _⟩
     ·have hr:Hid (aK (val a 4294967296) (val b 4294967296)=1):=eH (d.out (by omega));have c:decide ((x:Int)<(y:Int))=false:=by simp;omega
      go_wp2_with fail;go_quiet (fail);go_wp2_with fail;go_quiet (fail);go_wp2;go_ret;rw [hr.out];exact ⟨rfl,xT _ _ _ _⟩
 ·have p:¬ (n:Int)=(m:Int):=by omega
  clear hA hB;by_cases hc:n<m
  ·have hr:Hid (aK (val a 4294967296) (val b 4294967296)=-1):=bk (jX da tb (by have:=hN.out;have:=hM.out;omega));have c:(n:Int)<(m:Int):=by omega
   go_enter Tryz.func45,Tryz.ntmps45;go_wp2;go_ret;rw [hr.out];exact ⟨rfl,0,rfl⟩
  ·have hr:Hid (aK (val a 4294967296) (val b 4294967296)=1):=eH (jX db ta (by have:=hN.out;have:=hM.out;omega));have c:¬ (n:Int)<(m:Int):=by omega
   go_enter Tryz.func45,Tryz.ntmps45;go_wp2;go_ret;rw [hr.out];exact ⟨rfl,0,rfl⟩

theorem dr {B:Nat} {w w':World} (k:Kept af w w') (hB:B≤w.heap.size):Below B w w':=k.below hB (fun _ f=>f.elim)

theorem aa {p:Prop} (h:p):Hid p:=h

theorem Row.of_block {k:IntKind} {w:World} {g n:Nat} {t:TypeId} {zs:List Nat} (hg:w.heap[g]? = some (.cells (zs.map fun z=>Value.int k (z:Nat)).toArray t (0,0))) (hl:zs.length=n) (hm:n≤maxLen) :
  Row k w (.slice (some ⟨g,0,none⟩) n n) zs:=by
 refine Row.of_own (base:=0) (e:=t) ⟨by simp,.inr ⟨g,n,_,by rw [hl],Nat.zero_le _,hg,by omega,hm,by simp [hl],?_⟩⟩;rw [Nat.mul_one,List.take_of_length_le (by simp)]

theorem bJ {k:IntKind} {w:World} {g n base:Nat} {t:TypeId} {zs:List Nat} (hg:w.heap[g]? = some (.cells (zs.map fun z=>Value.int k (z:Nat)).toArray t (0,0))) (hl:zs.length=n) (hm:n≤maxLen) (hb:base≤g) :
  OwnN k t w base (.slice (some ⟨g,0,none⟩) n n) n zs:=by
 refine ⟨by simp [hl],.inr ⟨g,n,_,rfl,hb,hg,by omega,hm,by simp [hl],?_⟩⟩;rw [Nat.mul_one,List.take_of_length_le (by simp [hl])]

theorem dZ {w:World} {base n:Nat} {e:TypeId} {g:Nat} {xs:List Value} (h:w.ownsRow base e 1 (.slice (some ⟨g,0,none⟩) n n) n xs):w.heap[g]? = some (.cells xs.toArray e (0,0)):=by
 rcases h.2 with ⟨e1,_⟩ | ⟨g',cap,cur,e1,_,hg,_,_,hs,ht⟩
 ·cases e1
 ·simp only [Value.slice.injEq,Option.some.injEq,Addr.mk.injEq] at e1;obtain ⟨⟨rfl,_⟩,_,rfl⟩:=e1;rw [hg];have:cur.toList=xs:=by
   rw [← ht,List.take_of_length_le];rw [Array.length_toList,hs];exact leR _
  rw [← this]

theorem cH {P:Program} {w:World} (dT sT ty c:TypeId) (g off a e:Nat) (dp ao:Option Addr) (d f:Nat) (h:List Value) (t:TypeId) (cs:List Value) (hu:P.underlying dT=some (.slice c)) (n:(P.info? c).map (·.size)=some 1)
  (hg:w.heap[g]? = some (.cells h.toArray t (0,0))) (hn:cs.length=Nat.min d a) (l:0<cs.length→dp=some ⟨g,off,none⟩∧∃ ad,ao=some ad∧∀ j u,cs[j]? = some u→w.cell? (ad.add j)=some u) (i:off+cs.length≤h.length) (h1:∀ u ∈ cs,u.oneCell'=true) :
  ∃ w',(Builtin.copy_ #[dT,sT] ty #[.slice dp a e,.slice ao d f]).run P w=.ok (goInt cs.length) w'∧w'.heap[g]? = some (.cells (splice h off cs).toArray t (0,0))∧Kept (fun b=>b=g) w w':=by
 by_cases h0:cs.length=0
 ·obtain rfl:cs=[]:=List.eq_nil_of_length_eq_zero h0;exact ⟨w,by simpa using run_copy_none (P:=P) w dT sT ty c dp ao a e d f hu n (by simpa using hn.symm),by simpa [splice] using hg,ah _ _⟩
 ·obtain ⟨rfl,ad,rfl,m⟩:=l (by omega);refine ⟨_,run_copy_row (P:=P) w dT sT ty c g off a e ad d f h.toArray t cs hu n hg hn m (by simpa using i) h1,?_,?_⟩
  ·simpa [splice] using setRow_heap w g _ _ t _ hg
  ·exact ⟨rfl,rfl,rfl,by simp [World.setRow],fun k hk o=>setRow_other w g k _ o⟩

theorem dJ {w w1 w2:World} {g:Nat} (k1:Kept af w w1) (k2:Kept (fun b=>b=g) w1 w2) (hg:w.heap.size≤g):Kept af w w2:=
 k1.next k2 (fun x hx e=>by omega)

theorem er {ys:List Nat} {V m:Nat} (hd:Digs ys) (hv:val ys=V) (hl:ys.length≤m):digs V m=ys ++ List.replicate (m-ys.length) 0:=by
 have hz:val (List.replicate (m-ys.length) 0)=0:=cC _ (fun d hd=>(List.mem_replicate.1 hd).2);refine (aN (by omega) (B:=18446744073709551616) (hd.append ?_) (by simp;omega) ?_).symm
 ·intro d hd;rw [List.mem_replicate] at hd;omega
 ·rw [bG,hz,Nat.mul_zero,Nat.add_zero,hv,ak];rw [← hv];exact Nat.lt_of_lt_of_le (ap (by omega) hd) (Nat.pow_le_pow_right (by omega) hl)

theorem dC (ys:List Nat) (m:Nat) (f:Nat→Value):splice ((List.replicate m 0).map f) 0 (ys.map f)=(ys ++ List.replicate (m-ys.length) 0).map f:=by
 simp [splice]

theorem iE (V j:Nat):dig V (j/64)/2^(j%64)%2=V/2^j%2:=by
 unfold dig;have e1:(18446744073709551616:Nat)^(j/64)=2^(64*(j/64)):=by rw [Nat.pow_mul]
 rw [e1,show (18446744073709551616:Nat)=2^(j%64)*2^(64-j%64) by rw [← Nat.pow_add,show j%64+(64-j%64)=64 by omega],Nat.mod_mul_right_div_self,Nat.div_div_eq_div_mul,← Nat.pow_add,show 64*(j/64)+j%64=j by omega,Nat.mod_mod_of_dvd];exact ⟨2^(63-j%64),by rw [show 64-j%64=(63-j%64)+1 by omega,Nat.pow_succ,Nat.mul_comm]⟩

theorem Row.lt {k:IntKind} {w:World} {v:Value} {xs:List Nat} (h:Row k w v xs) (c:xs≠[]):∀ b,v.ownBlock=some b→b<w.heap.size:=by
 obtain ⟨ao,d,rfl,_,_,_,hc⟩:=h;intro b hb;have:0<xs.length:=by
  rcases xs with _ | ⟨x,r⟩
  ·exact absurd rfl c
  ·simp
 obtain ⟨b',off,rfl,a⟩:=hc 0 this;have e:b'=b:=by simpa [Value.ownBlock] using hb
 subst e;exact World.block_lt_of_cell? w _ a

theorem Row.kept' {S:Nat→Prop} {k:IntKind} {w w':World} {v:Value} {zs:List Nat} (h:Row k w v zs) (hk:Kept S w w') (hs:zs≠[]→∀ b,v.ownBlock=some b→¬ S b):Row k w' v zs:=by
 by_cases h0:zs=[]
 ·subst h0;obtain ⟨ao,a,rfl,h1,h2,h3,_⟩:=h;exact ⟨ao,a,rfl,h1,h2,h3,fun i hi=>absurd hi (by simp)⟩
 ·exact h.kept hk (hs h0)

theorem row_of_ints {k:IntKind} {B:Nat} {w:World} {a:Option Addr} {c f:Nat} {zs:List Int} (hk:∀ n,(Lit.int k n).wf=true→0≤n∧n<(B:Int))
  (h:(a=none∧c=0∧f=0∧zs=[])∨∃ x,a=some x∧c≤f∧f≤maxLen∧zs.length=f∧(∀ i,i<zs.length→w.cell? (x.add i)=some (.int k (zs.getD i 0)))∧∀ n ∈ zs,(Lit.int k n).wf=true) :
  ∃ ns:List Nat,Row k w (.slice a c f) ns∧Digs ns B:=by
 rcases h with ⟨rfl,rfl,rfl,rfl⟩ | ⟨x,rfl,hl,hm,hz,hcell,hwf⟩
 ·exact ⟨[],Row.nil _ _,Digs.nil _⟩
 ·have g:((zs.take c).map Int.toNat).length=c:=by rw [List.length_map,List.length_take];omega
  refine ⟨(zs.take c).map Int.toNat,⟨some x,f,by rw [g],by omega,hm,(fun e=>by cases e),fun i hi=>?_⟩,fun d hd=>?_⟩
  ·rw [g] at hi;obtain ⟨b,off,rfl,hc⟩:=ints_at hcell (by omega);refine ⟨b,off,rfl,?_⟩;rw [hc i (by omega)];have j:i<zs.length:=by omega
   have h0:=(hk _ (hwf _ (List.getElem_mem j))).1;have e1:zs.getD i 0=zs[i]:=by rw [List.getD_eq_getElem?_getD,List.getElem?_eq_getElem j];rfl
   have e2:((zs.take c).map Int.toNat).getD i 0=(zs[i]).toNat:=by
    rw [List.getD_eq_getElem?_getD,List.getElem?_map,List.getElem?_take,if_pos hi,List.getElem?_eq_getElem j];rfl
   rw [e1,e2,Int.toNat_of_nonneg h0]
  ·obtain ⟨n,hn,rfl⟩:=List.mem_map.1 hd;have:=hk n (hwf n (List.mem_of_mem_take hn));omega

theorem wf_u64:∀ n,(Lit.int .u64 n).wf=true→0≤n∧n<((18446744073709551616:Nat):Int):=fun n h=>by
 have:=bounds_u64 h;omega

theorem wf_u8:∀ n,(Lit.int .u8 n).wf=true→0≤n∧n<((256:Nat):Int):=fun n h=>by
 have:=bounds_u8 h;omega

end Go.Proofs.YtkaojflnghfmcaaGreatDoor
