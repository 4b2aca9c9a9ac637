/- Put together of: Base1 OpenRow Base2 Prm1 Base3 BigM Key1 Key2 Bev1 Key4 Key5 Num1 Key6 Law19. -/
import Derived.Test.YtkaojflnghfmcaaGreatDoorRows
import Derived.WalkKit
import Derived.WalkSpells
import Derived.WalkLawsBesides
import Derived.OwnWalk
import Derived.OneCell
import Derived.Deep.AppendLies
import Derived.Deep.Draws
import Derived.Lib.MinMax
import Derived.Deep.QuietTactic
import Derived.BigQuiet
import Derived.Laws.BitsAllLaws
import Derived.Laws.CopyOwn
import Derived.Laws.IdiomCopy
import Derived.OpenShut
import Derived.Deep.RegionHeld3
import Derived.Deep.DrawnRows
import Derived.Deep.RegionWith
import Derived.BigRegion

namespace Go.Proofs.YtkaojflnghfmcaaGreatDoor
set_option maxRecDepth 100000
set_option maxHeartbeats 4000000
open Go.RowKit

theorem ar {a b:Nat} (h:a < b):a%b=a:=Nat.mod_eq_of_lt h

theorem leR (n:Nat):n≤n:=Nat.le_refl n

theorem aW {p:Prop} [Decidable p] (h:¬ p):decide p=false:=decide_eq_false h

theorem bw {p:Prop} [Decidable p] (h:p):decide p=true:=decide_eq_true h

theorem lsA {α:Type _} (l:List α) (i:Nat) (a:α):l.toArray.setIfInBounds i a=(l.set i a).toArray:=List.setIfInBounds_toArray l i a

theorem lsZ {α:Type _} {x:α} {xs:List α} {a:α}:(x :: xs).set 0 a=a :: xs:=List.set_cons_zero

theorem lsS {α:Type _} {x:α} {xs:List α} {i:Nat} {a:α}:(x :: xs).set (i+1) a=x :: xs.set i a:=List.set_cons_succ

theorem dM:∀ (fn:Fn) (first a:Array Value) (w:World),(Instr.makeFunc fn first a).run Tryz.prog w=.ok (.func fn first a) w:=fun _ _ _ _=>rfl

structure Kept (S:Nat→Prop) (w w':World):Prop where
 os:w'.os=w.os
 tape:w'.tape=w.tape
 output:w'.output=w.output
 size:w.heap.size≤w'.heap.size
 block:∀ k,k<w.heap.size→¬ S k→w'.heap[k]? = w.heap[k]?

def ae:Nat→Prop:=fun _=>False

theorem ag (S:Nat→Prop) (w:World):Kept S w w:=⟨rfl,rfl,rfl,leR _,fun _ _ _=>rfl⟩

theorem Kept.trans {S:Nat→Prop} {a b c:World} (h:Kept S a b) (k:Kept S b c):Kept S a c:=
 ⟨k.os.trans h.os,k.tape.trans h.tape,k.output.trans h.output,Nat.le_trans h.size k.size,fun i hi hs=>(k.block i (Nat.lt_of_lt_of_le hi h.size) hs).trans (h.block i hi hs)⟩

theorem Kept.next {S T:Nat→Prop} {a b c:World} (h:Kept S a b) (k:Kept T b c) (ht:∀ x,x<a.heap.size→T x→S x):Kept S a c:=
 ⟨k.os.trans h.os,k.tape.trans h.tape,k.output.trans h.output,Nat.le_trans h.size k.size,fun i hi hs=>(k.block i (Nat.lt_of_lt_of_le hi h.size) (fun t=>hs (ht i hi t))).trans (h.block i hi hs)⟩

theorem Kept.mono {S T:Nat→Prop} {w w':World} (h:Kept S w w') (hs:∀ k,k<w.heap.size→S k→T k):Kept T w w':=
 ⟨h.os,h.tape,h.output,h.size,fun k hk hn=>h.block k hk fun s=>hn (hs k hk s)⟩

theorem Kept.any {S:Nat→Prop} {w w':World} (h:Kept ae w w'):Kept S w w':=h.mono fun _ _ f=>f.elim

theorem Kept.drew {S:Nat→Prop} {a w:World} (h:Kept S a w):Kept S a w.drew:=⟨h.os,h.tape,h.output,h.size,h.block⟩

theorem Kept.drewN {S:Nat→Prop} {a w:World} (h:Kept S a w) (n:Nat):Kept S a (w.drewN n):=⟨h.os,h.tape,h.output,h.size,h.block⟩

theorem Kept.alloc {S:Nat→Prop} {a w:World} (h:Kept S a w) (o:Obj):Kept S a (w.alloc o):=
 h.trans ⟨rfl,rfl,rfl,by simp,fun k hk _=>Below.heap_alloc _ _ _ hk⟩

theorem Kept.grown {S:Nat→Prop} {a w w':World} {b:Option Nat} (h:Kept S a w) (hg:w.grownBy w' b) (hr:∀ k,b=some k→k<a.heap.size→S k):Kept S a w':=
 ⟨hg.os.trans h.os,hg.tape.trans h.tape,hg.output.trans h.output,Nat.le_trans h.size hg.size,fun k hk hn=>
  (hg.block k (Nat.lt_of_lt_of_le hk h.size) (fun e=>hn (hr k e.symm hk))).trans (h.block k hk hn)⟩

theorem Kept.setCell {S:Nat→Prop} {a w:World} (h:Kept S a w) (p:Addr) (hp:p.block<a.heap.size→S p.block) (u:Value):Kept S a (w.setCell p u):=
 ⟨h.os,h.tape,h.output,by have:=h.size;simpa [World.setCell] using this,fun k hk hn=>
  (Below.heap_setCell _ _ _ _ (fun e=>hn (by rw [e];exact hp (by rw [← e];exact hk)))).trans (h.block k hk hn)⟩

theorem Kept.below {S:Nat→Prop} {w w':World} {B:Nat} (h:Kept S w w') (hB:B≤w.heap.size) (hs:∀ k,S k→B≤k):Below B w w':=
 ⟨h.os,h.tape,h.output,h.size,fun k hk=>h.block k (by omega) (fun s=>by have:=hs k s;omega)⟩

theorem Kept.own {S:Nat→Prop} {w w':World} {base size n:Nat} {e:TypeId} {v:Value} {xs:List Value} (h:Kept S w w') (ho:w.ownsRow base e size v n xs) (hs:∀ k,v.ownBlock=some k→¬ S k):w'.ownsRow base e size v n xs:=by
 refine ⟨ho.1,?_⟩;rcases ho.2 with hn | ⟨g,cap,cur,rfl,hb,hgg,rest⟩
 ·exact .inl hn
 ·refine .inr ⟨g,cap,cur,rfl,hb,?_,rest⟩;rw [h.block g (Array.getElem?_eq_some_iff.1 hgg).1 (hs g rfl)];exact hgg

theorem aR {w:World} {base base' size n:Nat} {e:TypeId} {v:Value} {xs:List Value} (h:w.ownsRow base e size v n xs) (hb:∀ k,v.ownBlock=some k→base'≤k):w.ownsRow base' e size v n xs:=by
 refine ⟨h.1,?_⟩;rcases h.2 with hn | ⟨g,cap,cur,rfl,_,rest⟩
 ·exact .inl hn
 ·exact .inr ⟨g,cap,cur,rfl,hb g rfl,rest⟩

theorem Kept.cellN {w w':World} {a:Addr} {u:Value} (h:Kept ae w w') (hc:w.cell? a=some u):w'.cell? a=some u:=
 (World.cell?_of_block (h.block a.block (World.block_lt_of_cell? w _ hc) (fun f=>f))).trans hc

theorem ak {w:World} {o X:Obj} {p:Nat} (h:w.heap[p]? = some X):(w.alloc o).heap[p]? = some X:=(Below.heap_alloc w o p (lt_of_block h)).trans h

theorem aT {w:World} {X:Obj} {p:Nat} (h:w.heap[p]? = some X):w.drew.heap[p]? = some X:=h

theorem dj {w:World} {b:Nat} {a:Addr} {X:Obj} (h:w.heap[b]? = some X) (c:b≠a.block) (u:Value):(w.setCell a u).heap[b]? = some X:=(Below.heap_setCell w a u b c).trans h

theorem aK {w w':World} (h:w.grownBy w' none):Kept ae w w':=(ag ae w).grown h (fun _ e=>by cases e)

theorem aZ {w:World} {base n size:Nat} {e:TypeId} {v:Value} {xs:List Value} (h:w.ownsRow base e size v n xs):∃ ao a,v=.slice ao n a:=by
 rcases h.2 with ⟨rfl,rfl⟩ | ⟨g,a,cur,rfl,_⟩
 ·exact ⟨none,0,rfl⟩
 ·exact ⟨_,_,rfl⟩

def val (l:List Nat) (B:Nat:=18446744073709551616):Nat:=match l with
 | []=>0
 | d :: r=>d+B*val r B

def Digs (l:List Nat) (B:Nat:=18446744073709551616):Prop:=∀ d ∈ l,d<B

theorem Digs.nil (B:Nat):Digs [] B:=fun _ h=>by cases h

theorem Digs.append {B:Nat} {l m:List Nat} (h:Digs l B) (k:Digs m B):Digs (l ++ m) B:=fun d hd=>by
 rcases List.mem_append.1 hd with h1 | h1
 ·exact h d h1
 ·exact k d h1

theorem Digs.one {B d:Nat} (h:d<B):Digs [d] B:=fun x hx=>by simp at hx;omega

theorem Digs.take {B:Nat} {l:List Nat} (h:Digs l B) (n:Nat):Digs (l.take n) B:=fun d hd=>h d (List.mem_of_mem_take hd)

theorem Digs.drop {B:Nat} {l:List Nat} (h:Digs l B) (n:Nat):Digs (l.drop n) B:=fun d hd=>h d (List.mem_of_mem_drop hd)

theorem Digs.tail {B x:Nat} {l:List Nat} (h:Digs (x :: l) B):Digs l B:=fun d hd=>h d (by simp [hd])

theorem Digs.head {B x:Nat} {l:List Nat} (h:Digs (x :: l) B):x<B:=h x (by simp)

theorem Digs.getD {B:Nat} {l:List Nat} (h:Digs l B) (hB:0<B) (i:Nat):l.getD i 0<B:=by
 rw [List.getD_eq_getElem?_getD];by_cases hi:i<l.length
 ·rw [List.getElem?_eq_getElem hi];exact h _ (List.getElem_mem hi)
 ·rw [List.getElem?_eq_none (by omega)];exact hB

theorem cK (B:Nat):∀ l m:List Nat,val (l ++ m) B=val l B+B^l.length*val m B
 | [],m=>by simp [val]
 | d :: r,m=>by
  simp only [List.cons_append,val,cK B r m,List.length_cons,Nat.pow_succ];rw [Nat.mul_add,← Nat.mul_assoc,Nat.mul_comm B (B^r.length)];omega

theorem bH (B:Nat) (l:List Nat) (d:Nat):val (l ++ [d]) B=val l B+B^l.length*d:=by
 rw [cK];simp [val]

theorem aD {B:Nat} (hB:0<B):∀ {l:List Nat},Digs l B→val l B<B^l.length
  | [],_=>by simp [val]
  | d :: r,h=>by
    have h1:=aD hB h.tail
    have h2:=h.head
    simp only [val,List.length_cons,Nat.pow_succ]
    have:B*val r B+B≤B^r.length*B:=by
      calc B*val r B+B=B*(val r B+1):=by rw [Nat.mul_add,Nat.mul_one]
        _≤B*B^r.length:=Nat.mul_le_mul_left _ h1
        _=B^r.length*B:=Nat.mul_comm _ _
    omega

theorem cP (B:Nat):∀ {l:List Nat},(∀ d ∈ l,d=0)→val l B=0
 | [],_=>rfl
 | d :: r,h=>by
  have h1:=h d (by simp);have h2:=cP B (l:=r) fun x hx=>h x (by simp [hx])
  simp [val,h1,h2]

def dig (V i:Nat) (B:Nat:=18446744073709551616):Nat:=V/B^i%B

def digs (V n:Nat) (B:Nat:=18446744073709551616):List Nat:=match n with
 | 0=>[]
 | n+1=>digs V n B++[dig V n B]

theorem af (B V:Nat):∀ n,(digs V n B).length=n
 | 0=>rfl
 | n+1=>by simp [digs,af B V n]

theorem ai {B:Nat} (hB:0<B) (V:Nat):∀ n,Digs (digs V n B) B
 | 0=>Digs.nil B
 | n+1=>(ai hB V n).append (Digs.one (Nat.mod_lt _ hB))

theorem au {B:Nat} (V:Nat):∀ n,val (digs V n B) B=V%B^n
 | 0=>by simp [digs,val,Nat.mod_one]
 | n+1=>by
  rw [digs,bH,au V n,af,dig,Nat.pow_succ,Nat.mod_mul]

theorem aO {B:Nat} (hB:0<B):∀ {l:List Nat} {V n:Nat},Digs l B→l.length=n→val l B=V%B^n→l=digs V n B:=by
 intro l V n
 induction n generalizing l with
 | zero=>intro _ hl _;exact List.eq_nil_of_length_eq_zero hl
 | succ n ih=>
  intro hd hl hv;obtain ⟨m,d,rfl⟩:∃ m d,l=m ++ [d]:=by
   refine ⟨l.dropLast,l.getLast (by intro e;subst e;simp at hl),?_⟩;exact (List.dropLast_concat_getLast _).symm
  have hm:m.length=n:=by simpa using hl
  have b:Digs m B:=fun x hx=>hd x (by simp [hx])
  have c:d<B:=hd d (by simp);have hlt:=aD hB b;rw [bH,hm,Nat.pow_succ,Nat.mod_mul] at hv;rw [hm] at hlt;have a:0<B^n:=Nat.pow_pos hB;have e1:val m B=V%B^n:=by
   have h1:(val m B+B^n*d)%B^n=(V%B^n+B^n*(V/B^n%B))%B^n:=by rw [hv]
   rw [Nat.add_mul_mod_self_left,Nat.add_mul_mod_self_left,ar hlt,Nat.mod_mod] at h1;exact h1
  have e2:d=V/B^n%B:=by
   have:B^n*d=B^n*(V/B^n%B):=by omega
   exact Nat.eq_of_mul_eq_mul_left a this
  rw [digs,dig,← e2,ih b hm e1]

theorem ep (B V:Nat):∀ n i,i<n→(digs V n B).getD i 0=dig V i B
 | n+1,i,h=>by
  rw [digs,List.getD_eq_getElem?_getD];by_cases hi:i<n
  ·rw [List.getElem?_append_left (by rw [af];exact hi),← List.getD_eq_getElem?_getD,ep B V n i hi]
  ·have:i=n:=by omega
   subst this;rw [List.getElem?_append_right (by rw [af];omega),af];simp

theorem aP (B:Nat) (l:List Nat) (n:Nat) (h:n≤l.length):val l B=val (l.take n) B+B^n*val (l.drop n) B:=by
 have:=cK B (l.take n) (l.drop n);rw [List.take_append_drop,List.length_take,Nat.min_eq_left h] at this;exact this

theorem bk {B:Nat} (hB:0<B) {l:List Nat} (h:Digs l B) (i:Nat):dig (val l B) i B=l.getD i 0:=by
 unfold dig;by_cases hi:i<l.length
 ·have e:=aP B l i (by omega);have hlt:val (l.take i) B<B^i:=by
   have:=aD hB (h.take i)
   rwa [List.length_take,Nat.min_eq_left (by omega)] at this
  have hd:l.drop i=l[i] :: l.drop (i+1):=List.drop_eq_getElem_cons hi;rw [hd] at e;rw [e,Nat.add_mul_div_left _ _ (Nat.pow_pos hB),Nat.div_eq_of_lt hlt,Nat.zero_add];simp only [val];rw [Nat.add_mul_mod_self_left,ar (h _ (List.getElem_mem hi))];rw [List.getD_eq_getElem?_getD,List.getElem?_eq_getElem hi];rfl
 ·have:=aD hB h;have h2:B^l.length≤B^i:=Nat.pow_le_pow_right hB (by omega);rw [Nat.div_eq_of_lt (by omega),List.getD_eq_getElem?_getD,List.getElem?_eq_none (by omega)];simp

def Row (k:IntKind) (w:World) (v:Value) (zs:List Nat):Prop:=
 ∃ ao cap,v=.slice ao zs.length cap∧zs.length≤cap∧cap≤maxLen∧(ao=none→cap=0)∧∀ i,i<zs.length→∃ b off,ao=some ⟨b,off,none⟩∧w.cell? ⟨b,off+i,none⟩=some (.int k (zs.getD i 0:Nat))

def NumAt (k:IntKind) (w:World) (ao:Option Addr) (zs:List Nat) (i:Nat):Prop:=
 ∃ b off,ao=some ⟨b,off,none⟩∧w.cell? ⟨b,off+i,none⟩=some (.int k (zs.getD i 0:Nat))

theorem Row.open {k:IntKind} {w:World} {v:Value} {zs:List Nat} (h:Row k w v zs) :
  ∃ ao n a,v=.slice ao n a∧Hid (zs.length=n)∧n≤a∧a≤9223372036854775807∧(ao=none→a=0)∧∀ i,i<n→NumAt k w ao zs i:=by
 obtain ⟨ao,a,rfl,h1,h2,h3,h4⟩:=h;exact ⟨ao,_,a,rfl,rfl,h1,by unfold maxLen at h2;omega,h3,h4⟩

theorem Row.nil (k:IntKind) (w:World):Row k w (.slice none 0 0) []:=⟨none,0,rfl,leR _,by unfold maxLen;omega,fun _=>rfl,fun i hi=>absurd hi (by simp)⟩

theorem NumAt.kept {S:Nat→Prop} {k:IntKind} {w w':World} {ao:Option Addr} {zs:List Nat} {i:Nat} (h:NumAt k w ao zs i) (hk:Kept S w w') (hs:∀ a,ao=some a→¬ S a.block):NumAt k w' ao zs i:=by
 obtain ⟨b,off,rfl,hc⟩:=h;have hb:b<w.heap.size:=World.block_lt_of_cell? w _ hc;exact ⟨b,off,rfl,(World.cell?_of_block (a:=⟨b,off+i,none⟩) (hk.block b hb (hs _ rfl))).trans hc⟩

theorem NumAt.grew {k:IntKind} {w w':World} {ao:Option Addr} {zs:List Nat} {i:Nat} (h:NumAt k w ao zs i) (hk:Kept ae w w'):NumAt k w' ao zs i:=h.kept hk (fun _ _ f=>f)

theorem Row.kept {S:Nat→Prop} {k:IntKind} {w w':World} {v:Value} {zs:List Nat} (h:Row k w v zs) (hk:Kept S w w') (hs:∀ b,v.ownBlock=some b→¬ S b):Row k w' v zs:=by
 obtain ⟨ao,c,rfl,h1,h2,h3,h4⟩:=h;exact ⟨ao,c,rfl,h1,h2,h3,fun i hi=>NumAt.kept (h4 i hi) hk (fun a ha=>hs _ (by subst ha;rfl))⟩

theorem Row.grew {k:IntKind} {w w':World} {v:Value} {zs:List Nat} (h:Row k w v zs) (hk:Kept ae w w'):Row k w' v zs:=h.kept hk (fun _ _ f=>f)

theorem Row.of_own {k:IntKind} {w:World} {base:Nat} {e:TypeId} {v:Value} {zs:List Nat} (h:w.ownsRow base e 1 v zs.length (zs.map fun z=>.int k (z:Nat))):Row k w v zs:=by
 rcases h.2 with ⟨rfl,h0⟩ | ⟨g,cap,cur,rfl,_,hg,hnc,hm,_,_⟩
 ·obtain rfl:zs=[]:=List.eq_nil_of_length_eq_zero h0;exact Row.nil k w
 ·refine ⟨_,_,rfl,hnc,hm,(fun e=>by cases e),fun i hi=>⟨g,0,rfl,?_⟩⟩;rw [Nat.zero_add,World.ownsRow.cellAt h i (by omega),List.getElem?_map,List.getElem?_eq_getElem hi,List.getD_eq_getElem?_getD,List.getElem?_eq_getElem hi];rfl

theorem Row.cut {k:IntKind} {w:World} {ao:Option Addr} {n a m:Nat} {zs:List Nat} (h:Row k w (.slice ao n a) zs) (hm:m≤zs.length):Row k w (.slice ao m a) (zs.take m):=by
 obtain ⟨d,c,e,h1,h2,h3,h4⟩:=h;simp only [Value.slice.injEq] at e;obtain ⟨rfl,_,rfl⟩:=e;have hl:(zs.take m).length=m:=by rw [List.length_take];omega
 refine ⟨ao,a,by rw [hl],by omega,h2,h3,fun i hi=>?_⟩;rw [hl] at hi;obtain ⟨b,off,e,hc⟩:=h4 i (by omega);refine ⟨b,off,e,?_⟩;rw [hc,List.getD_eq_getElem?_getD,List.getD_eq_getElem?_getD,List.getElem?_take,if_pos hi]

theorem jQ (ao:Option Addr) (n m a:Nat):(Value.slice ao n a).ownBlock=(Value.slice ao m a).ownBlock:=by cases ao <;> rfl

def py:Value→Nat
 | .slice _ n _=>n
 | _=>0

theorem CE (v:Value) (zs:List Nat) (w:World) (h:Row .u32 w v zs) :
  Calls Tryz.prog 80 #[v] w fun r w'=>∃ m v',r=.returned v'∧m≤zs.length∧Row .u32 w v' (zs.take m)∧(∀ i,m≤i→zs.getD i 0=0)∧(m=0∨zs.getD (m-1) 0≠0)∧v'.ownBlock=v.ownBlock∧(∃ ao n c,v=.slice ao n c∧v'=.slice ao m c)∧w'=w:=by
 have hcut:=fun ao n c (e:v=.slice ao n c) m (hm:m≤zs.length)=>(show Row .u32 w (.slice ao n c) zs from e ▸ h).cut hm
 obtain ⟨ao,n,c,rfl,hN,h1,h2,h3,h4⟩:=h.open;have HC:Hid (∀ m,m≤n→Row .u32 w (.slice ao m c) (zs.take m)):=fun m hm=>hcut ao n c rfl m (by have:=hN.out;omega)
 have HL:Hid (∀ i,n≤i→zs.getD i 0=0):=fun i hi=>by have:=hN.out;rw [List.getD_eq_getElem?_getD,List.getElem?_eq_none (by omega)];rfl
 clear hcut h h3;go_enter Tryz.func80,Tryz.ntmps80;go_wp2_with fail;go_loop [0] (fun a=>∃ m:Nat,m≤n∧a=.slice ao m c∧Hid (∀ i,m≤i→zs.getD i 0=0)) (fun a=>py a)
 case atStart=>exact ⟨n,leR _,rfl,HL⟩
 case round=>
  obtain ⟨m,hm,rfl,hz⟩:=hrel;cases m with
  | zero=>
   clear h4;go_wp2;go_ret;exact ⟨0,_,rfl,Nat.zero_le _,HC.out 0 (Nat.zero_le _),hz.out,.inl rfl,jQ ao 0 n c,⟨ao,n,c,⟨rfl,rfl,rfl⟩,rfl⟩,rfl⟩
  | succ j=>
   obtain ⟨b,off,rfl,hc⟩:=h4 j (by omega);obtain ⟨z,d⟩:∃ z,z=zs.getD j 0:=⟨_,rfl⟩
   rw [← d] at hc;have HZ:Hid (z=zs.getD j 0):=d;clear d h4;by_cases h0:z=0
   ·have g:((z:Int) == 0)=true:=by simp [h0]
    subst h0;go_wp2;go_round
    case rel=>exact ⟨j,by omega,rfl,fun i hi=>by
     by_cases e:i=j
     ·subst e;exact HZ.out.symm
     ·exact hz.out i (by omega)⟩
    case measure=>simp [py]
   ·have f:Hid (zs.getD (j+1-1) 0≠0):=by
     unfold Hid;rw [Nat.add_sub_cancel,← HZ.out];exact h0
    have g:((z:Int) == 0)=false:=by simp;omega
    have k:¬ ((z:Int)=0):=by omega
    go_wp2;go_ret;exact ⟨j+1,_,rfl,by have:=hN.out;omega,HC.out _ hm,hz.out,.inr f.out,jQ _ _ _ _,⟨_,_,_,⟨rfl,rfl,rfl⟩,rfl⟩,rfl⟩

theorem AS (v:Value) (zs:List Nat) (w:World) (h:Row .u32 w v zs) (hb:zs.length≤1000000000000) :
  Calls Tryz.prog 52 #[v] w fun r w'=>r=.returned (.int .i64 ((zs.length+1)/2:Nat))∧w'=w:=by
 obtain ⟨ao,n,a,rfl,hN,h1,h2,h3,h4⟩:=h.open;rw [hN.out] at hb ⊢;clear h h4;go_enter Tryz.func52,Tryz.ntmps52;go_wp2;go_ret;exact ⟨by simp,rfl⟩

def eS (ds:List Nat):Prop:=ds.length=0∨ds.getD (ds.length-1) 0≠0

def IsBig (w:World) (v:Value) (V:Nat):Prop:=
 ∃ ds,Row .u32 w v ds∧Digs ds 4294967296∧eS ds∧val ds 4294967296=V∧ds.length≤1000000000

theorem lj {B:Nat} {ds:List Nat} (ht:eS ds) (hn:0<ds.length):B^(ds.length-1)≤val ds B:=by
 rcases ht with h | h
 ·omega
 ·have e:=aP B ds (ds.length-1) (by omega);have hd:ds.drop (ds.length-1)=[ds.getD (ds.length-1) 0]:=by
   rw [List.drop_eq_getElem_cons (by omega),List.drop_of_length_le (by omega),List.getD_eq_getElem?_getD,List.getElem?_eq_getElem (by omega)];rfl
  rw [hd] at e;simp only [val,Nat.mul_zero,Nat.add_zero] at e;have:B^(ds.length-1)*1≤B^(ds.length-1)*ds.getD (ds.length-1) 0:=Nat.mul_le_mul_left _ (by omega);omega

theorem fh {B:Nat} (hB:1<B) {ds:List Nat} (hd:Digs ds B) (ht:eS ds) (n:Nat):ds.length≤n↔val ds B<B^n:=by
 constructor
 ·intro h;exact Nat.lt_of_lt_of_le (aD (by omega) hd) (Nat.pow_le_pow_right (by omega) h)
 ·intro h;rcases Nat.lt_or_ge n ds.length with hn | hn
  ·have h1:=lj (B:=B) ht (by omega);have h2:B^n≤B^(ds.length-1):=Nat.pow_le_pow_right (by omega) (by omega);omega
  ·exact hn

def j4 (V:Nat):Nat:=if V=0 then 0 else Nat.log2 V/32+1

theorem g9 (V n:Nat):j4 V≤n↔V<4294967296^n:=by
 unfold j4;have e:(4294967296:Nat)^n=2^(32*n):=by rw [Nat.pow_mul]
 rw [e];by_cases h:V=0
 ·subst h;simp [Nat.pow_pos]
 ·rw [if_neg h];have:=Nat.log2_lt (n:=V) (k:=32*n) h;omega

theorem tx {ds:List Nat} (hd:Digs ds 4294967296) (ht:eS ds):ds.length=j4 (val ds 4294967296):=by
 have h1:=(g9 _ _).2 ((fh (by omega) hd ht ds.length).1 (leR _));have h2:=(fh (by omega) hd ht (j4 (val ds 4294967296))).2 ((g9 _ _).1 (leR _));omega

theorem ij {B:Nat} {zs:List Nat} {m:Nat} (hm:m≤zs.length) (hz:∀ i,m≤i→zs.getD i 0=0):val (zs.take m) B=val zs B:=by
 rw [aP B zs m hm,cP B (l:=zs.drop m),Nat.mul_zero,Nat.add_zero];intro d hd;obtain ⟨i,hi,rfl⟩:=List.getElem_of_mem hd;have:=hz (m+i) (by omega);rw [List.getD_eq_getElem?_getD,List.getElem?_eq_getElem (by simp at hi;omega)] at this;simpa using this

theorem gF {zs:List Nat} {m:Nat} (hm:m≤zs.length) (ht:m=0∨zs.getD (m-1) 0≠0):eS (zs.take m):=by
 have hl:(zs.take m).length=m:=by rw [List.length_take];omega
 rcases ht with h | h
 ·left;omega
 ·by_cases h0:m=0
  ·left;omega
  ·right
   rw [hl,List.getD_eq_getElem?_getD,List.getElem?_take,if_pos (by omega),← List.getD_eq_getElem?_getD];exact h

theorem uy (v:Value) (zs:List Nat) (w:World) (h:Row .u32 w v zs) (hd:Digs zs 4294967296) (hl:zs.length≤1000000000) :
  Calls Tryz.prog 80 #[v] w fun r w'=>∃ v',r=.returned v'∧IsBig w v' (val zs 4294967296)∧v'.ownBlock=v.ownBlock∧w'=w:=by
 refine (CE v zs w h).mono ?_;rintro r w' ⟨m,v',rfl,hm,hr,hz,ht,ho,_,rfl⟩;exact ⟨v',rfl,⟨zs.take m,hr,hd.take m,gF hm ht,ij hm hz,by rw [List.length_take];omega⟩,ho,rfl⟩

abbrev OwnN (k:IntKind) (e:TypeId) (w:World) (base:Nat) (v:Value) (n:Nat) (zs:List Nat):Prop:=w.ownsRow base e 1 v n (zs.map fun z=>.int k (z:Nat))

theorem Dt (w:World) (x y:Value) (e:TypeId):(w.alloc (.cells #[x,y] e)).ownsRow w.heap.size e 1 (.slice (some ⟨w.heap.size,0,none⟩) 2 2) 2 [x,y]:=
 World.ownsRow_lit w #[x,y] 2 (leR _) (by unfold maxLen;omega) rfl

def cJ:List Nat→List Nat
 | []=>[]
 | x :: r=>x%4294967296 :: x/4294967296 :: cJ r

theorem kj:∀ l,val (cJ l) 4294967296=val l
 | []=>rfl
 | x :: r=>by simp only [cJ,val,kj r];omega

theorem ip:∀ l,(cJ l).length=l.length*2
 | []=>rfl
 | x :: r=>by simp [cJ,ip r];omega

theorem io:∀ l m,cJ (l ++ m)=cJ l ++ cJ m
 | [],m=>rfl
 | x :: r,m=>by simp [cJ,io r m]

theorem jA:∀ {l},Digs l→Digs (cJ l) 4294967296
 | [],_=>Digs.nil _
 | x :: r,h=>fun d hd=>by
  have h1:=h.head;simp only [cJ,List.mem_cons] at hd;rcases hd with hd | hd | hd
  ·omega
  ·omega
  ·exact jA h.tail d hd

theorem ji {l:List Nat} {k:Nat} (h:k<l.length):cJ (l.take (k+1))=cJ (l.take k) ++ [l.getD k 0%4294967296,l.getD k 0/4294967296]:=by
 rw [List.take_succ_eq_append_getElem h,io,List.getD_eq_getElem?_getD,List.getElem?_eq_getElem h];rfl

theorem Tryz.info91:(Tryz.prog.info? 91).map (fun i=>(i.zero,i.size,i.bytes))=some (some (.int .u32 0),1,4):=by kernel_rfl

theorem pE (w:World) (x y:Value) (e:TypeId):∀ j u,[x,y][j]? = some u→(w.alloc (.cells #[x,y] e)).cell? ((⟨w.heap.size,0,none⟩:Addr).add j)=some u:=
 World.news_of_block (cs:=#[x,y]) (t:=e) (fr:=(0,0)) (Go.heap_alloc_new w _)

theorem rOf (v:Value) (xs:List Nat) (w:World) (h:Row .u64 w v xs) (hd:Digs xs) (hl:xs.length≤100000000) :
  Calls Tryz.prog 39 #[v] w fun r w'=>∃ v',r=.returned v'∧IsBig w' v' (val xs)∧(∀ b,v'.ownBlock=some b→w.heap.size≤b)∧Kept ae w w':=by
 obtain ⟨i0,l,t,y,A⟩:=info_parts Tryz.info91;obtain ⟨ao,n,B,rfl,hN,h1,h2,h3,h4⟩:=h.open;rw [hN.out] at hl;clear h h3;go_enter Tryz.func39,Tryz.ntmps39;go_wp2_with fail;go_loopw [3,8] (fun a i wr=>∃ k:Nat,k≤n∧i=.int .i64 k∧wr.ownsRow w.heap.size 91 1 a (k*2) ((cJ (xs.take k)).map fun z=>.int .u32 (z:Nat))∧Kept ae w wr) (fun _ i _=>n-(intOf i).toNat)
 case atStart=>exact ⟨0,Nat.zero_le _,rfl,World.ownsRow_nil _ _ _ _,ag _ _⟩
 case round=>
  obtain ⟨k,hk,rfl,ho,c⟩:=hrel;by_cases hlt:k<n
  ·obtain ⟨b,off,rfl,hc⟩:=(h4 k hlt).grew c;have HS:Hid (cJ (xs.take (k+1))=cJ (xs.take k) ++ [xs.getD k 0%4294967296,xs.getD k 0/4294967296]):=ji (by have:=hN.out;omega);have hx:xs.getD k 0<18446744073709551616:=hd.getD (by omega) k;clear h4;generalize xs.getD k 0=x at *;have m:(k:Int)<(n:Int):=by omega
   go_wp2_with (at_builtin;refine wpList_append_lies _ rfl _ _ 76 rfl w.heap.size 91 i0 _ 1 4 Tryz.underlying76 l t y A rfl (by omega) _ _ _ rfl (ho.alloc _) ⟨wr.heap.size,0,none⟩ 2 2 [.int .u32 ((x:Int)%4294967296),.int .u32 ((x:Int)/4294967296)] rfl rfl (pE wr _ _ _) (by simp [Value.oneCell']) (by omega) (by unfold maxLen;omega) (by omega) (by have:=c.size;simp;omega) (wr.heap.size+1) (by simp) ?_;intro gg c' w4 d hg g j);have e1:(x:Int)%4294967296=((x%4294967296:Nat):Int):=by omega
   have e2:(x:Int)/4294967296=((x/4294967296:Nat):Int):=by omega
   have s:w4.ownsRow w.heap.size 91 1 (.slice (some ⟨gg,0,none⟩) (k*2+2) c') ((k+1)*2) ((cJ (xs.take (k+1))).map fun z=>.int .u32 (z:Nat)):=by
    rw [HS.out,List.map_append,show (k+1)*2=k*2+2 by omega];rw [e1,e2] at d;exact d
   have o:Kept ae w w4:=(c.alloc _).grown hg (fun b hb hlt=>by have:=(ho.lt b hb).1;omega);clear d hg g j ho HS;go_roundw
   case rel=>exact ⟨k+1,by omega,by go_num,s,o⟩
   case measure=>simp [intOf];omega
  ·have hs:xs.take k=xs:=List.take_of_length_le (by have:=hN.out;omega);rw [hs] at ho;have p:(cJ xs).length=k*2:=by rw [ip];have:=hN.out;omega
   have hr:Row .u32 wr _ (cJ xs):=Row.of_own (by rw [p];exact ho);have m:¬ (k:Int)<(n:Int):=by omega
   have ht:=uy _ _ _ hr (jA hd) (by omega);rw [kj] at ht;clear h4 hr hs;go_wp2_with fail;refine ht.mono ?_;rintro e w' ⟨v',rfl,hb,q,rfl⟩;go_wp2;go_ret;exact ⟨v',rfl,hb,fun b f=>by rw [q] at f;exact (ho.lt b f).1,c⟩

theorem uJ (V n k:Nat) (h:k<n):(digs V k ++ List.replicate (n-k) 0).set k (dig V k)=digs V (k+1) ++ List.replicate (n-(k+1)) 0:=by
 rw [List.set_append_right _ _ (by rw [af];omega),af,Nat.sub_self,digs,show n-k=(n-(k+1))+1 by omega,List.replicate_succ];simp

theorem Tryz.info24:(Tryz.prog.info? 24).map (fun i=>(i.zero,i.size,i.bytes))=some (some (.int .u64 0),1,8):=by kernel_rfl

theorem aM (k:IntKind) (n:Nat):(madeCells (Value.int k 0).cells (n*1)).toList=(List.replicate n 0).map fun z:Nat=>Value.int k (z:Int):=by
 rw [Nat.mul_one];show (madeCells #[Value.int k 0] n).toList=_
 rw [toList_madeCells_one,List.map_replicate];rfl

def ah (V:Nat):Nat:=if V=0 then 0 else Nat.log2 V/64+1

theorem aA (V n:Nat):ah V≤n↔V<18446744073709551616^n:=by
 unfold ah;have e:(18446744073709551616:Nat)^n=2^(64*n):=by rw [Nat.pow_mul]
 rw [e];by_cases h:V=0
 ·subst h;simp [Nat.pow_pos]
 ·rw [if_neg h];have:=Nat.log2_lt (n:=V) (k:=64*n) h;omega

theorem pY {ds:List Nat} (hd:Digs ds 4294967296) (ht:eS ds):(ds.length+1)/2=ah (val ds 4294967296):=by
 have a:∀ n,(ds.length+1)/2≤n↔ah (val ds 4294967296)≤n:=fun n=>by
  rw [aA];have e:(18446744073709551616:Nat)^n=4294967296^(2*n):=by rw [Nat.pow_mul]
  rw [e,← fh (by omega) hd ht];omega
 have h1:=(a ((ds.length+1)/2)).1 (leR _);have h2:=(a (ah (val ds 4294967296))).2 (leR _);omega

theorem rW (v:Value) (V:Nat) (w:World) (h:IsBig w v V):Calls Tryz.prog 52 #[v] w fun r w'=>r=.returned (.int .i64 (ah V:Nat))∧w'=w:=by
 obtain ⟨ds,hr,hd,ht,rfl,hl⟩:=h;rw [← pY hd ht];exact AS v ds w hr (by omega)

def cS (a b:Nat):Int:=if a<b then -1 else if a=b then 0 else 1

theorem fw {a b:Nat} (h:a<b):cS a b=-1:=if_pos h

theorem g8 {a b:Nat} (h:b<a):cS a b=1:=by unfold cS;rw [if_neg (by omega),if_neg (by omega)]

theorem iI {a b:Nat} (h:a=b):cS a b=0:=by unfold cS;rw [if_neg (by omega),if_pos h]

theorem cD {B:Nat} {w w':World} (k:Kept ae w w') (hB:B≤w.heap.size):Below B w w':=k.below hB (fun _ f=>f.elim)

theorem aa {p:Prop} (h:p):Hid p:=h

theorem Row.of_block {k:IntKind} {w:World} {g n:Nat} {t:TypeId} {zs:List Nat} (hg:w.heap[g]? = some (.cells (zs.map fun z=>Value.int k (z:Nat)).toArray t (0,0))) (hl:zs.length=n) (hm:n≤maxLen) :
  Row k w (.slice (some ⟨g,0,none⟩) n n) zs:=by
 refine Row.of_own (base:=0) (e:=t) ⟨by simp,.inr ⟨g,n,_,by rw [hl],Nat.zero_le _,hg,by omega,hm,by simp [hl],?_⟩⟩;rw [Nat.mul_one,List.take_of_length_le (by simp)]

theorem bg {k:IntKind} {w:World} {g n base:Nat} {t:TypeId} {zs:List Nat} (hg:w.heap[g]? = some (.cells (zs.map fun z=>Value.int k (z:Nat)).toArray t (0,0))) (hl:zs.length=n) (hm:n≤maxLen) (hb:base≤g) :
  OwnN k t w base (.slice (some ⟨g,0,none⟩) n n) n zs:=by
 refine ⟨by simp [hl],.inr ⟨g,n,_,rfl,hb,hg,by omega,hm,by simp [hl],?_⟩⟩;rw [Nat.mul_one,List.take_of_length_le (by simp [hl])]

theorem dG {w:World} {base n:Nat} {e:TypeId} {g:Nat} {xs:List Value} (h:w.ownsRow base e 1 (.slice (some ⟨g,0,none⟩) n n) n xs):w.heap[g]? = some (.cells xs.toArray e (0,0)):=by
 rcases h.2 with ⟨e1,_⟩ | ⟨g',cap,cur,e1,_,hg,_,_,hs,ht⟩
 ·cases e1
 ·simp only [Value.slice.injEq,Option.some.injEq,Addr.mk.injEq] at e1;obtain ⟨⟨rfl,_⟩,_,rfl⟩:=e1;rw [hg];have:cur.toList=xs:=by
   rw [← ht,List.take_of_length_le];rw [Array.length_toList,hs];exact leR _
  rw [← this]

theorem bD {P:Program} {w:World} (dT sT ty c:TypeId) (g off a e:Nat) (dp ao:Option Addr) (d f:Nat) (h:List Value) (t:TypeId) (cs:List Value) (hu:P.underlying dT=some (.slice c)) (n:(P.info? c).map (·.size)=some 1)
  (hg:w.heap[g]? = some (.cells h.toArray t (0,0))) (hn:cs.length=Nat.min d a) (l:0<cs.length→dp=some ⟨g,off,none⟩∧∃ ad,ao=some ad∧∀ j u,cs[j]? = some u→w.cell? (ad.add j)=some u) (i:off+cs.length≤h.length) (h1:∀ u ∈ cs,u.oneCell'=true) :
  ∃ w',(Builtin.copy_ #[dT,sT] ty #[.slice dp a e,.slice ao d f]).run P w=.ok (goInt cs.length) w'∧w'.heap[g]? = some (.cells (splice h off cs).toArray t (0,0))∧Kept (fun b=>b=g) w w':=by
 by_cases h0:cs.length=0
 ·obtain rfl:cs=[]:=List.eq_nil_of_length_eq_zero h0;exact ⟨w,by simpa using run_copy_none (P:=P) w dT sT ty c dp ao a e d f hu n (by simpa using hn.symm),by simpa [splice] using hg,ag _ _⟩
 ·obtain ⟨rfl,ad,rfl,m⟩:=l (by omega);refine ⟨_,run_copy_row (P:=P) w dT sT ty c g off a e ad d f h.toArray t cs hu n hg hn m (by simpa using i) h1,?_,?_⟩
  ·simpa [splice] using setRow_heap w g _ _ t _ hg
  ·exact ⟨rfl,rfl,rfl,by simp [World.setRow],fun k hk o=>setRow_other w g k _ o⟩

theorem cH {w w1 w2:World} {g:Nat} (k1:Kept ae w w1) (k2:Kept (fun b=>b=g) w1 w2) (hg:w.heap.size≤g):Kept ae w w2:=
 k1.next k2 (fun x hx e=>by omega)

theorem dU {ys:List Nat} {V m:Nat} (hd:Digs ys) (hv:val ys=V) (hl:ys.length≤m):digs V m=ys ++ List.replicate (m-ys.length) 0:=by
 have hz:val (List.replicate (m-ys.length) 0)=0:=cP _ (fun d hd=>(List.mem_replicate.1 hd).2);refine (aO (by omega) (B:=18446744073709551616) (hd.append ?_) (by simp;omega) ?_).symm
 ·intro d hd;rw [List.mem_replicate] at hd;omega
 ·rw [cK,hz,Nat.mul_zero,Nat.add_zero,hv,ar];rw [← hv];exact Nat.lt_of_lt_of_le (aD (by omega) hd) (Nat.pow_le_pow_right (by omega) hl)

theorem dv (ys:List Nat) (m:Nat) (f:Nat→Value):splice ((List.replicate m 0).map f) 0 (ys.map f)=(ys ++ List.replicate (m-ys.length) 0).map f:=by
 simp [splice]

theorem je (V j:Nat):dig V (j/64)/2^(j%64)%2=V/2^j%2:=by
 unfold dig;have e1:(18446744073709551616:Nat)^(j/64)=2^(64*(j/64)):=by rw [Nat.pow_mul]
 rw [e1,show (18446744073709551616:Nat)=2^(j%64)*2^(64-j%64) by rw [← Nat.pow_add,show j%64+(64-j%64)=64 by omega],Nat.mod_mul_right_div_self,Nat.div_div_eq_div_mul,← Nat.pow_add,show 64*(j/64)+j%64=j by omega,Nat.mod_mod_of_dvd];exact ⟨2^(63-j%64),by rw [show 64-j%64=(63-j%64)+1 by omega,Nat.pow_succ,Nat.mul_comm]⟩

theorem Row.lt {k:IntKind} {w:World} {v:Value} {xs:List Nat} (h:Row k w v xs) (c:xs≠[]):∀ b,v.ownBlock=some b→b<w.heap.size:=by
 obtain ⟨ao,d,rfl,_,_,_,hc⟩:=h;intro b hb;have:0<xs.length:=by
  rcases xs with _ | ⟨x,r⟩
  ·exact absurd rfl c
  ·simp
 obtain ⟨b',off,rfl,a⟩:=hc 0 this;have e:b'=b:=by simpa [Value.ownBlock] using hb
 subst e;exact World.block_lt_of_cell? w _ a

theorem Row.kept' {S:Nat→Prop} {k:IntKind} {w w':World} {v:Value} {zs:List Nat} (h:Row k w v zs) (hk:Kept S w w') (hs:zs≠[]→∀ b,v.ownBlock=some b→¬ S b):Row k w' v zs:=by
 by_cases h0:zs=[]
 ·subst h0;obtain ⟨ao,a,rfl,h1,h2,h3,_⟩:=h;exact ⟨ao,a,rfl,h1,h2,h3,fun i hi=>absurd hi (by simp)⟩
 ·exact h.kept hk (hs h0)

theorem row_of_ints {k:IntKind} {B:Nat} {w:World} {a:Option Addr} {c f:Nat} {zs:List Int} (hk:∀ n,(Lit.int k n).wf=true→0≤n∧n<(B:Int))
  (h:(a=none∧c=0∧f=0∧zs=[])∨∃ x,a=some x∧c≤f∧f≤maxLen∧zs.length=f∧(∀ i,i<zs.length→w.cell? (x.add i)=some (.int k (zs.getD i 0)))∧∀ n ∈ zs,(Lit.int k n).wf=true) :
  ∃ ns:List Nat,Row k w (.slice a c f) ns∧Digs ns B:=by
 rcases h with ⟨rfl,rfl,rfl,rfl⟩ | ⟨x,rfl,hl,hm,hz,hcell,hwf⟩
 ·exact ⟨[],Row.nil _ _,Digs.nil _⟩
 ·have g:((zs.take c).map Int.toNat).length=c:=by rw [List.length_map,List.length_take];omega
  refine ⟨(zs.take c).map Int.toNat,⟨some x,f,by rw [g],by omega,hm,(fun e=>by cases e),fun i hi=>?_⟩,fun d hd=>?_⟩
  ·rw [g] at hi;obtain ⟨b,off,rfl,hc⟩:=ints_at hcell (by omega);refine ⟨b,off,rfl,?_⟩;rw [hc i (by omega)];have j:i<zs.length:=by omega
   have h0:=(hk _ (hwf _ (List.getElem_mem j))).1;have e1:zs.getD i 0=zs[i]:=by rw [List.getD_eq_getElem?_getD,List.getElem?_eq_getElem j];rfl
   have e2:((zs.take c).map Int.toNat).getD i 0=(zs[i]).toNat:=by
    rw [List.getD_eq_getElem?_getD,List.getElem?_map,List.getElem?_take,if_pos hi,List.getElem?_eq_getElem j];rfl
   rw [e1,e2,Int.toNat_of_nonneg h0]
  ·obtain ⟨n,hn,rfl⟩:=List.mem_map.1 hd;have:=hk n (hwf n (List.mem_of_mem_take hn));omega

theorem vw:∀ n,(Lit.int .u64 n).wf=true→0≤n∧n<((18446744073709551616:Nat):Int):=fun n h=>by
 have:=bounds_u64 h;omega

theorem wf_u8:∀ n,(Lit.int .u8 n).wf=true→0≤n∧n<((256:Nat):Int):=fun n h=>by
 have:=bounds_u8 h;omega

theorem pD (w:World) (x:Value) (e:TypeId):∀ j u,[x][j]? = some u→(w.alloc (.cells #[x] e)).cell? ((⟨w.heap.size,0,none⟩:Addr).add j)=some u:=
 World.news_of_block (cs:=#[x]) (t:=e) (fr:=(0,0)) (Go.heap_alloc_new w _)

def zN (n:Nat):Prop:=2≤n∧∀ d,2≤d→d<n→n%d≠0

instance (n:Nat):Decidable (zN n):=
 if h:2≤n then
  if g:∀ d,d<n→2≤d→n%d≠0 then isTrue ⟨h,fun d h1 h2=>g d h2 h1⟩ else isFalse (fun p=>g (fun d h1 h2=>p.2 d h2 h1))
 else isFalse (fun p=>h p.1)

theorem vW {a b:Nat} (h:b≤a):¬ cS a b<0:=by
 unfold cS;rw [if_neg (by omega)]
 split <;> omega

def bes (V n:Nat):Nat→List Nat
 | 0=>[]
 | i+1=>bes V n i ++ [dig V (n-1-i) 256]

theorem cZ (V n:Nat):∀ i,(bes V n i).length=i
 | 0=>rfl
 | i+1=>by simp [bes,cZ V n i]

theorem Tryz.info5:(Tryz.prog.info? 5).map (fun i=>(i.zero,i.size,i.bytes))=some (some (.int .u8 0),1,1):=by kernel_rfl

def bev (l:List Nat):Nat:=l.foldl (fun a b=>a*256+b) 0

theorem sH (l:List Nat) (b:Nat):bev (l ++ [b])=bev l*256+b:=by simp [bev]

theorem kZ {l:List Nat} {i:Nat} (h:i<l.length):bev (l.take (i+1))=bev (l.take i)*256+l.getD i 0:=by
 rw [List.take_succ_eq_append_getElem h,sH,List.getD_eq_getElem?_getD,List.getElem?_eq_getElem h];rfl

def sI (V:Nat) (i:Int):Nat:=if i<0 then 0 else V/2^i.toNat%2

theorem jY (V j:Nat):sI V (j:Int)=V/2^j%2:=by
 unfold sI;rw [if_neg (by omega),Int.toNat_natCast]

def aF (V:Nat):Nat:=if V=0 then 0 else Nat.log2 V+1

theorem aI (V n:Nat):aF V≤n↔V<2^n:=by
 unfold aF;by_cases h:V=0
 ·subst h;simp [Nat.pow_pos]
 ·rw [if_neg h];have:=Nat.log2_lt (n:=V) (k:=n) h;omega

def bh (V:Nat) (n:Int):Int:=if 300<n then 2 else if n<0∨n.toNat<ah V then 1 else 0

def bI (V:Nat) (n:Int):List Nat:=if bh V n=0 then digs V n.toNat else []

theorem oF {V:Nat} {n:Int} (h:300<n):bh V n=2∧bI V n=[]:=by
 have e:bh V n=2:=if_pos h;exact ⟨e,by unfold bI;rw [if_neg (by rw [e];decide)]⟩

theorem ib {V:Nat} {n:Int} (h:¬ 300<n) (h2:n<0∨n.toNat<ah V):bh V n=1∧bI V n=[]:=by
 have e:bh V n=1:=by unfold bh;rw [if_neg h,if_pos h2]
 exact ⟨e,by unfold bI;rw [if_neg (by rw [e];decide)]⟩

theorem mR {V n:Nat} (h:n≤300) (h2:ah V≤n):bh V (n:Int)=0∧bI V (n:Int)=digs V n:=by
 have e:bh V (n:Int)=0:=by unfold bh;rw [if_neg (by omega),if_neg (by simp;omega)]
 exact ⟨e,by unfold bI;rw [if_pos e,Int.toNat_natCast]⟩

def eP (n:Int):Nat:=(min (max n 1) 300).toNat

attribute [local go_sem ↓] Go.wp_at_zero Go.wp_at_succ

attribute [local go_sem ↓] Go.wp_at_zero Go.wp_at_succ

def cellN (w:World) (a:Addr):Nat:=
 match w.cell? a with
 | some (.int _ z)=>z.toNat
 | _=>0

theorem IsBig.length {w:World} {v:Value} {V:Nat} (h:IsBig w v V):∃ ao n a,v=.slice ao n a∧Hid (n=j4 V)∧n≤1000000000:=by
 obtain ⟨ds,h1,h2,h3,h4,h5⟩:=h;obtain ⟨ao,n,a,e,hN,_⟩:=h1.open;refine ⟨ao,n,a,e,?_,by rw [← hN.out];exact h5⟩;have:=tx h2 h3;rw [h4] at this;unfold Hid;rw [← this,hN.out]

attribute [local go_sem ↓] Go.wp_at_zero Go.wp_at_succ

theorem sR (A B:Nat):j4 (A*B)≤j4 A+j4 B:=by
 have h1:=(g9 A _).1 (leR _);have h2:=(g9 B _).1 (leR _);refine (g9 _ _).2 ?_;rw [Nat.pow_add];exact Nat.mul_lt_mul'' h1 h2

attribute [local go_sem ↓] Go.wp_at_zero Go.wp_at_succ

def fB (X:Nat):Nat:=(aF X+7)/8

def fE (P Q:Nat):Nat:=(P-1)/Nat.gcd (P-1) (Q-1)*(Q-1)

def fu (xs:List Nat) (e:Nat):Nat:=
 if xs.length=0∨1000<xs.length∨xs.getD (xs.length-1) 0=0∨val xs%2=0∨aF (val xs)<32∨8192<aF (val xs)∨e<3∨e%2=0∨4294967296≤e then 190 else 0

theorem rr (m:List Nat):∀ a,m.foldl (fun a b=>a*256+b) a=a*256^m.length+bev m:=by
 unfold bev
 induction m with
 | nil=>intro a;simp
 | cons x m ih=>
  intro a;rw [List.foldl_cons,ih,List.foldl_cons,ih (0*256+x),List.length_cons,Nat.pow_succ];simp only [Nat.zero_mul,Nat.zero_add,Nat.add_mul,Nat.mul_assoc,Nat.add_assoc,Nat.mul_comm 256]

theorem jx (l m:List Nat):bev (l ++ m)=bev l*256^m.length+bev m:=by
 show (l ++ m).foldl _ 0=_
 rw [List.foldl_append,rr];rfl

theorem mu {l:List Nat} (h:Digs l 256):bev l<256^l.length:=by
 induction l with
 | nil=>simp [bev]
 | cons x m ih=>
  have e:=jx [x] m;rw [List.singleton_append] at e;have hx:=h.head;have hm:=ih h.tail;rw [e,List.length_cons,Nat.pow_succ];have:(x+1)*256^m.length≤256*256^m.length:=Nat.mul_le_mul_right _ hx;rw [Nat.add_mul,Nat.one_mul] at this;have e2:bev [x]=x:=by simp [bev]
  rw [e2,Nat.mul_comm (256^m.length)];omega

theorem sL {xs:List Nat} (h:Digs xs):aF (val xs)≤64*xs.length:=by
 rw [aI,Nat.pow_mul];exact aD (by omega) h

theorem aJ {W:World} {p:Nat} {a b c d e f g h:Value} {t:TypeId} (hh:W.heap[p]? = some (.cells #[a,b,c,d,e,f,g,h] t (0,0))) :
  W.cell? ⟨p,0,none⟩=some a∧W.cell? ⟨p,1,none⟩=some b∧W.cell? ⟨p,2,none⟩=some c∧W.cell? ⟨p,3,none⟩=some d∧W.cell? ⟨p,4,none⟩=some e∧W.cell? ⟨p,5,none⟩=some f∧W.cell? ⟨p,6,none⟩=some g∧W.cell? ⟨p,7,none⟩=some h:=by
 simp [World.cell?,hh]

def jF (w:World) (p:Nat) (x0 x1 x2 x3 x4 x5 x6 x7:Value):World:=((((((((w.setCell ⟨p,0,none⟩ x0).setCell ⟨p,1,none⟩ x1).setCell ⟨p,2,none⟩ x2).setCell ⟨p,3,none⟩ x3).setCell ⟨p,4,none⟩ x4).setCell ⟨p,5,none⟩ x5).setCell ⟨p,6,none⟩ x6).setCell ⟨p,7,none⟩ x7)

theorem jT {w w3:World} {p:Nat} {a0 a1 a2 a3 a4 a5 a6 a7:Value} {t:TypeId} (hk:Kept ae w w3) (hp:w.heap.size≤p) (a:w3.heap[p]? = some (.cells #[a0,a1,a2,a3,a4,a5,a6,a7] t (0,0))) (x0 x1 x2 x3 x4 x5 x6 x7:Value) :
  (jF w3 p x0 x1 x2 x3 x4 x5 x6 x7).heap[p]? = some (.cells #[x0,x1,x2,x3,x4,x5,x6,x7] t (0,0))∧Kept ae w (jF w3 p x0 x1 x2 x3 x4 x5 x6 x7)∧Kept (fun q=>q=p) w3 (jF w3 p x0 x1 x2 x3 x4 x5 x6 x7):=by
 unfold jF;refine ⟨?_,?_,?_⟩
 ·have h0:=heap_setCell_same w3 p 0 _ _ x0 a;have h1:=heap_setCell_same _ p 1 _ _ x1 h0;have h2:=heap_setCell_same _ p 2 _ _ x2 h1;have h3:=heap_setCell_same _ p 3 _ _ x3 h2;have h4:=heap_setCell_same _ p 4 _ _ x4 h3;have h5:=heap_setCell_same _ p 5 _ _ x5 h4;have h6:=heap_setCell_same _ p 6 _ _ x6 h5;have h7:=heap_setCell_same _ p 7 _ _ x7 h6;simpa using h7
 ·exact ((((((((hk.setCell ⟨p,0,none⟩ (fun h=>by simp at h;omega) _).setCell ⟨p,1,none⟩ (fun h=>by simp at h;omega) _).setCell ⟨p,2,none⟩ (fun h=>by simp at h;omega) _).setCell ⟨p,3,none⟩ (fun h=>by simp at h;omega) _).setCell ⟨p,4,none⟩ (fun h=>by simp at h;omega) _).setCell ⟨p,5,none⟩ (fun h=>by simp at h;omega) _).setCell ⟨p,6,none⟩ (fun h=>by simp at h;omega) _).setCell ⟨p,7,none⟩ (fun h=>by simp at h;omega) _)
 ·exact ((((((((ag (fun q=>q=p) w3).setCell ⟨p,0,none⟩ (fun _=>rfl) _).setCell ⟨p,1,none⟩ (fun _=>rfl) _).setCell ⟨p,2,none⟩ (fun _=>rfl) _).setCell ⟨p,3,none⟩ (fun _=>rfl) _).setCell ⟨p,4,none⟩ (fun _=>rfl) _).setCell ⟨p,5,none⟩ (fun _=>rfl) _).setCell ⟨p,6,none⟩ (fun _=>rfl) _).setCell ⟨p,7,none⟩ (fun _=>rfl) _

theorem a8 {W:World} {p:Nat} {cs:Array Value} {t:TypeId} (h:W.heap[p]? = some (.cells cs t (0,0))) (j:Nat):W.frozen? ⟨p,j,none⟩=false:=frozen_of_row W _ j _ _ h

abbrev zeroKey:Array Value:=#[.slice none 0 0,.int .u64 0,.slice none 0 0,.slice none 0 0,.slice none 0 0,.slice none 0 0,.slice none 0 0,.slice none 0 0]

theorem aV {X n:Nat} (h:aF X≤64*n):ah X≤n:=(aA X n).2 (by
 have:=(aI X (64*n)).1 h;rw [Nat.pow_mul] at this;exact this)

theorem iM {X n:Nat} (h:aF X≤32*n):j4 X≤n:=(g9 X n).2 (by
 have:=(aI X (32*n)).1 h;rw [Nat.pow_mul] at this;exact this)

def cE (P:Nat):Prop:=3≤P∧P%2=1∧aF P≤8192

def bd (P Q:Nat):List Nat:=digs (P*Q) (max (ah (P*Q)) 1)

def ej (L M P Q e:Nat):Prop:=(L≤300∧M≤300)∧cE P∧cE Q∧Nat.gcd P Q=1∧fu (bd P Q) e=0∧Nat.gcd e (fE P Q)=1

def KeyAt (w:World) (P Q e:Nat) (kv:Array Value):Prop:=
 ∃ (vn vd vp vq vdp vdq vqi:Value) (d u:Nat),kv=#[vn,.int .u64 (e:Nat),vd,vp,vq,vdp,vdq,vqi]∧Row .u64 w vn (bd P Q)∧d<fE P Q∧e*d%fE P Q=1∧Row .u64 w vd (digs d (bd P Q).length) ∧
  Row .u64 w vp (digs P (max (ah P) (ah Q)))∧Row .u64 w vq (digs Q (max (ah P) (ah Q)))∧Row .u64 w vdp (digs (d%(P-1)) (max (ah P) (ah Q)))∧Row .u64 w vdq (digs (d%(Q-1)) (max (ah P) (ah Q)))∧u<P∧Q*u%P=1∧Row .u64 w vqi (digs u (max (ah P) (ah Q)))

def gI (B:Nat) (kv:Array Value):Prop:=∀ v ∈ kv.toList,∀ x,v.ownBlock=some x→B<x

theorem oV (B:Nat):gI B zeroKey:=by
 intro v hv x hx;have a:v ∈ [Value.slice none 0 0,.int .u64 0,.slice none 0 0,.slice none 0 0,.slice none 0 0,.slice none 0 0,.slice none 0 0,.slice none 0 0]:=hv;simp only [List.mem_cons,List.not_mem_nil,or_false] at a;rcases a with rfl | rfl | rfl | rfl | rfl | rfl | rfl | rfl <;> cases hx

theorem xG {B:Nat} {v0 v2 v3 v4 v5 v6 v7:Value} {e:Int} (h0:∀ x,v0.ownBlock=some x→B<x) (h2:∀ x,v2.ownBlock=some x→B<x) (h3:∀ x,v3.ownBlock=some x→B<x) (h4:∀ x,v4.ownBlock=some x→B<x) (h5:∀ x,v5.ownBlock=some x→B<x) (h6:∀ x,v6.ownBlock=some x→B<x) (h7:∀ x,v7.ownBlock=some x→B<x):gI B #[v0,.int .u64 e,v2,v3,v4,v5,v6,v7]:=by
 intro v hv x hx;have a:v ∈ [v0,.int .u64 e,v2,v3,v4,v5,v6,v7]:=hv;simp only [List.mem_cons,List.not_mem_nil,or_false] at a;rcases a with rfl | rfl | rfl | rfl | rfl | rfl | rfl | rfl
 ·exact h0 x hx
 ·cases hx
 ·exact h2 x hx
 ·exact h3 x hx
 ·exact h4 x hx
 ·exact h5 x hx
 ·exact h6 x hx
 ·exact h7 x hx

theorem sQ {P Q:Nat} (hP:3≤P) (hQ:3≤Q):2≤fE P Q:=by
 unfold fE;have hg:Nat.gcd (P-1) (Q-1) ∣ P-1:=Nat.gcd_dvd_left _ _;have h1:1≤(P-1)/Nat.gcd (P-1) (Q-1):=Nat.div_pos (Nat.le_of_dvd (by omega) hg) (Nat.gcd_pos_of_pos_left _ (by omega));have:=Nat.mul_le_mul_right (Q-1) h1;omega

theorem nC {p a b c:Nat} (hc:Nat.Coprime p c) (h:c*a%p=c*b%p):a%p=b%p:=by
 rcases Nat.le_total a b with hab | hab
 ·have h1:(c*b-c*a)%p=0:=Nat.sub_mod_eq_zero_of_mod_eq h.symm;rw [← Nat.mul_sub] at h1;have h2:=hc.dvd_of_dvd_mul_left (Nat.dvd_of_mod_eq_zero h1);obtain ⟨k,hk⟩:=h2;rw [show b=a+p*k by omega];simp
 ·have h1:(c*a-c*b)%p=0:=Nat.sub_mod_eq_zero_of_mod_eq h;rw [← Nat.mul_sub] at h1;have h2:=hc.dvd_of_dvd_mul_left (Nat.dvd_of_mod_eq_zero h1);obtain ⟨k,hk⟩:=h2;rw [show a=b+p*k by omega];simp

def qz (P Q e d u:Nat) (ns ds ps qs dps dqs qis:List Nat):Prop:=
 d<fE P Q∧e*d%fE P Q=1∧u<P∧Q*u%P=1∧ns=bd P Q∧ds=digs d (bd P Q).length∧ps=digs P (max (ah P) (ah Q))∧qs=digs Q (max (ah P) (ah Q))∧dps=digs (d%(P-1)) (max (ah P) (ah Q))∧dqs=digs (d%(Q-1)) (max (ah P) (ah Q))∧qis=digs u (max (ah P) (ah Q))

def KeyGood (ns ds ps qs dps dqs qis:List Nat) (e:Nat):Prop:=
 ej ps.length qs.length (val ps) (val qs) e∧∃ d u,qz (val ps) (val qs) e d u ns ds ps qs dps dqs qis

theorem qt {m a x y:Nat} (hc:Nat.Coprime m a) (hx:x<m) (hy:y<m) (h1:a*x%m=1) (h2:a*y%m=1):x=y:=by
 have:=nC hc (h1.trans h2.symm)
 rwa [ar hx,ar hy] at this

def Da (w:World) (ao:Option Addr) (n:Nat) (A:Nat→Option Addr) (L C:Nat→Nat):Prop:=
 ∀ i,i<n→∃ b off,ao=some ⟨b,off,none⟩∧w.cell? ⟨b,off+i,none⟩=some (.slice (A i) (L i) (C i))

def fewL (L:Nat):Prop:=L≤20∨L=301∨L=131

theorem fewL.le {L:Nat} (h:fewL L):L≤301:=by unfold fewL at h;omega

theorem Ac (ao:Option Addr) (n q:Nat) (A:Nat→Option Addr) (L C:Nat→Nat) (w:World) (hn:n≤1000000000000) (R:Bool) (hR:R=true↔∀ i,i<n→fewL (L i)) (hc:Da w ao n A L C) :
  Calls Tryz.prog 59 #[.slice ao n q] w fun r w'=>r=.returned (.bool R)∧w'=w:=by
 have HR:=aa hR;have HC:=aa hc;clear hR hc;go_enter Tryz.func59,Tryz.ntmps59;go_wp2_with fail;go_loop [7] (fun i=>∃ k:Nat,k≤n∧i=.int .i64 (k:Int)∧Hid (∀ j,j<k→fewL (L j))) (fun i=>((n:Int)-intOf i).toNat)
 case atStart=>exact ⟨0,Nat.zero_le _,rfl,fun j hj=>by omega⟩
 case round=>
  obtain ⟨k,hk,rfl,f⟩:=hrel;by_cases hkn:k<n
  ·have t:(k:Int)<(n:Int):=by omega
   obtain ⟨b,off,rfl,l⟩:=HC.out k hkn;obtain ⟨ao,s⟩:∃ ao,ao=A k:=⟨_,rfl⟩
   obtain ⟨a,d⟩:∃ a,a=L k:=⟨_,rfl⟩
   obtain ⟨cp,g⟩:∃ q,q=C k:=⟨_,rfl⟩
   rw [← s,← d,← g] at l;have o:=aa d;have p:Hid (fewL a→∀ j,j<k+1→fewL (L j)):=fun h j hj=>by
    by_cases e:j=k
    ·subst e;rw [← d];exact h
    ·exact f.out j (by omega)
   clear s d g;by_cases h4:a≤20
   ·have m:¬ (a:Int) > 20:=by omega
    have c:¬ (20:Int)<(a:Int):=by omega
    go_wp2_with fail;go_round
    case rel=>exact ⟨k+1,by omega,by go_num,p.out (.inl h4)⟩
    case measure=>simp [intOf];omega
   ·have m:(a:Int) > 20:=by omega
    have c:(20:Int)<(a:Int):=by omega
    by_cases h5:a=301
    ·subst h5;clear h4 m c;go_wp2_with fail;go_round
     case rel=>exact ⟨k+1,by omega,by go_num,p.out (.inr (.inl rfl))⟩
     case measure=>simp [intOf];omega
    ·by_cases h6:a=131
     ·subst h6;clear h4 m c h5;go_wp2_with fail;go_round
      case rel=>exact ⟨k+1,by omega,by go_num,p.out (.inr (.inr rfl))⟩
      case measure=>simp [intOf];omega
     ·have x:¬ (a:Int)=301:=by omega
      have y:¬ (a:Int)=131:=by omega
      have d5:((a:Int) != 301)=true:=by simp;omega
      have d6:((a:Int) != 131)=true:=by simp;omega
      have d4:decide ((a:Int) > 20)=true:=bw m;have v:decide ((20:Int)<(a:Int))=true:=bw c;have HF:Hid (R=false):=by
       cases e:R with
       | false=>rfl
       | true=>
        have:=HR.out.1 e k hkn;rw [← o.out] at this;unfold fewL at this;omega
      go_wp2_with fail;go_ret;refine ⟨?_,rfl⟩;rw [HF.out];rfl
  ·have t:¬ (k:Int)<(n:Int):=by omega
   have e:k=n:=by omega
   subst e;have HT:Hid (R=true):=HR.out.2 f.out;go_wp2_with fail;go_ret;refine ⟨?_,rfl⟩;rw [HT.out];rfl

theorem CF (W:World) (z:Nat):Row .u64 (W.alloc (.cells #[.int .u64 (z:Nat)] 24)) (.slice (some ⟨W.heap.size,0,none⟩) 1 1) [z]:=
 Row.of_own (base:=W.heap.size) (e:=24) (World.ownsRow_lit W #[.int .u64 (z:Nat)] 1 (leR _) (by unfold maxLen;omega) rfl)

theorem zD:¬ KeyGood [] [] [] [] [] [] [] 0:=fun h=>by
 have h1:3≤val []:=h.1.2.1.1;have h2:val []=0:=rfl;omega

end Go.Proofs.YtkaojflnghfmcaaGreatDoor
