/- Put together of: Byt1 Scr1 Scr3 Scr4 Gro1 Prm4 Prm5 Key7 Key8 Key9 Law19b Src1 Seq2 Lsc1 Cut0 Lsc2 Lsc3. -/
import Derived.Test.YtcemlfokmjjiaaaGreatDoorPf6
import Derived.Laws.AppendOwn
import Derived.Laws.AppendOwnNone
import Derived.Laws.BytesArg
import Derived.Lib.Strings
import Derived.RangeFuncWrites
import Derived.RangeFuncNested
import Derived.RangeFuncBound
import Derived.RangeFuncCalls
import Derived.RangeFuncLeaves
import Derived.RangeFuncBox
import Derived.Shelf.Abstract
import Derived.Shelf.RegionOpen
import Derived.OwnWalkIn
import Derived.TacticsInMore
import Derived.LoopNIn
import Derived.LoopIn

namespace Go.Proofs.YtcemlfokmjjiaaaGreatDoor
set_option maxRecDepth 100000
set_option maxHeartbeats 4000000
open Go.RowKit

theorem Tryz.info8s:(Tryz.prog.info? 5).map (fun i=>(i.zero,i.size,i.bytes))=some (some (.int .u8 0),1,1):=by kernel_rfl

def OwnB (w:World) (base:Nat) (v:Value) (zs:List Nat):Prop:=OwnN .u8 5 w base v zs.length zs

theorem OwnB.row {w:World} {base:Nat} {v:Value} {zs:List Nat} (h:OwnB w base v zs):Row .u8 w v zs:=Row.of_own (base:=base) (e:=5) h

theorem OwnB.of {w:World} {base n:Nat} {v:Value} {zs:List Nat} (h:OwnN .u8 5 w base v n zs):OwnB w base v zs:=by
 have hn:zs.length=n:=by
  have:=h.1;rw [List.length_map] at this;omega
 unfold OwnB;rw [hn];exact h

theorem OwnB.base {w:World} {base base':Nat} {v:Value} {zs:List Nat} (h:OwnB w base v zs) (hb:base'≤base):OwnB w base' v zs:=aZ h fun k hk=>Nat.le_trans hb (h.lt k hk).1

theorem OwnB.nil (w:World) (base:Nat):OwnB w base (.slice none 0 0) []:=World.ownsRow_nil _ _ _ _

def vu:Value→Nat
 | .slice _ n _=>n
 | _=>0

theorem tX {k:IntKind} {w:World} {b off n cap s m:Nat} {zs:List Nat} (h:Row k w (.slice (some ⟨b,off,none⟩) n cap) zs) (h2:s+m≤n):Row k w (.slice (some ⟨b,off+s,none⟩) m (cap-s)) ((zs.drop s).take m):=by
 obtain ⟨ao,d,e',c1,c2,_,h4⟩:=h;cases e'
 have hl:((zs.drop s).take m).length=m:=by rw [List.length_take,List.length_drop];omega
 refine ⟨_,_,by rw [hl],by omega,by omega,(fun e=>by cases e),fun i hi=>?_⟩;rw [hl] at hi;obtain ⟨b',c,e',a⟩:=h4 (s+i) (by omega);cases e'
 refine ⟨b,off+s,rfl,?_⟩;rw [Nat.add_assoc,a,List.getD_eq_getElem?_getD,List.getD_eq_getElem?_getD,List.getElem?_take,if_pos hi,List.getElem?_drop]

theorem sQ {k:IntKind} {w W:World} {ad:Addr} {n cap:Nat} {zs:List Nat} (h:Row k w (.slice (some ad) n cap) zs) (kk:Kept af w W):∀ j u,(zs.map fun z:Nat=>Value.int k (z:Int))[j]? = some u→W.cell? (ad.add j)=some u:=fun j u hj=>by
 obtain ⟨hlt,hv⟩:=List.getElem?_eq_some_iff.1 hj;rw [List.length_map] at hlt;obtain ⟨ao,d,e',c1,c2,_,h4⟩:=h;cases e'
 obtain ⟨b,off,e',a⟩:=h4 j hlt;cases e'
 have c:(⟨b,off,none⟩:Addr).add j=⟨b,off+j,none⟩:=by unfold Addr.add;split <;> simp_all
 rw [c,kk.cellN a,← hv,List.getElem_map,List.getD_eq_getElem?_getD,List.getElem?_eq_getElem hlt];rfl

theorem BY (k:IntKind) (zs:List Nat):∀ u ∈ (zs.map fun z:Nat=>Value.int k (z:Int)),u.oneCell'=true:=fun u hu=>by
 obtain ⟨x,_,rfl⟩:=List.mem_map.1 hu;rfl

def cL (bs:List Nat) (n:Int):Nat:=if n<0 then 1 else if (bs.length:Int)<n then 150 else 0
def dt (bs:List Nat) (n:Int):List Nat:=if cL bs n=0 then bs.take n.toNat else []
def dH (bs:List Nat) (n:Int):List Nat:=if n<0 then bs else bs.drop n.toNat

def eK (M t z:Nat):Nat→List Nat→Nat→Nat × Nat × List Nat
 | 0,_,_=>(0,0,[])
 | f+1,bs,k=>if bs.length<z then (0,0,[]) else if 0<bev (bs.take z)%2^t∧bev (bs.take z)%2^t<M then (bev (bs.take z)%2^t,k,bs.drop z) else eK M t z f (bs.drop z) (k+1)

def oX (M:Nat) (bs:List Nat):Nat × Nat × List Nat:=eK M (au M) ((au M+7)/8) (bs.length+1) bs 1

theorem pC (M t z:Nat) (hM:0<M):∀ f bs k,(eK M t z f bs k).1<M
 | 0,_,_=>hM
 | f+1,bs,k=>by
  unfold eK
  split
  ·exact hM
  ·split
   ·next h=>exact h.2
   ·exact pC M t z hM f _ _

theorem kT (M t z:Nat):∀ f bs k,∃ n,(eK M t z f bs k).2.2=bs.drop n
 | 0,bs,_=>⟨bs.length,by rw [List.drop_length];rfl⟩
 | f+1,bs,k=>by
  unfold eK
  split
  ·exact ⟨bs.length,by rw [List.drop_length]⟩
  ·split
   ·exact ⟨z,rfl⟩
   ·obtain ⟨n,hn⟩:=kT M t z f (bs.drop z) (k+1);exact ⟨z+n,by rw [hn,List.drop_drop]⟩

def dn (xs bs:List Nat):Nat:=if 300<xs.length then 2 else if val xs<2 then 1 else if (oX (val xs) bs).1=0 then 150 else 0
def dZ (xs bs:List Nat):List Nat:=if dn xs bs=0 then digs (oX (val xs) bs).1 xs.length else []
def ii (xs bs:List Nat):Nat:=if dn xs bs=0 then (oX (val xs) bs).2.1 else 0
def eH (xs bs:List Nat):List Nat:=if 300<xs.length∨val xs<2 then bs else (oX (val xs) bs).2.2

theorem lj {M t z f k:Nat} {bs:List Nat} (hf:bs.length<f) (hz:0<z):(bs.length<z∧eK M t z f bs k=(0,0,[])) ∨
  (¬ bs.length<z∧(0<bev (bs.take z)%2^t∧bev (bs.take z)%2^t<M)∧eK M t z f bs k=(bev (bs.take z)%2^t,k,bs.drop z)) ∨
  (¬ bs.length<z∧¬ (0<bev (bs.take z)%2^t∧bev (bs.take z)%2^t<M)∧∃ g,(bs.drop z).length<g∧eK M t z f bs k=eK M t z g (bs.drop z) (k+1)):=by
 obtain ⟨g,rfl⟩:∃ g,f=g+1:=⟨f-1,by omega⟩
 by_cases h1:bs.length<z
 ·exact .inl ⟨h1,by rw [eK,if_pos h1]⟩
 ·by_cases h2:0<bev (bs.take z)%2^t∧bev (bs.take z)%2^t<M
  ·exact .inr (.inl ⟨h1,h2,by rw [eK,if_neg h1,if_pos h2]⟩)
  ·exact .inr (.inr ⟨h1,h2,g,by rw [List.length_drop];omega,by rw [eK,if_neg h1,if_neg h2]⟩)

def Grows (w:World) (base:Nat) (out:Value) (L k:Nat) (A:Nat→Option Addr) (C:Nat→Nat) (f:Nat→List Nat):Prop:=
 w.ownsRow base 32 1 out k ((List.range k).map fun j=>.slice (A j) L (C j))∧∀ j,j<k→Row .u64 w (.slice (A j) L (C j)) (f j)∧∀ b,(Value.slice (A j) L (C j)).ownBlock=some b→out.ownBlock≠some b

theorem Grows.nil (w:World) (base L:Nat) (A:Nat→Option Addr) (C:Nat→Nat) (f:Nat→List Nat):Grows w base (.slice none 0 0) L 0 A C f:=⟨World.ownsRow_nil _ _ _ _,fun j hj=>by omega⟩

theorem Grows.grew {w w':World} {base:Nat} {a:Value} {L k:Nat} {A:Nat→Option Addr} {C:Nat→Nat} {f:Nat→List Nat} (h:Grows w base a L k A C f) (kk:Kept af w w'):Grows w' base a L k A C f:=
 ⟨kk.own h.1 (fun _ _ q=>q),fun j hj=>⟨(h.2 j hj).1.grew kk,(h.2 j hj).2⟩⟩

theorem fU {W w4:World} {a v:Value} {zs:List Nat} {g n cap:Nat} (hr:Row .u64 W v zs) (h:zs≠[]) (c:∀ b,v.ownBlock=some b→a.ownBlock≠some b) (hg:W.grownBy w4 a.ownBlock) (d:a.ownBlock=some g∨g=W.heap.size) :
  Row .u64 w4 v zs∧∀ b,v.ownBlock=some b→(Value.slice (some ⟨g,0,none⟩) n cap).ownBlock≠some b:=by
 have kk:Kept (fun b=>a.ownBlock=some b) W w4:=(ai _ W).grown hg (fun b e _=>e);refine ⟨hr.kept' kk (fun _ b hb f=>c b hb f),fun b hb e=>?_⟩;have e':g=b:=by simpa [Value.ownBlock] using e
 subst e';rcases d with h1 | h1
 ·exact c g hb h1
 ·have:=hr.lt h g hb;omega

theorem Grows.base {w:World} {base base':Nat} {a:Value} {L k:Nat} {A:Nat→Option Addr} {C:Nat→Nat} {f:Nat→List Nat} (h:Grows w base a L k A C f) (hb:base'≤base):Grows w base' a L k A C f:=
 ⟨aZ h.1 (fun b e=>Nat.le_trans hb (World.ownsRow.lt h.1 b e).1),h.2⟩

theorem Grows.push {W w4:World} {base:Nat} {a:Value} {L k g cap:Nat} {A:Nat→Option Addr} {C:Nat→Nat} {f:Nat→List Nat} {yo:Option Addr} {yc:Nat} (h:Grows W base a L k A C f) (hf:∀ j,f j≠[])
  (hy:Row .u64 W (.slice yo L yc) (f k)) (d:∀ b,(Value.slice yo L yc).ownBlock=some b→a.ownBlock≠some b)
  (ho:w4.ownsRow base 32 1 (.slice (some ⟨g,0,none⟩) (k+1) cap) (k+1) (((List.range k).map fun j=>.slice (A j) L (C j)) ++ [.slice yo L yc])) (hg:W.grownBy w4 a.ownBlock) (c:a.ownBlock=some g∨g=W.heap.size) :
  Grows w4 base (.slice (some ⟨g,0,none⟩) (k+1) cap) L (k+1) (fun j=>if j=k then yo else A j) (fun j=>if j=k then yc else C j) f:=by
 refine ⟨?_,fun j hj=>?_⟩
 ·rw [List.range_succ,List.map_append,List.map_cons,List.map_nil];dsimp only;rw [if_pos rfl,if_pos rfl];have e:((List.range k).map fun j=>Value.slice (if j=k then yo else A j) L (if j=k then yc else C j))=(List.range k).map fun j=>Value.slice (A j) L (C j):=by
   refine List.map_congr_left (fun j hj=>?_);have:j<k:=List.mem_range.1 hj;rw [if_neg (by omega),if_neg (by omega)]
  rw [e];exact ho
 ·by_cases e:j=k
  ·subst e;dsimp only;rw [if_pos rfl,if_pos rfl];exact fU hy (hf _) d hg c
  ·dsimp only;rw [if_neg e,if_neg e];exact fU (h.2 j (by omega)).1 (hf j) (h.2 j (by omega)).2 hg c

theorem Tryz.infoN32:(Tryz.prog.info? 32).map (fun i=>(i.zero,i.size,i.bytes))=some (some (.slice none 0 0),1,24):=by kernel_rfl

theorem rT {w:World} {v:Value} {zs:List Nat} {L:Nat} (h:Row .u64 w v zs) (hl:zs.length=L):∃ po pc,v=.slice po L pc:=by
 obtain ⟨po,pn,pc,rfl,a,_⟩:=h.open;have:pn=L:=a.out.symm.trans hl;subst this;exact ⟨po,pc,rfl⟩

theorem kH (M t z:Nat) (hz:0<z):∀ f bs k,(eK M t z f bs k).1≠0→(eK M t z f bs k).2.2.length<bs.length
 | 0,_,_,h=>absurd rfl h
 | f+1,bs,k,h=>by
  unfold eK at *
  split at h
  ·exact absurd rfl h
  ·next h1=>
   rw [if_neg h1]
   split at h
   ·next h2=>rw [if_pos h2];simp only [List.length_drop];omega
   ·next h2=>
    rw [if_neg h2];have:=kH M t z hz f (bs.drop z) (k+1) h;rw [List.length_drop] at this;omega

theorem tF {M:Nat} (h:0<M):0<au M:=by
 rcases Nat.eq_zero_or_pos (au M) with e | e
 ·have:=(aA M 0).1 (by omega);simp at this;omega
 ·exact e

theorem tj {xs bs:List Nat} (h:dn xs bs=0):(eH xs bs).length<bs.length:=by
 unfold dn at h;unfold eH
 split at h
 ·omega
 ·next h1=>
  split at h
  ·omega
  ·next h2=>
   split at h
   ·omega
   ·next h3=>
    rw [if_neg (by omega)];exact kH _ _ _ (by have:=tF (show 0<val xs by omega);omega) _ _ _ h3

theorem nT (xs bs:List Nat):∃ n,eH xs bs=bs.drop n:=by
 unfold eH
 split
 ·exact ⟨0,by simp⟩
 ·exact kT _ _ _ _ _ _

theorem xJ {xs bs:List Nat} (h:dn xs bs=0):(dZ xs bs).length=xs.length:=by
 unfold dZ;rw [if_pos h,ag]

theorem vU {xs bs:List Nat} (hd:Digs xs) (h:dn xs bs=0):0<val (dZ xs bs)∧val (dZ xs bs)<val xs:=by
 have hb:=h;unfold dn at h
 split at h
 ·omega
 ·split at h
  ·omega
  ·next h2=>
   split at h
   ·omega
   ·next h3=>
    have hlt:=pC (val xs) (au (val xs)) ((au (val xs)+7)/8) (by omega) (bs.length+1) bs 1;have a:(oX (val xs) bs).1<val xs:=hlt;unfold dZ;rw [if_pos hb,ak,al (Nat.lt_trans a (aq (by omega) hd))];exact ⟨by omega,a⟩

def jv (xs:List Nat) (k:Nat):Nat→Nat→List Nat→List (List Nat)→Bool × List (List Nat) × Nat × List Nat
 | 0,_,bs,_=>(false,[],150,bs)
 | f+1,i,bs,acc=>if k≤i then (true,acc,0,bs) else if dn xs bs≠0 then (false,[],dn xs bs,eH xs bs) else
  if val (dZ xs bs)=1∨val (dZ xs bs)=val xs-1 then jv xs k f i (eH xs bs) acc else
  if fq (val xs) (val (dZ xs bs)) then jv xs k f (i+1) (eH xs bs) (acc ++ [dZ xs bs]) else (false,acc ++ [dZ xs bs],0,eH xs bs)

def f8 (xs:List Nat) (k:Int) (bs:List Nat):Bool × List (List Nat) × Nat × List Nat:=
 if jJ (val xs)≠0 then (false,[],jJ (val xs),bs) else if k<0∨100<k then (false,[],1,bs) else jv xs k.toNat (bs.length+1) 0 bs []

def Bases (w:World) (base:Nat) (out:Value) (L:Nat) (acc:List (List Nat)):Prop:=(∀ x ∈ acc,x.length=L)∧∃ A C,Grows w base out L acc.length A C (fun j=>acc.getD j (List.replicate L 0))

theorem Bases.grew {w w':World} {base:Nat} {b:Value} {L:Nat} {a:List (List Nat)} (h:Bases w base b L a) (k:Kept af w w'):Bases w' base b L a:=by
 obtain ⟨h1,A,C,h2⟩:=h;exact ⟨h1,A,C,h2.grew k⟩

theorem Bases.nil (w:World) (base L:Nat):Bases w base (.slice none 0 0) L []:=⟨(fun x hx=>by cases hx),fun _=>none,fun _=>0,Grows.nil _ _ _ _ _ _⟩

theorem Bases.base {w:World} {base base':Nat} {b:Value} {L:Nat} {a:List (List Nat)} (h:Bases w base b L a) (hb:base'≤base):Bases w base' b L a:=by
 obtain ⟨h1,A,C,h2⟩:=h;exact ⟨h1,A,C,h2.base hb⟩

theorem Bases.push {W w4:World} {base:Nat} {c:Value} {L g cap:Nat} {a:List (List Nat)} {x:List Nat} {yo:Option Addr} {yc:Nat} (hL:0<L) (h1:∀ x ∈ a,x.length=L) {A:Nat→Option Addr} {C:Nat→Nat} (h2:Grows W base c L a.length A C (fun j=>a.getD j (List.replicate L 0))) (hx:x.length=L)
  (hy:Row .u64 W (.slice yo L yc) x) (d:∀ b,(Value.slice yo L yc).ownBlock=some b→c.ownBlock≠some b)
  (ho:w4.ownsRow base 32 1 (.slice (some ⟨g,0,none⟩) (a.length+1) cap) (a.length+1) (((List.range a.length).map fun j=>.slice (A j) L (C j)) ++ [.slice yo L yc])) (hg:W.grownBy w4 c.ownBlock) (i:c.ownBlock=some g∨g=W.heap.size) :
  Bases w4 base (.slice (some ⟨g,0,none⟩) (a.length+1) cap) L (a ++ [x]):=by
 refine ⟨fun z hz=>?_,fun j=>if j=a.length then yo else A j,fun j=>if j=a.length then yc else C j,?_⟩
 ·rcases List.mem_append.1 hz with h | h
  ·exact h1 z h
  ·rw [List.mem_singleton.1 h];exact hx
 ·have k:∀ z:List Nat,z.length=L→z≠[]:=fun z hz e=>by subst e;simp at hz;omega
  have f:Grows W base c L a.length A C (fun j=>(a ++ [x]).getD j (List.replicate L 0)):=⟨h2.1,fun j hj=>by
   have:=h2.2 j hj;dsimp only;rw [List.getD_eq_getElem?_getD,List.getElem?_append_left hj,← List.getD_eq_getElem?_getD];exact this⟩
  have:=f.push (fun j=>k _ (by
   rw [List.getD_eq_getElem?_getD];by_cases hj:j<(a ++ [x]).length
   ·rw [List.getElem?_eq_getElem hj,Option.getD_some];rcases List.mem_append.1 (List.getElem_mem hj) with h | h
    ·exact h1 _ h
    ·rw [List.mem_singleton.1 h];exact hx
   ·rw [List.getElem?_eq_none (by omega),Option.getD_none,List.length_replicate])) (yo:=yo) (yc:=yc) (by
    rw [List.getD_eq_getElem?_getD,List.getElem?_append_right (leR _),Nat.sub_self];exact hy) d ho hg i
  rw [List.length_append];exact this

theorem Bases.slice {w:World} {base:Nat} {b:Value} {L:Nat} {a:List (List Nat)} (h:Bases w base b L a):∃ ao cap,b=.slice ao a.length cap:=by
 obtain ⟨_,A,C,h2,_⟩:=h;exact bh h2

def cC (bs:List Nat) (n:Nat):List Nat:=digs (dr (bs.take ((n+7)/8)) n) ((n+63)/64)

def DrawR (n e r:Nat):Nat→List Nat→Nat→List Nat × Nat × Nat × List Nat→Prop
 | 0,bs,_,o=>o=([],0,180,bs)
 | f+1,bs,k,o=>(bs.length<(n+7)/8∧o=([],0,150,[])) ∨
  (¬ bs.length<(n+7)/8∧¬ fd (dr (bs.take ((n+7)/8)) n) e∧DrawR n e r f (bs.drop ((n+7)/8)) (k+1) o) ∨
  (¬ bs.length<(n+7)/8∧fd (dr (bs.take ((n+7)/8)) n) e∧∃ is ls E rest,f8 (cC bs n) (r:Int) (bs.drop ((n+7)/8))=(is,ls,E,rest) ∧
   ((E≠0∧o=([],0,E,rest))∨(E=0∧is=true∧o=(cC bs n,k,0,rest))∨(E=0∧is=false∧DrawR n e r f rest (k+1) o)))

theorem DrawR.uniq {n e r:Nat}:∀ {f:Nat} {bs:List Nat} {k:Nat} {o o':List Nat × Nat × Nat × List Nat},DrawR n e r f bs k o→DrawR n e r f bs k o'→o=o'
 | 0,_,_,_,_,h,h'=>h.trans h'.symm
 | f+1,bs,k,o,o',h,h'=>by
  rcases h with ⟨h1,h2⟩ | ⟨h1,h2,h3⟩ | ⟨h1,h2,is,ls,E,rest,h3,h4⟩
  ·rcases h' with ⟨g1,g2⟩ | ⟨g1,_⟩ | ⟨g1,_⟩
   ·exact h2.trans g2.symm
   ·exact absurd h1 g1
   ·exact absurd h1 g1
  ·rcases h' with ⟨g1,_⟩ | ⟨_,_,g3⟩ | ⟨_,g2,_⟩
   ·exact absurd g1 h1
   ·exact DrawR.uniq h3 g3
   ·exact absurd g2 h2
  ·rcases h' with ⟨g1,_⟩ | ⟨_,g2,_⟩ | ⟨_,_,is',ls',E',rest',g3,g4⟩
   ·exact absurd g1 h1
   ·exact absurd h2 g2
   ·rw [h3] at g3;obtain ⟨rfl,rfl,rfl,rfl⟩:is=is'∧ls=ls'∧E=E'∧rest=rest':=by simpa using g3
    rcases h4 with ⟨a1,a2⟩ | ⟨a1,a2,a3⟩ | ⟨a1,a2,a3⟩
    ·rcases g4 with ⟨_,b2⟩ | ⟨b1,_⟩ | ⟨b1,_⟩
     ·exact a2.trans b2.symm
     ·exact absurd b1 a1
     ·exact absurd b1 a1
    ·rcases g4 with ⟨b1,_⟩ | ⟨_,_,b3⟩ | ⟨_,b2,_⟩
     ·exact absurd a1 b1
     ·exact a3.trans b3.symm
     ·rw [a2] at b2;cases b2
    ·rcases g4 with ⟨b1,_⟩ | ⟨_,b2,_⟩ | ⟨_,_,b3⟩
     ·exact absurd a1 b1
     ·rw [a2] at b2;cases b2
     ·exact DrawR.uniq a3 b3

theorem iY (xs:List Nat) (k:Nat):∀ f i bs a,∃ m,(jv xs k f i bs a).2.2.2=bs.drop m
 | 0,_,bs,_=>⟨0,rfl⟩
 | f+1,i,bs,a=>by
  obtain ⟨m,hm⟩:=nT xs bs;unfold jv
  split
  ·exact ⟨0,rfl⟩
  ·split
   ·exact ⟨m,hm⟩
   ·split
    ·obtain ⟨m2,h2⟩:=iY xs k f i (eH xs bs) a;exact ⟨m+m2,by rw [h2,hm,List.drop_drop]⟩
    ·split
     ·obtain ⟨m2,h2⟩:=iY xs k f (i+1) (eH xs bs) (a ++ [dZ xs bs]);exact ⟨m+m2,by rw [h2,hm,List.drop_drop]⟩
     ·exact ⟨m,hm⟩

theorem gH (xs:List Nat) (k:Int) (bs:List Nat):∃ m,(f8 xs k bs).2.2.2=bs.drop m:=by
 unfold f8
 split
 ·exact ⟨0,rfl⟩
 ·split
  ·exact ⟨0,rfl⟩
  ·exact iY _ _ _ _ _ _

theorem uI {bs:List Nat} {n:Nat} (hn:16≤n):dr bs n<2^n:=by
 have h1:bev bs%2^(n-2)<2^(n-2):=Nat.mod_lt _ (Nat.pow_pos (by omega));have h2:2^n=4*2^(n-2):=by
  rw [show n=(n-2)+2 by omega,Nat.pow_add];simp;omega
 have h3:2^(n-2)%2=0:=by
  rw [show n-2=(n-3)+1 by omega,Nat.pow_succ];omega
 unfold dr;generalize bev bs%2^(n-2)=x at *
 split
 ·next h=>omega
 ·omega

theorem DrawR.less {n e r:Nat} (hn:16≤n):∀ {f:Nat} {bs:List Nat} {k:Nat} {P:List Nat} {K:Nat} {R:List Nat},DrawR n e r f bs k (P,K,0,R)→R.length<bs.length
 | 0,_,_,_,_,_,h=>by
  have:=congrArg (fun o=>o.2.2.1) h;simp at this
 | f+1,bs,k,P,K,R,h=>by
  have hz:0<(n+7)/8:=by omega
  rcases h with ⟨_,h2⟩ | ⟨h1,_,h3⟩ | ⟨h1,_,is,ls,E,rest,h3,h4⟩
  ·have:=congrArg (fun o=>o.2.2.1) h2;simp at this
  ·have:=DrawR.less hn h3;rw [List.length_drop] at this;omega
  ·obtain ⟨m,hm⟩:=gH (cC bs n) (r:Int) (bs.drop ((n+7)/8));rw [h3] at hm;have a:rest=(bs.drop ((n+7)/8)).drop m:=hm;have hl:rest.length<bs.length:=by
    rw [a,List.length_drop,List.length_drop];omega
   rcases h4 with ⟨a1,a2⟩ | ⟨_,_,a3⟩ | ⟨_,_,a3⟩
   ·have e1:=congrArg (fun o=>o.2.2.1) a2;simp at e1;exact absurd e1.symm a1
   ·have e1:R=rest:=congrArg (fun o=>o.2.2.2) a3;rw [e1];exact hl
   ·have:=DrawR.less hn a3;omega

def SecR (n e r:Nat) (P:List Nat):Nat→List Nat→List Nat × List Nat × Nat × List Nat→Prop
 | 0,_,_=>False
 | f+1,bs,o=>∃ Q K E R,DrawR n e r 100000 bs 1 (Q,K,E,R)∧((E≠0∧o=([],[],E,R))∨(E=0∧P≠Q∧o=(P,Q,0,R))∨(E=0∧P=Q∧SecR n e r P f R o))

def PairR (n e r:Nat) (bs:List Nat) (o:List Nat × List Nat × Nat × List Nat):Prop:=
 ∃ P K E R,DrawR (n/2) e r 100000 bs 1 (P,K,E,R)∧((E≠0∧o=([],[],E,R))∨(E=0∧SecR (n/2) e r P (R.length+1) R o))

theorem SecR.uniq {n e r:Nat} {P:List Nat}:∀ {f:Nat} {bs:List Nat} {o o':List Nat × List Nat × Nat × List Nat},SecR n e r P f bs o→SecR n e r P f bs o'→o=o'
 | 0,_,_,_,h,_=>h.elim
 | f+1,bs,o,o',⟨Q,K,E,R,h1,h2⟩,⟨Q',K',E',R',g1,g2⟩=>by
  have hu:=h1.uniq g1;obtain ⟨rfl,rfl,rfl,rfl⟩:Q=Q'∧K=K'∧E=E'∧R=R':=by simpa using hu
  rcases h2 with ⟨a1,a2⟩ | ⟨a1,a2,a3⟩ | ⟨a1,a2,a3⟩
  ·rcases g2 with ⟨_,b2⟩ | ⟨b1,_⟩ | ⟨b1,_⟩
   ·exact a2.trans b2.symm
   ·exact absurd b1 a1
   ·exact absurd b1 a1
  ·rcases g2 with ⟨b1,_⟩ | ⟨_,_,b3⟩ | ⟨_,b2,_⟩
   ·exact absurd a1 b1
   ·exact a3.trans b3.symm
   ·exact absurd b2 a2
  ·rcases g2 with ⟨b1,_⟩ | ⟨_,b2,_⟩ | ⟨_,_,b3⟩
   ·exact absurd a1 b1
   ·exact absurd a2 b2
   ·exact SecR.uniq a3 b3

theorem PairR.uniq {n e r:Nat} {bs:List Nat} {o o':List Nat × List Nat × Nat × List Nat} (h:PairR n e r bs o) (g:PairR n e r bs o'):o=o':=by
 obtain ⟨P,K,E,R,h1,h2⟩:=h;obtain ⟨P',K',E',R',g1,g2⟩:=g;have hu:=h1.uniq g1;obtain ⟨rfl,rfl,rfl,rfl⟩:P=P'∧K=K'∧E=E'∧R=R':=by simpa using hu
 rcases h2 with ⟨a1,a2⟩ | ⟨a1,a2⟩
 ·rcases g2 with ⟨_,b2⟩ | ⟨b1,_⟩
  ·exact a2.trans b2.symm
  ·exact absurd b1 a1
 ·rcases g2 with ⟨b1,_⟩ | ⟨_,b2⟩
  ·exact absurd a1 b1
  ·exact a2.uniq b2

theorem DrawR.shape {n e r:Nat}:∀ {f:Nat} {bs:List Nat} {k:Nat} {P:List Nat} {K:Nat} {R:List Nat},DrawR n e r f bs k (P,K,0,R)→∃ cs,P=cC cs n
 | 0,_,_,_,_,_,h=>by
  have:=congrArg (fun o=>o.2.2.1) h;simp at this
 | f+1,bs,k,P,K,R,h=>by
  rcases h with ⟨_,h⟩ | ⟨_,_,h⟩ | ⟨_,_,is,ls,E,rest,_,h⟩
  ·have:=congrArg (fun o=>o.2.2.1) h;simp at this
  ·exact DrawR.shape h
  ·rcases h with ⟨hE,h⟩ | ⟨_,_,h⟩ | ⟨_,_,h⟩
   ·have:=congrArg (fun o=>o.2.2.1) h;exact absurd this.symm hE
   ·exact ⟨bs,congrArg (fun o=>o.1) h⟩
   ·exact DrawR.shape h

theorem SecR.shape {n e r:Nat} {P:List Nat}:∀ {f:Nat} {bs:List Nat} {P' Q R:List Nat},SecR n e r P f bs (P',Q,0,R)→P'=P∧∃ cs,Q=cC cs n
 | 0,_,_,_,_,h=>h.elim
 | f+1,bs,P',Q,R,⟨Q1,K,E,R1,h1,h2⟩=>by
  rcases h2 with ⟨hE,h⟩ | ⟨hE,_,h⟩ | ⟨_,_,h⟩
  ·have:=congrArg (fun o=>o.2.2.1) h;exact absurd this.symm hE
  ·subst hE;obtain ⟨cs,hc⟩:=h1.shape;exact ⟨congrArg (fun o=>o.1) h,cs,(congrArg (fun o=>o.2.1) h).trans hc⟩
  ·exact SecR.shape h

theorem PairR.shape {n e r:Nat} {bs P Q R:List Nat} (h:PairR n e r bs (P,Q,0,R)):(∃ cs,P=cC cs (n/2))∧∃ cs,Q=cC cs (n/2):=by
 obtain ⟨P1,K,E,R1,h1,h2⟩:=h;rcases h2 with ⟨hE,h⟩ | ⟨hE,h⟩
 ·have:=congrArg (fun o=>o.2.2.1) h;exact absurd this.symm hE
 ·subst hE;obtain ⟨cs,hc⟩:=h1.shape;obtain ⟨e1,h3⟩:=h.shape;exact ⟨⟨cs,e1.trans hc⟩,h3⟩

theorem kn (cs:List Nat) (n:Nat):Digs (cC cs n):=ah (by omega) _ _

theorem lh (cs:List Nat) (n:Nat):(cC cs n).length=(n+63)/64:=ag _ _ _

theorem iL {w3:World} {p:Nat} {a0 a1 a2 a3 a4 a5 a6 a7:Value} {t:TypeId} (a:w3.heap[p]? = some (.cells #[a0,a1,a2,a3,a4,a5,a6,a7] t (0,0))) (x0 x1 x2 x3 x4 x5 x6 x7:Value) :
  (dh w3 p x0 x1 x2 x3 x4 x5 x6 x7).heap[p]? = some (.cells #[x0,x1,x2,x3,x4,x5,x6,x7] t (0,0))∧Kept (fun q=>q=p) w3 (dh w3 p x0 x1 x2 x3 x4 x5 x6 x7):=by
 unfold dh;refine ⟨?_,?_⟩
 ·have h0:=heap_setCell_same w3 p 0 _ _ x0 a;have h1:=heap_setCell_same _ p 1 _ _ x1 h0;have h2:=heap_setCell_same _ p 2 _ _ x2 h1;have h3:=heap_setCell_same _ p 3 _ _ x3 h2;have h4:=heap_setCell_same _ p 4 _ _ x4 h3;have h5:=heap_setCell_same _ p 5 _ _ x5 h4;have h6:=heap_setCell_same _ p 6 _ _ x6 h5;have h7:=heap_setCell_same _ p 7 _ _ x7 h6;simpa using h7
 ·exact ((((((((ai (fun q=>q=p) w3).setCell ⟨p,0,none⟩ (fun _=>rfl) _).setCell ⟨p,1,none⟩ (fun _=>rfl) _).setCell ⟨p,2,none⟩ (fun _=>rfl) _).setCell ⟨p,3,none⟩ (fun _=>rfl) _).setCell ⟨p,4,none⟩ (fun _=>rfl) _).setCell ⟨p,5,none⟩ (fun _=>rfl) _).setCell ⟨p,6,none⟩ (fun _=>rfl) _).setCell ⟨p,7,none⟩ (fun _=>rfl) _

theorem Kept.trans2 {S T:Nat→Prop} {a b c:World} (h:Kept S a b) (k:Kept T b c):Kept (fun x=>S x∨T x) a c:=(h.mono (fun _ _ e=>.inl e)).next k (fun _ _ e=>.inr e)

theorem KeyAt.kept9 {S:Nat→Prop} {w w':World} {P Q e B:Nat} {kv:Array Value} (h:KeyAt w P Q e kv) (hf:fB B kv) (k:Kept S w w') (hs:∀ x,B<x→¬ S x):KeyAt w' P Q e kv:=by
 obtain ⟨vn,vd,vp,vq,c,b,a,d,u,rfl,h0,h1,h2,h3,h4,h5,h6,h7,h8,h9,f⟩:=h;have kk:∀ (v:Value) (zs:List Nat),v ∈ #[vn,.int .u64 (e:Nat),vd,vp,vq,c,b,a].toList→Row .u64 w v zs→Row .u64 w' v zs:=fun v zs hv hr=>hr.kept k (fun x hx=>hs x (hf v hv x hx))
 exact ⟨vn,vd,vp,vq,c,b,a,d,u,rfl,kk _ _ (by simp) h0,h1,h2,kk _ _ (by simp) h3,kk _ _ (by simp) h4,kk _ _ (by simp) h5,kk _ _ (by simp) h6,kk _ _ (by simp) h7,h8,h9,kk _ _ (by simp) f⟩

structure KS where
 no:Option Addr
 nl:Nat
 nc:Nat
 en:Nat
 dO:Option Addr
 dl:Nat
 dc:Nat
 po:Option Addr
 pl:Nat
 pc:Nat
 qo:Option Addr
 ql:Nat
 qc:Nat
 dpo:Option Addr
 dpl:Nat
 dpc:Nat
 dqo:Option Addr
 dql:Nat
 dqc:Nat
 qio:Option Addr
 qil:Nat
 qic:Nat

def KS.v (t:KS):Array Value:=#[.slice t.no t.nl t.nc,.int .u64 ((t.en:Nat):Int),.slice t.dO t.dl t.dc,.slice t.po t.pl t.pc,.slice t.qo t.ql t.qc,.slice t.dpo t.dpl t.dpc,.slice t.dqo t.dql t.dqc,.slice t.qio t.qil t.qic]

structure KL where
 n:List Nat
 d:List Nat
 p:List Nat
 q:List Nat
 dp:List Nat
 dq:List Nat
 qi:List Nat

structure KS.Rows (w:World) (t:KS) (l:KL):Prop where
 n:Row .u64 w (.slice t.no t.nl t.nc) l.n
 d:Row .u64 w (.slice t.dO t.dl t.dc) l.d
 p:Row .u64 w (.slice t.po t.pl t.pc) l.p
 q:Row .u64 w (.slice t.qo t.ql t.qc) l.q
 dp:Row .u64 w (.slice t.dpo t.dpl t.dpc) l.dp
 dq:Row .u64 w (.slice t.dqo t.dql t.dqc) l.dq
 qi:Row .u64 w (.slice t.qio t.qil t.qic) l.qi

theorem KS.Rows.grew {w w':World} {t:KS} {l:KL} (h:t.Rows w l) (k:Kept af w w'):t.Rows w' l:=⟨h.n.grew k,h.d.grew k,h.p.grew k,h.q.grew k,h.dp.grew k,h.dq.grew k,h.qi.grew k⟩

structure KL.Digs (l:KL):Prop where
 n:Proofs.YtcemlfokmjjiaaaGreatDoor.Digs l.n
 d:Proofs.YtcemlfokmjjiaaaGreatDoor.Digs l.d
 p:Proofs.YtcemlfokmjjiaaaGreatDoor.Digs l.p
 q:Proofs.YtcemlfokmjjiaaaGreatDoor.Digs l.q
 dp:Proofs.YtcemlfokmjjiaaaGreatDoor.Digs l.dp
 dq:Proofs.YtcemlfokmjjiaaaGreatDoor.Digs l.dq
 qi:Proofs.YtcemlfokmjjiaaaGreatDoor.Digs l.qi

def KeySays (L M P Q e E en:Nat) (l:KL):Prop:=
 (E=0∧bw L M P Q e∧en=e∧∃ d u,ib P Q e d u l.n l.d l.p l.q l.dp l.dq l.qi)∨(E=190∧¬ bw L M P Q e∧en=0∧l=⟨[],[],[],[],[],[],[]⟩)

theorem KeySays.uniq {L M P Q e E E' en a:Nat} {l l':KL} (h:KeySays L M P Q e E en l) (h':KeySays L M P Q e E' a l'):E'=E∧a=en∧l'=l:=by
 rcases h with ⟨rfl,hok,rfl,d,u,h1⟩ | ⟨rfl,hno,rfl,rfl⟩
 ·rcases h' with ⟨rfl,_,rfl,d',u',h2⟩ | ⟨_,hno,_⟩
  ·have hd:d'=d:=jz (Nat.Coprime.symm hok.2.2.2.2.2) h2.1 h1.1 h2.2.1 h1.2.1;have hu:u'=u:=jz hok.2.2.2.1 h2.2.2.1 h1.2.2.1 h2.2.2.2.1 h1.2.2.2.1;subst hd hu;obtain ⟨_,_,_,_,a1,a2,a3,a4,a5,a6,a7⟩:=h1;obtain ⟨_,_,_,_,b1,b2,b3,b4,b5,b6,b7⟩:=h2;refine ⟨rfl,rfl,?_⟩;cases l
   cases l'
   simp only at a1 a2 a3 a4 a5 a6 a7 b1 b2 b3 b4 b5 b6 b7;rw [a1,a2,a3,a4,a5,a6,a7,b1,b2,b3,b4,b5,b6,b7]
  ·exact absurd hok hno
 ·rcases h' with ⟨_,hok,_⟩ | ⟨rfl,_,rfl,rfl⟩
  ·exact absurd hok hno
  ·exact ⟨rfl,rfl,rfl⟩

theorem KeySays.digs {L M P Q e E en:Nat} {l:KL} (h:KeySays L M P Q e E en l):l.Digs:=by
 rcases h with ⟨_,_,_,d,u,h1⟩ | ⟨_,_,_,rfl⟩
 ·obtain ⟨_,_,_,_,a1,a2,a3,a4,a5,a6,a7⟩:=h1;refine ⟨?_,?_,?_,?_,?_,?_,?_⟩
  ·rw [a1];exact ah (by omega) _ _
  ·rw [a2];exact ah (by omega) _ _
  ·rw [a3];exact ah (by omega) _ _
  ·rw [a4];exact ah (by omega) _ _
  ·rw [a5];exact ah (by omega) _ _
  ·rw [a6];exact ah (by omega) _ _
  ·rw [a7];exact ah (by omega) _ _
 ·exact ⟨Digs.nil _,Digs.nil _,Digs.nil _,Digs.nil _,Digs.nil _,Digs.nil _,Digs.nil _⟩

theorem zW (s t:KS) (l m:KL) (R:Bool) (hR:R=true↔s.en=t.en∧l=m) (w:World) (hs:s.Rows w l) (ht:t.Rows w m) :
  Calls Tryz.prog 15 #[.agg s.v,.agg t.v] w fun e w'=>e=.returned (.bool R)∧Kept af w w':=
 pI s.no s.dO s.po s.qo s.dpo s.dqo s.qio t.no t.dO t.po t.qo t.dpo t.dqo t.qio s.nl s.nc s.dl s.dc s.pl s.pc s.ql s.qc s.dpl s.dpc s.dql s.dqc s.qil s.qic t.nl t.nc t.dl t.dc t.pl t.pc t.ql t.qc t.dpl t.dpc t.dql t.dqc t.qil t.qic s.en t.en l.n l.d l.p l.q l.dp l.dq l.qi m.n m.d m.p m.q m.dp m.dq m.qi R (hR.trans ⟨fun h=>by obtain ⟨h1,rfl⟩:=h;exact ⟨h1,rfl,rfl,rfl,rfl,rfl,rfl,rfl⟩,fun h=>⟨h.1,by cases l;cases m;simp only at h;obtain ⟨_,rfl,rfl,rfl,rfl,rfl,rfl,rfl⟩:=h;rfl⟩⟩) w hs.n hs.d hs.p hs.q hs.dp hs.dq hs.qi ht.n ht.d ht.p ht.q ht.dp ht.dq ht.qi

theorem vL {k:IntKind} {w W:World} {ao:Option Addr} {n cap:Nat} {zs:List Nat} (h:Row k w (.slice ao n cap) zs) (kk:Kept af w W) (hp:0<(zs.map fun z:Nat=>Value.int k (z:Int)).length):∃ ad,ao=some ad∧∀ j u,(zs.map fun z:Nat=>Value.int k (z:Int))[j]? = some u→W.cell? (ad.add j)=some u:=by
 rw [List.length_map] at hp;obtain ⟨c,n',a,e,hL,_,_,_,hn⟩:=h.open;cases e
 obtain ⟨b,off,rfl,_⟩:=hn 0 (by have:=hL.out;omega);exact ⟨_,rfl,sQ h kk⟩

open Go.RowKit Go.Shelf

def zd {α:Type} (Sb:Nat→Prop) (I:List α→World→Prop) (Ix:Code→List α→World→Prop) (s:List α) (W:World):Exit→Act→World→Prop
 | .normal,_,W'=>Kept Sb W W'∧I s W'
 | .ret,_,W'=>Kept Sb W W'∧Ix .ret s W'
 | .exit i,_,W'=>Kept Sb W W'∧Ix (.exit i) s W'
 | .goto t,_,W'=>Kept Sb W W'∧Ix (.goto t) s W'
 | .panic _,_,_=>False
 | .outgrown,_,_=>False

theorem gV {W:World} {B l:Nat} (o:Obj) (h:B≤l):Below B W (W.putObj l o):=
 ⟨rfl,rfl,rfl,by simp,fun _ hk=>World.putObj_heap_other (by omega)⟩

theorem dF (W:World) (l:Nat) (o:Obj):Kept (fun b=>b=l) W (W.putObj l o):=
 ⟨rfl,rfl,rfl,by simp,fun _ _ hk=>World.putObj_heap_other hk⟩

theorem iM {k:IntKind} {W:World} {l:Nat} {o:Obj} {v:Value} {zs:List Nat} (o':Obj) (h:Row k W v zs) (hl:W.heap[l]? = some o) (ho:o.isCells=false):Row k (W.putObj l o') v zs:=by
 obtain ⟨ao,cap,rfl,h1,h2,h3,h4⟩:=h;refine ⟨ao,cap,rfl,h1,h2,h3,fun i hi=>?_⟩;obtain ⟨b,off,rfl,hc⟩:=h4 i hi;exact ⟨b,off,rfl,cell_kept hc (grownBy_putObj' W l o') (fun r e=>by cases e;exact ⟨o,hl,ho⟩)⟩

theorem bC {w w':World} {b:Nat} {t:TypeId} {v:Value} (h:Boxed w b t v) (k:Kept af w w'):Boxed w' b t v:=(k.block _ h.lt (fun f=>f)).trans h

theorem aH {S:Nat→Prop} {w w':World} {b:Nat} {t:TypeId} {v:Value} (h:Boxed w b t v) (k:Kept S w w') (hs:¬ S b):Boxed w' b t v:=(k.block _ h.lt hs).trans h

def Books (d:Nat) (r:Loop) (W:World):Prop:=W.heap[d+1]? = some (.loop r)∧W.heap[d]? = some (.deferred (some []))

theorem Books.lt {d:Nat} {r:Loop} {A:World} (h:Books d r A):d+1<A.heap.size:=(Array.getElem?_eq_some_iff.1 h.1).1

theorem Books.put {d:Nat} {r:Loop} {A:World} (h:Books d r A) (r':Loop):Books d r' (A.putObj (d+1) (.loop r')):=
 ⟨World.putObj_heap_same h.lt,(World.putObj_heap_other (by omega)).trans h.2⟩

theorem Books.kept {d:Nat} {r:Loop} {A C:World} {Sb:Nat→Prop} (h:Books d r A) (k:Kept Sb A C) (hs:∀ b,Sb b→b<d):Books d r C:=by
 have hl:=h.lt;exact ⟨(k.block _ hl (fun e=>by have:=hs _ e;omega)).trans h.1,(k.block _ (by omega) (fun e=>by have:=hs _ e;omega)).trans h.2⟩

def LscB (w:World) (b B:Nat) (v:Value) (ps:List Nat) (k:Nat):Prop:=
 w.heap[b]? = some (.cells #[v,.int .i64 (k:Nat)] 56 (0,0))∧Row .u8 w v ps∧k≤ps.length∧ps.length≤1000000∧b<B∧(ps≠[]→∀ x,v.ownBlock=some x→x<B∧x≠b)

def Lsc (w:World) (p:Option Addr) (B:Nat) (bs:List Nat):Prop:=(p=none∧bs=[])∨∃ b v ps k,p=some ⟨b,0,none⟩∧bs=ps.drop k∧LscB w b B v ps k

def ofP (p:Option Addr) (x:Nat):Prop:=p.map Addr.block=some x

theorem LscB.lt {w:World} {b B k:Nat} {v:Value} {ps:List Nat} (h:LscB w b B v ps k):b<w.heap.size:=lt_of_block h.1

theorem LscB.cells {w:World} {b B k:Nat} {v:Value} {ps:List Nat} (h:LscB w b B v ps k):w.cell? ⟨b,0,none⟩=some v∧w.cell? ⟨b,1,none⟩=some (.int .i64 (k:Nat)):=
 ⟨(cell_of_row w b 0 _ _ _ h.1).trans rfl,(cell_of_row w b 1 _ _ _ h.1).trans rfl⟩

theorem LscB.free {w:World} {b B k:Nat} {v:Value} {ps:List Nat} (h:LscB w b B v ps k):w.frozen? ⟨b,1,none⟩=false:=by simp [World.frozen?,h.1]

theorem LscB.kept {S:Nat→Prop} {w w':World} {b B k:Nat} {v:Value} {ps:List Nat} (h:LscB w b B v ps k) (kk:Kept S w w') (hS:∀ x,x<B→¬ S x):LscB w' b B v ps k:=
 ⟨(kk.block b h.lt (hS b h.2.2.2.2.1)).trans h.1,h.2.1.kept' kk (fun e x hx=>hS x (h.2.2.2.2.2 e x hx).1),h.2.2⟩

theorem LscB.put {w:World} {b B k:Nat} {v:Value} {ps:List Nat} (h:LscB w b B v ps k) (m:Nat) (hm:m≤ps.length):LscB (w.setCell ⟨b,1,none⟩ (.int .i64 (m:Nat))) b B v ps m:=by
 refine ⟨?_,h.2.1.kept' ((ai (fun x=>x=b) w).setCell ⟨b,1,none⟩ (fun _=>rfl) _) (fun e x hx=>(h.2.2.2.2.2 e x hx).2),hm,h.2.2.2⟩;have:=heap_setCell_same w b 1 _ 56 (.int .i64 (m:Nat)) h.1;rw [this];rfl

theorem LscB.lsc {w:World} {b B k:Nat} {v:Value} {ps:List Nat} (h:LscB w b B v ps k):Lsc w (some ⟨b,0,none⟩) B (ps.drop k):=.inr ⟨b,v,ps,k,rfl,rfl,h⟩

theorem Lsc.len {w:World} {p:Option Addr} {B:Nat} {bs:List Nat} (h:Lsc w p B bs):bs.length≤1000000:=by
 rcases h with ⟨_,rfl⟩ | ⟨b,v,ps,k,_,rfl,_,_,_,h,_⟩
 ·simp
 ·rw [List.length_drop];omega

theorem Lsc.kept {S:Nat→Prop} {w w':World} {p:Option Addr} {B:Nat} {bs:List Nat} (h:Lsc w p B bs) (k:Kept S w w') (hS:∀ x,x<B→¬ S x):Lsc w' p B bs:=by
 rcases h with h | ⟨b,v,ps,k',e,e2,h⟩
 ·exact .inl h
 ·exact .inr ⟨b,v,ps,k',e,e2,h.kept k hS⟩

theorem Lsc.grew {w w':World} {p:Option Addr} {B:Nat} {bs:List Nat} (h:Lsc w p B bs) (k:Kept af w w'):Lsc w' p B bs:=h.kept k fun _ _ f=>f

theorem Lsc.inP {w:World} {p:Option Addr} {B x:Nat} {bs:List Nat} (h:Lsc w p B bs) (hx:ofP p x):x<B∧x<w.heap.size:=by
 rcases h with ⟨rfl,_⟩ | ⟨b,v,ps,k,rfl,_,h⟩
 ·cases hx
 ·cases hx
  exact ⟨h.2.2.2.2.1,h.lt⟩

theorem Lsc.put {w:World} {p:Option Addr} {B l:Nat} {bs:List Nat} {o:Obj} (o':Obj) (h:Lsc w p B bs) (hl:w.heap[l]? = some o) (ho:o.isCells=false):Lsc (w.putObj l o') p B bs:=by
 rcases h with h | ⟨b,v,ps,k,e,e2,h1,h2,h3⟩
 ·exact .inl h
 ·refine .inr ⟨b,v,ps,k,e,e2,(World.putObj_heap_other fun e=>?_).trans h1,iM o' h2 hl ho,h3⟩;subst e;rw [hl] at h1;cases h1
  cases ho

theorem za (v:Value) (bs:List Nat) (w:World) (h:Row .u8 w v bs) (hl:bs.length≤1000000) :
  Calls Tryz.prog 20 #[v] w fun e w'=>∃ u,e=.returned u∧OwnB w' w.heap.size u bs∧Kept af w w':=by
 obtain ⟨i0,f,q,g,n⟩:=info_parts Tryz.info8s;have HX:=aa h;obtain ⟨ao,na,ca,rfl,b,x,y,_⟩:=h.open;obtain ⟨CS,a⟩:∃ CS,CS=bs.map fun z:Nat=>Value.int .u8 (z:Int):=⟨_,rfl⟩
 have HC:=aa a;have l:Hid (CS.length=na):=by unfold Hid;rw [a,List.length_map];exact b.out
 have d:Hid (∀ W,Kept af w W→0<CS.length→∃ ad,ao=some ad∧∀ j u,CS[j]? = some u→W.cell? (ad.add j)=some u):=by rw [a];exact fun W k hp=>vL HX.out k hp
 have o:Hid (∀ u ∈ CS,u.oneCell'=true):=by rw [a];exact BY _ _
 have t:na≤1000000:=by have:=b.out;omega
 clear h a;go_enter Tryz.func20,Tryz.ntmps20;go_wp2_with (at_make;refine wpList_make_full _ rfl _ _ 22 rfl w.heap.size 5 i0 _ 1 Tryz.underlying22 f q g _ _ _ _ na rfl rfl rfl rfl (by rw [n];omega) (by unfold maxLen;omega) (leR _) ?_;intro w1 c i;rw [aG] at c;have k1:=aD i;obtain ⟨w2,p,m,k2⟩:=df (P:=Tryz.prog) 22 22 3 5 w.heap.size 0 na na (some ⟨w.heap.size,0,none⟩) ao na ca _ 5 CS Tryz.underlying22 (by rw [f];simp [g]) (et c) (by rw [l.out];exact (Nat.min_self _).symm) (fun hp=>⟨rfl,d.out _ k1 hp⟩) (by have:=l.out;simp;omega) o.out;have s:Hid _:=m;have r:=aa (cP k1 k2 (leR _));clear m c i k1 k2)
 have hA:=s.out;rw [HC.out,dU,b.out,Nat.sub_self,List.replicate_zero,List.append_nil] at hA;go_ret;exact ⟨_,rfl,OwnB.of (cl hA b.out (by unfold maxLen;omega) (leR _)),r.out⟩

theorem yk (v:Value) (bs:List Nat) (w:World) (h:Row .u8 w v bs) (hl:bs.length≤1000000) :
  Calls Tryz.prog 8 #[v] w fun e w'=>∃ b,e=.returned (.pointer (some ⟨b,0,none⟩))∧w.heap.size≤b∧Lsc w' (some ⟨b,0,none⟩) w'.heap.size bs∧Kept af w w':=by
 have J:=za v bs w h hl;clear h;go_enter Tryz.func8,Tryz.ntmps8;go_wp2_with fail;refine J.mono ?_;rintro e w1 ⟨u,rfl,hO,k1⟩;have hs:=k1.size;have k2:Kept af w1 (w1.alloc (.cells #[u,.int .i64 0] 56)):=(ai _ _).alloc _;have HR:Hid (LscB (w1.alloc (.cells #[u,.int .i64 0] 56)) w1.heap.size (w1.alloc (.cells #[u,.int .i64 0] 56)).heap.size u bs 0):=by
  refine ⟨World.alloc_heap_new w1 _,hO.row.grew k2,Nat.zero_le _,hl,by simp,fun _ x hx=>?_⟩;have:=(hO.lt x hx).2;rw [World.size_alloc];omega
 have HK:=aa (k1.alloc (.cells #[u,.int .i64 0] 56));obtain ⟨ao,cap,rfl⟩:=bh hO;clear J k1 k2 hO;go_wp2_with fail;go_ret;exact ⟨_,rfl,hs,HR.out.lsc,HK.out⟩

theorem uS (p:Option Addr) (B:Nat) (bs:List Nat) (w:World) (h:Lsc w p B bs) :
  Calls Tryz.prog 12 #[.pointer p] w fun e w'=>e=.returned (.int .i64 (bs.length:Nat))∧Kept af w w':=by
 rcases h with ⟨rfl,rfl⟩ | ⟨b,v,ps,k,rfl,rfl,h⟩
 ·go_enter Tryz.func12,Tryz.ntmps12;go_wp2_with fail;go_ret;exact ⟨rfl,ai _ _⟩
 ·obtain ⟨c0,c1⟩:=h.cells;obtain ⟨ao,L,cap,rfl,hL,f,i,c,a⟩:=h.2.1.open;have hk:k≤L:=by rw [← hL.out];exact h.2.2.1
  have g:L≤1000000:=by rw [← hL.out];exact h.2.2.2.1
  have e1:(ps.drop k).length=L-k:=by rw [List.length_drop,hL.out]
  rw [e1];obtain ⟨d,hd⟩:∃ d,d=L-k:=⟨_,rfl⟩
  rw [← hd];have g1:(L:Int)-(k:Int)=(d:Int):=by omega
  clear hd e1 a h c;go_enter Tryz.func12,Tryz.ntmps12;go_wp2_with fail;go_quiet (fail);go_wp2_with fail;go_ret;exact ⟨rfl,(ai _ _).drewN _⟩

theorem gZ {k:IntKind} {w:World} {ao:Option Addr} {cap:Nat} (h:ao=none→cap=0) (hc:cap≤maxLen):Row k w (.slice ao 0 cap) []:=
 ⟨ao,cap,rfl,Nat.zero_le _,hc,h,fun i hi=>absurd hi (by simp)⟩

theorem vT {k:IntKind} {w:World} {ao:Option Addr} {L cap s m:Nat} {zs:List Nat} (h:Row k w (.slice ao L cap) zs) (h2:s+m≤L) :
  (ao=none→Row k w (.slice none 0 0) ((zs.drop s).take m))∧(∀ ad,ao=some ad→cap=s→Row k w (.slice (some ad) 0 0) ((zs.drop s).take m))∧(∀ ad,ao=some ad→cap≠s→Row k w (.slice (some (ad.add s)) m (cap-s)) ((zs.drop s).take m)):=by
 obtain ⟨_,_,_,e,hL,d,f,c,a⟩:=h.open;cases e
 have hz:m=0→(zs.drop s).take m=[]:=fun e=>by rw [e];rfl
 refine ⟨fun e=>?_,fun ad e ec=>?_,fun ad e ec=>?_⟩
 ·have:=c e;rw [hz (by omega)];exact Row.nil _ _
 ·rw [hz (by omega)];exact gZ (fun e=>by cases e) (Nat.zero_le _)
 ·subst e;by_cases hm:m=0
  ·rw [hz hm,hm];exact gZ (fun e=>by cases e) (by unfold maxLen at *;omega)
  ·obtain ⟨b,off,e,_⟩:=a 0 (by omega);cases e
   have ea:(⟨b,off,none⟩:Addr).add s=⟨b,off+s,none⟩:=by unfold Addr.add;split <;> simp_all
   rw [ea];exact tX h h2

theorem vx (B n:Nat) (w:World) :
  Calls Tryz.prog 114 #[.pointer none,.int .i64 (n:Int)] w fun e w'=>∃ u,e=.returned (.tuple #[u,.int .i64 (cL [] n:Nat)])∧Row .u8 w' u (dt [] n)∧Lsc w' none B (dH [] n)∧Kept (ofP none) w w':=by
 have hR:dH [] (n:Int)=[]:=by unfold dH;split <;> simp
 have hL:dt [] (n:Int)=[]:=by unfold dt;split <;> simp
 rw [hR,hL];have J:=yk (.slice none 0 0) [] w (Row.nil _ _) (by simp);by_cases h0:n=0
 ·subst h0;have hE:cL [] ((0:Nat):Int)=0:=rfl;rw [hE];clear hE hR hL;go_enter Tryz.func114,Tryz.ntmps114;go_wp2_with fail;refine J.mono ?_;rintro e w1 ⟨b,rfl,hb,h1,k1⟩;have J2:=uS _ _ _ w1 h1;have c:=aa k1;have H1:=aa h1;clear J k1 h1;go_wp2_with fail;refine J2.mono ?_;rintro e w2 ⟨rfl,k2⟩;have f:=aa (c.out.trans k2);have h2:=H1.out.grew k2;rcases h2 with ⟨e,_⟩ | ⟨b',v,ps,k,e,ed,h2⟩
  ·cases e
  cases e
  obtain ⟨c0,c1⟩:=h2.cells;have f1:=h2.free;have h3:=h2.put k h2.2.2.1;obtain ⟨d0,d1⟩:=h3.cells;have o:=h2.2.2.2.1;have i:k=ps.length:=by
   have e1:=congrArg List.length ed;rw [List.length_drop] at e1;have e2:=h2.2.2.1;have e3:([]:List Nat).length=0:=rfl;omega
  obtain ⟨ao,L,cap,rfl,hL,l,m,g,a⟩:=h2.2.1.open;obtain rfl:k=L:=i.trans hL.out;have d:Hid (Kept (ofP none) w (w2.setCell ⟨b,1,none⟩ (.int .i64 (k:Nat)))):=(f.out.any (S:=ofP none)).setCell _ (fun h=>absurd h (by show ¬ b<w.heap.size;omega)) _;have g1:(k:Int)+0=(k:Int):=by omega
  have g0:(0:Int)≤(k:Int):=by omega
  have g2:(k:Int)≤(cap:Int):=by omega
  have j:k≤1000000:=by omega
  have HN:=aa g;have HB:=aa hb;clear J2 h2 h3 k2 a g c f H1 ed i hL o hb;cases ao with
  | none=>
   obtain rfl:=HN.out rfl;obtain rfl:k=0:=by omega
   go_wp2_with fail;go_quiet (fail);go_wp2_with fail;go_ret2;exact ⟨_,rfl,Row.nil _ _,.inl ⟨rfl,rfl⟩,d.out.drewN _⟩
  | some ad=>
   by_cases hck:cap=k
   ·subst hck;go_wp2_with fail;go_quiet (fail);go_wp2_with fail;go_ret2;exact ⟨_,rfl,gZ (fun e=>by cases e) (by unfold maxLen at *;omega),.inl ⟨rfl,rfl⟩,d.out.drewN _⟩
   ·go_wp2_with fail;go_quiet (fail);go_wp2_with fail;go_ret2;exact ⟨_,rfl,gZ (fun e=>by cases e) (by unfold maxLen at *;omega),.inl ⟨rfl,rfl⟩,d.out.drewN _⟩
 ·have hE:cL [] (n:Int)=150:=by unfold cL;rw [if_neg (by omega),if_pos (by simp;omega)]
  rw [hE];have g1:(n:Int) > ((0:Nat):Int):=by omega
  have g2:((0:Nat):Int)<(n:Int):=by omega
  have g3:(0:Int)<(n:Int):=by omega
  clear hE hR hL;go_enter Tryz.func114,Tryz.ntmps114;go_wp2_with fail;refine J.mono ?_;rintro e w1 ⟨b,rfl,hb,h1,k1⟩;have J2:=uS _ _ _ w1 h1;have c:=aa k1;have H1:=aa h1;clear J k1 h1;go_wp2_with fail;refine J2.mono ?_;rintro e w2 ⟨rfl,k2⟩;have f:=aa (c.out.trans k2);have h2:=H1.out.grew k2;rcases h2 with ⟨e,_⟩ | ⟨b',v,ps,k,e,ed,h2⟩
  ·cases e
  cases e
  obtain ⟨c0,c1⟩:=h2.cells;have f1:=h2.free;obtain ⟨ao,L,cap,rfl,hL,l,m,g,a⟩:=h2.2.1.open;have d:Hid (Kept (ofP none) w (w2.setCell ⟨b,1,none⟩ (.int .i64 (L:Nat)))):=(f.out.any (S:=ofP none)).setCell _ (fun h=>absurd h (by show ¬ b<w.heap.size;omega)) _;clear J2 h2 k2 a g c f H1 ed;go_wp2_with fail;go_ret2;exact ⟨_,rfl,Row.nil _ _,.inl ⟨rfl,rfl⟩,d.out⟩

theorem Au (b B n k:Nat) (v:Value) (ps:List Nat) (w:World) (h:LscB w b B v ps k) :
  Calls Tryz.prog 114 #[.pointer (some ⟨b,0,none⟩),.int .i64 (n:Int)] w fun e w'=>∃ u,e=.returned (.tuple #[u,.int .i64 (cL (ps.drop k) n:Nat)])∧Row .u8 w' u (dt (ps.drop k) n)∧Lsc w' (some ⟨b,0,none⟩) B (dH (ps.drop k) n)∧Kept (fun x=>x=b) w w':=by
 have J:=uS _ _ _ w h.lsc;have H:=aa h;obtain ⟨ao,L,cap,rfl,hL,t,z,a,g⟩:=h.2.1.open;have p:k≤L:=by rw [← hL.out];exact h.2.2.1
 have y:L≤1000000:=by rw [← hL.out];exact h.2.2.2.1
 have hd:(ps.drop k).length=L-k:=by rw [List.length_drop,hL.out]
 rw [hd] at J;obtain ⟨d,j⟩:∃ d,d=L-k:=⟨_,rfl⟩
 rw [← j] at J hd;by_cases h1:d<n
 ·have e1:cL (ps.drop k) (n:Int)=150:=by unfold cL;rw [if_neg (by omega),if_pos (by omega)]
  have e2:dt (ps.drop k) (n:Int)=[]:=by unfold dt;rw [e1];rfl
  have e3:dH (ps.drop k) (n:Int)=ps.drop ps.length:=by
   unfold dH;rw [if_neg (by omega),List.drop_of_length_le (by rw [hd];show d≤((n:Int)).toNat;omega),List.drop_of_length_le (leR _)]
  rw [e1,e2,e3];have g1:(n:Int) > (d:Int):=by omega
  have g2:(d:Int)<(n:Int):=by omega
  have i:=aa hL.out;clear e1 e2 e3 h g a j hd hL;go_enter Tryz.func114,Tryz.ntmps114;go_wp2_with fail;refine J.mono ?_;rintro e w1 ⟨rfl,k1⟩;have H1:=aa (H.out.kept k1 (fun _ _ f=>f));obtain ⟨c0,c1⟩:=H1.out.cells;have f1:=H1.out.free;have HP:=aa (H1.out.put L (by rw [i.out];exact leR _));have HK:=aa ((k1.any (S:=fun x=>x=b)).setCell ⟨b,1,none⟩ (fun _=>rfl) (.int .i64 (L:Nat)));clear J k1;go_wp2_with fail;go_ret2;exact ⟨_,rfl,Row.nil _ _,by rw [i.out];exact HP.out.lsc,HK.out⟩
 ·have e1:cL (ps.drop k) (n:Int)=0:=by unfold cL;rw [if_neg (by omega),if_neg (by omega)]
  have e2:dt (ps.drop k) (n:Int)=(ps.drop k).take n:=by unfold dt;rw [e1];rfl
  have e3:dH (ps.drop k) (n:Int)=ps.drop (k+n):=by
   unfold dH;rw [if_neg (by omega),List.drop_drop];rfl
  rw [e1,e2,e3];obtain ⟨m,hm⟩:∃ m,m=k+n:=⟨_,rfl⟩
  rw [← hm];have g1:¬ (n:Int) > (d:Int):=by omega
  have g2:¬ (d:Int)<(n:Int):=by omega
  have g3:(k:Int)+(n:Int)=(m:Int):=by omega
  have g4:(k:Int)≤(m:Int):=by omega
  have g5:(m:Int)≤(cap:Int):=by omega
  have g6:(0:Int)≤(k:Int):=by omega
  have g7:m-k=n:=by omega
  have l:m≤L:=by omega
  have s:m≤cap:=by omega
  have r:k≤m:=by omega
  have i:=aa hL.out;have A:k≤1000000:=by omega
  have q:m≤1000000:=by omega
  have HN:=aa a;have o:=aa (show k+n≤L by omega);clear e1 e2 e3 h g j hd hL hm;go_enter Tryz.func114,Tryz.ntmps114;go_wp2_with fail;refine J.mono ?_;rintro e w1 ⟨rfl,k1⟩;have H1:=aa (H.out.kept k1 (fun _ _ f=>f));obtain ⟨c0,c1⟩:=H1.out.cells;have f1:=H1.out.free;have HP:=aa (H1.out.put m (by rw [i.out];exact l));obtain ⟨d0,d1⟩:=HP.out.cells;have HK:=aa ((k1.any (S:=fun x=>x=b)).setCell ⟨b,1,none⟩ (fun _=>rfl) (.int .i64 (m:Nat)));have HC:=aa (vT HP.out.2.1 o.out);clear J k1;cases ao with
  | none=>
   obtain rfl:=HN.out rfl;obtain rfl:L=0:=by omega
   obtain rfl:m=0:=by omega
   obtain rfl:k=0:=by omega
   obtain rfl:n=0:=by omega
   have c:=aa (HC.out.1 rfl);clear HC a;go_wp2_with fail;go_quiet (fail);go_wp2_with fail;go_ret2;exact ⟨_,rfl,c.out.kept' (S:=af) ((ai _ _).drewN _) (fun _ _ _ f=>f),HP.out.lsc.grew ((ai _ _).drewN _),HK.out.drewN _⟩
  | some ad=>
   by_cases hck:cap=k
   ·have c:=aa (HC.out.2.1 ad rfl hck);obtain rfl:m=k:=by omega
    obtain rfl:n=0:=by omega
    subst hck;clear HC a;go_wp2_with fail;go_quiet (fail);go_wp2_with fail;go_ret2;exact ⟨_,rfl,c.out.kept' (S:=af) ((ai _ _).drewN _) (fun _ _ _ f=>f),HP.out.lsc.grew ((ai _ _).drewN _),HK.out.drewN _⟩
   ·have c:=aa (HC.out.2.2 ad rfl hck);clear HC a;go_wp2_with fail;go_quiet (fail);go_wp2_with fail;go_ret2;exact ⟨_,rfl,c.out.kept' (S:=af) ((ai _ _).drewN _) (fun _ _ _ f=>f),HP.out.lsc.grew ((ai _ _).drewN _),HK.out.drewN _⟩

theorem Bi (p:Option Addr) (B n:Nat) (bs:List Nat) (w:World) (h:Lsc w p B bs) :
  Calls Tryz.prog 114 #[.pointer p,.int .i64 (n:Int)] w fun e w'=>∃ u,e=.returned (.tuple #[u,.int .i64 (cL bs n:Nat)])∧Row .u8 w' u (dt bs n)∧Lsc w' p B (dH bs n)∧Kept (ofP p) w w':=by
 rcases h with ⟨rfl,rfl⟩ | ⟨b,v,ps,k,rfl,rfl,h⟩
 ·exact vx B n w
 ·refine (Au b B n k v ps w h).mono ?_;rintro e w' ⟨u,he,h1,h2,h3⟩;exact ⟨u,he,h1,h2,h3.mono fun x _ e=>by cases e;rfl⟩

theorem vy (bs:List Nat) (n:Nat):cL bs n=0∨cL bs n=150:=by
 unfold cL;rw [if_neg (by omega)]
 split <;> simp

theorem sN (bs:List Nat) (n:Int):(dt bs n).length≤bs.length:=by
 unfold dt
 split
 ·rw [List.length_take];omega
 ·simp

theorem yT (p:Option Addr) (B:Nat) (bs:List Nat) (n:Int) (w:World) (h:Lsc w p B bs) :
  Calls Tryz.prog 73 #[.pointer p,.int .i64 n] w fun e w'=>∃ u,e=.returned (.tuple #[u,.int .i64 (cL bs n:Nat)])∧OwnB w' w.heap.size u (dt bs n)∧Lsc w' p B (dH bs n)∧Kept (ofP p) w w':=by
 have H:=aa h;by_cases h1:n<0
 ·have e1:cL bs n=1:=by unfold cL;rw [if_pos h1]
  have e2:dt bs n=[]:=by unfold dt;rw [e1];rfl
  have e3:dH bs n=bs:=by unfold dH;rw [if_pos h1]
  rw [e1,e2,e3];clear e1 e2 e3 h;go_enter Tryz.func73,Tryz.ntmps73;go_wp2_with fail;go_ret2;exact ⟨_,rfl,OwnB.nil _ _,H.out,ai _ _⟩
 ·obtain ⟨m,rfl⟩:=Int.eq_ofNat_of_zero_le (show 0≤n by omega);have J:=Bi p B m bs w h;have hb:=(sN bs (m:Int))
  have d:=h.len;have HE:=vy bs m;have HL:Hid (cL bs (m:Int)≠0→dt bs (m:Int)=[]):=fun e=>if_neg e
  generalize dt bs (m:Int)=l at *;generalize cL bs (m:Int)=E at *;generalize dH bs (m:Int)=r at *;clear h;go_enter Tryz.func73,Tryz.ntmps73;go_wp2_with fail;refine J.mono ?_;rintro e w1 ⟨u,rfl,hr,a,k1⟩;have J2:=za u l w1 hr (by omega);have HS:=aa a;have HK:=aa k1;obtain ⟨ao,L,cap,rfl,_⟩:=hr.open;clear J k1 a hr;rcases HE with rfl | rfl
  ·clear HL;go_wp2_with fail;refine J2.mono ?_;rintro e w2 ⟨u2,rfl,hO,k2⟩;have b:=aa (HS.out.grew k2);have HO:=aa (hO.base HK.out.size);have c:=aa (HK.out.trans k2.any);clear J2 k2 hO;go_wp2_with fail;go_ret2;exact ⟨_,rfl,HO.out,b.out,c.out⟩
  ·obtain rfl:=HL.out (by decide);clear J2;go_wp2_with fail;go_ret2;exact ⟨_,rfl,OwnB.nil _ _,HS.out,HK.out⟩

def eJ (p:Option Addr) (w:World):Nat:=match p with
 | none=>0
 | some a=>match w.cell? ⟨a.block,0,none⟩,w.cell? ⟨a.block,1,none⟩ with
  | some v,some (.int _ k)=>vu v-k.toNat
  | _,_=>0

theorem Lsc.left {w:World} {p:Option Addr} {B:Nat} {bs:List Nat} (h:Lsc w p B bs):eJ p w=bs.length:=by
 rcases h with ⟨rfl,rfl⟩ | ⟨b,v,ps,k,rfl,rfl,h⟩
 ·rfl
 ·obtain ⟨c0,c1⟩:=h.cells;obtain ⟨_,_,e,_⟩:=h.2.1;unfold eJ;simp only [c0,c1];rw [e,List.length_drop];rfl

end Go.Proofs.YtcemlfokmjjiaaaGreatDoor
