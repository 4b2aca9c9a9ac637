/- Put together of: Base1 OpenRow. -/
import Derived.Test.YtpkmoamgpjcdeaaGreatDoorRows
import Derived.WalkKit
import Derived.WalkSpells
import Derived.WalkLawsBesides
import Derived.OwnWalk
import Derived.OneCell
import Derived.Deep.AppendLies
import Derived.Deep.Draws
import Derived.Lib.MinMax
import Derived.Deep.QuietTactic
import Derived.BigQuiet
import Derived.Laws.BitsAllLaws
import Derived.Laws.CopyOwn
import Derived.Laws.IdiomCopy
import Derived.OpenShut

namespace Go.Proofs.YtpkmoamgpjcdeaaGreatDoor
open _root_.Go.Proofs.Tryz
set_option maxRecDepth 100000
set_option maxHeartbeats 4000000
open Go.RowKit
variable {B V i m n x:Nat} {S:Nat->Prop} {e:TypeId} {k:IntKind} {w w':World} {xs:List Value}

theorem mf:type_of% @Array.getElem?_eq_some_iff:=@Array.getElem?_eq_some_iff

theorem iS:type_of% @Array.replicate_succ:=@Array.replicate_succ

theorem iT:type_of% @Array.replicate_zero:=@Array.replicate_zero

theorem mg:type_of% @Bool.false_eq_true:=@Bool.false_eq_true

theorem eN:type_of% @Int.eq_ofNat_of_zero_le:=@Int.eq_ofNat_of_zero_le

theorem pH:type_of% @Int.le_of_mul_le_mul_left:=@Int.le_of_mul_le_mul_left

theorem iE:type_of% @Int.mul_assoc:=@Int.mul_assoc

theorem iF:type_of% @Int.mul_le_mul_of_nonneg_left:=@Int.mul_le_mul_of_nonneg_left

theorem mh:type_of% @Int.mul_le_mul_of_nonneg_right:=@Int.mul_le_mul_of_nonneg_right

theorem mi:type_of% @Int.mul_nonneg:=@Int.mul_nonneg

theorem ny:type_of% @Int.natCast_mul:=@Int.natCast_mul

theorem cN:type_of% @Int.natCast_nonneg:=@Int.natCast_nonneg

theorem kT:type_of% @Int.one_mul:=@Int.one_mul

theorem mj:type_of% @Int.pow_succ:=@Int.pow_succ

theorem jO:type_of% @Int.tmod_eq_emod_of_nonneg:=@Int.tmod_eq_emod_of_nonneg

theorem dX:type_of% @List.append_assoc:=@List.append_assoc

theorem dY:type_of% @List.append_nil:=@List.append_nil

theorem iU:type_of% @List.append_toArray:=@List.append_toArray

theorem fJ:type_of% @List.cons_append:=@List.cons_append

theorem ju:type_of% @List.drop_drop:=@List.drop_drop

theorem eE:type_of% @List.drop_eq_getElem_cons:=@List.drop_eq_getElem_cons

theorem nA:type_of% @List.drop_eq_nil_of_le:=@List.drop_eq_nil_of_le

theorem kU:type_of% @List.drop_of_length_le:=@List.drop_of_length_le

theorem il:type_of% @List.drop_zero:=@List.drop_zero

theorem kX:type_of% @List.eq_nil_of_length_eq_zero:=@List.eq_nil_of_length_eq_zero

theorem aA:type_of% @List.getD_eq_getElem?_getD:=@List.getD_eq_getElem?_getD

theorem im:type_of% @List.getElem?_append_left:=@List.getElem?_append_left

theorem io:type_of% @List.getElem?_append_right:=@List.getElem?_append_right

theorem fd:type_of% @List.getElem?_drop:=@List.getElem?_drop

theorem aS:type_of% @List.getElem?_eq_getElem:=@List.getElem?_eq_getElem

theorem ip:type_of% @List.getElem?_eq_none:=@List.getElem?_eq_none

theorem nB:type_of% @List.getElem?_eq_some_iff:=@List.getElem?_eq_some_iff

theorem bV:type_of% @List.getElem?_map:=@List.getElem?_map

theorem eF:type_of% @List.getElem?_replicate:=@List.getElem?_replicate

theorem eG:type_of% @List.getElem?_take:=@List.getElem?_take

theorem gD:type_of% @List.getElem_cons_succ:=@List.getElem_cons_succ

theorem fK:type_of% @List.getElem_cons_zero:=@List.getElem_cons_zero

theorem fL:type_of% @List.getElem_toArray:=@List.getElem_toArray

theorem bk:type_of% @List.length_append:=@List.length_append

theorem dh:type_of% @List.length_cons:=@List.length_cons

theorem cV:type_of% @List.length_drop:=@List.length_drop

theorem ml:type_of% @List.length_eq_zero_iff:=@List.length_eq_zero_iff

theorem cJ:type_of% @List.length_map:=@List.length_map

theorem fB:type_of% @List.length_nil:=@List.length_nil

theorem mn:type_of% @List.length_range:=@List.length_range

theorem bw:type_of% @List.length_replicate:=@List.length_replicate

theorem mo:type_of% @List.length_set:=@List.length_set

theorem aR:type_of% @List.length_take:=@List.length_take

theorem dR:type_of% @List.map_append:=@List.map_append

theorem jP:type_of% @List.map_cons:=@List.map_cons

theorem kY:type_of% @List.map_nil:=@List.map_nil

theorem cG:type_of% @List.map_set:=@List.map_set

theorem fM:type_of% @List.mem_cons:=@List.mem_cons

theorem jv:type_of% @List.mem_map:=@List.mem_map

theorem nC:type_of% @List.mem_or_eq_of_mem_set:=@List.mem_or_eq_of_mem_set

theorem j8:type_of% @List.mem_range:=@List.mem_range

theorem ff:type_of% @List.mem_replicate:=@List.mem_replicate

theorem bZ:type_of% @List.nil_append:=@List.nil_append

theorem iV:type_of% @List.push_toArray:=@List.push_toArray

theorem kZ:type_of% @List.range_succ:=@List.range_succ

theorem nD:type_of% @List.replicate_append_replicate:=@List.replicate_append_replicate

theorem j9:type_of% @List.replicate_succ:=@List.replicate_succ

theorem iq:type_of% @List.replicate_succ':=@List.replicate_succ'

theorem fg:type_of% @List.replicate_zero:=@List.replicate_zero

theorem ir:type_of% @List.set_append_right:=@List.set_append_right

theorem pI:type_of% @List.singleton_append:=@List.singleton_append

theorem iW:type_of% @List.size_toArray:=@List.size_toArray

theorem kh:type_of% @List.take_append_drop:=@List.take_append_drop

theorem dS:type_of% @List.take_of_length_le:=@List.take_of_length_le

theorem mq:type_of% @List.take_succ_eq_append_getElem:=@List.take_succ_eq_append_getElem

theorem nE:type_of% @List.take_take:=@List.take_take

theorem nF:type_of% @List.take_zero:=@List.take_zero

theorem iX:type_of% @Nat.add_assoc:=@Nat.add_assoc

theorem lf:type_of% @Nat.add_comm:=@Nat.add_comm

theorem ki:type_of% @Nat.add_mod:=@Nat.add_mod

theorem nG:type_of% @Nat.add_mod_right:=@Nat.add_mod_right

theorem dm:type_of% @Nat.add_mul:=@Nat.add_mul

theorem jQ:type_of% @Nat.add_mul_div_left:=@Nat.add_mul_div_left

theorem eO:type_of% @Nat.add_mul_mod_self_left:=@Nat.add_mul_mod_self_left

theorem gF:type_of% @Nat.add_sub_cancel:=@Nat.add_sub_cancel

theorem pJ:type_of% @Nat.add_sub_cancel_left:=@Nat.add_sub_cancel_left

theorem aV:type_of% @Nat.add_zero:=@Nat.add_zero

theorem sS:type_of% @Nat.and_two_pow_sub_one_of_lt_two_pow:=@Nat.and_two_pow_sub_one_of_lt_two_pow

theorem dD:type_of% @Nat.div_add_mod:=@Nat.div_add_mod

theorem di:type_of% @Nat.div_div_eq_div_mul:=@Nat.div_div_eq_div_mul

theorem bJ:type_of% @Nat.div_eq_of_lt:=@Nat.div_eq_of_lt

theorem em:type_of% @Nat.div_le_self:=@Nat.div_le_self

theorem cW:type_of% @Nat.div_lt_iff_lt_mul:=@Nat.div_lt_iff_lt_mul

theorem fC:type_of% @Nat.div_one:=@Nat.div_one

theorem fE:type_of% @Nat.dvd_of_mod_eq_zero:=@Nat.dvd_of_mod_eq_zero

theorem cE:type_of% @Nat.eq_zero_or_pos:=@Nat.eq_zero_or_pos

theorem ft:type_of% @Nat.gcd_comm:=@Nat.gcd_comm

theorem kj:type_of% @Nat.gcd_rec:=@Nat.gcd_rec

theorem nH:type_of% @Nat.le_div_iff_mul_le:=@Nat.le_div_iff_mul_le

theorem mu:type_of% @Nat.le_of_dvd:=@Nat.le_of_dvd

theorem eH:type_of% @Nat.le_of_lt:=@Nat.le_of_lt

theorem aI:type_of% @Nat.le_trans:=@Nat.le_trans

theorem fF:type_of% @Nat.lt_of_le_of_lt:=@Nat.lt_of_le_of_lt

theorem bi:type_of% @Nat.lt_of_lt_of_le:=@Nat.lt_of_lt_of_le

theorem gG:type_of% @Nat.lt_or_ge:=@Nat.lt_or_ge

theorem bH:type_of% @Nat.lt_trans:=@Nat.lt_trans

theorem it:type_of% @Nat.max_self:=@Nat.max_self

theorem jw:type_of% @Nat.min_eq_left:=@Nat.min_eq_left

theorem iY:type_of% @Nat.mod_add_div:=@Nat.mod_add_div

theorem aY:type_of% @Nat.mod_lt:=@Nat.mod_lt

theorem ep:type_of% @Nat.mod_mod:=@Nat.mod_mod

theorem nI:type_of% @Nat.mod_mod_of_dvd:=@Nat.mod_mod_of_dvd

theorem lh:type_of% @Nat.mod_mul:=@Nat.mod_mul

theorem Et:type_of% @Nat.mod_one:=@Nat.mod_one

theorem aJ:type_of% @Nat.mul_add:=@Nat.mul_add

theorem gH:type_of% @Nat.mul_add_div:=@Nat.mul_add_div

theorem iZ:type_of% @Nat.mul_add_mod:=@Nat.mul_add_mod

theorem bd:type_of% @Nat.mul_assoc:=@Nat.mul_assoc

theorem aD:type_of% @Nat.mul_comm:=@Nat.mul_comm

theorem er:type_of% @Nat.mul_le_mul:=@Nat.mul_le_mul

theorem bG:type_of% @Nat.mul_le_mul_left:=@Nat.mul_le_mul_left

theorem cF:type_of% @Nat.mul_le_mul_right:=@Nat.mul_le_mul_right

theorem iu:type_of% @Nat.mul_left_comm:=@Nat.mul_left_comm

theorem mw:type_of% @Nat.mul_lt_mul_of_lt_of_le:=@Nat.mul_lt_mul_of_lt_of_le

theorem mx:type_of% @Nat.mul_lt_mul_of_lt_of_lt:=@Nat.mul_lt_mul_of_lt_of_lt

theorem my:type_of% @Nat.mul_lt_mul_of_pos_left:=@Nat.mul_lt_mul_of_pos_left

theorem nJ:type_of% @Nat.mul_lt_mul_of_pos_right:=@Nat.mul_lt_mul_of_pos_right

theorem cH:type_of% @Nat.mul_mod:=@Nat.mul_mod

theorem pM:type_of% @Nat.mul_mod_mul_left:=@Nat.mul_mod_mul_left

theorem bI:type_of% @Nat.mul_one:=@Nat.mul_one

theorem gI:type_of% @Nat.mul_pos:=@Nat.mul_pos

theorem li:type_of% @Nat.mul_sub:=@Nat.mul_sub

theorem df:type_of% @Nat.mul_zero:=@Nat.mul_zero

theorem iG:type_of% @Nat.one_mul:=@Nat.one_mul

theorem aL:type_of% @Nat.pow_add:=@Nat.pow_add

theorem bj:type_of% @Nat.pow_le_pow_right:=@Nat.pow_le_pow_right

theorem jx:type_of% @Nat.pow_mod:=@Nat.pow_mod

theorem aW:type_of% @Nat.pow_mul:=@Nat.pow_mul

theorem i8:type_of% @Nat.pow_one:=@Nat.pow_one

theorem iH:type_of% @Nat.pow_pos:=@Nat.pow_pos

theorem aG:type_of% @Nat.pow_succ:=@Nat.pow_succ

theorem lj:type_of% @Nat.pow_succ':=@Nat.pow_succ'

theorem cP:type_of% @Nat.pow_zero:=@Nat.pow_zero

theorem jR:type_of% @Nat.sub_mod_eq_zero_of_mod_eq:=@Nat.sub_mod_eq_zero_of_mod_eq

theorem cj:type_of% @Nat.sub_self:=@Nat.sub_self

theorem et:type_of% @Nat.sub_zero:=@Nat.sub_zero

theorem ll:type_of% @Nat.succ_mul:=@Nat.succ_mul

theorem lr:type_of% @Nat.two_pow_add_eq_or_of_lt:=@Nat.two_pow_add_eq_or_of_lt

theorem dU:type_of% @Nat.zero_add:=@Nat.zero_add

theorem aQ:type_of% @Nat.zero_le:=@Nat.zero_le

theorem iw:type_of% @Nat.zero_mod:=@Nat.zero_mod

theorem i9:type_of% @Nat.zero_mul:=@Nat.zero_mul

theorem jy:type_of% @Option.getD_some:=@Option.getD_some

theorem iI:type_of% @Option.some.injEq:=@Option.some.injEq

theorem fN:type_of% @Prod.mk.injEq:=@Prod.mk.injEq

theorem ar:type_of% @if_neg:=@if_neg

theorem ai:type_of% @if_pos:=@if_pos

theorem aB {a b:Nat} (h:a < b):a%b=a:=Nat.mod_eq_of_lt h

theorem leR (n:Nat):n<=n:=Nat.le_refl n

theorem cI {p:Prop} [Decidable p] (h:¬ p):decide p=false:=decide_eq_false h

theorem dV {p:Prop} [Decidable p] (h:p):decide p=true:=decide_eq_true h

theorem lsA {α:Type _} (l:List α) (i:Nat) (a:α):l.toArray.setIfInBounds i a=(l.set i a).toArray:=List.setIfInBounds_toArray l i a

theorem lsZ {α:Type _} {x:α} {xs:List α} {a:α}:(x :: xs).set 0 a=a :: xs:=List.set_cons_zero

theorem lsS {α:Type _} {x:α} {xs:List α} {a:α}:(x :: xs).set (i+1) a=x :: xs.set i a:=List.set_cons_succ

theorem Hp:∀ (fn:Fn) (first a:Array Value) (w:World),(Instr.makeFunc fn first a).run prog w=.ok (.func fn first a) w:=fun _ _ _ _=>rfl

theorem aj {α:Sort _} (a:α):∃ x,x=a:=⟨a,rfl⟩

theorem eC {x y:Int} (h:x%18446744073709551616=y:=by omega):IntKind.u64.wrap x=y:=by rw [IntKind.wrap_u64];exact h

theorem jN {x y:Int} (h:(x+9223372036854775808)%18446744073709551616-9223372036854775808=y:=by omega):IntKind.i64.wrap x=y:=by rw [IntKind.wrap_i64];exact h

abbrev OA:=Option Addr

abbrev LN:=List Nat

abbrev mzA (a:OA) (n c K:Nat) (b:OA) (l d:Nat):Array Value:=#[.slice a n c,.int .u64 (K:Nat),.slice b l d]

theorem aK {c:Prop} {x:Decidable c} {α:Sort _} {t e:α} (h:¬c:=by omega):ite c t e=e:=if_neg h

theorem cf {c:Prop} {x:Decidable c} {α:Sort _} {t e:α} (h:c:=by omega):ite c t e=t:=if_pos h

theorem aX {b:Nat} (h:0<b:=by omega):0<b^n:=Nat.pow_pos h

theorem jH {b:Int} (h:0<b:=by omega):0<b^n:=Int.pow_pos h

theorem bu {y:Nat} (h:y>0:=by omega):x%y<y:=Nat.mod_lt _ h

theorem fT {a b:Nat} (h:a<=b:=by omega):min a b=a:=Nat.min_eq_left h

theorem dH {a b:Nat} (h:a < b:=by omega):a%b=a:=Nat.mod_eq_of_lt h

theorem jI {α:Type _} {l:List α} (h:l.length<=i:=by omega):l.drop i=[]:=List.drop_of_length_le h

def HzD (p:Prop):Prop:=p

theorem HzD.o {p:Prop} (h:HzD p):p:=h

abbrev ClZ (f:FuncId) (args:Array Value) (w:World) (R:Ending->World->Prop):Prop:=Calls prog f args w R

structure Kept (S:Nat->Prop) (w w':World):Prop where
 os:w'.os=w.os
 tape:w'.tape=w.tape
 output:w'.output=w.output
 size:w.heap.size<=w'.heap.size
 block:∀ k,k<w.heap.size->¬ S k->w'.heap[k]? = w.heap[k]?

def af:Nat->Prop:=fun _=>False

theorem ah (S:Nat->Prop) (w:World):Kept S w w:=⟨rfl,rfl,rfl,leR _,fun _ _ _=>rfl⟩

theorem Kept.trans {a b c:World} (h:Kept S a b) (k:Kept S b c):Kept S a c:=
 ⟨k.os.trans h.os,k.tape.trans h.tape,k.output.trans h.output,aI h.size k.size,fun i hi hs=>(k.block i (bi hi h.size) hs).trans (h.block i hi hs)⟩

theorem Kept.next {T:Nat->Prop} {a b c:World} (h:Kept S a b) (k:Kept T b c) (ht:∀ x,x<a.heap.size->T x->S x):Kept S a c:=
 ⟨k.os.trans h.os,k.tape.trans h.tape,k.output.trans h.output,aI h.size k.size,fun i hi hs=>(k.block i (bi hi h.size) (fun t=>hs (ht i hi t))).trans (h.block i hi hs)⟩

theorem Kept.mono {T:Nat->Prop} (h:Kept S w w') (hs:∀ k,k<w.heap.size->S k->T k):Kept T w w':=
 ⟨h.os,h.tape,h.output,h.size,fun k hk hn=>h.block k hk fun s=>hn (hs k hk s)⟩

theorem Kept.any (h:Kept af w w'):Kept S w w':=h.mono fun _ _ f=>f.elim

theorem Kept.drew {a:World} (h:Kept S a w):Kept S a w.drew:=⟨h.os,h.tape,h.output,h.size,h.block⟩

theorem Kept.drewN {a:World} (h:Kept S a w) (n:Nat):Kept S a (w.drewN n):=⟨h.os,h.tape,h.output,h.size,h.block⟩

theorem Kept.alloc {a:World} (h:Kept S a w) (o:Obj):Kept S a (w.alloc o):=
 h.trans ⟨rfl,rfl,rfl,by simp,fun k hk _=>Below.heap_alloc _ _ _ hk⟩

theorem Kept.grown {a:World} {b:Option Nat} (h:Kept S a w) (hg:w.grownBy w' b) (hr:∀ k,b=some k->k<a.heap.size->S k):Kept S a w':=
 ⟨hg.os.trans h.os,hg.tape.trans h.tape,hg.output.trans h.output,aI h.size hg.size,fun k hk hn=>
  (hg.block k (bi hk h.size) (fun e=>hn (hr k e.symm hk))).trans (h.block k hk hn)⟩

theorem Kept.setCell {a:World} (h:Kept S a w) (p:Addr) (hp:p.block<a.heap.size->S p.block) (u:Value):Kept S a (w.setCell p u):=
 ⟨h.os,h.tape,h.output,by have:=h.size;simpa [World.setCell] using this,fun k hk hn=>
  (Below.heap_setCell _ _ _ _ (fun e=>hn (by rw [e];exact hp (by rw [<- e];exact hk)))).trans (h.block k hk hn)⟩

theorem Kept.below (h:Kept S w w') (hB:B<=w.heap.size) (hs:∀ k,S k->B<=k):Below B w w':=
 ⟨h.os,h.tape,h.output,h.size,fun k hk=>h.block k (by omega) (fun s=>by have:=hs k s;omega)⟩

theorem Kept.own {base size:Nat} {v:Value} (h:Kept S w w') (ho:w.ownsRow base e size v n xs) (hs:∀ k,v.ownBlock=some k->¬ S k):w'.ownsRow base e size v n xs:=by
 refine ⟨ho.1,?_⟩;rcases ho.2 with hn | ⟨g,cap,cur,rfl,hb,hgg,rest⟩
 ·exact .inl hn
 ·refine .inr ⟨g,cap,cur,rfl,hb,?_,rest⟩;rw [h.block g (mf.1 hgg).1 (hs g rfl)];exact hgg

theorem dg {base base' size:Nat} {v:Value} (h:w.ownsRow base e size v n xs) (hb:∀ k,v.ownBlock=some k->base'<=k):w.ownsRow base' e size v n xs:=by
 refine ⟨h.1,?_⟩;rcases h.2 with hn | ⟨g,cap,cur,rfl,_,rest⟩
 ·exact .inl hn
 ·exact .inr ⟨g,cap,cur,rfl,hb g rfl,rest⟩

theorem Kept.cellN {a:Addr} {u:Value} (h:Kept af w w') (hc:w.cell? a=some u):w'.cell? a=some u:=
 (World.cell?_of_block (h.block a.block (World.block_lt_of_cell? w _ hc) (fun f=>f))).trans hc

theorem aw {o X:Obj} {p:Nat} (h:w.heap[p]? = some X):(w.alloc o).heap[p]? = some X:=(Below.heap_alloc w o p (lt_of_block h)).trans h

theorem dj {X:Obj} {p:Nat} (h:w.heap[p]? = some X):w.drew.heap[p]? = some X:=h

theorem gY {b:Nat} {a:Addr} {X:Obj} (h:w.heap[b]? = some X) (c:b≠a.block) (u:Value):(w.setCell a u).heap[b]? = some X:=(Below.heap_setCell w a u b c).trans h

theorem bf (h:w.grownBy w' none):Kept af w w':=(ah af w).grown h (fun _ e=>by cases e)

theorem dK {base size:Nat} {v:Value} (h:w.ownsRow base e size v n xs):∃ ao a,v=.slice ao n a:=by
 rcases h.2 with ⟨rfl,rfl⟩ | ⟨g,a,cur,rfl,_⟩
 ·exact ⟨none,0,rfl⟩
 ·exact ⟨_,_,rfl⟩

def val (l:LN) (B:Nat:=18446744073709551616):Nat:=match l with
 | []=>0
 | d :: r=>d+B*val r B

def Digs (l:LN) (B:Nat:=18446744073709551616):Prop:=∀ d ∈ l,d<B

theorem Digs.nil (B:Nat):Digs [] B:=fun _ h=>by cases h

theorem Digs.append {l m:LN} (h:Digs l B) (k:Digs m B):Digs (l ++ m) B:=fun d hd=>by
 rcases List.mem_append.1 hd with h1 | h1
 ·exact h d h1
 ·exact k d h1

theorem Digs.one {d:Nat} (h:d<B):Digs [d] B:=fun x hx=>by simp at hx;omega

theorem Digs.take {l:LN} (h:Digs l B) (n:Nat):Digs (l.take n) B:=fun d hd=>h d (List.mem_of_mem_take hd)

theorem Digs.drop {l:LN} (h:Digs l B) (n:Nat):Digs (l.drop n) B:=fun d hd=>h d (List.mem_of_mem_drop hd)

theorem Digs.tail {l:LN} (h:Digs (x :: l) B):Digs l B:=fun d hd=>h d (by simp [hd])

theorem Digs.head {l:LN} (h:Digs (x :: l) B):x<B:=h x (by simp)

theorem Digs.getD {l:LN} (h:Digs l B) (hB:0<B) (i:Nat):l.getD i 0<B:=by
 rw [aA];by_cases hi:i<l.length
 ·rw [aS hi];exact h _ (List.getElem_mem hi)
 ·rw [ip (by omega)];exact hB

theorem eK (B:Nat):∀ l m:LN,val (l ++ m) B=val l B+B^l.length*val m B
 | [],m=>by simp [val]
 | d :: r,m=>by
  simp only [fJ,val,eK B r m,dh,aG];rw [aJ,<- bd,aD B (B^r.length)];omega

theorem dG (B:Nat) (l:LN) (d:Nat):val (l ++ [d]) B=val l B+B^l.length*d:=by
 rw [eK];simp [val]

theorem aE (hB:0<B):∀ {l:LN},Digs l B->val l B<B^l.length
  | [],_=>by simp [val]
  | d :: r,h=>by
    have h1:=aE hB h.tail
    have h2:=h.head
    simp only [val,dh,aG]
    have:B*val r B+B<=B^r.length*B:=by
      calc B*val r B+B=B*(val r B+1):=by rw [aJ,bI]
        _<=B*B^r.length:=bG _ h1
        _=B^r.length*B:=aD _ _
    omega

theorem eY (B:Nat):∀ {l:LN},(∀ d ∈ l,d=0)->val l B=0
 | [],_=>rfl
 | d :: r,h=>by
  have h1:=h d (by simp);have h2:=eY B (l:=r) fun x hx=>h x (by simp [hx])
  simp [val,h1,h2]

def dig (V i:Nat) (B:Nat:=18446744073709551616):Nat:=V/B^i%B

def digs (V n:Nat) (B:Nat:=18446744073709551616):LN:=match n with
 | 0=>[]
 | n+1=>digs V n B++[dig V n B]

theorem ag (B V:Nat):∀ n,(digs V n B).length=n
 | 0=>rfl
 | n+1=>by simp [digs,ag B V n]

theorem ak (hB:0<B) (V:Nat):∀ n,Digs (digs V n B) B
 | 0=>Digs.nil B
 | n+1=>(ak hB V n).append (Digs.one (aY _ hB))

theorem ay (V:Nat):∀ n,val (digs V n B) B=V%B^n
 | 0=>by simp [digs,val,Nat.mod_one]
 | n+1=>by
  rw [digs,dG,ay V n,ag,dig,aG,lh]

theorem cS (hB:0<B):∀ {l:LN} {V n:Nat},Digs l B->l.length=n->val l B=V%B^n->l=digs V n B:=by
 intro l V n
 induction n generalizing l with
 | zero=>intro _ hl _;exact kX hl
 | succ n ih=>
  intro hd hl hv;obtain ⟨m,d,rfl⟩:∃ m d,l=m ++ [d]:=by
   refine ⟨l.dropLast,l.getLast (by intro e;subst e;simp at hl),?_⟩;exact (List.dropLast_concat_getLast _).symm
  have hm:m.length=n:=by simpa using hl
  have b:Digs m B:=fun x hx=>hd x (by simp [hx])
  have c:d<B:=hd d (by simp);have hlt:=aE hB b;rw [dG,hm,aG,lh] at hv;rw [hm] at hlt;have a:0<B^n:=iH hB;have e1:val m B=V%B^n:=by
   have h1:(val m B+B^n*d)%B^n=(V%B^n+B^n*(V/B^n%B))%B^n:=by rw [hv]
   rw [eO,eO,aB hlt,ep] at h1;exact h1
  have e2:d=V/B^n%B:=by
   have:B^n*d=B^n*(V/B^n%B):=by omega
   exact Nat.eq_of_mul_eq_mul_left a this
  rw [digs,dig,<- e2,ih b hm e1]

theorem jg (B V:Nat):∀ n i,i<n->(digs V n B).getD i 0=dig V i B
 | n+1,i,h=>by
  rw [digs,aA];by_cases hi:i<n
  ·rw [im (by rw [ag];exact hi),<- aA,jg B V n i hi]
  ·have:i=n:=by omega
   subst this;rw [io (by rw [ag];omega),ag];simp

theorem bg (B:Nat) (l:LN) (n:Nat) (h:n<=l.length:=by omega):val l B=val (l.take n) B+B^n*val (l.drop n) B:=by
 have:=eK B (l.take n) (l.drop n);rw [kh,aR,jw h] at this;exact this

theorem dn (hB:0<B) {l:LN} (h:Digs l B) (i:Nat):dig (val l B) i B=l.getD i 0:=by
 unfold dig;by_cases hi:i<l.length
 ·have e:=bg B l i;have hlt:val (l.take i) B<B^i:=by
   have:=aE hB (h.take i)
   rwa [aR,fT] at this
  have hd:l.drop i=l[i] :: l.drop (i+1):=eE hi;rw [hd] at e;rw [e,jQ _ _ (iH hB),bJ hlt,dU];simp only [val];rw [eO,aB (h _ (List.getElem_mem hi))];rw [aA,aS hi];rfl
 ·have:=aE hB h;have h2:B^l.length<=B^i:=bj hB (by omega);rw [bJ (by omega),aA,ip (by omega)];simp

def Row (k:IntKind) (w:World) (v:Value) (zs:LN):Prop:=
 ∃ ao cap,v=.slice ao zs.length cap/\zs.length<=cap/\cap<=maxLen/\(ao=none->cap=0)/\∀ i,i<zs.length->∃ b off,ao=some ⟨b,off,none⟩/\w.cell? ⟨b,off+i,none⟩=some (.int k (zs.getD i 0:Nat))

def NumAt (k:IntKind) (w:World) (ao:OA) (zs:LN) (i:Nat):Prop:=
 ∃ b off,ao=some ⟨b,off,none⟩/\w.cell? ⟨b,off+i,none⟩=some (.int k (zs.getD i 0:Nat))

theorem Row.open {v:Value} {zs:LN} (h:Row k w v zs) :
  ∃ ao n a,v=.slice ao n a/\HzD (zs.length=n)/\n<=a/\a<=9223372036854775807/\(ao=none->a=0)/\∀ i,i<n->NumAt k w ao zs i:=by
 obtain ⟨ao,a,rfl,h1,h2,h3,h4⟩:=h;exact ⟨ao,_,a,rfl,rfl,h1,by unfold maxLen at h2;omega,h3,h4⟩

theorem Row.nil (k:IntKind) (w:World):Row k w (.slice none 0 0) []:=⟨none,0,rfl,leR _,by unfold maxLen;omega,fun _=>rfl,fun i hi=>absurd hi (by simp)⟩

theorem NumAt.kept {ao:OA} {zs:LN} (h:NumAt k w ao zs i) (hk:Kept S w w') (hs:∀ a,ao=some a->¬ S a.block):NumAt k w' ao zs i:=by
 obtain ⟨b,off,rfl,hc⟩:=h;have hb:b<w.heap.size:=World.block_lt_of_cell? w _ hc;exact ⟨b,off,rfl,(World.cell?_of_block (a:=⟨b,off+i,none⟩) (hk.block b hb (hs _ rfl))).trans hc⟩

theorem NumAt.g {ao:OA} {zs:LN} (h:NumAt k w ao zs i) (hk:Kept af w w'):NumAt k w' ao zs i:=h.kept hk (fun _ _ f=>f)

theorem Row.kept {v:Value} {zs:LN} (h:Row k w v zs) (hk:Kept S w w') (hs:∀ b,v.ownBlock=some b->¬ S b):Row k w' v zs:=by
 obtain ⟨ao,c,rfl,h1,h2,h3,h4⟩:=h;exact ⟨ao,c,rfl,h1,h2,h3,fun i hi=>NumAt.kept (h4 i hi) hk (fun a ha=>hs _ (by subst ha;rfl))⟩

theorem Row.g {v:Value} {zs:LN} (h:Row k w v zs) (hk:Kept af w w'):Row k w' v zs:=h.kept hk (fun _ _ f=>f)

theorem Row.of_own {base:Nat} {v:Value} {zs:LN} (h:w.ownsRow base e 1 v zs.length (zs.map fun z=>.int k (z:Nat))):Row k w v zs:=by
 rcases h.2 with ⟨rfl,h0⟩ | ⟨g,cap,cur,rfl,_,hg,hnc,hm,_,_⟩
 ·obtain rfl:zs=[]:=kX h0;exact Row.nil k w
 ·refine ⟨_,_,rfl,hnc,hm,(fun e=>by cases e),fun i hi=>⟨g,0,rfl,?_⟩⟩;rw [dU,World.ownsRow.cellAt h i (by omega),bV,aS hi,aA,aS hi];rfl

theorem Row.cut {ao:OA} {a:Nat} {zs:LN} (h:Row k w (.slice ao n a) zs) (hm:m<=zs.length):Row k w (.slice ao m a) (zs.take m):=by
 obtain ⟨d,c,e,h1,h2,h3,h4⟩:=h;simp only [Value.slice.injEq] at e;obtain ⟨rfl,_,rfl⟩:=e;have hl:(zs.take m).length=m:=by rw [aR];omega
 refine ⟨ao,a,by rw [hl],by omega,h2,h3,fun i hi=>?_⟩;rw [hl] at hi;obtain ⟨b,off,e,hc⟩:=h4 i (by omega);refine ⟨b,off,e,?_⟩;rw [hc,aA,aA,eG,ai hi]

theorem pW (ao:OA) (n m a:Nat):(Value.slice ao n a).ownBlock=(Value.slice ao m a).ownBlock:=by cases ao <;> rfl

def yv:Value->Nat
 | .slice _ n _=>n
 | _=>0

theorem Dz (v:Value) (zs:LN) (w:World) (h:Row .u32 w v zs) :
  ClZ 53 #[v] w fun r w'=>∃ m v',r=.returned v'/\m<=zs.length/\Row .u32 w v' (zs.take m)/\(∀ i,m<=i->zs.getD i 0=0)/\(m=0\/zs.getD (m-1) 0≠0)/\v'.ownBlock=v.ownBlock/\(∃ ao n c,v=.slice ao n c/\v'=.slice ao m c)/\w'=w:=by
 have hcut:=fun ao n c (e:v=.slice ao n c) m (hm:m<=zs.length)=>(show Row .u32 w (.slice ao n c) zs from e ▸ h).cut hm
 obtain ⟨ao,n,c,rfl,hN,h1,h2,h3,h4⟩:=h.open;have HC:HzD (∀ m,m<=n->Row .u32 w (.slice ao m c) (zs.take m)):=fun m hm=>hcut ao n c rfl m (by have:=hN.o;omega)
 have HL:HzD (∀ i,n<=i->zs.getD i 0=0):=fun i hi=>by have:=hN.o;rw [aA,ip (by omega)];rfl
 clear hcut h h3;delta ClZ;go_in;go_wp2_with fail;go_loop [0] (fun a=>∃ m:Nat,m<=n/\a=.slice ao m c/\HzD (∀ i,m<=i->zs.getD i 0=0)) (fun a=>yv a)
 case atStart=>exact ⟨n,leR _,rfl,HL⟩
 case round=>
  obtain ⟨m,hm,rfl,hz⟩:=hrel;cases m with
  | zero=>
   clear h4;go_wp2;go_ret;exact ⟨0,_,rfl,aQ _,HC.o 0 (aQ _),hz.o,.inl rfl,pW ao 0 n c,⟨ao,n,c,⟨rfl,rfl,rfl⟩,rfl⟩,rfl⟩
  | succ j=>
   obtain ⟨b,off,rfl,hc⟩:=h4 j (by omega);obtain ⟨z,d⟩:=aj (zs.getD j 0)
   rw [<- d] at hc;have HZ:HzD (z=zs.getD j 0):=d;clear d h4;by_cases h0:z=0
   ·have g:((z:Int) == 0)=true:=by simp [h0]
    subst h0;go_wp2;go_round
    case rel=>exact ⟨j,by omega,rfl,fun i hi=>by
     by_cases e:i=j
     ·subst e;exact HZ.o.symm
     ·exact hz.o i (by omega)⟩
    case measure=>simp [yv]
   ·have f:HzD (zs.getD (j+1-1) 0≠0):=by
     unfold HzD;rw [gF,<- HZ.o];exact h0
    have g:((z:Int) == 0)=false:=by simp;omega
    go_wp2;go_ret;exact ⟨j+1,_,rfl,by have:=hN.o;omega,HC.o _ hm,hz.o,.inr f.o,pW _ _ _ _,⟨_,_,_,⟨rfl,rfl,rfl⟩,rfl⟩,rfl⟩

theorem nj (v:Value) (zs:LN) (i:Nat) (w:World) (h:Row .u32 w v zs) :
  ClZ 79 #[v,.int .i64 i] w fun r w'=>r=.returned (.int .u32 (zs.getD i 0:Nat))/\w'=w:=by
 obtain ⟨ao,n,c,rfl,hN,h1,h2,h3,h4⟩:=h.open;by_cases hi:i<n
 ·obtain ⟨b,off,rfl,hc⟩:=h4 i hi;have a:(i:Int)<(n:Int):=by omega
  generalize zs.getD i 0=z at *;clear h h4;delta ClZ;go_in;go_wp2;go_ret;exact ⟨rfl,rfl⟩
 ·have a:¬ (i:Int)<(n:Int):=by omega
  have hz:zs.getD i 0=0:=by have:=hN.o;rw [aA,ip (by omega)];rfl
  rw [hz];clear h h4 hz;delta ClZ;go_in;go_wp2;go_ret;exact ⟨rfl,rfl⟩

theorem If (v:Value) (zs:LN) (w:World) (h:Row .u32 w v zs) (hb:zs.length<=1000000000000) :
  ClZ 48 #[v] w fun r w'=>r=.returned (.int .i64 ((zs.length+1)/2:Nat))/\w'=w:=by
 obtain ⟨ao,n,a,rfl,hN,h1,h2,h3,h4⟩:=h.open;rw [hN.o] at hb ⊢;clear h h4;delta ClZ;go_in;go_wp2;go_ret;exact ⟨by simp,rfl⟩

def iD (ds:LN):Prop:=ds.length=0\/ds.getD (ds.length-1) 0≠0

def IsBig (w:World) (v:Value) (V:Nat):Prop:=
 ∃ ds,Row .u32 w v ds/\Digs ds 4294967296/\iD ds/\val ds 4294967296=V/\ds.length<=1000000000

theorem IsBig.kept {v:Value} (h:IsBig w v V) (hk:Kept S w w') (hs:∀ b,v.ownBlock=some b->¬ S b):IsBig w' v V:=by
 obtain ⟨ds,h1,h2⟩:=h;exact ⟨ds,h1.kept hk hs,h2⟩

theorem IsBig.g {v:Value} (h:IsBig w v V) (hk:Kept af w w'):IsBig w' v V:=h.kept hk (fun _ _ f=>f)

theorem IsBig.nil (w:World):IsBig w (.slice none 0 0) 0:=⟨[],Row.nil _ _,Digs.nil _,.inl rfl,rfl,by simp⟩

theorem kG {ds:LN} (ht:iD ds) (hn:0<ds.length:=by omega):B^(ds.length-1)<=val ds B:=by
 rcases ht with h | h
 ·omega
 ·have e:=bg B ds (ds.length-1);have hd:ds.drop (ds.length-1)=[ds.getD (ds.length-1) 0]:=by
   rw [eE (by omega),jI,aA,aS (by omega)];rfl
  rw [hd] at e;simp only [val,df,aV] at e;have:B^(ds.length-1)*1<=B^(ds.length-1)*ds.getD (ds.length-1) 0:=bG _ (by omega);omega

theorem jm {B:Nat} (hB:1<B) {ds:LN} (hd:Digs ds B) (ht:iD ds) (n:Nat):ds.length<=n↔val ds B<B^n:=by
 constructor
 ·intro h;exact bi (aE (by omega) hd) (bj (by omega) h)
 ·intro h;rcases gG n ds.length with hn | hn
  ·have h1:=kG (B:=B) ht;have h2:B^n<=B^(ds.length-1):=bj (by omega) (by omega);omega
  ·exact hn

def cC (V:Nat):Nat:=if V=0 then 0 else Nat.log2 V/32+1

theorem dI (V n:Nat):cC V<=n↔V<4294967296^n:=by
 unfold cC;have e:(4294967296:Nat)^n=2^(32*n):=by rw [aW]
 rw [e];by_cases h:V=0
 ·subst h;simp [Nat.pow_pos]
 ·rw [ar h];have:=Nat.log2_lt (n:=V) (k:=32*n) h;omega

theorem fY {ds:LN} (hd:Digs ds 4294967296) (ht:iD ds):ds.length=cC (val ds 4294967296):=by
 have h1:=(dI _ _).2 ((jm (by omega) hd ht ds.length).1 (leR _));have h2:=(jm (by omega) hd ht (cC (val ds 4294967296))).2 ((dI _ _).1 (leR _));omega

theorem ef {a b:Nat} (h:a<=b):cC a<=cC b:=(dI _ _).2 (fF h ((dI _ _).1 (leR _)))

theorem js {zs:LN} (hm:m<=zs.length) (hz:∀ i,m<=i->zs.getD i 0=0):val (zs.take m) B=val zs B:=by
 rw [bg B zs m hm,eY B (l:=zs.drop m),df,aV];intro d hd;obtain ⟨i,hi,rfl⟩:=List.getElem_of_mem hd;have:=hz (m+i) (by omega);rw [aA,aS (by simp at hi;omega)] at this;simpa using this

theorem jc {zs:LN} (hm:m<=zs.length) (ht:m=0\/zs.getD (m-1) 0≠0):iD (zs.take m):=by
 have hl:(zs.take m).length=m:=by rw [aR];omega
 rcases ht with h | h
 ·left;omega
 ·by_cases h0:m=0
  ·left;omega
  ·right
   rw [hl,aA,eG,cf,<- aA];exact h

theorem gd (v:Value) (zs:LN) (w:World) (h:Row .u32 w v zs) (hd:Digs zs 4294967296) (hl:zs.length<=1000000000:=by omega) :
  ClZ 53 #[v] w fun r w'=>∃ v',r=.returned v'/\IsBig w v' (val zs 4294967296)/\v'.ownBlock=v.ownBlock/\w'=w:=by
 refine (Dz v zs w h).mono ?_;rintro r w' ⟨m,v',rfl,hm,hr,hz,ht,ho,_,rfl⟩;exact ⟨v',rfl,⟨zs.take m,hr,hd.take m,jc hm ht,js hm hz,by rw [aR];omega⟩,ho,rfl⟩

abbrev OwnN (k:IntKind) (e:TypeId) (w:World) (base:Nat) (v:Value) (n:Nat) (zs:LN):Prop:=w.ownsRow base e 1 v n (zs.map fun z=>.int k (z:Nat))

def OwnBig (w:World) (base:Nat) (v:Value) (V:Nat):Prop:=
 ∃ ds,OwnN .u32 85 w base v ds.length ds/\Digs ds 4294967296/\iD ds/\val ds 4294967296=V/\ds.length<=1000000000

theorem OwnBig.big {base:Nat} {v:Value} (h:OwnBig w base v V):IsBig w v V:=by
 obtain ⟨ds,ho,hd,ht,hv,hl⟩:=h;exact ⟨ds,Row.of_own ho,hd,ht,hv,hl⟩

theorem tA {base a:Nat} {ao:OA} {zs:LN} (h:OwnN k e w base (.slice ao n a) n zs) (hm:m<=n:=by omega):OwnN k e w base (.slice ao m a) m (zs.take m):=by
 have hl:zs.length=n:=by simpa using h.1
 refine ⟨by simp;omega,?_⟩;rcases h.2 with ⟨h',h0⟩ | ⟨g,cap',cur,h',hb,hg,hnc,hcm,hcs,htake⟩
 ·simp only [Value.slice.injEq] at h';obtain ⟨rfl,rfl,rfl⟩:=h';have:m=0:=by omega
  subst this;exact .inl ⟨rfl,rfl⟩
 ·simp only [Value.slice.injEq] at h';obtain ⟨rfl,_,rfl⟩:=h';refine .inr ⟨g,a,cur,rfl,hb,hg,by omega,hcm,hcs,?_⟩;rw [List.map_take,<- htake,nE,bI,bI,jw hm]

theorem DA (v:Value) (zs:LN) (base n:Nat) (w:World) (h:OwnN .u32 85 w base v n zs) (hd:Digs zs 4294967296) (hl:n<=1000000000) :
  ClZ 53 #[v] w fun r w'=>∃ v',r=.returned v'/\OwnBig w base v' (val zs 4294967296)/\w'=w:=by
 have hn:zs.length=n:=by simpa using h.1
 refine (Dz v zs w (Row.of_own (by rw [hn];exact h))).mono ?_;rintro r w' ⟨m,v',rfl,hm,hr,hz,ht,ho,⟨ao,n',f,rfl,rfl⟩,rfl⟩;have c:n'=n:=by
  obtain ⟨d,a,e⟩:=dK h;simp only [Value.slice.injEq] at e;exact e.2.1
 subst c;have b:(zs.take m).length=m:=by rw [aR];omega
 exact ⟨_,rfl,⟨zs.take m,by rw [b];exact tA h,hd.take m,jc hm ht,js hm hz,by omega⟩,rfl⟩

theorem JH (w:World) (x y:Value) (e:TypeId):(w.alloc (.cells #[x,y] e)).ownsRow w.heap.size e 1 (.slice (some ⟨w.heap.size,0,none⟩) 2 2) 2 [x,y]:=
 World.ownsRow_lit w #[x,y] 2 (leR _) (by unfold maxLen;omega) rfl

theorem jp (x:Nat) (hx:x<18446744073709551616) (w:World) :
  ClZ 37 #[.int .u64 x] w fun r w'=>∃ v',r=.returned v'/\IsBig w' v' x/\(∀ b,v'.ownBlock=some b->w.heap.size<=b)/\Kept af w w':=by
 have hv:val [x%4294967296,x/4294967296] 4294967296=x:=by simp [val];omega
 have f:Digs [x%4294967296,x/4294967296] 4294967296:=fun d hd=>by simp at hd;omega
 have e1:(x:Int)%4294967296=((x%4294967296:Nat):Int):=by omega
 have e2:(x:Int)/4294967296=((x/4294967296:Nat):Int):=by omega
 have a:Row .u32 (w.alloc (.cells #[.int .u32 ((x:Int)%4294967296),.int .u32 ((x:Int)/4294967296)] 85)) (.slice (some ⟨w.heap.size,0,none⟩) 2 2) [x%4294967296,x/4294967296]:=by
  rw [e1,e2];exact Row.of_own (JH w _ _ _)
 have ht:=gd _ _ _ a f (by simp);rw [hv] at ht;clear e1 e2 a f hv;delta ClZ;go_in;go_wp2_with fail;refine ht.mono ?_;rintro e w' ⟨v',rfl,hb,ho,rfl⟩;go_wp2;go_ret;exact ⟨v',rfl,hb,fun b c=>by rw [ho] at c;simp [Value.ownBlock] at c;omega,(ah af w).alloc _⟩

def fW:LN->LN
 | []=>[]
 | x :: r=>x%4294967296 :: x/4294967296 :: fW r

theorem qJ:∀ l,val (fW l) 4294967296=val l
 | []=>rfl
 | x :: r=>by simp only [fW,val,qJ r];omega

theorem mL:∀ l,(fW l).length=l.length*2
 | []=>rfl
 | x :: r=>by simp [fW,mL r];omega

theorem mK:∀ l m,fW (l ++ m)=fW l ++ fW m
 | [],m=>rfl
 | x :: r,m=>by simp [fW,mK r m]

theorem pk:∀ {l},Digs l->Digs (fW l) 4294967296
 | [],_=>Digs.nil _
 | x :: r,h=>fun d hd=>by
  have h1:=h.head;simp only [fW,fM] at hd;rcases hd with hd | hd | hd
  ·omega
  ·omega
  ·exact pk h.tail d hd

theorem oN {l:LN} {k:Nat} (h:k<l.length):fW (l.take (k+1))=fW (l.take k) ++ [l.getD k 0%4294967296,l.getD k 0/4294967296]:=by
 rw [mq h,mK,aA,aS h];rfl

theorem Tryz.info85:(prog.info? 85).map (fun i=>(i.zero,i.size,i.bytes))=some (some (.int .u32 0),1,4):=by kernel_rfl

theorem qV (w:World) (x y:Value) (e:TypeId):∀ j u,[x,y][j]? = some u->(w.alloc (.cells #[x,y] e)).cell? ((⟨w.heap.size,0,none⟩:Addr).add j)=some u:=
 World.news_of_block (cs:=#[x,y]) (t:=e) (fr:=(0,0)) (Go.heap_alloc_new w _)

theorem rOf (v:Value) (xs:LN) (w:World) (h:Row .u64 w v xs) (hd:Digs xs) (hl:xs.length<=100000000:=by omega) :
  ClZ 19 #[v] w fun r w'=>∃ v',r=.returned v'/\IsBig w' v' (val xs)/\(∀ b,v'.ownBlock=some b->w.heap.size<=b)/\Kept af w w':=by
 obtain ⟨i0,l,t,y,A⟩:=info_parts Tryz.info85;obtain ⟨ao,n,B,rfl,hN,h1,h2,h3,h4⟩:=h.open;rw [hN.o] at hl;clear h h3;delta ClZ;go_in;go_wp2_with fail;go_loopw [3,8] (fun a i wr=>∃ k:Nat,k<=n/\i=.int .i64 k/\wr.ownsRow w.heap.size 85 1 a (k*2) ((fW (xs.take k)).map fun z=>.int .u32 (z:Nat))/\Kept af w wr) (fun _ i _=>n-(intOf i).toNat)
 case atStart=>exact ⟨0,aQ _,rfl,World.ownsRow_nil _ _ _ _,ah _ _⟩
 case round=>
  obtain ⟨k,hk,rfl,ho,c⟩:=hrel;by_cases hlt:k<n
  ·obtain ⟨b,off,rfl,hc⟩:=(h4 k hlt).g c;have HS:HzD (fW (xs.take (k+1))=fW (xs.take k) ++ [xs.getD k 0%4294967296,xs.getD k 0/4294967296]):=oN (by have:=hN.o;omega);have hx:xs.getD k 0<18446744073709551616:=hd.getD (by omega) k;clear h4;generalize xs.getD k 0=x at *;have m:(k:Int)<(n:Int):=by omega
   go_wp2_with (at_builtin;refine wpList_append_lies _ rfl _ _ 54 rfl w.heap.size 85 i0 _ 1 4 underlying54 l t y A rfl (by omega) _ _ _ rfl (ho.alloc _) ⟨wr.heap.size,0,none⟩ 2 2 [.int .u32 ((x:Int)%4294967296),.int .u32 ((x:Int)/4294967296)] rfl rfl (qV wr _ _ _) (by simp [Value.oneCell']) (by omega) (by unfold maxLen;omega) (by omega) (by have:=c.size;simp;omega) (wr.heap.size+1) (by simp) ?_;intro gg c' w4 d hg g j);have e1:(x:Int)%4294967296=((x%4294967296:Nat):Int):=by omega
   have e2:(x:Int)/4294967296=((x/4294967296:Nat):Int):=by omega
   have s:w4.ownsRow w.heap.size 85 1 (.slice (some ⟨gg,0,none⟩) (k*2+2) c') ((k+1)*2) ((fW (xs.take (k+1))).map fun z=>.int .u32 (z:Nat)):=by
    rw [HS.o,dR,show (k+1)*2=k*2+2 by omega];rw [e1,e2] at d;exact d
   have o:Kept af w w4:=(c.alloc _).grown hg (fun b hb hlt=>by have:=(ho.lt b hb).1;omega);clear d hg g j ho HS;go_roundw
   case rel=>exact ⟨k+1,by omega,by go_num,s,o⟩
   case measure=>simp [intOf];omega
  ·have hs:xs.take k=xs:=dS (by have:=hN.o;omega);rw [hs] at ho;have p:(fW xs).length=k*2:=by rw [mL];have:=hN.o;omega
   have hr:Row .u32 wr _ (fW xs):=Row.of_own (by rw [p];exact ho);have m:¬ (k:Int)<(n:Int):=by omega
   have ht:=gd _ _ _ hr (pk hd);rw [qJ] at ht;clear h4 hr hs;go_wp2_with fail;refine ht.mono ?_;rintro e w' ⟨v',rfl,hb,q,rfl⟩;go_wp2;go_ret;exact ⟨v',rfl,hb,fun b f=>by rw [q] at f;exact (ho.lt b f).1,c⟩

theorem Cc (V k:Nat):dig V k=dig V (2*k) 4294967296+4294967296*dig V (2*k+1) 4294967296:=by
 unfold dig;have e:(18446744073709551616:Nat)^k=4294967296^(2*k):=by rw [aW]
 have e2:(4294967296:Nat)^(2*k+1)=4294967296^(2*k)*4294967296:=aG ..;rw [e,e2,<- di];generalize V/4294967296^(2*k)=x;omega

theorem sF (x y:Nat) (hx:x<4294967296) (hy:y<4294967296):bits .or .u64 (x:Int) ((y:Int)*4294967296)=((x+4294967296*y:Nat):Int):=by
 have h:=u64_or_nat x (y*4294967296) (by omega) (by omega);have hj:=nat_join 32 (y*4294967296) x (by omega) (by omega);rw [Nat.or_comm,hj] at h;have e1:(y:Int)*4294967296=((y*4294967296:Nat):Int):=by omega
 rw [e1,h];omega

theorem xu (V n k:Nat) (h:k<n):(digs V k ++ List.replicate (n-k) 0).set k (dig V k)=digs V (k+1) ++ List.replicate (n-(k+1)) 0:=by
 rw [ir _ _ (by rw [ag];omega),ag,cj,digs,show n-k=(n-(k+1))+1 by omega,j9];simp

theorem Tryz.info24:(prog.info? 24).map (fun i=>(i.zero,i.size,i.bytes))=some (some (.int .u64 0),1,8):=by kernel_rfl

theorem bD (k:IntKind) (n:Nat):(madeCells (Value.int k 0).cells (n*1)).toList=(List.replicate n 0).map fun z:Nat=>Value.int k (z:Int):=by
 rw [bI];show (madeCells #[Value.int k 0] n).toList=_
 rw [toList_madeCells_one,List.map_replicate];rfl

theorem yU (v:Value) (V n:Nat) (w:World) (h:IsBig w v V) (hn:n<=1000000000:=by omega) :
  ClZ 49 #[v,.int .i64 n] w fun r w'=>∃ v',r=.returned v'/\Row .u64 w' v' (digs V n)/\v'.ownBlock=some w.heap.size/\Kept af w w':=by
 obtain ⟨i0,g,m,o,p⟩:=info_parts Tryz.info24;obtain ⟨ds,hr,hd,_,rfl,_⟩:=h;have HD:=fun i W (hk:Kept af w W)=>nj v ds i W (hr.g hk)
 have hV:∀ i,ds.getD i 0=dig (val ds 4294967296) i 4294967296:=fun i=>(dn (by omega) hd i).symm
 have hlt:∀ i,dig (val ds 4294967296) i 4294967296<4294967296:=fun i=>bu
 simp only [hV] at HD;clear hr hd hV;generalize val ds 4294967296=V at *;have hm:max (n:Int) 0=(n:Int):=by omega
 delta ClZ;go_in;go_wp2_with (at_make;refine wpList_make_full _ rfl _ _ 23 rfl w.heap.size 24 i0 _ 1 underlying23 g m o _ _ _ _ n rfl rfl rfl rfl (by rw [p];omega) (by unfold maxLen;omega) (leR _) ?_;intro w1 b f);rw [bD] at b;have k1:=bf f;go_loopw [12] (fun i wr=>∃ k:Nat,k<=n/\i=.int .i64 k/\wr.ownsRow w.heap.size 24 1 (.slice (some ⟨w.heap.size,0,none⟩) n n) n ((digs V k ++ List.replicate (n-k) 0).map fun z=>.int .u64 (z:Nat))/\Kept af w wr) (fun i _=>n-(intOf i).toNat)
 case atStart=>exact ⟨0,aQ _,rfl,by simpa [digs] using b,k1⟩
 case round=>
  clear b f k1;obtain ⟨k,hk,rfl,ho,a⟩:=hrel;by_cases hkn:k<n
  ·have j:(k:Int)<(n:Int):=by omega
   have hc:wr.cell? ⟨w.heap.size,k,none⟩=some (.int .u64 0):=by
    rw [World.ownsRow.cellAt ho k (by omega),bV,io (by rw [ag];omega),ag,cj,eF,cf];rfl
   have hf:=World.ownsRow.frozenAt ho k;have l:=fun u=>(World.ownsRow.stored ho k u).1
   have c:=HD (2*k) wr a;have d:=HD (2*k+1) wr a;rw [show ((2*k:Nat):Int)=2*(k:Int) by omega] at c;rw [show ((2*k+1:Nat):Int)=2*(k:Int)+1 by omega] at d;have hj:HzD (bits .or .u64 (dig V (2*k) 4294967296:Nat) ((dig V (2*k+1) 4294967296:Nat)*4294967296)=((dig V k:Nat):Int)):=by
    unfold HzD;rw [Cc];exact sF _ _ (hlt _) (hlt _)
   have l0:=hlt (2*k);have l1:=hlt (2*k+1);clear HD hlt;generalize dig V (2*k) 4294967296=d0 at *;generalize dig V (2*k+1) 4294967296=d1 at *;go_wp2_with fail;refine c.mono ?_;rintro e w' ⟨rfl,rfl⟩;go_wp2_with fail;refine d.mono ?_;rintro e w' ⟨rfl,rfl⟩;go_wp2;rw [hj.o];go_roundw
   case rel=>
    refine ⟨k+1,by omega,by go_num,?_,a.setCell _ (fun h=>by simp at h) _⟩;rw [<- xu V n k hkn,cG];exact l _
   case measure=>simp [intOf];omega
  ·have j:¬ (k:Int)<(n:Int):=by omega
   have e:k=n:=by omega
   subst e;rw [cj,fg,dY] at ho;clear HD hlt;go_wp2;go_ret;exact ⟨_,rfl,Row.of_own (by rw [ag];exact ho),rfl,a⟩

def am (V:Nat):Nat:=if V=0 then 0 else Nat.log2 V/64+1

theorem aC (V n:Nat):am V<=n↔V<18446744073709551616^n:=by
 unfold am;have e:(18446744073709551616:Nat)^n=2^(64*n):=by rw [aW]
 rw [e];by_cases h:V=0
 ·subst h;simp [Nat.pow_pos]
 ·rw [ar h];have:=Nat.log2_lt (n:=V) (k:=64*n) h;omega

theorem rH {ds:LN} (hd:Digs ds 4294967296) (ht:iD ds):(ds.length+1)/2=am (val ds 4294967296):=by
 have a:∀ n,(ds.length+1)/2<=n↔am (val ds 4294967296)<=n:=fun n=>by
  rw [aC];have e:(18446744073709551616:Nat)^n=4294967296^(2*n):=by rw [aW]
  rw [e,<- jm (by omega) hd ht];omega
 have h1:=(a ((ds.length+1)/2)).1 (leR _);have h2:=(a (am (val ds 4294967296))).2 (leR _);omega

theorem oX (v:Value) (V:Nat) (w:World) (h:IsBig w v V):ClZ 48 #[v] w fun r w'=>r=.returned (.int .i64 (am V:Nat))/\w'=w:=by
 obtain ⟨ds,hr,hd,ht,rfl,hl⟩:=h;rw [<- rH hd ht];exact If v ds w hr (by omega)

theorem BB {v:Value} (h:IsBig w v V):am V<=500000000:=by
 obtain ⟨ds,hr,hd,ht,rfl,hl⟩:=h;rw [<- rH hd ht];omega

theorem tH (v:Value) (V:Nat) (w:World) (h:IsBig w v V) :
  ClZ 44 #[v] w fun r w'=>∃ v',r=.returned v'/\Row .u64 w' v' (digs V (max (am V) 1))/\v'.ownBlock=some w.heap.size/\Kept af w w':=by
 have hb:=BB h;have h1:=oX v V w h;have h2:=yU v V (max (am V) 1) w h;rw [show ((max (am V) 1:Nat):Int)=max (am V:Int) 1 by omega] at h2;generalize am V=n at *;delta ClZ;go_in;go_wp2_with fail;refine h1.mono ?_;rintro e w' ⟨rfl,rfl⟩;go_wp2_with fail;refine h2.mono ?_;rintro e w1 ⟨v',rfl,hr⟩;go_wp2;go_ret;exact ⟨_,rfl,hr⟩

def cY (a b:Nat):Int:=if a<b then -1 else if a=b then 0 else 1

theorem fh {a b:Nat} (h:a<b):cY a b=-1:=ai h

theorem jA {a b:Nat} (h:b<a):cY a b=1:=by unfold cY;rw [aK,aK]

theorem jz {a b:Nat} (h:a=b):cY a b=0:=by unfold cY;rw [aK,ai h]

theorem rD {a b:LN} (ha:Digs a 4294967296) (tb:iD b) (h:a.length<b.length):val a 4294967296<val b 4294967296:=by
 have h1:=aE (by omega) ha;have h2:=kG (B:=4294967296) tb;have h3:(4294967296:Nat)^a.length<=4294967296^(b.length-1):=bj (by omega) (by omega);omega

theorem rE {a b:LN} {k:Nat} (ha:Digs a 4294967296) (hl:a.length=b.length) (hk:k<a.length) (hd:a.drop (k+1)=b.drop (k+1)) (h:a.getD k 0<b.getD k 0):val a 4294967296<val b 4294967296:=by
 have ea:=bg 4294967296 a k;have eb:=bg 4294967296 b k;rw [eE hk] at ea;rw [eE (by omega:k<b.length),<- hd] at eb;simp only [val] at ea eb;have h1:val (a.take k) 4294967296<4294967296^k:=by
  have:=aE (by omega) (ha.take k)
  rwa [aR,fT] at this
 rw [aA,aA,aS hk,aS (by omega:k<b.length)] at h;simp only [jy] at h;have h2:4294967296^k*(a[k]+4294967296*val (a.drop (k+1)) 4294967296+1)<=4294967296^k*(b[k]+4294967296*val (a.drop (k+1)) 4294967296):=bG _ (by omega);rw [aJ,bI] at h2;omega

theorem AN {a b:LN} {k:Nat} (hl:a.length=b.length) (hk:k<a.length) (hd:a.drop (k+1)=b.drop (k+1)) (h:a.getD k 0=b.getD k 0):a.drop k=b.drop k:=by
 rw [eE hk,eE (by omega:k<b.length),hd];rw [aA,aA,aS hk,aS (by omega:k<b.length)] at h;simp only [jy] at h;rw [h]

theorem Gj (w:World) (a b c:Nat):∃ n,((w.drewN a).drewN b).drewN c=w.drewN n:=⟨_,by rw [World.drewN_drewN,World.drewN_drewN]⟩

theorem mI (u v:Value) (A B:Nat) (w:World) (hu:IsBig w u A) (hv:IsBig w v B) :
  ClZ 18 #[u,v] w fun r w'=>r=.returned (.int .i64 (cY A B))/\∃ n,w'=w.drewN n:=by
 obtain ⟨a,ra,da,ta,rfl,la⟩:=hu;obtain ⟨b,rb,db,tb,rfl,lb⟩:=hv;obtain ⟨ao,n,ac,rfl,hN,h1,h2,_,hA⟩:=ra.open;obtain ⟨bo,m,bc,rfl,hM,f,g,_,hB⟩:=rb.open;rw [hN.o] at la;rw [hM.o] at lb;clear ra rb;by_cases hl:n=m
 ·subst hl;have hL:HzD (a.length=b.length):=hN.o.trans hM.o.symm;delta ClZ;go_in;go_wp2_with fail;go_loopw [5] (fun i wr=>∃ k:Nat,k<=n/\i=.int .i64 ((k:Int)-1)/\HzD (a.drop k=b.drop k)/\∃ j,wr=w.drewN j) (fun i _=>(intOf i+1).toNat)
  case atStart=>exact ⟨n,leR _,rfl,by have:=hN.o;have:=hM.o;unfold HzD;rw [jI,jI],0,rfl⟩
  case round=>
   obtain ⟨k,hk,rfl,hd,j,rfl⟩:=hrel;cases k with
   | zero=>
    have he:HzD (cY (val a 4294967296) (val b 4294967296)=0):=by
     have:=hd.o;rw [il,il] at this;exact jz (by rw [this])
    clear hA hB;go_wp2;go_ret;rw [he.o];exact ⟨rfl,j,rfl⟩
   | succ i=>
    obtain ⟨ga,oa,rfl,ca⟩:=hA i (by omega);obtain ⟨gb,ob,rfl,cb⟩:=hB i (by omega);have hlt:HzD (a.getD i 0<b.getD i 0->val a 4294967296<val b 4294967296):=fun h=>rE da hL.o (by have:=hN.o;omega) hd.o h
    have d:HzD (b.getD i 0<a.getD i 0->val b 4294967296<val a 4294967296):=fun h=>rE db hL.o.symm (by have:=hM.o;omega) hd.o.symm h
    have e:HzD (a.getD i 0=b.getD i 0->a.drop i=b.drop i):=fun h=>AN hL.o (by have:=hN.o;omega) hd.o h
    clear hA hB hd;generalize a.getD i 0=x at *;generalize b.getD i 0=y at *;have l:(0:Int)<=(i:Int):=cN _;have o:(i:Int)<(n:Int):=by omega
    by_cases he:x=y
    ·have hq:((x:Int) == (y:Int))=true:=by simp [he]
     subst he;go_wp2_with fail;go_quiet (fail);go_wp2;go_roundw
     case rel=>exact ⟨i,by omega,by go_num,e.o (by first | rfl | trivial),_,rfl⟩
     case measure=>simp [intOf]
    ·have hq:((x:Int) == (y:Int))=false:=by simp;omega
     have q:((x:Int) != (y:Int))=true:=by simp;omega
     by_cases hc:x<y
     ·have hr:HzD (cY (val a 4294967296) (val b 4294967296)=-1):=fh (hlt.o hc);have c:decide ((x:Int)<(y:Int))=true:=by simp;omega
      go_wp2_with fail;go_quiet (fail);go_wp2_with fail;go_quiet (fail);go_wp2;go_ret;rw [hr.o];exact ⟨rfl,Gj _ _ _ _⟩
     ·have hr:HzD (cY (val a 4294967296) (val b 4294967296)=1):=jA (d.o (by omega));have c:decide ((x:Int)<(y:Int))=false:=by simp;omega
      go_wp2_with fail;go_quiet (fail);go_wp2_with fail;go_quiet (fail);go_wp2;go_ret;rw [hr.o];exact ⟨rfl,Gj _ _ _ _⟩
 ·have p:¬ (n:Int)=(m:Int):=by omega
  clear hA hB;by_cases hc:n<m
  ·have hr:HzD (cY (val a 4294967296) (val b 4294967296)=-1):=fh (rD da tb (by have:=hN.o;have:=hM.o;omega));have c:(n:Int)<(m:Int):=by omega
   delta ClZ;go_in;go_wp2;go_ret;rw [hr.o];exact ⟨rfl,0,rfl⟩
  ·have hr:HzD (cY (val a 4294967296) (val b 4294967296)=1):=jA (rD db ta (by have:=hN.o;have:=hM.o;omega));have c:¬ (n:Int)<(m:Int):=by omega
   delta ClZ;go_in;go_wp2;go_ret;rw [hr.o];exact ⟨rfl,0,rfl⟩

theorem gW (k:Kept af w w') (hB:B<=w.heap.size):Below B w w':=k.below hB (fun _ f=>f.elim)

theorem aa {p:Prop} (h:p):HzD p:=h

theorem Row.of_block {g:Nat} {t:TypeId} {zs:LN} (hg:w.heap[g]? = some (.cells (zs.map fun z=>Value.int k (z:Nat)).toArray t (0,0))) (hl:zs.length=n) (hm:n<=maxLen) :
  Row k w (.slice (some ⟨g,0,none⟩) n n) zs:=by
 refine Row.of_own (base:=0) (e:=t) ⟨by simp,.inr ⟨g,n,_,by rw [hl],aQ _,hg,by omega,hm,by simp [hl],?_⟩⟩;rw [bI,dS (by simp)]

theorem dZ {g base:Nat} {t:TypeId} {zs:LN} (hg:w.heap[g]? = some (.cells (zs.map fun z=>Value.int k (z:Nat)).toArray t (0,0))) (hl:zs.length=n) (hm:n<=maxLen) (hb:base<=g:=by omega) :
  OwnN k t w base (.slice (some ⟨g,0,none⟩) n n) n zs:=by
 refine ⟨by simp [hl],.inr ⟨g,n,_,rfl,hb,hg,by omega,hm,by simp [hl],?_⟩⟩;rw [bI,dS (by simp [hl])]

theorem iy {base:Nat} {g:Nat} (h:w.ownsRow base e 1 (.slice (some ⟨g,0,none⟩) n n) n xs):w.heap[g]? = some (.cells xs.toArray e (0,0)):=by
 rcases h.2 with ⟨e1,_⟩ | ⟨g',cap,cur,e1,_,hg,_,_,hs,ht⟩
 ·cases e1
 ·simp only [Value.slice.injEq,iI,Addr.mk.injEq] at e1;obtain ⟨⟨rfl,_⟩,_,rfl⟩:=e1;rw [hg];have:cur.toList=xs:=by
   rw [<- ht,dS];rw [Array.length_toList,hs];exact leR _
  rw [<- this]

theorem ew {P:Program} (dT sT ty c:TypeId) (g off a e:Nat) (dp ao:OA) (d f:Nat) (h:List Value) (t:TypeId) (cs:List Value) (hu:P.underlying dT=some (.slice c)) (n:(P.info? c).map (·.size)=some 1)
  (hg:w.heap[g]? = some (.cells h.toArray t (0,0))) (hn:cs.length=Nat.min d a) (l:0<cs.length->dp=some ⟨g,off,none⟩/\∃ ad,ao=some ad/\∀ j u,cs[j]? = some u->w.cell? (ad.add j)=some u) (i:off+cs.length<=h.length) (h1:∀ u ∈ cs,u.oneCell'=true) :
  ∃ w',(Builtin.copy_ #[dT,sT] ty #[.slice dp a e,.slice ao d f]).run P w=.ok (goInt cs.length) w'/\w'.heap[g]? = some (.cells (splice h off cs).toArray t (0,0))/\Kept (fun b=>b=g) w w':=by
 by_cases h0:cs.length=0
 ·obtain rfl:cs=[]:=kX h0;exact ⟨w,by simpa using run_copy_none (P:=P) w dT sT ty c dp ao a e d f hu n (by simpa using hn.symm),by simpa [splice] using hg,ah _ _⟩
 ·obtain ⟨rfl,ad,rfl,m⟩:=l (by omega);refine ⟨_,run_copy_row (P:=P) w dT sT ty c g off a e ad d f h.toArray t cs hu n hg hn m (by simpa using i) h1,?_,?_⟩
  ·simpa [splice] using setRow_heap w g _ _ t _ hg
  ·exact ⟨rfl,rfl,rfl,by simp [World.setRow],fun k hk o=>setRow_other w g k _ o⟩

theorem fH {w1 w2:World} {g:Nat} (k1:Kept af w w1) (k2:Kept (fun b=>b=g) w1 w2) (hg:w.heap.size<=g):Kept af w w2:=
 k1.next k2 (fun x hx e=>by omega)

theorem iN {ys:LN} (hd:Digs ys) (hv:val ys=V) (hl:ys.length<=m:=by omega):digs V m=ys ++ List.replicate (m-ys.length) 0:=by
 have hz:val (List.replicate (m-ys.length) 0)=0:=eY _ (fun d hd=>(ff.1 hd).2);refine (cS (by omega) (B:=18446744073709551616) (hd.append ?_) (by simp;omega) ?_).symm
 ·intro d hd;rw [ff] at hd;omega
 ·rw [eK,hz,df,aV,hv,aB];rw [<- hv];exact bi (aE (by omega) hd) (bj (by omega) hl)

theorem ig (ys:LN) (m:Nat) (f:Nat->Value):splice ((List.replicate m 0).map f) 0 (ys.map f)=(ys ++ List.replicate (m-ys.length) 0).map f:=by
 simp [splice]

theorem oH (V j:Nat):dig V (j/64)/2^(j%64)%2=V/2^j%2:=by
 unfold dig;have e1:(18446744073709551616:Nat)^(j/64)=2^(64*(j/64)):=by rw [aW]
 rw [e1,show (18446744073709551616:Nat)=2^(j%64)*2^(64-j%64) by rw [<- aL,show j%64+(64-j%64)=64 by omega],Nat.mod_mul_right_div_self,di,<- aL,show 64*(j/64)+j%64=j by omega,nI];exact ⟨2^(63-j%64),by rw [show 64-j%64=(63-j%64)+1 by omega,aG,aD]⟩

theorem Row.lt {v:Value} {xs:LN} (h:Row k w v xs) (c:xs≠[]):∀ b,v.ownBlock=some b->b<w.heap.size:=by
 obtain ⟨ao,d,rfl,_,_,_,hc⟩:=h;intro b hb;have:0<xs.length:=by
  rcases xs with _ | ⟨x,r⟩
  ·exact absurd rfl c
  ·simp
 obtain ⟨b',off,rfl,a⟩:=hc 0 this;have e:b'=b:=by simpa [Value.ownBlock] using hb
 subst e;exact World.block_lt_of_cell? w _ a

theorem Row.kept' {v:Value} {zs:LN} (h:Row k w v zs) (hk:Kept S w w') (hs:zs≠[]->∀ b,v.ownBlock=some b->¬ S b):Row k w' v zs:=by
 by_cases h0:zs=[]
 ·subst h0;obtain ⟨ao,a,rfl,h1,h2,h3,_⟩:=h;exact ⟨ao,a,rfl,h1,h2,h3,fun i hi=>absurd hi (by simp)⟩
 ·exact h.kept hk (hs h0)

theorem row_of_ints {a:OA} {c f:Nat} {zs:List Int} (hk:∀ n,(Lit.int k n).wf=true->0<=n/\n<(B:Int))
  (h:(a=none/\c=0/\f=0/\zs=[])\/∃ x,a=some x/\c<=f/\f<=maxLen/\zs.length=f/\(∀ i,i<zs.length->w.cell? (x.add i)=some (.int k (zs.getD i 0)))/\∀ n ∈ zs,(Lit.int k n).wf=true) :
  ∃ ns:LN,Row k w (.slice a c f) ns/\Digs ns B:=by
 rcases h with ⟨rfl,rfl,rfl,rfl⟩ | ⟨x,rfl,hl,hm,hz,hcell,hwf⟩
 ·exact ⟨[],Row.nil _ _,Digs.nil _⟩
 ·have g:((zs.take c).map Int.toNat).length=c:=by rw [cJ,aR];omega
  refine ⟨(zs.take c).map Int.toNat,⟨some x,f,by rw [g],by omega,hm,(fun e=>by cases e),fun i hi=>?_⟩,fun d hd=>?_⟩
  ·rw [g] at hi;obtain ⟨b,off,rfl,hc⟩:=ints_at hcell (by omega);refine ⟨b,off,rfl,?_⟩;rw [hc i (by omega)];have j:i<zs.length:=by omega
   have h0:=(hk _ (hwf _ (List.getElem_mem j))).1;have e1:zs.getD i 0=zs[i]:=by rw [aA,aS j];rfl
   have e2:((zs.take c).map Int.toNat).getD i 0=(zs[i]).toNat:=by
    rw [aA,bV,eG,ai hi,aS j];rfl
   rw [e1,e2,Int.toNat_of_nonneg h0]
  ·obtain ⟨n,hn,rfl⟩:=jv.1 hd;have:=hk n (hwf n (List.mem_of_mem_take hn));omega

theorem tV:∀ n,(Lit.int .u64 n).wf=true->0<=n/\n<((18446744073709551616:Nat):Int):=fun n h=>by
 have:=bounds_u64 h;omega

theorem wf_u8:∀ n,(Lit.int .u8 n).wf=true->0<=n/\n<((256:Nat):Int):=fun n h=>by
 have:=bounds_u8 h;omega

end Go.Proofs.YtpkmoamgpjcdeaaGreatDoor
