/- Put together of: Byt1 Scr1 Scr2 Scr3 Scr4 Gro1 Prm4. -/
import Derived.Test.YtcemlfokmjjiaaaGreatDoorPp4
import Derived.Laws.AppendOwn
import Derived.Laws.AppendOwnNone
import Derived.Laws.BytesArg
import Derived.Lib.Strings

namespace Go.Proofs.YtcemlfokmjjiaaaGreatDoor
set_option maxRecDepth 100000
set_option maxHeartbeats 4000000
open Go.RowKit

theorem Tryz.info8s:(Tryz.prog.info? 5).map (fun i=>(i.zero,i.size,i.bytes))=some (some (.int .u8 0),1,1):=by kernel_rfl

def OwnB (w:World) (base:Nat) (v:Value) (zs:List Nat):Prop:=OwnN .u8 5 w base v zs.length zs

theorem OwnB.row {w:World} {base:Nat} {v:Value} {zs:List Nat} (h:OwnB w base v zs):Row .u8 w v zs:=Row.of_own (base:=base) (e:=5) h

theorem OwnB.of {w:World} {base n:Nat} {v:Value} {zs:List Nat} (h:OwnN .u8 5 w base v n zs):OwnB w base v zs:=by
 have hn:zs.length=n:=by
  have:=h.1;rw [List.length_map] at this;omega
 unfold OwnB;rw [hn];exact h

theorem OwnB.kept {S:Nat→Prop} {w w':World} {base:Nat} {v:Value} {zs:List Nat} (h:OwnB w base v zs) (hk:Kept S w w') (hs:∀ b,base≤b→¬ S b):OwnB w' base v zs:=hk.own h fun b hb=>hs b (h.lt b hb).1

theorem OwnB.base {w:World} {base base':Nat} {v:Value} {zs:List Nat} (h:OwnB w base v zs) (hb:base'≤base):OwnB w base' v zs:=aU h fun k hk=>Nat.le_trans hb (h.lt k hk).1

theorem OwnB.nil (w:World) (base:Nat):OwnB w base (.slice none 0 0) []:=World.ownsRow_nil _ _ _ _

def mW:Value→Nat
 | .slice _ n _=>n
 | _=>0

theorem tU {k:IntKind} {w:World} {b off n cap s m:Nat} {zs:List Nat} (h:Row k w (.slice (some ⟨b,off,none⟩) n cap) zs) (h2:s+m≤n):Row k w (.slice (some ⟨b,off+s,none⟩) m (cap-s)) ((zs.drop s).take m):=by
 obtain ⟨ao,c,e',c1,c2,_,h4⟩:=h;cases e'
 have hl:((zs.drop s).take m).length=m:=by rw [List.length_take,List.length_drop];omega
 refine ⟨_,_,by rw [hl],by omega,by omega,(fun e=>by cases e),fun i hi=>?_⟩;rw [hl] at hi;obtain ⟨b',d,e',a⟩:=h4 (s+i) (by omega);cases e'
 refine ⟨b,off+s,rfl,?_⟩;rw [Nat.add_assoc,a,List.getD_eq_getElem?_getD,List.getD_eq_getElem?_getD,List.getElem?_take,if_pos hi,List.getElem?_drop]

theorem mX {k:IntKind} {w W:World} {ad:Addr} {n cap:Nat} {zs:List Nat} (h:Row k w (.slice (some ad) n cap) zs) (kk:Kept ae w W):∀ j u,(zs.map fun z:Nat=>Value.int k (z:Int))[j]? = some u→W.cell? (ad.add j)=some u:=fun j u hj=>by
 obtain ⟨hlt,hv⟩:=List.getElem?_eq_some_iff.1 hj;rw [List.length_map] at hlt;obtain ⟨ao,d,e',c1,c2,_,h4⟩:=h;cases e'
 obtain ⟨b,off,e',a⟩:=h4 j hlt;cases e'
 have c:(⟨b,off,none⟩:Addr).add j=⟨b,off+j,none⟩:=by unfold Addr.add;split <;> simp_all
 rw [c,kk.cellN a,← hv,List.getElem_map,List.getD_eq_getElem?_getD,List.getElem?_eq_getElem hlt];rfl

theorem yM (k:IntKind) (zs:List Nat):∀ u ∈ (zs.map fun z:Nat=>Value.int k (z:Int)),u.oneCell'=true:=fun u hu=>by
 obtain ⟨x,_,rfl⟩:=List.mem_map.1 hu;rfl

theorem iH {w:World} {ops:Array Oper} {rest:List Oper} {o:Oper} {a:Act} {Q:Exit→Act→World→Prop} (b:o.guard=none) (s x:Operand)
  (ho:o.op=.call { callee:=.builtin .append,args:=#[s,x],argTypes:=#[22,22] })
  (base:Nat) (v:Value) (zs:List Nat) (hs:a.eval s=v) (hown:OwnB w base v zs) (u:Value) (hx:a.eval x=u) (bs:List Nat) (hr:Row .u8 w u bs) (hl:zs.length+bs.length≤100000000) (hbase:base≤w.heap.size)
  (h:∀ v' w',OwnB w' base v' (zs ++ bs)→w.grownBy w' v.ownBlock→wpList Tryz.prog ops Q rest (a.put o.dst v') w'):wpList Tryz.prog ops Q (o :: rest) a w:=by
 obtain ⟨i0,c,j,d,e⟩:=info_parts Tryz.info8s;obtain ⟨ao,n,cap,rfl,hL,hc,_,hn,i⟩:=hr.open;cases ao with
 | none=>
  obtain rfl:=hn rfl;obtain rfl:n=0:=by omega
  obtain rfl:bs=[]:=List.length_eq_zero_iff.1 hL.out;refine wpList_append_own_none b s x 22 ho base 5 i0 1 Tryz.underlying22 c v zs.length _ hs hown hx ?_;exact h v w (by rw [List.append_nil];exact hown) ⟨rfl,rfl,rfl,leR _,fun _ _ _=>rfl⟩
 | some ad=>
  have g:=hL.out;refine wpList_append_own w b s x 22 ho base 5 i0 (.int .u8 0) 1 1 Tryz.underlying22 c j d e rfl (by decide) v zs.length _ hs hown ad n cap (bs.map fun z:Nat=>Value.int .u8 (z:Int)) hx ?_ (mX hr (ah _ _)) (yM .u8 bs) (by unfold maxLen;omega) (by omega) hbase ?_
  ·rw [List.length_map,g,Nat.mul_one]
  ·intro v' w' f hg _;refine h v' w' (OwnB.of (n:=zs.length+n) ?_) hg;unfold OwnN;rw [List.map_append];exact f

def Scr (w:World) (b:Nat) (v:Value) (bs:List Nat):Prop:=
 w.heap[b]? = some (.cells #[v] 30 (0,0))∧Row .u8 w v bs∧(bs≠[]→∀ x,v.ownBlock=some x→x≠b)

theorem Scr.lt {w:World} {b:Nat} {v:Value} {bs:List Nat} (h:Scr w b v bs):b<w.heap.size:=lt_of_block h.1

theorem Scr.cell {w:World} {b:Nat} {v:Value} {bs:List Nat} (h:Scr w b v bs):w.cell? ⟨b,0,none⟩=some v:=by
 rw [cell_of_row w b 0 _ _ _ h.1];rfl

theorem Scr.free {w:World} {b:Nat} {v:Value} {bs:List Nat} (h:Scr w b v bs):w.frozen? ⟨b,0,none⟩=false:=by simp [World.frozen?,h.1]

theorem Scr.kept {S:Nat→Prop} {w w':World} {b:Nat} {v:Value} {bs:List Nat} (h:Scr w b v bs) (k:Kept S w w') (hb:¬ S b) (hs:bs≠[]→∀ x,v.ownBlock=some x→¬ S x):Scr w' b v bs:=
 ⟨(k.block b h.lt hb).trans h.1,h.2.1.kept' k hs,h.2.2⟩

theorem Scr.grew {w w':World} {b:Nat} {v:Value} {bs:List Nat} (h:Scr w b v bs) (k:Kept ae w w'):Scr w' b v bs:=h.kept k (fun f=>f) (fun _ _ _ f=>f)

theorem Scr.put {w:World} {b:Nat} {v:Value} {bs:List Nat} (h:Scr w b v bs) (u:Value) (zs:List Nat) (hr:Row .u8 w u zs) (hs:zs≠[]→∀ x,u.ownBlock=some x→x≠b):Scr (w.setCell ⟨b,0,none⟩ u) b u zs:=by
 refine ⟨?_,hr.kept' ((ah (fun x=>x=b) w).setCell ⟨b,0,none⟩ (fun _=>rfl) u) hs,hs⟩;have:=heap_setCell_same w b 0 _ 30 u h.1;rw [this];rfl

def ScrAt (w:World) (b B:Nat) (bs:List Nat):Prop:=∃ v,Scr w b v bs∧b<B∧(bs≠[]→∀ x,v.ownBlock=some x→x<B)

theorem ScrAt.lt {w:World} {b B:Nat} {bs:List Nat} (h:ScrAt w b B bs):b<w.heap.size:=by
 obtain ⟨_,h,_⟩:=h;exact h.lt

theorem ScrAt.kept {S:Nat→Prop} {w w':World} {b B:Nat} {bs:List Nat} (h:ScrAt w b B bs) (k:Kept S w w') (hs:∀ x,x<B→¬ S x):ScrAt w' b B bs:=by
 obtain ⟨v,h,hb,hx⟩:=h;exact ⟨v,h.kept k (hs b hb) (fun e x hv=>hs x (hx e x hv)),hb,hx⟩

theorem ScrAt.grew {w w':World} {b B:Nat} {bs:List Nat} (h:ScrAt w b B bs) (k:Kept ae w w'):ScrAt w' b B bs:=h.kept k fun _ _ f=>f

theorem uA {k:IntKind} {w:World} {ad:Addr} {L cap n:Nat} {zs:List Nat} (h:Row k w (.slice (some ad) L cap) zs) (hn:n≤L):Row k w (.slice (some (ad.add n)) (L-n) (cap-n)) (zs.drop n):=by
 obtain ⟨ao,a,e,c1,c2,_,h4⟩:=h;cases e
 have hl:(zs.drop n).length=zs.length-n:=List.length_drop ..;refine ⟨_,_,by rw [hl],by omega,by omega,(fun e=>by cases e),fun i hi=>?_⟩;rw [hl] at hi;obtain ⟨b,off,e,hc⟩:=h4 (n+i) (by omega);cases e
 refine ⟨b,off+n,?_,?_⟩
 ·unfold Addr.add
  split <;> simp_all
 ·rw [Nat.add_assoc,hc,List.getD_eq_getElem?_getD,List.getD_eq_getElem?_getD,List.getElem?_drop]

theorem oY (ad:Addr) (n L cap L' a:Nat):(Value.slice (some (ad.add n)) L cap).ownBlock=(Value.slice (some ad) L' a).ownBlock:=by
 show some (ad.add n).block=some ad.block
 unfold Addr.add
 split <;> rfl

def aR (bs:List Nat) (n:Int):Nat:=if n<0 then 1 else if (bs.length:Int)<n then 150 else 0
def bG (bs:List Nat) (n:Int):List Nat:=if aR bs n=0 then bs.take n.toNat else []
def bf (bs:List Nat) (n:Int):List Nat:=if n<0 then bs else bs.drop n.toNat

theorem lL (b B:Nat) (bs:List Nat) (n:Int) (w:World) (h:ScrAt w b B bs) (hl:bs.length≤1000001) :
  Calls Tryz.prog 43 #[.pointer (some ⟨b,0,none⟩),.int .i64 n] w fun e w'=>∃ u,e=.returned (.tuple #[u,.int .i64 (aR bs n:Nat)])∧OwnB w' w.heap.size u (bG bs n)∧ScrAt w' b B (bf bs n)∧Kept (fun x=>x=b) w w':=by
 obtain ⟨v,h,hB,q⟩:=h;have l:=aa q;clear q;have hc:=h.cell;have hf:=h.free;have H:=aa h;obtain ⟨ao,L,cap,rfl,hL,D,F,t,z⟩:=h.2.1.open;have A:L≤1000001:=by have:=hL.out;omega
 by_cases h1:n<0
 ·have e1:aR bs n=1:=by unfold aR;rw [if_pos h1]
  have e2:bG bs n=[]:=by unfold bG;rw [e1];rfl
  have e3:bf bs n=bs:=by unfold bf;rw [if_pos h1]
  rw [e1,e2,e3];clear e1 e2 e3 h;go_enter Tryz.func43,Tryz.ntmps43;go_wp2_with fail;go_ret2;exact ⟨_,rfl,OwnB.nil _ _,⟨_,H.out,hB,l.out⟩,ah _ _⟩
 ·obtain ⟨m,rfl⟩:=Int.eq_ofNat_of_zero_le (show 0≤n by omega);by_cases h2:L<m
  ·have e1:aR bs (m:Int)=150:=by unfold aR;rw [if_neg h1,if_pos (by have:=hL.out;omega)]
   have e2:bG bs (m:Int)=[]:=by unfold bG;rw [e1];rfl
   have e3:bf bs (m:Int)=[]:=by unfold bf;rw [if_neg h1];exact List.drop_eq_nil_of_le (by have:=hL.out;simp;omega)
   rw [e1,e2,e3];have g1:(m:Int) > (L:Int):=by omega
   have g2:(L:Int)<(m:Int):=by omega
   have HP:=aa (H.out.put (.slice none 0 0) [] (Row.nil _ _) (fun e=>absurd rfl e));have HK:=aa ((ah (fun x=>x=b) w).setCell ⟨b,0,none⟩ (fun _=>rfl) (.slice none 0 0));clear e1 e2 e3 h;go_enter Tryz.func43,Tryz.ntmps43;go_wp2_with fail;go_ret2;exact ⟨_,rfl,OwnB.nil _ _,⟨_,HP.out,hB,fun e=>absurd rfl e⟩,HK.out⟩
  ·have e1:aR bs (m:Int)=0:=by unfold aR;rw [if_neg h1,if_neg (by have:=hL.out;omega)]
   have e2:bG bs (m:Int)=bs.take m:=by unfold bG;rw [e1];rfl
   have e3:bf bs (m:Int)=bs.drop m:=by unfold bf;rw [if_neg h1];rfl
   rw [e1,e2,e3];have g1:¬ (m:Int) > (L:Int):=by omega
   have g2:¬ (L:Int)<(m:Int):=by omega
   have g3:(m:Int)≤(cap:Int):=by omega
   have g4:m≤cap:=by omega
   have g5:m≤L:=by omega
   have g6:(0:Int)≤(m:Int):=by omega
   have g7:(m:Int)≤(L:Int):=by omega
   have hcut:=h.2.1.cut (m:=m) (by rw [hL.out];exact g5);have f:=aa hcut;clear e1 e2 e3 h hcut;cases ao with
   | none=>
    obtain rfl:=t rfl;obtain rfl:L=0:=by omega
    obtain rfl:m=0:=by omega
    obtain rfl:bs=[]:=List.length_eq_zero_iff.1 hL.out;have HP:=aa (H.out.put (.slice none 0 0) [] (Row.nil _ _) (fun e=>absurd rfl e));have HK:=aa ((ah (fun x=>x=b) w).setCell ⟨b,0,none⟩ (fun _=>rfl) (.slice none 0 0));go_enter Tryz.func43,Tryz.ntmps43;go_wp2_with fail;go_ret2;exact ⟨_,rfl,OwnB.nil _ _,⟨_,HP.out,hB,fun e=>absurd rfl e⟩,HK.out⟩
   | some ad=>
    have a:=uA (n:=m) H.out.2.1 g5;have hlt:(bs.take m).length≤1000001:=by rw [List.length_take];omega
    have c:=aa a;clear a;go_enter Tryz.func43,Tryz.ntmps43;go_wp2_with (at_builtin;refine iH rfl _ _ rfl w.heap.size _ [] rfl (OwnB.nil _ _) _ rfl (bs.take m) f.out (by simp;omega) (leR _) ?_);intro v1 w1 g o;have k1:Kept ae w w1:=(ah ae w).grown o (fun k hk hlt=>by cases hk);have H1:=aa (H.out.grew k1);have G:=H1.out.cell;have E:=H1.out.free;have s:=aa g;have r:=aa k1;have C:b<w.heap.size:=H.out.lt;have j:=aa fun u=>g.kept ((ah (fun x=>x=b) w1).setCell ⟨b,0,none⟩ (fun _=>rfl) u) (fun x hx e=>by
     have e':x=b:=e;omega)
    have p:=aa fun u=>(k1.any (S:=fun x=>x=b)).next ((ah (fun x=>x=b) w1).setCell ⟨b,0,none⟩ (fun _=>rfl) u) (fun x _ h=>h)
    have d:=H.out.2.2;clear g o k1 hc hf H f s;by_cases hcmm:cap=m
    ·subst hcmm;obtain rfl:L=cap:=by omega
     have ed:bs.drop L=[]:=List.drop_eq_nil_of_le (by rw [hL.out];exact leR _);have HP:=aa (H1.out.put (.slice (some ad) 0 0) [] ⟨_,_,rfl,Nat.zero_le _,by unfold maxLen;omega,(fun _=>rfl),fun i hi=>absurd hi (by simp)⟩ (fun e=>absurd rfl e));have y:=aa ed;clear ed;go_wp2_with fail;go_ret2;exact ⟨_,rfl,j.out _,by rw [y.out];exact ⟨_,HP.out,hB,fun e=>absurd rfl e⟩,p.out _⟩
    ·have HP:=aa (H1.out.put _ _ (c.out.grew r.out) (fun e x hx=>d (fun e2=>e (by rw [e2];exact List.drop_nil)) x (by rw [← hx];exact (oY ad m _ _ _ _).symm)));clear d;go_wp2_with fail;go_ret2;exact ⟨_,rfl,j.out _,⟨_,HP.out,hB,fun e x hx=>l.out (fun e2=>e (by rw [e2];exact List.drop_nil)) x (by rw [← hx];exact (oY ad m _ _ _ _).symm)⟩,p.out _⟩

def fF (b:Nat) (w:World):Nat:=match w.cell? ⟨b,0,none⟩ with
 | some v=>mW v
 | none=>0

theorem ScrAt.len {w:World} {b B:Nat} {bs:List Nat} (h:ScrAt w b B bs):fF b w=bs.length:=by
 obtain ⟨v,h,_⟩:=h;unfold fF;rw [h.cell];obtain ⟨_,_,e,_⟩:=h.2.1;rw [e];rfl

def dt (M t z:Nat):Nat→List Nat→Nat→Nat × Nat × List Nat
 | 0,_,_=>(0,0,[])
 | f+1,bs,k=>if bs.length<z then (0,0,[]) else if 0<bev (bs.take z)%2^t∧bev (bs.take z)%2^t<M then (bev (bs.take z)%2^t,k,bs.drop z) else dt M t z f (bs.drop z) (k+1)

def iu (M:Nat) (bs:List Nat):Nat × Nat × List Nat:=dt M (au M) ((au M+7)/8) (bs.length+1) bs 1

theorem pR (M t z:Nat) (hM:0<M):∀ f bs k,(dt M t z f bs k).1<M
 | 0,_,_=>hM
 | f+1,bs,k=>by
  unfold dt
  split
  ·exact hM
  ·split
   ·next h=>exact h.2
   ·exact pR M t z hM f _ _

theorem kV (M t z:Nat):∀ f bs k,∃ n,(dt M t z f bs k).2.2=bs.drop n
 | 0,bs,_=>⟨bs.length,by rw [List.drop_length];rfl⟩
 | f+1,bs,k=>by
  unfold dt
  split
  ·exact ⟨bs.length,by rw [List.drop_length]⟩
  ·split
   ·exact ⟨z,rfl⟩
   ·obtain ⟨n,hn⟩:=kV M t z f (bs.drop z) (k+1);exact ⟨z+n,by rw [hn,List.drop_drop]⟩

def bj (xs bs:List Nat):Nat:=if 300<xs.length then 2 else if val xs<2 then 1 else if (iu (val xs) bs).1=0 then 150 else 0
def de (xs bs:List Nat):List Nat:=if bj xs bs=0 then ag (iu (val xs) bs).1 xs.length else []
def eZ (xs bs:List Nat):Nat:=if bj xs bs=0 then (iu (val xs) bs).2.1 else 0
def dg (xs bs:List Nat):List Nat:=if 300<xs.length∨val xs<2 then bs else (iu (val xs) bs).2.2

theorem mS (b B:Nat) (bs xs:List Nat) (v:Value) (w:World) (h:ScrAt w b B bs) (hv:Row .u64 w v xs) (hd:Digs xs) (hl:xs.length≤1000000) (a:300<xs.length∨val xs<2) :
  Calls Tryz.prog 88 #[.pointer (some ⟨b,0,none⟩),v] w fun e w'=>e=.returned (.tuple #[.slice none 0 0,.int .i64 0,.int .i64 (bj xs bs:Nat)])∧ScrAt w' b B bs∧Kept ae w w':=by
 have H:=aa h;have J:=aa fun W (k:Kept ae w W)=>rOf v xs W (hv.grew k) hd (by omega)
 obtain ⟨ao,L,cap,rfl,hL,m,n,_,_⟩:=hv.open;have l:L≤1000000:=by have:=hL.out;omega
 clear h hv hd;by_cases h1:300<L
 ·have e1:bj xs bs=2:=by unfold bj;rw [hL.out,if_pos h1]
  rw [e1];have g1:(L:Int) > 300:=by omega
  have g2:(300:Int)<(L:Int):=by omega
  clear e1 a J;go_enter Tryz.func88,Tryz.ntmps88;go_wp2_with fail;refine bodyPost_ret (v:=.tuple #[.slice none 0 0,.int .i64 0,.int .i64 2]) (by simp [results,Tryz.results88,go_sem]) rfl ?_;exact ⟨rfl,H.out,ah _ _⟩
 ·have hV:val xs<2:=by
   have:=hL.out;rcases a with h | h
   ·omega
   ·exact h
  have e1:bj xs bs=1:=by unfold bj;rw [hL.out,if_neg h1,if_pos hV]
  rw [e1];have g1:¬ (L:Int) > 300:=by omega
  have g2:¬ (300:Int)<(L:Int):=by omega
  generalize val xs=V at *;have c:aJ V 2=-1:=cf hV;have HC:=aa c;clear e1 a hV c;go_enter Tryz.func88,Tryz.ntmps88;go_wp2_with fail;refine (J.out _ (ah _ _)).mono ?_;rintro e w1 ⟨v1,rfl,d,f1,k1⟩;have J2:=aa (cN 2 (by omega) w1);have j:=aa d;have i:=aa k1;clear d f1 k1 J;go_wp2_with fail;refine J2.out.mono ?_;rintro e w2 ⟨v2,rfl,f,f2,k2⟩;have J3:=gV v1 v2 V 2 w2 (j.out.grew k2) f;rw [HC.out] at J3;have J3:=aa J3;have g:=aa (i.out.trans k2);clear f f2 k2 J2;go_wp2_with fail;refine J3.out.mono ?_;rintro e w3 ⟨rfl,nn,rfl⟩;clear J3;go_wp2_with fail
  refine bodyPost_ret (v:=.tuple #[.slice none 0 0,.int .i64 0,.int .i64 1]) (by simp [results,Tryz.results88,go_sem]) rfl ?_;exact ⟨rfl,H.out.grew (g.out.drewN nn),g.out.drewN nn⟩

theorem gP {M t z f k:Nat} {bs:List Nat} (hf:bs.length<f) (hz:0<z):(bs.length<z∧dt M t z f bs k=(0,0,[])) ∨
  (¬ bs.length<z∧(0<bev (bs.take z)%2^t∧bev (bs.take z)%2^t<M)∧dt M t z f bs k=(bev (bs.take z)%2^t,k,bs.drop z)) ∨
  (¬ bs.length<z∧¬ (0<bev (bs.take z)%2^t∧bev (bs.take z)%2^t<M)∧∃ g,(bs.drop z).length<g∧dt M t z f bs k=dt M t z g (bs.drop z) (k+1)):=by
 obtain ⟨g,rfl⟩:∃ g,f=g+1:=⟨f-1,by omega⟩
 by_cases h1:bs.length<z
 ·exact .inl ⟨h1,by rw [dt,if_pos h1]⟩
 ·by_cases h2:0<bev (bs.take z)%2^t∧bev (bs.take z)%2^t<M
  ·exact .inr (.inl ⟨h1,h2,by rw [dt,if_neg h1,if_pos h2]⟩)
  ·exact .inr (.inr ⟨h1,h2,g,by rw [List.length_drop];omega,by rw [dt,if_neg h1,if_neg h2]⟩)

theorem mL (b B:Nat) (bs xs:List Nat) (v:Value) (w:World) (h:ScrAt w b B bs) (al:Digs bs 256) (aZ:bs.length≤1000000) (hv:Row .u64 w v xs) (hd:Digs xs) (hl:xs.length≤300) (aN:2≤val xs) :
  Calls Tryz.prog 88 #[.pointer (some ⟨b,0,none⟩),v] w fun e w'=>∃ u,e=.returned (.tuple #[u,.int .i64 (eZ xs bs:Nat),.int .i64 (bj xs bs:Nat)])∧Row .u64 w' u (de xs bs)∧(∀ x,u.ownBlock=some x→w.heap.size≤x)∧ScrAt w' b B (dg xs bs)∧Kept (fun x=>x=b) w w':=by
 have H:=aa h;have J:=aa fun W (k:Kept ae w W)=>rOf v xs W (hv.grew k) hd (by omega)
 obtain ⟨ao,L,cap,rfl,hL,a7,aQ,_,_⟩:=hv.open;have bc:L≤300:=by have:=hL.out;omega
 obtain ⟨M,hM⟩:∃ M,M=val xs:=⟨_,rfl⟩
 rw [← hM] at aN;have aY:aI M≤600:=by rw [hM];have:=vZ hd;omega
 obtain ⟨t,ht⟩:∃ t,t=au M:=⟨_,rfl⟩
 have a4:t≤19200:=by rw [ht,hM];have:=mK hd;omega
 have a9:0<t:=by
  have:=(aA M 0).1;rw [ht];rcases Nat.eq_zero_or_pos (au M) with e | e
  ·have:=this (by omega);omega
  ·exact e
 obtain ⟨z,hz⟩:∃ z,z=(t+7)/8:=⟨_,rfl⟩
 have aE:0<z:=by omega
 have ba:z≤2401:=by omega
 have HE:Hid (bj xs bs=if (iu M bs).1=0 then 150 else 0):=by unfold Hid bj;rw [if_neg (by omega),← hM,if_neg (by omega)]
 have HX:Hid (de xs bs=if bj xs bs=0 then ag (iu M bs).1 L else []):=by unfold Hid de;rw [← hM,hL.out]
 have af:Hid (eZ xs bs=if bj xs bs=0 then (iu M bs).2.1 else 0):=by unfold Hid eZ;rw [← hM]
 have HR:Hid (dg xs bs=(iu M bs).2.2):=by unfold Hid dg;rw [← hM,if_neg (by omega)]
 have HN:Hid (iu M bs=dt M t z (bs.length+1) bs 1):=by unfold Hid iu;rw [hz,ht]
 rw [← hM] at J;have HT:=aa ht;have Q:aJ M 2=0∨aJ M 2=1:=by
  rcases Nat.lt_or_ge 2 M with h | h
  ·exact .inr (c9 h)
  ·obtain rfl:M=2:=by omega
   exact .inl (by unfold aJ;simp)
 have aj:¬ aJ M 2<0:=by omega
 have aO:=aa al;have a2:b<w.heap.size:=h.lt;have a5:((t:Int)+7).tdiv 8=(z:Int):=by rw [Int.tdiv_eq_ediv_of_nonneg (by omega)];omega
 have aU:((t:Int)+7)/8=(z:Int):=by omega
 clear h hv hd al hM ht hz Q;go_enter Tryz.func88,Tryz.ntmps88;go_wp2_with fail;refine (J.out _ (ah _ _)).mono ?_;rintro e w1 ⟨v1,rfl,az,f1,k1⟩;have J2:=aa (cN 2 (by omega) w1);have E:=aa az;have aH:=aa f1;have aq:=aa k1;clear az f1 k1 J;go_wp2_with fail;refine J2.out.mono ?_;rintro e w2 ⟨v2,rfl,ai,f2,k2⟩;have J3:=aa (gV v1 v2 M 2 w2 (E.out.grew k2) ai);have an:=aa (aq.out.trans k2);have aw:=aa (E.out.grew k2);clear ai f2 k2 J2 E aq;generalize aJ M 2=cm at *;go_wp2_with fail;refine J3.out.mono ?_;rintro e w3 ⟨rfl,nn,rfl⟩;have ab:=aa (aw.out.grew ((ah ae w2).drewN nn));have V:=aa (an.out.drewN nn)
 generalize w2.drewN nn=w3 at *;clear J3 aw an;have J4:=pq v1 M w3 ab.out;rw [← HT.out] at J4;have J4:=aa J4;go_wp2_with fail;refine J4.out.mono ?_;rintro e w4 ⟨rfl,rfl⟩;clear J4;obtain ⟨s1,a6,a8,rfl,_⟩:=ab.out.length;go_wp2_with fail;go_loopw [9] (fun kv wr=>∃ (k f:Nat) (rest:List Nat),Hid (rest.length<f)∧Hid (iu M bs=dt M t z f rest k)∧kv=.int .i64 (k:Int)∧k≤1000001∧Hid (k+rest.length≤bs.length+1)∧Hid (Digs rest 256)∧Hid (ScrAt wr b B rest)∧Hid (Kept (fun x=>x=b) w4 wr)) (fun _ wr=>fF b wr)
 case atStart=>exact ⟨1,bs.length+1,bs,by unfold Hid;omega,HN.out,rfl,by omega,by unfold Hid;omega,aO.out,H.out.grew V.out,ah _ _⟩
 case round=>
  clear H;obtain ⟨k,f,rest,Hf,i,rfl,hk,m,HD,HS,HK⟩:=hrel;have a0:rest.length≤1000001:=by have:=m.out;omega
  have bb:w.heap.size≤w4.heap.size:=V.out.size;have a3:w4.heap.size≤wr.heap.size:=HK.out.size;have ar:Hid (Kept (fun x=>x=b) w wr):=(V.out.any (S:=fun x=>x=b)).trans HK.out;have aS:=aa (ab.out.kept HK.out (fun x hx e=>by
   have e':x=b:=e;have:=aH.out x hx;omega))
  by_cases h1:rest.length<z
  ·have j:dt M t z f rest k=(0,0,[]):=by
    rcases gP (M:=M) (t:=t) (k:=k) Hf.out aE with ⟨_,e⟩ | ⟨h,_⟩ | ⟨h,_⟩
    ·exact e
    ·exact absurd h1 h
    ·exact absurd h1 h
   have e1:bj xs bs=150:=by rw [HE.out,i.out,j];rfl
   have e2:de xs bs=[]:=by rw [HX.out,e1];rfl
   have e3:eZ xs bs=0:=by rw [af.out,e1];rfl
   have e4:dg xs bs=[]:=by rw [HR.out,i.out,j]
   have J5:=lL b B rest (z:Int) wr HS.out (by omega);rw [show aR rest (z:Int)=150 by unfold aR;rw [if_neg (by omega),if_pos (by omega)],show bf rest (z:Int)=[] by unfold bf;rw [if_neg (by omega)];exact List.drop_eq_nil_of_le (by simp;omega)] at J5;have J5:=aa J5;have O:=aa e1;have G:=aa e2;have I:=aa e3;have ad:=aa e4;clear e1 e2 e3 e4 j;go_wp2_with fail;refine J5.out.mono ?_;rintro e w5 ⟨u,rfl,A,q,k5⟩;have R:=aa q;have N:=aa (ar.out.trans k5);clear A q k5 J5;go_wp2_with fail;refine bodyPost_ret (v:=.tuple #[.slice none 0 0,.int .i64 0,.int .i64 150]) (by simp [results,Tryz.results88,go_sem]) rfl ?_
   rw [O.out,G.out,I.out,ad.out];exact ⟨_,rfl,Row.nil _ _,(fun x hx=>by cases hx),R.out,N.out⟩
  ·have J5:=lL b B rest (z:Int) wr HS.out (by omega);have F:aR rest (z:Int)=0:=by unfold aR;rw [if_neg (by omega),if_neg (by omega)]
   rw [F,show bG rest (z:Int)=rest.take z by unfold bG;rw [F];rfl,show bf rest (z:Int)=rest.drop z by unfold bf;rw [if_neg (by omega)];rfl] at J5;have J5:=aa J5;clear F;have aD:Hid (Digs (rest.take z) 256):=fun d hd=>HD.out d (List.mem_of_mem_take hd)
   have av:Hid (Digs (rest.drop z) 256):=fun d hd=>HD.out d (List.mem_of_mem_drop hd)
   have hlt:(rest.take z).length≤2401:=by rw [List.length_take];omega
   have a1:=sj aD.out;have j:=gP (M:=M) (t:=t) (k:=k) Hf.out aE;obtain ⟨X,hX⟩:∃ X,X=bev (rest.take z)%2^t:=⟨_,rfl⟩
   rw [← hX] at j;have T:=aa j;have aV:=aa hX;have hp:0<2^t:=Nat.pow_pos (by omega);clear j hX;go_wp2_with fail;refine J5.out.mono ?_;rintro e w5 ⟨u,rfl,A,q,k5⟩;have R:=aa q;have N:=aa (ar.out.trans k5);have n:=aa k5;have J6:=aa (jM u _ w5 A.row aD.out (by omega));clear A q k5 J5;go_wp2_with fail;refine J6.out.mono ?_;rintro e w6 ⟨v6,rfl,aG,f6,k6⟩;have aM:=aa aG;have ay:=aa k6;have J7:=aa (cN 1 (by omega) w6);clear aG f6 k6 J6;go_wp2_with fail;refine J7.out.mono ?_;rintro e w7 ⟨v7,rfl,ap,f7,k7⟩;have am:=aa (ay.out.trans k7);have o:=aa (aM.out.grew k7)
   have J8:=aa (uQ v7 1 t w7 ap (by rw [show aI 1=1 by decide];omega) (by omega));clear ap f7 k7 J7 aM ay;go_wp2_with fail;refine J8.out.mono ?_;rintro e w8 ⟨v8,rfl,Z,f8,k8⟩;rw [Nat.mul_one] at Z;have aL:=aa (am.out.trans k8);have J9:=qz v6 v8 (bev (rest.take z)) (2^t) w8 (o.out.grew k8) Z hp (by omega);rw [← aV.out] at J9;have J9:=aa J9;clear Z f8 k8 J8 o am;go_wp2_with fail;refine J9.out.mono ?_;rintro e w9 ⟨v9,rfl,ac,f9,k9⟩;obtain ⟨xo,xn,xc,rfl,ax,_⟩:=ac.length;have D:=aa (aL.out.trans k9);have aC:=aa ac;have aX:=aa ((aS.out.kept n.out (fun x hx e=>by
    have e':x=b:=e;have:=aH.out x hx;omega)).grew D.out)
   have C:=aa (R.out.grew D.out);have l:=aa (N.out.next D.out (fun x _ f=>f.elim));have p:Hid (Kept (fun x=>x=b) w4 w9):=(HK.out.trans n.out).next D.out (fun x _ f=>f.elim)
   have bd:w.heap.size≤w9.heap.size:=l.out.size;clear ac f9 k9 J9 aL;by_cases hX0:X=0
   ·have gx:xn=0:=by rw [ax.out,hX0];rfl
    subst gx;obtain ⟨g,hg,a⟩:∃ g,(rest.drop z).length<g∧dt M t z f rest k=dt M t z g (rest.drop z) (k+1):=by
     rcases T.out with ⟨h,_⟩ | ⟨_,h,_⟩ | ⟨_,_,h⟩
     ·exact absurd h h1
     ·omega
     ·exact h
    have HG:=aa hg;have U:=aa a;clear hg a;go_wp2_with fail;go_roundw
    case rel=>exact ⟨k+1,g,rest.drop z,HG.out,i.out.trans U.out,by go_num,by have:=m.out;omega,by unfold Hid;have:=m.out;rw [List.length_drop];omega,av.out,C.out,p.out⟩
    case measure=>rw [C.out.len,HS.out.len,List.length_drop];omega
   ·have gx:0<xn:=by rw [ax.out];exact jL (by omega)
    have aW:(0:Int)<(xn:Int):=by omega
    have be:(xn:Int) > 0:=aW;have c:=gV _ _ X M w9 aC.out aX.out;by_cases hXM:X<M
    ·rw [cf hXM] at c;have c:=aa c;have a:dt M t z f rest k=(X,k,rest.drop z):=by
      rcases T.out with ⟨h,_⟩ | ⟨_,_,h⟩ | ⟨_,h,_⟩
      ·exact absurd h h1
      ·exact h
      ·exact absurd ⟨by omega,hXM⟩ h
     have e1:bj xs bs=0:=by rw [HE.out,i.out,a];exact if_neg hX0
     have e2:de xs bs=ag X L:=by rw [HX.out,e1,i.out,a];rfl
     have e3:eZ xs bs=k:=by rw [af.out,e1,i.out,a];rfl
     have e4:dg xs bs=rest.drop z:=by rw [HR.out,i.out,a]
     have O:=aa e1;have G:=aa e2;have I:=aa e3;have ad:=aa e4;clear e1 e2 e3 e4 a;go_wp2_with fail;refine c.out.mono ?_;rintro e aP ⟨rfl,nn,rfl⟩;have r:=aa ((ah ae w9).drewN nn);have aB:=aa (zT _ X L (w9.drewN nn) (aC.out.grew r.out) (by omega));generalize w9.drewN nn=wa at *;clear c;go_wp2_with fail;refine aB.out.mono ?_;rintro e wb ⟨aT,rfl,y,ak,aF⟩;have Y:=aa y;have P:=aa ak;have s:=aa (r.out.trans aF);clear y ak aF aB;go_wp2_with fail;refine bodyPost_ret (v:=.tuple #[aT,.int .i64 (k:Int),.int .i64 0]) (by simp [results,Tryz.results88,go_sem]) rfl ?_;rw [O.out,G.out,I.out,ad.out]
     exact ⟨_,rfl,Y.out,(fun x hx=>by rw [P.out] at hx;cases hx;have:=r.out.size;omega),C.out.grew s.out,l.out.next s.out (fun x _ f=>f.elim)⟩
    ·have aQ:¬ aJ X M<0:=by
      rcases Nat.lt_or_ge M X with h | h
      ·rw [c9 h];omega
      ·obtain rfl:X=M:=by omega
       unfold aJ;simp
     obtain ⟨g,hg,a⟩:∃ g,(rest.drop z).length<g∧dt M t z f rest k=dt M t z g (rest.drop z) (k+1):=by
      rcases T.out with ⟨h,_⟩ | ⟨_,h,_⟩ | ⟨_,_,h⟩
      ·exact absurd h h1
      ·omega
      ·exact h
     generalize aJ X M=cx at *;have c:=aa c;have HG:=aa hg;have U:=aa a;clear hg a;go_wp2_with fail;refine c.out.mono ?_;rintro e aP ⟨rfl,nn,rfl⟩;have aK:=aa (C.out.grew ((ah ae w9).drewN nn));have r:=aa (p.out.drewN nn);generalize w9.drewN nn=wa at *;clear c;go_wp2_with fail;go_roundw
     case rel=>exact ⟨k+1,g,rest.drop z,HG.out,i.out.trans U.out,by go_num,by have:=m.out;omega,by unfold Hid;have:=m.out;rw [List.length_drop];omega,av.out,aK.out,r.out⟩
     case measure=>rw [aK.out.len,HS.out.len,List.length_drop];omega

def Grows (w:World) (base:Nat) (out:Value) (L k:Nat) (A:Nat→Option Addr) (C:Nat→Nat) (f:Nat→List Nat):Prop:=
 w.ownsRow base 32 1 out k ((List.range k).map fun j=>.slice (A j) L (C j))∧∀ j,j<k→Row .u64 w (.slice (A j) L (C j)) (f j)∧∀ b,(Value.slice (A j) L (C j)).ownBlock=some b→out.ownBlock≠some b

theorem Grows.nil (w:World) (base L:Nat) (A:Nat→Option Addr) (C:Nat→Nat) (f:Nat→List Nat):Grows w base (.slice none 0 0) L 0 A C f:=⟨World.ownsRow_nil _ _ _ _,fun j hj=>by omega⟩

theorem Grows.grew {w w':World} {base:Nat} {a:Value} {L k:Nat} {A:Nat→Option Addr} {C:Nat→Nat} {f:Nat→List Nat} (h:Grows w base a L k A C f) (kk:Kept ae w w'):Grows w' base a L k A C f:=
 ⟨kk.own h.1 (fun _ _ q=>q),fun j hj=>⟨(h.2 j hj).1.grew kk,(h.2 j hj).2⟩⟩

theorem eJ {W w4:World} {a v:Value} {zs:List Nat} {g n cap:Nat} (hr:Row .u64 W v zs) (d:zs≠[]) (c:∀ b,v.ownBlock=some b→a.ownBlock≠some b) (hg:W.grownBy w4 a.ownBlock) (h:a.ownBlock=some g∨g=W.heap.size) :
  Row .u64 w4 v zs∧∀ b,v.ownBlock=some b→(Value.slice (some ⟨g,0,none⟩) n cap).ownBlock≠some b:=by
 have kk:Kept (fun b=>a.ownBlock=some b) W w4:=(ah _ W).grown hg (fun b e _=>e);refine ⟨hr.kept' kk (fun _ b hb f=>c b hb f),fun b hb e=>?_⟩;have e':g=b:=by simpa [Value.ownBlock] using e
 subst e';rcases h with h1 | h1
 ·exact c g hb h1
 ·have:=hr.lt d g hb;omega

theorem Grows.base {w:World} {base base':Nat} {a:Value} {L k:Nat} {A:Nat→Option Addr} {C:Nat→Nat} {f:Nat→List Nat} (h:Grows w base a L k A C f) (hb:base'≤base):Grows w base' a L k A C f:=
 ⟨aU h.1 (fun b e=>Nat.le_trans hb (World.ownsRow.lt h.1 b e).1),h.2⟩

theorem Grows.push {W w4:World} {base:Nat} {a:Value} {L k g cap:Nat} {A:Nat→Option Addr} {C:Nat→Nat} {f:Nat→List Nat} {yo:Option Addr} {yc:Nat} (h:Grows W base a L k A C f) (hf:∀ j,f j≠[])
  (hy:Row .u64 W (.slice yo L yc) (f k)) (d:∀ b,(Value.slice yo L yc).ownBlock=some b→a.ownBlock≠some b)
  (ho:w4.ownsRow base 32 1 (.slice (some ⟨g,0,none⟩) (k+1) cap) (k+1) (((List.range k).map fun j=>.slice (A j) L (C j)) ++ [.slice yo L yc])) (hg:W.grownBy w4 a.ownBlock) (c:a.ownBlock=some g∨g=W.heap.size) :
  Grows w4 base (.slice (some ⟨g,0,none⟩) (k+1) cap) L (k+1) (fun j=>if j=k then yo else A j) (fun j=>if j=k then yc else C j) f:=by
 refine ⟨?_,fun j hj=>?_⟩
 ·rw [List.range_succ,List.map_append,List.map_cons,List.map_nil];dsimp only;rw [if_pos rfl,if_pos rfl];have e:((List.range k).map fun j=>Value.slice (if j=k then yo else A j) L (if j=k then yc else C j))=(List.range k).map fun j=>Value.slice (A j) L (C j):=by
   refine List.map_congr_left (fun j hj=>?_);have:j<k:=List.mem_range.1 hj;rw [if_neg (by omega),if_neg (by omega)]
  rw [e];exact ho
 ·by_cases e:j=k
  ·subst e;dsimp only;rw [if_pos rfl,if_pos rfl];exact eJ hy (hf _) d hg c
  ·dsimp only;rw [if_neg e,if_neg e];exact eJ (h.2 j (by omega)).1 (hf j) (h.2 j (by omega)).2 hg c

theorem Tryz.infoN32:(Tryz.prog.info? 32).map (fun i=>(i.zero,i.size,i.bytes))=some (some (.slice none 0 0),1,24):=by kernel_rfl

theorem kF {w:World} {v:Value} {zs:List Nat} {L:Nat} (h:Row .u64 w v zs) (hl:zs.length=L):∃ po pc,v=.slice po L pc:=by
 obtain ⟨po,pn,pc,rfl,a,_⟩:=h.open;have:pn=L:=a.out.symm.trans hl;subst this;exact ⟨po,pc,rfl⟩

theorem kK (M t z:Nat) (hz:0<z):∀ f bs k,(dt M t z f bs k).1≠0→(dt M t z f bs k).2.2.length<bs.length
 | 0,_,_,h=>absurd rfl h
 | f+1,bs,k,h=>by
  unfold dt at *
  split at h
  ·exact absurd rfl h
  ·next h1=>
   rw [if_neg h1]
   split at h
   ·next h2=>rw [if_pos h2];simp only [List.length_drop];omega
   ·next h2=>
    rw [if_neg h2];have:=kK M t z hz f (bs.drop z) (k+1) h;rw [List.length_drop] at this;omega

theorem rS {M:Nat} (h:0<M):0<au M:=by
 rcases Nat.eq_zero_or_pos (au M) with e | e
 ·have:=(aA M 0).1 (by omega);simp at this;omega
 ·exact e

theorem mP {xs bs:List Nat} (h:bj xs bs=0):(dg xs bs).length<bs.length:=by
 unfold bj at h;unfold dg
 split at h
 ·omega
 ·next h1=>
  split at h
  ·omega
  ·next h2=>
   split at h
   ·omega
   ·next h3=>
    rw [if_neg (by omega)];exact kK _ _ _ (by have:=rS (show 0<val xs by omega);omega) _ _ _ h3

theorem jU (xs bs:List Nat):∃ n,dg xs bs=bs.drop n:=by
 unfold dg
 split
 ·exact ⟨0,by simp⟩
 ·exact kV _ _ _ _ _ _

theorem oX {xs bs:List Nat} (h:bj xs bs=0):(de xs bs).length=xs.length:=by
 unfold de;rw [if_pos h,af]

theorem pC {xs bs:List Nat} (hd:Digs xs) (h:bj xs bs=0):0<val (de xs bs)∧val (de xs bs)<val xs:=by
 have hb:=h;unfold bj at h
 split at h
 ·omega
 ·split at h
  ·omega
  ·next h2=>
   split at h
   ·omega
   ·next h3=>
    have hlt:=pR (val xs) (au (val xs)) ((au (val xs)+7)/8) (by omega) (bs.length+1) bs 1;have a:(iu (val xs) bs).1<val xs:=hlt;unfold de;rw [if_pos hb,ak,al (Nat.lt_trans a (aq (by omega) hd))];exact ⟨by omega,a⟩

def iF (xs:List Nat) (k:Nat):Nat→Nat→List Nat→List (List Nat)→Bool × List (List Nat) × Nat × List Nat
 | 0,_,bs,_=>(false,[],150,bs)
 | f+1,i,bs,acc=>if k≤i then (true,acc,0,bs) else if bj xs bs≠0 then (false,[],bj xs bs,dg xs bs) else
  if val (de xs bs)=1∨val (de xs bs)=val xs-1 then iF xs k f i (dg xs bs) acc else
  if et (val xs) (val (de xs bs)) then iF xs k f (i+1) (dg xs bs) (acc ++ [de xs bs]) else (false,acc ++ [de xs bs],0,dg xs bs)

def dY (xs:List Nat) (k:Int) (bs:List Nat):Bool × List (List Nat) × Nat × List Nat:=
 if fX (val xs)≠0 then (false,[],fX (val xs),bs) else if k<0∨100<k then (false,[],1,bs) else iF xs k.toNat (bs.length+1) 0 bs []

theorem gG {w:World} {b B:Nat} {bs xs:List Nat} {v:Value} (h:ScrAt w b B bs) (hr:Row .u64 w v xs) (d:xs≠[]):∀ x,v.ownBlock=some x→x≠b:=by
 obtain ⟨sv,⟨h1,c,_⟩,_⟩:=h;intro x hx e;subst e;obtain ⟨ao,cap,rfl,_,_,_,h4⟩:=hr;obtain ⟨b2,off,rfl,hc⟩:=h4 0 (by cases xs with
  | nil=>exact absurd rfl d
  | cons a l=>simp)
 have e:b2=x:=by simpa [Value.ownBlock] using hx
 subst e;have hs:∃ so sn sc,sv=.slice so sn sc:=by
  obtain ⟨so,sc,e,_⟩:=c;exact ⟨so,_,sc,e⟩
 obtain ⟨so,sn,sc,rfl⟩:=hs;simp only [World.cell?,h1] at hc;cases off with
 | zero=>simp at hc
 | succ o=>simp at hc

end Go.Proofs.YtcemlfokmjjiaaaGreatDoor
