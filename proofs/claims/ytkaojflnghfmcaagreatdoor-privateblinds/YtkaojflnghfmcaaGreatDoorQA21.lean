/- Put together of: Pub1 Byt1 Scr1 Scr2 Scr3 Scr4 Prm4 Bld1. -/
import Derived.Test.YtkaojflnghfmcaaGreatDoorQA4
import Derived.Laws.AppendOwn
import Derived.Laws.AppendOwnNone
import Derived.Laws.BytesArg
import Derived.Lib.Strings

namespace Go.Proofs.YtkaojflnghfmcaaGreatDoor
set_option maxRecDepth 100000
set_option maxHeartbeats 4000000
open Go.RowKit

def gr (N:Nat) (ms:List Nat):Nat:=if ms.length=ef N∧bev ms<N then 0 else 1

theorem rV {ms:List Nat} (h:Digs ms 256):aH (bev ms)≤ms.length:=(aS _ _).2 (Nat.lt_of_lt_of_le (ik h) (Nat.pow_le_pow_left (by omega) _))

theorem yD {a b:Nat}:aK a b≥0↔b≤a:=by
 unfold aK
 split
 ·constructor <;> intro h <;> omega
 ·split <;> constructor <;> intro h <;> omega

theorem qK (u:Value) (ns:List Nat) (bo:Option Addr) (M l:Nat) (ms:List Nat) (w:World) (hu:Row .u64 w u ns) (a:Digs ns) (o:ns.length≤1000000) (hv:Row .u8 w (.slice bo M l) ms) (m:Digs ms 256) (s:M≤1000000) :
  Calls Tryz.prog 36 #[u,.slice bo M l] w fun e w'=>∃ v',e=.returned (.tuple #[v',.int .i64 (gr (val ns) ms:Nat)])∧(gr (val ns) ms=0→IsBig w' v' (bev ms)∧∀ x,v'.ownBlock=some x→w.heap.size≤x)∧(∃ xo xn xc,v'=.slice xo xn xc)∧Kept af w w':=by
 obtain ⟨_,_,_,e1,hM,-,-,-,-⟩:=hv.open;cases e1
 have hF:=jP _ ms w hv m (by rw [hM.out];omega);have JS:=aa fun W (k:Kept af w W)=>vU u ns W (hu.grew k) a (by omega)
 have JO:=aa fun W (k:Kept af w W)=>rOf u ns W (hu.grew k) a (by omega)
 obtain ⟨ao,L,p,rfl,-,-,-,-,-⟩:=hu.open;have HM:=aa hM.out;have t:ef (val ns)≤8000001:=by
  unfold ef;have:=jq a;omega
 clear hu a o hv m hM;generalize val ns=N at *;go_enter Tryz.func36,Tryz.ntmps36;go_wp2_with fail;refine hF.mono ?_;rintro e w1 ⟨v1,rfl,b1,f1,k1⟩;have g:=aa k1;have n:=aa f1;have hS:=JS.out w1 k1;obtain ⟨xo,xn,xc,rfl,-,-⟩:=b1.length;have b:=aa b1;clear hF k1 b1 JS f1;generalize hz:ef N=z at *;have HZ:=aa hz;clear hz;by_cases h1:M=z
 ·have g1:((M:Int) == (z:Int))=true:=by simp [h1]
  have q:(M:Int)=(z:Int):=by omega
  subst h1;go_wp2_with fail;refine hS.mono ?_;rintro e w2 ⟨rfl,k2⟩;have i:=aa (g.out.trans k2);have d:=aa (b.out.grew k2);have hO:=JO.out w2 i.out;clear hS k2 b;go_wp2_with fail;refine hO.mono ?_;rintro e w3 ⟨v3,rfl,b3,_,k3⟩;have j:=aa (i.out.trans k3);have f:=aa (d.out.grew k3);have hC:=iP _ v3 (bev ms) N w3 f.out b3;obtain ⟨yo,yn,yc,rfl,-,-⟩:=b3.length;clear hO k3 d b3;by_cases h2:bev ms<N
  ·have HE:Hid (gr N ms=0):=by unfold Hid gr;rw [if_pos ⟨by rw [HM.out,HZ.out],h2⟩]
   rw [bk h2] at hC;clear h2;go_wp2_with fail;refine hC.mono ?_;rintro e w4 ⟨rfl,m4,rfl⟩;have k4:Kept af w3 (w3.drewN m4):=(ah af w3).drewN m4;go_wp2_with fail;go_ret2;exact ⟨_,by rw [HE.out];rfl,fun _=>⟨f.out.grew k4,n.out⟩,⟨_,_,_,rfl⟩,j.out.trans k4⟩
  ·have HE:Hid (gr N ms=1):=by unfold Hid gr;rw [if_neg (fun h=>h2 h.2)]
   have g2:aK (bev ms) N≥0:=yD.2 (by omega);have r:(0:Int)≤aK (bev ms) N:=g2;generalize aK (bev ms) N=c at *;clear h2;go_wp2_with fail;refine hC.mono ?_;rintro e w4 ⟨rfl,m4,rfl⟩;have k4:Kept af w3 (w3.drewN m4):=(ah af w3).drewN m4;go_wp2_with fail;go_ret2;exact ⟨_,by rw [HE.out];rfl,fun h=>by rw [HE.out] at h;omega,⟨_,_,_,rfl⟩,j.out.trans k4⟩
 ·have HE:Hid (gr N ms=1):=by unfold Hid gr;rw [if_neg (fun h=>h1 (by rw [← HM.out,← HZ.out];exact h.1))]
  have g1:¬ (M:Int)=(z:Int):=by omega
  clear h1;go_wp2_with fail;refine hS.mono ?_;rintro e w2 ⟨rfl,k2⟩;clear hS;go_wp2_with fail;go_ret2;exact ⟨_,by rw [HE.out];rfl,fun h=>by rw [HE.out] at h;omega,⟨_,_,_,rfl⟩,g.out.trans k2⟩

theorem oJ (N:Nat) (ms:List Nat):gr N ms=0∨gr N ms=1:=by unfold gr;split <;> simp

theorem Tryz.info8s:(Tryz.prog.info? 5).map (fun i=>(i.zero,i.size,i.bytes))=some (some (.int .u8 0),1,1):=by kernel_rfl

def OwnB (w:World) (base:Nat) (v:Value) (zs:List Nat):Prop:=OwnN .u8 5 w base v zs.length zs

theorem OwnB.row {w:World} {base:Nat} {v:Value} {zs:List Nat} (h:OwnB w base v zs):Row .u8 w v zs:=Row.of_own (base:=base) (e:=5) h

theorem OwnB.of {w:World} {base n:Nat} {v:Value} {zs:List Nat} (h:OwnN .u8 5 w base v n zs):OwnB w base v zs:=by
 have hn:zs.length=n:=by
  have:=h.1;rw [List.length_map] at this;omega
 unfold OwnB;rw [hn];exact h

theorem OwnB.kept {S:Nat→Prop} {w w':World} {base:Nat} {v:Value} {zs:List Nat} (h:OwnB w base v zs) (hk:Kept S w w') (hs:∀ b,base≤b→¬ S b):OwnB w' base v zs:=hk.own h fun b hb=>hs b (h.lt b hb).1

theorem OwnB.base {w:World} {base base':Nat} {v:Value} {zs:List Nat} (h:OwnB w base v zs) (hb:base'≤base):OwnB w base' v zs:=aR h fun k hk=>Nat.le_trans hb (h.lt k hk).1

theorem OwnB.nil (w:World) (base:Nat):OwnB w base (.slice none 0 0) []:=World.ownsRow_nil _ _ _ _

def nP:Value→Nat
 | .slice _ n _=>n
 | _=>0

theorem tG {k:IntKind} {w:World} {b off n c s m:Nat} {zs:List Nat} (h:Row k w (.slice (some ⟨b,off,none⟩) n c) zs) (h2:s+m≤n):Row k w (.slice (some ⟨b,off+s,none⟩) m (c-s)) ((zs.drop s).take m):=by
 obtain ⟨ao,d,e',c1,c2,_,h4⟩:=h;cases e'
 have hl:((zs.drop s).take m).length=m:=by rw [List.length_take,List.length_drop];omega
 refine ⟨_,_,by rw [hl],by omega,by omega,(fun e=>by cases e),fun i hi=>?_⟩;rw [hl] at hi;obtain ⟨b',f,e',a⟩:=h4 (s+i) (by omega);cases e'
 refine ⟨b,off+s,rfl,?_⟩;rw [Nat.add_assoc,a,List.getD_eq_getElem?_getD,List.getD_eq_getElem?_getD,List.getElem?_take,if_pos hi,List.getElem?_drop]

theorem ni {k:IntKind} {w W:World} {ad:Addr} {n d:Nat} {zs:List Nat} (h:Row k w (.slice (some ad) n d) zs) (kk:Kept af w W):∀ j u,(zs.map fun z:Nat=>Value.int k (z:Int))[j]? = some u→W.cell? (ad.add j)=some u:=fun j u hj=>by
 obtain ⟨hlt,hv⟩:=List.getElem?_eq_some_iff.1 hj;rw [List.length_map] at hlt;obtain ⟨ao,e,e',c1,c2,_,h4⟩:=h;cases e'
 obtain ⟨b,off,e',a⟩:=h4 j hlt;cases e'
 have c:(⟨b,off,none⟩:Addr).add j=⟨b,off+j,none⟩:=by unfold Addr.add;split <;> simp_all
 rw [c,kk.cellN a,← hv,List.getElem_map,List.getD_eq_getElem?_getD,List.getElem?_eq_getElem hlt];rfl

theorem yh (k:IntKind) (zs:List Nat):∀ u ∈ (zs.map fun z:Nat=>Value.int k (z:Int)),u.oneCell'=true:=fun u hu=>by
 obtain ⟨x,_,rfl⟩:=List.mem_map.1 hu;rfl

def lj (bs:List Nat):ByteArray:=if bs=[] then ByteArray.empty else strOfNums (bs.map fun b:Nat=>(b:Int))

theorem nM {w:World} {ao:Option Addr} {n a:Nat} {bs:List Nat} (h:Row .u8 w (.slice ao n a) bs) :
  ∀ dst,Tryz.prog.underlying dst=some .string→(convert 27 dst (.slice ao n a)).run Tryz.prog w=.ok (.string (lj bs)) w:=by
 obtain ⟨f,c,e,c1,c2,c3,h4⟩:=h;cases e
 cases bs with
 | nil=>
  intro dst hd;rw [run_convert_bytes_string w 27 dst 5 _ _ a Tryz.underlying27 Tryz.underlying5 hd];cases ao <;> simp [Conv.bytesToString,loadCells,lj]
  all_goals rfl
 | cons x t=>
  obtain ⟨b,off,rfl,_⟩:=h4 0 (by simp);have:=run_convert_bytes_arg (P:=Tryz.prog) w 27 5 Tryz.underlying27 Tryz.underlying5 b off (x :: t).length a ((x :: t).map fun b:Nat=>(b:Int)) (by simp) (fun i hi=>by
   obtain ⟨b',d,e,hc⟩:=h4 i hi;cases e
   rw [hc,List.getD_eq_getElem?_getD,List.getD_eq_getElem?_getD,List.getElem?_map,List.getElem?_eq_getElem hi];rfl)
  intro dst hd;rw [this dst hd];simp [lj]

theorem kq (bs:List Nat):(lj bs).data.toList=bs.map fun b=>UInt8.ofNat b:=by
 unfold lj
 split
 ·next h=>rw [h];rfl
 ·rw [strOfNums_data,List.map_map];rfl

theorem kr:∀ {xs bs:List Nat},Digs xs 256→Digs bs 256→(xs.map fun b=>UInt8.ofNat b)=(bs.map fun b=>UInt8.ofNat b)→xs=bs
 | [],[],_,_,_=>rfl
 | [],_ :: _,_,_,h=>by simp at h
 | _ :: _,[],_,_,h=>by simp at h
 | a :: xs,b :: bs,ha,hb,h=>by
  rw [List.map_cons,List.map_cons,List.cons.injEq] at h;have e1:a=b:=by
   have:=congrArg UInt8.toNat h.1;rw [UInt8.toNat_ofNat',UInt8.toNat_ofNat'] at this;have h1:=ha a (by simp);have h2:=hb b (by simp);omega
  rw [e1,kr (fun d hd=>ha d (by simp [hd])) (fun d hd=>hb d (by simp [hd])) h.2]

theorem vS (u v:Value) (xs bs:List Nat) (w:World) (ha:Row .u8 w u xs) (hb:Row .u8 w v bs) (da:Digs xs 256) (db:Digs bs 256) :
  Calls Tryz.prog 13 #[u,v] w fun e w'=>e=.returned (.bool (decide (xs=bs)))∧w'=w:=by
 obtain ⟨ao,na,ca,rfl,_⟩:=ha.open;obtain ⟨bo,nb,cb,rfl,_⟩:=hb.open;have k1:=nM ha 9 Tryz.underlying9;have k2:=nM hb 9 Tryz.underlying9;have hd:decide (xs=bs)=((lj xs).toList == (lj bs).toList):=by
  rw [Lib.toList_data,Lib.toList_data,kq,kq];by_cases h:xs=bs
  ·rw [h];simp
  ·rw [aI h]
   symm
   exact beq_eq_false_iff_ne.2 fun e=>h (kr da db e)
 rw [hd];generalize lj xs=s at *;generalize lj bs=t at *;clear ha hb hd;go_enter Tryz.func13,Tryz.ntmps13;go_wp2;go_ret;exact ⟨rfl,rfl⟩

theorem iC {w:World} {ops:Array Oper} {rest:List Oper} {o:Oper} {a:Act} {Q:Exit→Act→World→Prop} (b:o.guard=none) (s x:Operand)
  (ho:o.op=.call { callee:=.builtin .append,args:=#[s,x],argTypes:=#[27,27] })
  (base:Nat) (v:Value) (zs:List Nat) (hs:a.eval s=v) (hown:OwnB w base v zs) (u:Value) (hx:a.eval x=u) (bs:List Nat) (hr:Row .u8 w u bs) (hl:zs.length+bs.length≤100000000) (hbase:base≤w.heap.size)
  (h:∀ v' w',OwnB w' base v' (zs ++ bs)→w.grownBy w' v.ownBlock→wpList Tryz.prog ops Q rest (a.put o.dst v') w'):wpList Tryz.prog ops Q (o :: rest) a w:=by
 obtain ⟨i0,c,i,j,k⟩:=info_parts Tryz.info8s;obtain ⟨ao,n,d,rfl,hL,hc,_,hn,f⟩:=hr.open;cases ao with
 | none=>
  obtain rfl:=hn rfl;obtain rfl:n=0:=by omega
  obtain rfl:bs=[]:=List.length_eq_zero_iff.1 hL.out;refine wpList_append_own_none b s x 27 ho base 5 i0 1 Tryz.underlying27 c v zs.length _ hs hown hx ?_;exact h v w (by rw [List.append_nil];exact hown) ⟨rfl,rfl,rfl,leR _,fun _ _ _=>rfl⟩
 | some ad=>
  have e:=hL.out;refine wpList_append_own w b s x 27 ho base 5 i0 (.int .u8 0) 1 1 Tryz.underlying27 c i j k rfl (by decide) v zs.length _ hs hown ad n d (bs.map fun z:Nat=>Value.int .u8 (z:Int)) hx ?_ (ni hr (ah _ _)) (yh .u8 bs) (by unfold maxLen;omega) (by omega) hbase ?_
  ·rw [List.length_map,e,Nat.mul_one]
  ·intro v' w' g hg _;refine h v' w' (OwnB.of (n:=zs.length+n) ?_) hg;unfold OwnN;rw [List.map_append];exact g

def Scr (w:World) (b:Nat) (v:Value) (bs:List Nat):Prop:=
 w.heap[b]? = some (.cells #[v] 43 (0,0))∧Row .u8 w v bs∧(bs≠[]→∀ x,v.ownBlock=some x→x≠b)

theorem Scr.lt {w:World} {b:Nat} {v:Value} {bs:List Nat} (h:Scr w b v bs):b<w.heap.size:=lt_of_block h.1

theorem Scr.cell {w:World} {b:Nat} {v:Value} {bs:List Nat} (h:Scr w b v bs):w.cell? ⟨b,0,none⟩=some v:=by
 rw [cell_of_row w b 0 _ _ _ h.1];rfl

theorem Scr.free {w:World} {b:Nat} {v:Value} {bs:List Nat} (h:Scr w b v bs):w.frozen? ⟨b,0,none⟩=false:=by simp [World.frozen?,h.1]

theorem Scr.kept {S:Nat→Prop} {w w':World} {b:Nat} {v:Value} {bs:List Nat} (h:Scr w b v bs) (k:Kept S w w') (hb:¬ S b) (hs:bs≠[]→∀ x,v.ownBlock=some x→¬ S x):Scr w' b v bs:=
 ⟨(k.block b h.lt hb).trans h.1,h.2.1.kept' k hs,h.2.2⟩

theorem Scr.grew {w w':World} {b:Nat} {v:Value} {bs:List Nat} (h:Scr w b v bs) (k:Kept af w w'):Scr w' b v bs:=h.kept k (fun f=>f) (fun _ _ _ f=>f)

theorem Scr.put {w:World} {b:Nat} {v:Value} {bs:List Nat} (h:Scr w b v bs) (u:Value) (zs:List Nat) (hr:Row .u8 w u zs) (hs:zs≠[]→∀ x,u.ownBlock=some x→x≠b):Scr (w.setCell ⟨b,0,none⟩ u) b u zs:=by
 refine ⟨?_,hr.kept' ((ah (fun x=>x=b) w).setCell ⟨b,0,none⟩ (fun _=>rfl) u) hs,hs⟩;have:=heap_setCell_same w b 0 _ 43 u h.1;rw [this];rfl

def ScrAt (w:World) (b B:Nat) (bs:List Nat):Prop:=∃ v,Scr w b v bs∧b<B∧(bs≠[]→∀ x,v.ownBlock=some x→x<B)

theorem ScrAt.lt {w:World} {b B:Nat} {bs:List Nat} (h:ScrAt w b B bs):b<w.heap.size:=by
 obtain ⟨_,h,_⟩:=h;exact h.lt

theorem ScrAt.kept {S:Nat→Prop} {w w':World} {b B:Nat} {bs:List Nat} (h:ScrAt w b B bs) (k:Kept S w w') (hs:∀ x,x<B→¬ S x):ScrAt w' b B bs:=by
 obtain ⟨v,h,hb,hx⟩:=h;exact ⟨v,h.kept k (hs b hb) (fun e x hv=>hs x (hx e x hv)),hb,hx⟩

theorem ScrAt.grew {w w':World} {b B:Nat} {bs:List Nat} (h:ScrAt w b B bs) (k:Kept af w w'):ScrAt w' b B bs:=h.kept k fun _ _ f=>f

theorem tH {k:IntKind} {w:World} {ad:Addr} {L a n:Nat} {zs:List Nat} (h:Row k w (.slice (some ad) L a) zs) (hn:n≤L):Row k w (.slice (some (ad.add n)) (L-n) (a-n)) (zs.drop n):=by
 obtain ⟨ao,c,e,c1,c2,_,h4⟩:=h;cases e
 have hl:(zs.drop n).length=zs.length-n:=List.length_drop ..;refine ⟨_,_,by rw [hl],by omega,by omega,(fun e=>by cases e),fun i hi=>?_⟩;rw [hl] at hi;obtain ⟨b,off,e,hc⟩:=h4 (n+i) (by omega);cases e
 refine ⟨b,off+n,?_,?_⟩
 ·unfold Addr.add
  split <;> simp_all
 ·rw [Nat.add_assoc,hc,List.getD_eq_getElem?_getD,List.getD_eq_getElem?_getD,List.getElem?_drop]

theorem pB (ad:Addr) (n L b L' a:Nat):(Value.slice (some (ad.add n)) L b).ownBlock=(Value.slice (some ad) L' a).ownBlock:=by
 show some (ad.add n).block=some ad.block
 unfold Addr.add
 split <;> rfl

def bu (bs:List Nat) (n:Int):Nat:=if n<0 then 1 else if (bs.length:Int)<n then 150 else 0
def cN (bs:List Nat) (n:Int):List Nat:=if bu bs n=0 then bs.take n.toNat else []
def cK (bs:List Nat) (n:Int):List Nat:=if n<0 then bs else bs.drop n.toNat

theorem pG (b B:Nat) (bs:List Nat) (n:Int) (w:World) (h:ScrAt w b B bs) (hl:bs.length≤1000001) :
  Calls Tryz.prog 84 #[.pointer (some ⟨b,0,none⟩),.int .i64 n] w fun e w'=>∃ u,e=.returned (.tuple #[u,.int .i64 (bu bs n:Nat)])∧OwnB w' w.heap.size u (cN bs n)∧ScrAt w' b B (cK bs n)∧Kept (fun x=>x=b) w w':=by
 obtain ⟨v,h,hB,q⟩:=h;have l:=aa q;clear q;have hc:=h.cell;have hf:=h.free;have H:=aa h;obtain ⟨ao,L,g,rfl,hL,D,G,z,A⟩:=h.2.1.open;have C:L≤1000001:=by have:=hL.out;omega
 by_cases h1:n<0
 ·have e1:bu bs n=1:=by unfold bu;rw [if_pos h1]
  have e2:cN bs n=[]:=by unfold cN;rw [e1];rfl
  have e3:cK bs n=bs:=by unfold cK;rw [if_pos h1]
  rw [e1,e2,e3];clear e1 e2 e3 h;go_enter Tryz.func84,Tryz.ntmps84;go_wp2_with fail;go_ret2;exact ⟨_,rfl,OwnB.nil _ _,⟨_,H.out,hB,l.out⟩,ah _ _⟩
 ·obtain ⟨m,rfl⟩:=Int.eq_ofNat_of_zero_le (show 0≤n by omega);by_cases h2:L<m
  ·have e1:bu bs (m:Int)=150:=by unfold bu;rw [if_neg h1,if_pos (by have:=hL.out;omega)]
   have e2:cN bs (m:Int)=[]:=by unfold cN;rw [e1];rfl
   have e3:cK bs (m:Int)=[]:=by unfold cK;rw [if_neg h1];exact List.drop_eq_nil_of_le (by have:=hL.out;simp;omega)
   rw [e1,e2,e3];have g1:(m:Int) > (L:Int):=by omega
   have g2:(L:Int)<(m:Int):=by omega
   have HP:=aa (H.out.put (.slice none 0 0) [] (Row.nil _ _) (fun e=>absurd rfl e));have HK:=aa ((ah (fun x=>x=b) w).setCell ⟨b,0,none⟩ (fun _=>rfl) (.slice none 0 0));clear e1 e2 e3 h;go_enter Tryz.func84,Tryz.ntmps84;go_wp2_with fail;go_ret2;exact ⟨_,rfl,OwnB.nil _ _,⟨_,HP.out,hB,fun e=>absurd rfl e⟩,HK.out⟩
  ·have e1:bu bs (m:Int)=0:=by unfold bu;rw [if_neg h1,if_neg (by have:=hL.out;omega)]
   have e2:cN bs (m:Int)=bs.take m:=by unfold cN;rw [e1];rfl
   have e3:cK bs (m:Int)=bs.drop m:=by unfold cK;rw [if_neg h1];rfl
   rw [e1,e2,e3];have g1:¬ (m:Int) > (L:Int):=by omega
   have g2:¬ (L:Int)<(m:Int):=by omega
   have g3:(m:Int)≤(g:Int):=by omega
   have g4:m≤g:=by omega
   have g5:m≤L:=by omega
   have g6:(0:Int)≤(m:Int):=by omega
   have g7:(m:Int)≤(L:Int):=by omega
   have hcut:=h.2.1.cut (m:=m) (by rw [hL.out];exact g5);have c:=aa hcut;clear e1 e2 e3 h hcut;cases ao with
   | none=>
    obtain rfl:=z rfl;obtain rfl:L=0:=by omega
    obtain rfl:m=0:=by omega
    obtain rfl:bs=[]:=List.length_eq_zero_iff.1 hL.out;have HP:=aa (H.out.put (.slice none 0 0) [] (Row.nil _ _) (fun e=>absurd rfl e));have HK:=aa ((ah (fun x=>x=b) w).setCell ⟨b,0,none⟩ (fun _=>rfl) (.slice none 0 0));go_enter Tryz.func84,Tryz.ntmps84;go_wp2_with fail;go_ret2;exact ⟨_,rfl,OwnB.nil _ _,⟨_,HP.out,hB,fun e=>absurd rfl e⟩,HK.out⟩
   | some ad=>
    have a:=tH (n:=m) H.out.2.1 g5;have hlt:(bs.take m).length≤1000001:=by rw [List.length_take];omega
    have d:=aa a;clear a;go_enter Tryz.func84,Tryz.ntmps84;go_wp2_with (at_builtin;refine iC rfl _ _ rfl w.heap.size _ [] rfl (OwnB.nil _ _) _ rfl (bs.take m) c.out (by simp;omega) (leR _) ?_);intro v1 w1 j r;have k1:Kept af w w1:=(ah af w).grown r (fun k hk hlt=>by cases hk);have H1:=aa (H.out.grew k1);have F:=H1.out.cell;have I:=H1.out.free;have y:=aa j;have t:=aa k1;have E:b<w.heap.size:=H.out.lt;have p:=aa fun u=>j.kept ((ah (fun x=>x=b) w1).setCell ⟨b,0,none⟩ (fun _=>rfl) u) (fun x hx e=>by
     have e':x=b:=e;omega)
    have o:=aa fun u=>(k1.any (S:=fun x=>x=b)).next ((ah (fun x=>x=b) w1).setCell ⟨b,0,none⟩ (fun _=>rfl) u) (fun x _ h=>h)
    have f:=H.out.2.2;clear j r k1 hc hf H c y;by_cases hcmm:g=m
    ·subst hcmm;obtain rfl:L=g:=by omega
     have ed:bs.drop L=[]:=List.drop_eq_nil_of_le (by rw [hL.out];exact leR _);have HP:=aa (H1.out.put (.slice (some ad) 0 0) [] ⟨_,_,rfl,Nat.zero_le _,by unfold maxLen;omega,(fun _=>rfl),fun i hi=>absurd hi (by simp)⟩ (fun e=>absurd rfl e));have s:=aa ed;clear ed;go_wp2_with fail;go_ret2;exact ⟨_,rfl,p.out _,by rw [s.out];exact ⟨_,HP.out,hB,fun e=>absurd rfl e⟩,o.out _⟩
    ·have HP:=aa (H1.out.put _ _ (d.out.grew t.out) (fun e x hx=>f (fun e2=>e (by rw [e2];exact List.drop_nil)) x (by rw [← hx];exact (pB ad m _ _ _ _).symm)));clear f;go_wp2_with fail;go_ret2;exact ⟨_,rfl,p.out _,⟨_,HP.out,hB,fun e x hx=>l.out (fun e2=>e (by rw [e2];exact List.drop_nil)) x (by rw [← hx];exact (pB ad m _ _ _ _).symm)⟩,o.out _⟩

def iS (b:Nat) (w:World):Nat:=match w.cell? ⟨b,0,none⟩ with
 | some v=>nP v
 | none=>0

theorem ScrAt.len {w:World} {b B:Nat} {bs:List Nat} (h:ScrAt w b B bs):iS b w=bs.length:=by
 obtain ⟨v,h,_⟩:=h;unfold iS;rw [h.cell];obtain ⟨_,_,e,_⟩:=h.2.1;rw [e];rfl

def dh (M t z:Nat):Nat→List Nat→Nat→Nat × Nat × List Nat
 | 0,_,_=>(0,0,[])
 | f+1,bs,k=>if bs.length<z then (0,0,[]) else if 0<bev (bs.take z)%2^t∧bev (bs.take z)%2^t<M then (bev (bs.take z)%2^t,k,bs.drop z) else dh M t z f (bs.drop z) (k+1)

def ia (M:Nat) (bs:List Nat):Nat × Nat × List Nat:=dh M (au M) ((au M+7)/8) (bs.length+1) bs 1

theorem pj (M t z:Nat) (hM:0<M):∀ f bs k,(dh M t z f bs k).1<M
 | 0,_,_=>hM
 | f+1,bs,k=>by
  unfold dh
  split
  ·exact hM
  ·split
   ·next h=>exact h.2
   ·exact pj M t z hM f _ _

theorem kj (M t z:Nat):∀ f bs k,∃ n,(dh M t z f bs k).2.2=bs.drop n
 | 0,bs,_=>⟨bs.length,by rw [List.drop_length];rfl⟩
 | f+1,bs,k=>by
  unfold dh
  split
  ·exact ⟨bs.length,by rw [List.drop_length]⟩
  ·split
   ·exact ⟨z,rfl⟩
   ·obtain ⟨n,hn⟩:=kj M t z f (bs.drop z) (k+1);exact ⟨z+n,by rw [hn,List.drop_drop]⟩

def bH (xs bs:List Nat):Nat:=if 300<xs.length then 2 else if val xs<2 then 1 else if (ia (val xs) bs).1=0 then 150 else 0
def dH (xs bs:List Nat):List Nat:=if bH xs bs=0 then digs (ia (val xs) bs).1 xs.length else []
def eO (xs bs:List Nat):Nat:=if bH xs bs=0 then (ia (val xs) bs).2.1 else 0
def dG (xs bs:List Nat):List Nat:=if 300<xs.length∨val xs<2 then bs else (ia (val xs) bs).2.2

theorem gC {M t z f k:Nat} {bs:List Nat} (hf:bs.length<f) (hz:0<z):(bs.length<z∧dh M t z f bs k=(0,0,[])) ∨
  (¬ bs.length<z∧(0<bev (bs.take z)%2^t∧bev (bs.take z)%2^t<M)∧dh M t z f bs k=(bev (bs.take z)%2^t,k,bs.drop z)) ∨
  (¬ bs.length<z∧¬ (0<bev (bs.take z)%2^t∧bev (bs.take z)%2^t<M)∧∃ g,(bs.drop z).length<g∧dh M t z f bs k=dh M t z g (bs.drop z) (k+1)):=by
 obtain ⟨g,rfl⟩:∃ g,f=g+1:=⟨f-1,by omega⟩
 by_cases h1:bs.length<z
 ·exact .inl ⟨h1,by rw [dh,if_pos h1]⟩
 ·by_cases h2:0<bev (bs.take z)%2^t∧bev (bs.take z)%2^t<M
  ·exact .inr (.inl ⟨h1,h2,by rw [dh,if_neg h1,if_pos h2]⟩)
  ·exact .inr (.inr ⟨h1,h2,g,by rw [List.length_drop];omega,by rw [dh,if_neg h1,if_neg h2]⟩)

theorem tj (b B:Nat) (bs xs:List Nat) (v:Value) (w:World) (h:ScrAt w b B bs) (aG:Digs bs 256) (a1:bs.length≤1000000) (hv:Row .u64 w v xs) (hd:Digs xs) (hl:xs.length≤300) (aR:2≤val xs) :
  Calls Tryz.prog 47 #[.pointer (some ⟨b,0,none⟩),v] w fun e w'=>∃ u,e=.returned (.tuple #[u,.int .i64 (eO xs bs:Nat),.int .i64 (bH xs bs:Nat)])∧Row .u64 w' u (dH xs bs)∧(∀ x,u.ownBlock=some x→w.heap.size≤x)∧ScrAt w' b B (dG xs bs)∧Kept (fun x=>x=b) w w':=by
 have H:=aa h;have J:=aa fun W (k:Kept af w W)=>rOf v xs W (hv.grew k) hd (by omega)
 obtain ⟨ao,L,aW,rfl,hL,aZ,aS,_,_⟩:=hv.open;have aY:L≤300:=by have:=hL.out;omega
 obtain ⟨M,hM⟩:∃ M,M=val xs:=⟨_,rfl⟩
 rw [← hM] at aR;have a0:aH M≤600:=by rw [hM];have:=uB hd;omega
 obtain ⟨t,ht⟩:∃ t,t=au M:=⟨_,rfl⟩
 have a7:t≤19200:=by rw [ht,hM];have:=jq hd;omega
 have a6:0<t:=by
  have:=(aA M 0).1;rw [ht];rcases Nat.eq_zero_or_pos (au M) with e | e
  ·have:=this (by omega);omega
  ·exact e
 obtain ⟨z,hz⟩:∃ z,z=(t+7)/8:=⟨_,rfl⟩
 have aJ:0<z:=by omega
 have bb:z≤2401:=by omega
 have HE:Hid (bH xs bs=if (ia M bs).1=0 then 150 else 0):=by unfold Hid bH;rw [if_neg (by omega),← hM,if_neg (by omega)]
 have HX:Hid (dH xs bs=if bH xs bs=0 then digs (ia M bs).1 L else []):=by unfold Hid dH;rw [← hM,hL.out]
 have av:Hid (eO xs bs=if bH xs bs=0 then (ia M bs).2.1 else 0):=by unfold Hid eO;rw [← hM]
 have HR:Hid (dG xs bs=(ia M bs).2.2):=by unfold Hid dG;rw [← hM,if_neg (by omega)]
 have HN:Hid (ia M bs=dh M t z (bs.length+1) bs 1):=by unfold Hid ia;rw [hz,ht]
 rw [← hM] at J;have HT:=aa ht;have ad:aK M 2=0∨aK M 2=1:=by
  rcases Nat.lt_or_ge 2 M with h | h
  ·exact .inr (eH h)
  ·obtain rfl:M=2:=by omega
   exact .inl (by unfold aK;simp)
 have aI:¬ aK M 2<0:=by omega
 have aM:=aa aG;have a2:b<w.heap.size:=h.lt;have a5:((t:Int)+7).tdiv 8=(z:Int):=by rw [Int.tdiv_eq_ediv_of_nonneg (by omega)];omega
 have aT:((t:Int)+7)/8=(z:Int):=by omega
 clear h hv hd aG hM ht hz ad;go_enter Tryz.func47,Tryz.ntmps47;go_wp2_with fail;refine (J.out _ (ah _ _)).mono ?_;rintro e w1 ⟨v1,rfl,aC,f1,k1⟩;have J2:=aa (eF 2 (by omega) w1);have E:=aa aC;have al:=aa f1;have am:=aa k1;clear aC f1 k1 J;go_wp2_with fail;refine J2.out.mono ?_;rintro e w2 ⟨v2,rfl,aD,f2,k2⟩;have J3:=aa (iP v1 v2 M 2 w2 (E.out.grew k2) aD);have an:=aa (am.out.trans k2);have ae:=aa (E.out.grew k2);clear aD f2 k2 J2 E am;generalize aK M 2=cm at *;go_wp2_with fail;refine J3.out.mono ?_;rintro e w3 ⟨rfl,nn,rfl⟩;have F:=aa (ae.out.grew ((ah af w2).drewN nn));have R:=aa (an.out.drewN nn)
 generalize w2.drewN nn=w3 at *;clear J3 ae an;have J4:=fN v1 M w3 F.out;rw [← HT.out] at J4;have J4:=aa J4;go_wp2_with fail;refine J4.out.mono ?_;rintro e w4 ⟨rfl,rfl⟩;clear J4;obtain ⟨s1,bd,bc,rfl,_⟩:=F.out.length;go_wp2_with fail;go_loopw [9] (fun kv wr=>∃ (k f:Nat) (rest:List Nat),Hid (rest.length<f)∧Hid (ia M bs=dh M t z f rest k)∧kv=.int .i64 (k:Int)∧k≤1000001∧Hid (k+rest.length≤bs.length+1)∧Hid (Digs rest 256)∧Hid (ScrAt wr b B rest)∧Hid (Kept (fun x=>x=b) w4 wr)) (fun _ wr=>iS b wr)
 case atStart=>exact ⟨1,bs.length+1,bs,by unfold Hid;omega,HN.out,rfl,by omega,by unfold Hid;omega,aM.out,H.out.grew R.out,ah _ _⟩
 case round=>
  clear H;obtain ⟨k,f,rest,Hf,i,rfl,hk,r,HD,HS,HK⟩:=hrel;have a4:rest.length≤1000001:=by have:=r.out;omega
  have a8:w.heap.size≤w4.heap.size:=R.out.size;have ba:w4.heap.size≤wr.heap.size:=HK.out.size;have aw:Hid (Kept (fun x=>x=b) w wr):=(R.out.any (S:=fun x=>x=b)).trans HK.out;have aO:=aa (F.out.kept HK.out (fun x hx e=>by
   have e':x=b:=e;have:=al.out x hx;omega))
  by_cases h1:rest.length<z
  ·have j:dh M t z f rest k=(0,0,[]):=by
    rcases gC (M:=M) (t:=t) (k:=k) Hf.out aJ with ⟨_,e⟩ | ⟨h,_⟩ | ⟨h,_⟩
    ·exact e
    ·exact absurd h1 h
    ·exact absurd h1 h
   have e1:bH xs bs=150:=by rw [HE.out,i.out,j];rfl
   have e2:dH xs bs=[]:=by rw [HX.out,e1];rfl
   have e3:eO xs bs=0:=by rw [av.out,e1];rfl
   have e4:dG xs bs=[]:=by rw [HR.out,i.out,j]
   have J5:=pG b B rest (z:Int) wr HS.out (by omega);rw [show bu rest (z:Int)=150 by unfold bu;rw [if_neg (by omega),if_pos (by omega)],show cK rest (z:Int)=[] by unfold cK;rw [if_neg (by omega)];exact List.drop_eq_nil_of_le (by simp;omega)] at J5;have J5:=aa J5;have G:=aa e1;have I:=aa e2;have N:=aa e3;have O:=aa e4;clear e1 e2 e3 e4 j;go_wp2_with fail;refine J5.out.mono ?_;rintro e w5 ⟨u,rfl,D,y,k5⟩;have V:=aa y;have T:=aa (aw.out.trans k5);clear D y k5 J5;go_wp2_with fail;refine bodyPost_ret (v:=.tuple #[.slice none 0 0,.int .i64 0,.int .i64 150]) (by simp [results,Tryz.results47,go_sem]) rfl ?_
   rw [G.out,I.out,N.out,O.out];exact ⟨_,rfl,Row.nil _ _,(fun x hx=>by cases hx),V.out,T.out⟩
  ·have J5:=pG b B rest (z:Int) wr HS.out (by omega);have Z:bu rest (z:Int)=0:=by unfold bu;rw [if_neg (by omega),if_neg (by omega)]
   rw [Z,show cN rest (z:Int)=rest.take z by unfold cN;rw [Z];rfl,show cK rest (z:Int)=rest.drop z by unfold cK;rw [if_neg (by omega)];rfl] at J5;have J5:=aa J5;clear Z;have ak:Hid (Digs (rest.take z) 256):=fun d hd=>HD.out d (List.mem_of_mem_take hd)
   have aj:Hid (Digs (rest.drop z) 256):=fun d hd=>HD.out d (List.mem_of_mem_drop hd)
   have hlt:(rest.take z).length≤2401:=by rw [List.length_take];omega
   have a3:=rC ak.out;have j:=gC (M:=M) (t:=t) (k:=k) Hf.out aJ;obtain ⟨X,hX⟩:∃ X,X=bev (rest.take z)%2^t:=⟨_,rfl⟩
   rw [← hX] at j;have Y:=aa j;have aP:=aa hX;have hp:0<2^t:=Nat.pow_pos (by omega);clear j hX;go_wp2_with fail;refine J5.out.mono ?_;rintro e w5 ⟨u,rfl,D,y,k5⟩;have V:=aa y;have T:=aa (aw.out.trans k5);have p:=aa k5;have J6:=aa (jP u _ w5 D.row ak.out (by omega));clear D y k5 J5;go_wp2_with fail;refine J6.out.mono ?_;rintro e w6 ⟨v6,rfl,aE,f6,k6⟩;have ag:=aa aE;have ap:=aa k6;have J7:=aa (eF 1 (by omega) w6);clear aE f6 k6 J6;go_wp2_with fail;refine J7.out.mono ?_;rintro e w7 ⟨v7,rfl,aF,f7,k7⟩;have aq:=aa (ap.out.trans k7);have l:=aa (ag.out.grew k7)
   have J8:=aa (Ba v7 1 t w7 aF (by rw [show aH 1=1 by decide];omega) (by omega));clear aF f7 k7 J7 ag ap;go_wp2_with fail;refine J8.out.mono ?_;rintro e w8 ⟨v8,rfl,ab,f8,k8⟩;rw [Nat.mul_one] at ab;have ar:=aa (aq.out.trans k8);have J9:=nG v6 v8 (bev (rest.take z)) (2^t) w8 (l.out.grew k8) ab hp (by omega);rw [← aP.out] at J9;have J9:=aa J9;clear ab f8 k8 J8 l aq;go_wp2_with fail;refine J9.out.mono ?_;rintro e w9 ⟨v9,rfl,ac,f9,k9⟩;obtain ⟨xo,xn,xc,rfl,ay,_⟩:=ac.length;have A:=aa (ar.out.trans k9);have ai:=aa ac;have aN:=aa ((aO.out.kept p.out (fun x hx e=>by
    have e':x=b:=e;have:=al.out x hx;omega)).grew A.out)
   have C:=aa (V.out.grew A.out);have q:=aa (T.out.next A.out (fun x _ f=>f.elim));have n:Hid (Kept (fun x=>x=b) w4 w9):=(HK.out.trans p.out).next A.out (fun x _ f=>f.elim)
   have a9:w.heap.size≤w9.heap.size:=q.out.size;clear ac f9 k9 J9 ar;by_cases hX0:X=0
   ·have gx:xn=0:=by rw [ay.out,hX0];rfl
    subst gx;obtain ⟨g,hg,a⟩:∃ g,(rest.drop z).length<g∧dh M t z f rest k=dh M t z g (rest.drop z) (k+1):=by
     rcases Y.out with ⟨h,_⟩ | ⟨_,h,_⟩ | ⟨_,_,h⟩
     ·exact absurd h h1
     ·omega
     ·exact h
    have HG:=aa hg;have Q:=aa a;clear hg a;go_wp2_with fail;go_roundw
    case rel=>exact ⟨k+1,g,rest.drop z,HG.out,i.out.trans Q.out,by go_num,by have:=r.out;omega,by unfold Hid;have:=r.out;rw [List.length_drop];omega,aj.out,C.out,n.out⟩
    case measure=>rw [C.out.len,HS.out.len,List.length_drop];omega
   ·have gx:0<xn:=by rw [ay.out];exact jv (by omega)
    have aQ:(0:Int)<(xn:Int):=by omega
    have aX:(xn:Int) > 0:=aQ;have c:=iP _ _ X M w9 ai.out aN.out;by_cases hXM:X<M
    ·rw [bk hXM] at c;have c:=aa c;have a:dh M t z f rest k=(X,k,rest.drop z):=by
      rcases Y.out with ⟨h,_⟩ | ⟨_,_,h⟩ | ⟨_,h,_⟩
      ·exact absurd h h1
      ·exact h
      ·exact absurd ⟨by omega,hXM⟩ h
     have e1:bH xs bs=0:=by rw [HE.out,i.out,a];exact if_neg hX0
     have e2:dH xs bs=digs X L:=by rw [HX.out,e1,i.out,a];rfl
     have e3:eO xs bs=k:=by rw [av.out,e1,i.out,a];rfl
     have e4:dG xs bs=rest.drop z:=by rw [HR.out,i.out,a]
     have G:=aa e1;have I:=aa e2;have N:=aa e3;have O:=aa e4;clear e1 e2 e3 e4 a;go_wp2_with fail;refine c.out.mono ?_;rintro e aV ⟨rfl,nn,rfl⟩;have o:=aa ((ah af w9).drewN nn);have az:=aa (nH _ X L (w9.drewN nn) (ai.out.grew o.out) (by omega));generalize w9.drewN nn=wa at *;clear c;go_wp2_with fail;refine az.out.mono ?_;rintro e wb ⟨aU,rfl,s,aB,aL⟩;have U:=aa s;have P:=aa aB;have m:=aa (o.out.trans aL);clear s aB aL az;go_wp2_with fail;refine bodyPost_ret (v:=.tuple #[aU,.int .i64 (k:Int),.int .i64 0]) (by simp [results,Tryz.results47,go_sem]) rfl ?_;rw [G.out,I.out,N.out,O.out]
     exact ⟨_,rfl,U.out,(fun x hx=>by rw [P.out] at hx;cases hx;have:=o.out.size;omega),C.out.grew m.out,q.out.next m.out (fun x _ f=>f.elim)⟩
    ·have aS:¬ aK X M<0:=by
      rcases Nat.lt_or_ge M X with h | h
      ·rw [eH h];omega
      ·obtain rfl:X=M:=by omega
       unfold aK;simp
     obtain ⟨g,hg,a⟩:∃ g,(rest.drop z).length<g∧dh M t z f rest k=dh M t z g (rest.drop z) (k+1):=by
      rcases Y.out with ⟨h,_⟩ | ⟨_,h,_⟩ | ⟨_,_,h⟩
      ·exact absurd h h1
      ·omega
      ·exact h
     generalize aK X M=cx at *;have c:=aa c;have HG:=aa hg;have Q:=aa a;clear hg a;go_wp2_with fail;refine c.out.mono ?_;rintro e aV ⟨rfl,nn,rfl⟩;have ax:=aa (C.out.grew ((ah af w9).drewN nn));have o:=aa (n.out.drewN nn);generalize w9.drewN nn=wa at *;clear c;go_wp2_with fail;go_roundw
     case rel=>exact ⟨k+1,g,rest.drop z,HG.out,i.out.trans Q.out,by go_num,by have:=r.out;omega,by unfold Hid;have:=r.out;rw [List.length_drop];omega,aj.out,ax.out,o.out⟩
     case measure=>rw [ax.out.len,HS.out.len,List.length_drop];omega

theorem ki (M t z:Nat) (hz:0<z):∀ f bs k,(dh M t z f bs k).1≠0→(dh M t z f bs k).2.2.length<bs.length
 | 0,_,_,h=>absurd rfl h
 | f+1,bs,k,h=>by
  unfold dh at *
  split at h
  ·exact absurd rfl h
  ·next h1=>
   rw [if_neg h1]
   split at h
   ·next h2=>rw [if_pos h2];simp only [List.length_drop];omega
   ·next h2=>
    rw [if_neg h2];have:=ki M t z hz f (bs.drop z) (k+1) h;rw [List.length_drop] at this;omega

theorem rK {M:Nat} (h:0<M):0<au M:=by
 rcases Nat.eq_zero_or_pos (au M) with e | e
 ·have:=(aA M 0).1 (by omega);simp at this;omega
 ·exact e

theorem mn {xs bs:List Nat} (h:bH xs bs=0):(dG xs bs).length<bs.length:=by
 unfold bH at h;unfold dG
 split at h
 ·omega
 ·next h1=>
  split at h
  ·omega
  ·next h2=>
   split at h
   ·omega
   ·next h3=>
    rw [if_neg (by omega)];exact ki _ _ _ (by have:=rK (show 0<val xs by omega);omega) _ _ _ h3

theorem mo (xs bs:List Nat):∃ n,dG xs bs=bs.drop n:=by
 unfold dG
 split
 ·exact ⟨0,by simp⟩
 ·exact kj _ _ _ _ _ _

theorem up {xs bs:List Nat} (h:bH xs bs=0):(dH xs bs).length=xs.length:=by
 unfold dH;rw [if_pos h,ag]

theorem uq {xs bs:List Nat} (hd:Digs xs) (h:bH xs bs=0):0<val (dH xs bs)∧val (dH xs bs)<val xs:=by
 have hb:=h;unfold bH at h
 split at h
 ·omega
 ·split at h
  ·omega
  ·next h2=>
   split at h
   ·omega
   ·next h3=>
    have hlt:=pj (val xs) (au (val xs)) ((au (val xs)+7)/8) (by omega) (bs.length+1) bs 1;have a:(ia (val xs) bs).1<val xs:=hlt;unfold dH;rw [if_pos hb,al,ak (Nat.lt_trans a (ap (by omega) hd))];exact ⟨by omega,a⟩

theorem gM {w:World} {b B:Nat} {bs xs:List Nat} {v:Value} (h:ScrAt w b B bs) (hr:Row .u64 w v xs) (d:xs≠[]):∀ x,v.ownBlock=some x→x≠b:=by
 obtain ⟨sv,⟨h1,c,_⟩,_⟩:=h;intro x hx e;subst e;obtain ⟨ao,f,rfl,_,_,_,h4⟩:=hr;obtain ⟨b2,off,rfl,hc⟩:=h4 0 (by cases xs with
  | nil=>exact absurd rfl d
  | cons a l=>simp)
 have e:b2=x:=by simpa [Value.ownBlock] using hx
 subst e;have hs:∃ so sn sc,sv=.slice so sn sc:=by
  obtain ⟨so,sc,e,_⟩:=c;exact ⟨so,_,sc,e⟩
 obtain ⟨so,sn,sc,rfl⟩:=hs;simp only [World.cell?,h1] at hc;cases off with
 | zero=>simp at hc
 | succ o=>simp at hc

def eI (ns:List Nat):Prop:=ns.length≤300∧(au (val ns)+63)/64≤130∧2≤val ns∧val ns%2=1

instance (ns:List Nat):Decidable (eI ns):=by unfold eI;infer_instance

def jd (ns:List Nat):Nat→List Nat→Nat→List Nat × Nat × Nat × List Nat
 | 0,_,_=>([],0,150,[])
 | f+1,bs,a=>if bH ns bs≠0 then ([],0,bH ns bs,dG ns bs) else if Nat.gcd (val (dH ns bs)) (val ns)=1 then (dH ns bs,a+eO ns bs,0,dG ns bs) else jd ns f (dG ns bs) (a+eO ns bs)

def j7 (ns bs:List Nat):List Nat × Nat × Nat × List Nat:=if eI ns then jd ns (bs.length+1) bs 0 else ([],0,1,bs)

theorem jo (M t z:Nat) (hz:0<z):∀ f bs k,(dh M t z f bs k).1≠0→(dh M t z f bs k).2.1+(dh M t z f bs k).2.2.length<k+bs.length
 | 0,_,_,h=>absurd rfl h
 | f+1,bs,k,h=>by
  unfold dh at *
  split at h
  ·exact absurd rfl h
  ·next h1=>
   rw [if_neg h1]
   split at h
   ·next h2=>
    rw [if_pos h2];show k+(bs.drop z).length<_
    rw [List.length_drop];omega
   ·next h2=>
    rw [if_neg h2];have:=jo M t z hz f (bs.drop z) (k+1) h;rw [List.length_drop] at this;omega

theorem km {xs bs:List Nat} (h:bH xs bs=0):eO xs bs+(dG xs bs).length≤bs.length:=by
 have h0:=h;unfold bH at h;unfold eO dG;rw [if_pos h0]
 split at h
 ·omega
 ·next h1=>
  split at h
  ·omega
  ·next h2=>
   split at h
   ·omega
   ·next h3=>
    rw [if_neg (by omega)];have hb:2≤au (val xs):=by
     have:=(aA (val xs) 1).1;by_cases h4:au (val xs)≤1
     ·have:=this h4;omega
     ·omega
    have:=jo (val xs) (au (val xs)) ((au (val xs)+7)/8) (by omega) (bs.length+1) bs 1 h3;unfold ia;omega

theorem tm (b B:Nat) (bs ns:List Nat) (ao:Option Addr) (L z:Nat) (r1:List Nat) (r2 r3:Nat) (r4:List Nat) (ae:j7 ns bs=(r1,r2,r3,r4)) (w:World) (h:ScrAt w b B bs) (hB:B≤w.heap.size) (aj:Digs bs 256) (aY:bs.length≤1000000) (hu:Row .u64 w (.slice ao L z) ns) (P:Digs ns) (aV:L≤1000000) :
  Calls Tryz.prog 16 #[.pointer (some ⟨b,0,none⟩),.slice ao L z] w fun e w'=>∃ u,e=.returned (.tuple #[u,.int .i64 (r2:Nat),.int .i64 (r3:Nat)])∧Row .u64 w' u r1∧(∀ x,u.ownBlock=some x→w.heap.size≤x)∧ScrAt w' b B r4∧Kept (fun x=>x=b) w w':=by
 obtain ⟨_,_,_,e1,hL,_,_,_,_⟩:=hu.open;cases e1
 have hO:=rOf _ ns w hu P (by rw [hL.out];omega);have HS:=aa h;have aX:b<w.heap.size:=h.lt;have HU:=aa hu;obtain ⟨N,hN⟩:∃ N,N=val ns:=⟨_,rfl⟩
 have HN:=aa hN;have ad:eI ns↔L≤300∧(au N+63)/64≤130∧2≤N∧N%2=1:=by unfold eI;rw [hL.out,← hN]
 have j:=aa ad;have HL:=aa hL.out;have J:=aa ae;have az:=aa aj;have R:=aa P;have aT:=aa hB;rw [← hN] at hO;have n:Hid (¬ eI ns→r1=[]∧r2=0∧r3=1∧r4=bs):=fun hb=>by
  have h1:=J.out;unfold j7 at h1;rw [if_neg hb] at h1;simp only [Prod.mk.injEq] at h1;exact ⟨h1.1.symm,h1.2.1.symm,h1.2.2.1.symm,h1.2.2.2.symm⟩
 clear h hu hN ad hL ae aj P hB;go_enter Tryz.func16,Tryz.ntmps16;go_wp2_with fail;refine hO.mono ?_;rintro e w1 ⟨v1,rfl,b1,f1,k1⟩;have D:=aa k1;have Q:=aa b1;have aA:=aa f1;have r:=jp b1;obtain ⟨xo,xn,xc,rfl,-,-⟩:=b1.length;clear hO k1 f1;have Z:∀ (W:World),Kept af w W→¬ eI ns→∃ u,Ending.returned (.tuple #[.slice none 0 0,.int .i64 0,.int .i64 1])=.returned (.tuple #[u,.int .i64 (r2:Nat),.int .i64 (r3:Nat)])∧Row .u64 W u r1∧(∀ x,u.ownBlock=some x→w.heap.size≤x)∧ScrAt W b B r4∧Kept (fun x=>x=b) w W:=fun W k hb=>by
  obtain ⟨rfl,rfl,rfl,rfl⟩:=n.out hb;exact ⟨_,rfl,Row.nil _ _,(fun x hx=>by cases hx),HS.out.grew k,k.any⟩
 have l:=aa Z;clear Z n;by_cases c1:300<L
 ·have g1:(L:Int) > 300:=by omega
  have ab:(300:Int)<(L:Int):=by omega
  have hb:¬ eI ns:=fun h=>by have:=(j.out.1 h).1;omega
  have HE:=aa (l.out w1 D.out hb);clear b1 hb;go_wp2_with fail;go_ret3
  exact HE.out
 have g1:¬ (L:Int) > 300:=by omega
 have ab:¬ (300:Int)<(L:Int):=by omega
 have q1:decide ((300:Int)<(L:Int))=false:=aI ab;have h2:=fN _ N w1 b1;obtain ⟨t,ht⟩:∃ t,t=au N:=⟨_,rfl⟩
 rw [← ht] at h2 r;have HT:=aa ht;have gt:IntKind.i64.wrap ((t:Int)+63)=(t:Int)+63:=by rw [IntKind.wrap_i64];omega
 obtain ⟨q,hq⟩:∃ q,q=(t+63)/64:=⟨_,rfl⟩
 have gq:((t:Int)+63).tdiv 64=(q:Int):=by rw [Int.tdiv_eq_ediv_of_nonneg (by omega)];omega
 have aL:((t:Int)+63)/64=(q:Int):=by omega
 have HQ:=aa hq;clear ht hq;by_cases c2:130<q
 ·have g2:(q:Int) > 130:=by omega
  have O:(130:Int)<(q:Int):=by omega
  have hb:¬ eI ns:=fun h=>by have:=(j.out.1 h).2.1;have:=HQ.out;rw [HT.out] at this;omega
  have HE:=aa (l.out w1 D.out hb);clear b1 hb;go_wp2_with fail;refine h2.mono ?_;rintro e w2 ⟨rfl,rfl⟩;go_wp2_with fail;go_ret3
  exact HE.out
 have g2:¬ (q:Int) > 130:=by omega
 have O:¬ (130:Int)<(q:Int):=by omega
 have q2:decide ((130:Int)<(q:Int))=false:=aI O;have hS:=eF 2 (by omega) w1;clear b1;go_wp2_with fail;refine h2.mono ?_;rintro e w2 ⟨rfl,rfl⟩;clear h2;go_wp2_with fail;refine hS.mono ?_;rintro e w3 ⟨v3,rfl,b3,_,k3⟩;have F:=aa (D.out.trans k3);have b1:=Q.out.grew k3;have hC:=iP _ v3 N 2 w3 b1 b3;obtain ⟨yo,yn,yc,rfl,-,-⟩:=b3.length;clear hS k3 b3;by_cases c3:N<2
 ·rw [bk c3] at hC;have hb:¬ eI ns:=fun h=>by have:=(j.out.1 h).2.2.1;omega
  clear b1;go_wp2_with fail;refine hC.mono ?_;rintro e aR ⟨rfl,m4,rfl⟩;have HE:=aa (l.out (w3.drewN m4) (F.out.trans ((ah af w3).drewN m4)) hb);clear hb;go_wp2_with fail;go_ret3
  exact HE.out
 have aM:=gD (show 2≤N by omega);have q3:decide (aK N 2<0)=false:=aI aM;generalize aK N 2=cc at *;go_wp2_with fail;refine hC.mono ?_;rintro e aR ⟨rfl,m4,rfl⟩;have k4:=(ah af w3).drewN m4;obtain ⟨w4,aq⟩:∃ w4,w4=w3.drewN m4:=⟨_,rfl⟩
 rw [← aq] at k4 ⊢;have i:=aa (F.out.trans k4);have b4:=b1.grew k4;have ay:=aa b4;obtain ⟨lb,lo,ln,lc,d,el,aP,A,aN,a2⟩:=lh b4 (by omega);cases el
 have aJ:(0:Int)<(xn:Int):=by omega
 have gm:(d:Int).tmod 2=((d%2:Nat):Int):=by rw [Int.tmod_eq_emod_of_nonneg (by omega)];omega
 clear hC aq k4 b1 b4 Q F;by_cases c4:N%2=0
 ·have hb:¬ eI ns:=fun h=>by have:=(j.out.1 h).2.2.2;omega
  have HE:=aa (l.out w4 i.out hb);have gz:(d:Int)%2=0:=by omega
  rw [show d%2=0 by omega] at gm;clear hb;go_wp2_with fail;go_ret3
  exact HE.out
 have gz:(d:Int)%2=1:=by omega
 rw [show d%2=1 by omega] at gm;have am:eI ns:=j.out.2 ⟨by omega,by rw [← HT.out,← HQ.out];omega,by omega,by omega⟩;have M:Hid (jd ns (bs.length+1) bs 0=(r1,r2,r3,r4)):=by
  have h1:=J.out;unfold j7 at h1;rw [if_pos am] at h1;exact h1
 have al:ns≠[]:=fun e=>by have h9:=HN.out;rw [e] at h9;simp [val] at h9;omega
 have ax:=aa (gM HS.out HU.out al);have a1:aH N≤600:=by
  rw [HN.out];refine Nat.le_trans ((aS _ (2*ns.length)).2 ?_) (by have:=HL.out;omega);rw [Nat.pow_mul];exact ap (by omega) R.out
 have aW:2≤N:=by omega
 have aF:=aa (HS.out.grew i.out);have aG:=aa (HU.out.grew i.out);clear am l J j aN al HU HT HQ r gt gq aL g2 O c1 c2 c3 c4 aP;go_wp2_with fail;clear A gm gz aJ;go_loopw [8] (fun av wr=>∃ (cs:List Nat) (a f:Nat),av=.int .i64 (a:Int)∧cs.length<f∧cs.length+a≤1000000∧Hid (Digs cs 256)∧Hid (ScrAt wr b B cs)∧Hid (Kept (fun x=>x=b) w4 wr)∧Hid (jd ns f cs a=(r1,r2,r3,r4))) (fun _ wr=>iS b wr)
 case atStart=>exact ⟨bs,0,bs.length+1,rfl,by omega,by omega,az.out,aF.out,ah _ _,M.out⟩
 case round=>
  obtain ⟨cs,a,f,rfl,a0,aZ,A,an,C,heq⟩:=hrel;obtain ⟨g,rfl⟩:∃ g,f=g+1:=⟨f-1,by omega⟩
  have I:=aa an.out.len;have c:=heq.out;unfold jd at c;have hr:Row .u64 wr (.slice ao L z) ns:=aG.out.kept' C.out (fun _ x hx e=>ax.out x hx e);have p:=tj b B cs ns (.slice ao L z) wr an.out A.out (by omega) hr R.out (by rw [HL.out];omega) (by rw [← HN.out];omega);by_cases hE0:bH ns cs=0
  ·rw [if_neg (by omega)] at c;rw [hE0] at p;have hlt:=mn hE0;have a3:=km hE0;have aw:=up hE0;have ar:Digs (dH ns cs):=by unfold dH;rw [if_pos hE0];exact ai (by omega) _ _
   have aQ:Hid (Digs (dG ns cs) 256):=by
    obtain ⟨m,hm⟩:=mo ns cs;unfold Hid;rw [hm];exact A.out.drop m
   rw [HL.out] at aw;rw [← HN.out] at c;generalize eO ns cs=kk at *;generalize dH ns cs=x at *;generalize dG ns cs=cs' at *;have ga:IntKind.i64.wrap ((a:Int)+(kk:Int))=((a+kk:Nat):Int):=by rw [IntKind.wrap_i64];omega
   have Y:=aa ar;clear hE0 heq hr ar;go_wp2_with fail;refine p.mono ?_;rintro e w5 ⟨u5,rfl,r5,f5,s5,k5⟩;have G:Hid (Kept (fun x=>x=b) w4 w5):=C.out.trans k5;have v:=aa s5;have aB:Hid (∀ x,u5.ownBlock=some x→w4.heap.size≤x):=fun x hx=>Nat.le_trans C.out.size (f5 x hx)
   have ac:=rOf u5 x w5 r5 Y.out (by rw [aw];omega);have S:=aa r5;obtain ⟨uo,un,uc,rfl,-,-,-,-,-⟩:=r5.open;clear p r5 f5 s5 k5;go_wp2_with fail;refine ac.mono ?_;rintro e w6 ⟨v6,rfl,b6,_,k6⟩;have H:Hid (Kept (fun x=>x=b) w4 w6):=G.out.next k6 (fun _ _ f=>f.elim)
   have U:=aa (v.out.grew k6);have aE:=aa (S.out.grew k6);have ag:IsBig w6 (.slice (some ⟨lb,lo,none⟩) xn xc) N:=ay.out.kept H.out (fun y hy (e:y=b)=>by have:=aA.out y hy;omega);have aO:aH (val x)≤600:=by
    refine Nat.le_trans ((aS _ (2*x.length)).2 ?_) (by omega);rw [Nat.pow_mul];exact ap (by omega) Y.out
   have hI:=jQ v6 _ (val x) N w6 b6 ag (by omega) (by omega) (by omega);obtain ⟨zo,zn,zc,rfl,-,-⟩:=b6.length;clear ac k6 b6 ag v S;generalize val x=V at *;by_cases hg:Nat.gcd V N=1
   ·rw [if_pos hg] at c;simp only [Prod.mk.injEq] at c;obtain ⟨e1,e2,e3,e4⟩:=c;rw [aU hg] at hI;have o:Hid (x=r1∧a+kk=r2∧0=r3∧cs'=r4):=⟨e1,e2,e3,e4⟩
    clear e1 e2 e3 e4;go_wp2_with fail;refine hI.mono ?_;rintro e w7 ⟨v7,rfl,hT,_,_,k7⟩;obtain ⟨T,_,_,b7⟩:=hT hg;obtain ⟨tq,tn,tc,rfl,-,-⟩:=b7.length;have HE:Hid (Row .u64 w7 (.slice uo un uc) r1∧ScrAt w7 b B r4∧Kept (fun x=>x=b) w w7∧r2=a+kk∧r3=0):=by
     obtain ⟨e1,e2,e3,e4⟩:=o.out;exact ⟨by rw [← e1];exact aE.out.grew k7,by rw [← e4];exact U.out.grew k7,i.out.any.trans (H.out.next k7 (fun _ _ f=>f.elim)),e2.symm,e3.symm⟩
    clear hI hT b7 k7;go_wp2_with fail;go_ret3
    obtain ⟨q1,q2,q3,q4,q5⟩:=HE.out;exact ⟨_,by rw [q4,q5];first | rfl | (rw [← ga];rfl),q1,fun x hx=>Nat.le_trans i.out.size (aB.out x hx),q2,q3⟩
   ·rw [if_neg hg] at c;rw [aI hg] at hI;have o:=aa c;clear c;go_wp2_with fail;refine hI.mono ?_;rintro e w7 ⟨v7,rfl,_,s,_,k7⟩;obtain rfl:=s hg;have aC:Hid (Kept (fun x=>x=b) w4 w7):=H.out.next k7 (fun _ _ f=>f.elim)
    have X:=aa (U.out.grew k7);have ak:=X.out.len;have aD:=aa ak;clear hI s k7 ak hg;go_wp2_with fail;go_roundw
    case rel=>exact ⟨cs',a+kk,g,by first | rfl | (rw [ga];rfl) | go_num,by omega,by omega,aQ,X,aC,o⟩
    case measure=>
     show iS b w7<iS b wr
     rw [aD.out,I.out];exact hlt
  ·rw [if_pos hE0] at c;simp only [Prod.mk.injEq] at c;obtain ⟨e1,e2,e3,e4⟩:=c;have o:Hid ([]=r1∧0=r2∧bH ns cs=r3∧dG ns cs=r4):=⟨e1,e2,e3,e4⟩
   have g0:¬ ((bH ns cs:Nat):Int)=0:=by omega
   clear e1 e2 e3 e4 heq hr;generalize bH ns cs=E at *;go_wp2_with fail;refine p.mono ?_;rintro e w5 ⟨u5,rfl,r5,_,s5,k5⟩;have v:=aa s5;have G:Hid (Kept (fun x=>x=b) w4 w5):=C.out.trans k5;obtain ⟨uo,un,uc,rfl,-,-,-,-,-⟩:=r5.open;clear p r5 s5 k5;go_wp2_with fail;go_ret3
   obtain ⟨q1,q2,q3,q4⟩:=o.out;exact ⟨_,by rw [← q2,← q3];rfl,by rw [← q1];exact Row.nil _ _,(fun x hx=>by cases hx),by rw [← q4];exact v.out,i.out.any.trans G.out⟩

end Go.Proofs.YtkaojflnghfmcaaGreatDoor
