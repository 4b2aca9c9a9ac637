/- Put together of: Lsc1 Cut0 Lsc2 Lsc3 Seq3 Base4 Lays NatB Seq0. -/
import Derived.Test.YtcemlfokmjjiaaaGreatDoorPp6
import Derived.Shelf.Strconv.Itoa0
import Derived.Lib.ItoaNum
import Derived.Shelf.Strings.BuilderK
import Derived.Shelf.Strings.Repeat
import Derived.Shelf.Small.Wraps

namespace Go.Proofs.YtcemlfokmjjiaaaGreatDoor
set_option maxRecDepth 100000
set_option maxHeartbeats 4000000
open Go.RowKit

def LscB (w:World) (b B:Nat) (v:Value) (ps:List Nat) (k:Nat):Prop:=
 w.heap[b]? = some (.cells #[v,.int .i64 (k:Nat)] 56 (0,0))∧Row .u8 w v ps∧k≤ps.length∧ps.length≤1000000∧b<B∧(ps≠[]→∀ x,v.ownBlock=some x→x<B∧x≠b)

def Lsc (w:World) (p:Option Addr) (B:Nat) (bs:List Nat):Prop:=(p=none∧bs=[])∨∃ b v ps k,p=some ⟨b,0,none⟩∧bs=ps.drop k∧LscB w b B v ps k

def ofP (p:Option Addr) (x:Nat):Prop:=p.map Addr.block=some x

theorem LscB.lt {w:World} {b B k:Nat} {v:Value} {ps:List Nat} (h:LscB w b B v ps k):b<w.heap.size:=lt_of_block h.1

theorem LscB.cells {w:World} {b B k:Nat} {v:Value} {ps:List Nat} (h:LscB w b B v ps k):w.cell? ⟨b,0,none⟩=some v∧w.cell? ⟨b,1,none⟩=some (.int .i64 (k:Nat)):=
 ⟨(cell_of_row w b 0 _ _ _ h.1).trans rfl,(cell_of_row w b 1 _ _ _ h.1).trans rfl⟩

theorem LscB.free {w:World} {b B k:Nat} {v:Value} {ps:List Nat} (h:LscB w b B v ps k):w.frozen? ⟨b,1,none⟩=false:=by simp [World.frozen?,h.1]

theorem LscB.kept {S:Nat→Prop} {w w':World} {b B k:Nat} {v:Value} {ps:List Nat} (h:LscB w b B v ps k) (kk:Kept S w w') (hS:∀ x,x<B→¬ S x):LscB w' b B v ps k:=
 ⟨(kk.block b h.lt (hS b h.2.2.2.2.1)).trans h.1,h.2.1.kept' kk (fun e x hx=>hS x (h.2.2.2.2.2 e x hx).1),h.2.2⟩

theorem LscB.put {w:World} {b B k:Nat} {v:Value} {ps:List Nat} (h:LscB w b B v ps k) (m:Nat) (hm:m≤ps.length):LscB (w.setCell ⟨b,1,none⟩ (.int .i64 (m:Nat))) b B v ps m:=by
 refine ⟨?_,h.2.1.kept' ((ah (fun x=>x=b) w).setCell ⟨b,1,none⟩ (fun _=>rfl) _) (fun e x hx=>(h.2.2.2.2.2 e x hx).2),hm,h.2.2.2⟩;have:=heap_setCell_same w b 1 _ 56 (.int .i64 (m:Nat)) h.1;rw [this];rfl

theorem LscB.lsc {w:World} {b B k:Nat} {v:Value} {ps:List Nat} (h:LscB w b B v ps k):Lsc w (some ⟨b,0,none⟩) B (ps.drop k):=.inr ⟨b,v,ps,k,rfl,rfl,h⟩

theorem Lsc.len {w:World} {p:Option Addr} {B:Nat} {bs:List Nat} (h:Lsc w p B bs):bs.length≤1000000:=by
 rcases h with ⟨_,rfl⟩ | ⟨b,v,ps,k,_,rfl,_,_,_,h,_⟩
 ·simp
 ·rw [List.length_drop];omega

theorem Lsc.kept {S:Nat→Prop} {w w':World} {p:Option Addr} {B:Nat} {bs:List Nat} (h:Lsc w p B bs) (k:Kept S w w') (hS:∀ x,x<B→¬ S x):Lsc w' p B bs:=by
 rcases h with h | ⟨b,v,ps,k',e,e2,h⟩
 ·exact .inl h
 ·exact .inr ⟨b,v,ps,k',e,e2,h.kept k hS⟩

theorem Lsc.grew {w w':World} {p:Option Addr} {B:Nat} {bs:List Nat} (h:Lsc w p B bs) (k:Kept ae w w'):Lsc w' p B bs:=h.kept k fun _ _ f=>f

theorem Lsc.inP {w:World} {p:Option Addr} {B x:Nat} {bs:List Nat} (h:Lsc w p B bs) (hx:ofP p x):x<B∧x<w.heap.size:=by
 rcases h with ⟨rfl,_⟩ | ⟨b,v,ps,k,rfl,_,h⟩
 ·cases hx
 ·cases hx
  exact ⟨h.2.2.2.2.1,h.lt⟩

theorem Lsc.put {w:World} {p:Option Addr} {B l:Nat} {bs:List Nat} {o:Obj} (o':Obj) (h:Lsc w p B bs) (hl:w.heap[l]? = some o) (ho:o.isCells=false):Lsc (w.putObj l o') p B bs:=by
 rcases h with h | ⟨b,v,ps,k,e,e2,h1,h2,h3⟩
 ·exact .inl h
 ·refine .inr ⟨b,v,ps,k,e,e2,(World.putObj_heap_other fun e=>?_).trans h1,iL o' h2 hl ho,h3⟩;subst e;rw [hl] at h1;cases h1
  cases ho

theorem yQ (v:Value) (bs:List Nat) (w:World) (h:Row .u8 w v bs) (hl:bs.length≤1000000) :
  Calls Tryz.prog 20 #[v] w fun e w'=>∃ u,e=.returned u∧OwnB w' w.heap.size u bs∧Kept ae w w':=by
 obtain ⟨i0,l,r,g,n⟩:=info_parts Tryz.info8s;have HX:=aa h;obtain ⟨ao,na,ca,rfl,b,x,t,_⟩:=h.open;obtain ⟨CS,a⟩:∃ CS,CS=bs.map fun z:Nat=>Value.int .u8 (z:Int):=⟨_,rfl⟩
 have HC:=aa a;have m:Hid (CS.length=na):=by unfold Hid;rw [a,List.length_map];exact b.out
 have d:Hid (∀ W,Kept ae w W→0<CS.length→∃ ad,ao=some ad∧∀ j u,CS[j]? = some u→W.cell? (ad.add j)=some u):=by rw [a];exact fun W k hp=>yu HX.out k hp
 have q:Hid (∀ u ∈ CS,u.oneCell'=true):=by rw [a];exact yM _ _
 have y:na≤1000000:=by have:=b.out;omega
 clear h a;go_enter Tryz.func20,Tryz.ntmps20;go_wp2_with (at_make;refine wpList_make_full _ rfl _ _ 22 rfl w.heap.size 5 i0 _ 1 Tryz.underlying22 l r g _ _ _ _ na rfl rfl rfl rfl (by rw [n];omega) (by unfold maxLen;omega) (leR _) ?_;intro w1 c f;rw [aE] at c;have k1:=aC f;obtain ⟨w2,o,i,k2⟩:=cX (P:=Tryz.prog) 22 22 3 5 w.heap.size 0 na na (some ⟨w.heap.size,0,none⟩) ao na ca _ 5 CS Tryz.underlying22 (by rw [l];simp [g]) (ei c) (by rw [m.out];exact (Nat.min_self _).symm) (fun hp=>⟨rfl,d.out _ k1 hp⟩) (by have:=m.out;simp;omega) q.out;have p:Hid _:=i;have s:=aa (cG k1 k2 (leR _));clear i c f k1 k2)
 have hA:=p.out;rw [HC.out,dR,b.out,Nat.sub_self,List.replicate_zero,List.append_nil] at hA;go_ret;exact ⟨_,rfl,OwnB.of (bZ hA b.out (by unfold maxLen;omega) (leR _)),s.out⟩

theorem xM (v:Value) (bs:List Nat) (w:World) (h:Row .u8 w v bs) (hl:bs.length≤1000000) :
  Calls Tryz.prog 8 #[v] w fun e w'=>∃ b,e=.returned (.pointer (some ⟨b,0,none⟩))∧w.heap.size≤b∧Lsc w' (some ⟨b,0,none⟩) w'.heap.size bs∧Kept ae w w':=by
 have J:=yQ v bs w h hl;clear h;go_enter Tryz.func8,Tryz.ntmps8;go_wp2_with fail;refine J.mono ?_;rintro e w1 ⟨u,rfl,hO,k1⟩;have hs:=k1.size;have k2:Kept ae w1 (w1.alloc (.cells #[u,.int .i64 0] 56)):=(ah _ _).alloc _;have HR:Hid (LscB (w1.alloc (.cells #[u,.int .i64 0] 56)) w1.heap.size (w1.alloc (.cells #[u,.int .i64 0] 56)).heap.size u bs 0):=by
  refine ⟨World.alloc_heap_new w1 _,hO.row.grew k2,Nat.zero_le _,hl,by simp,fun _ x hx=>?_⟩;have:=(hO.lt x hx).2;rw [World.size_alloc];omega
 have HK:=aa (k1.alloc (.cells #[u,.int .i64 0] 56));obtain ⟨ao,cap,rfl⟩:=aV hO;clear J k1 k2 hO;go_wp2_with fail;go_ret;exact ⟨_,rfl,hs,HR.out.lsc,HK.out⟩

theorem tm (p:Option Addr) (B:Nat) (bs:List Nat) (w:World) (h:Lsc w p B bs) :
  Calls Tryz.prog 12 #[.pointer p] w fun e w'=>e=.returned (.int .i64 (bs.length:Nat))∧Kept ae w w':=by
 rcases h with ⟨rfl,rfl⟩ | ⟨b,v,ps,k,rfl,rfl,h⟩
 ·go_enter Tryz.func12,Tryz.ntmps12;go_wp2_with fail;go_ret;exact ⟨rfl,ah _ _⟩
 ·obtain ⟨c0,c1⟩:=h.cells;obtain ⟨ao,L,cap,rfl,hL,f,i,c,a⟩:=h.2.1.open;have hk:k≤L:=by rw [← hL.out];exact h.2.2.1
  have g:L≤1000000:=by rw [← hL.out];exact h.2.2.2.1
  have e1:(ps.drop k).length=L-k:=by rw [List.length_drop,hL.out]
  rw [e1];obtain ⟨d,hd⟩:∃ d,d=L-k:=⟨_,rfl⟩
  rw [← hd];have g1:(L:Int)-(k:Int)=(d:Int):=by omega
  clear hd e1 a h c;go_enter Tryz.func12,Tryz.ntmps12;go_wp2_with fail;go_quiet (fail);go_wp2_with fail;go_ret;exact ⟨rfl,(ah _ _).drewN _⟩

theorem gM {k:IntKind} {w:World} {ao:Option Addr} {cap:Nat} (h:ao=none→cap=0) (hc:cap≤maxLen):Row k w (.slice ao 0 cap) []:=
 ⟨ao,cap,rfl,Nat.zero_le _,hc,h,fun i hi=>absurd hi (by simp)⟩

theorem vH {k:IntKind} {w:World} {ao:Option Addr} {L cap s m:Nat} {zs:List Nat} (h:Row k w (.slice ao L cap) zs) (h2:s+m≤L) :
  (ao=none→Row k w (.slice none 0 0) ((zs.drop s).take m))∧(∀ ad,ao=some ad→cap=s→Row k w (.slice (some ad) 0 0) ((zs.drop s).take m))∧(∀ ad,ao=some ad→cap≠s→Row k w (.slice (some (ad.add s)) m (cap-s)) ((zs.drop s).take m)):=by
 obtain ⟨_,_,_,e,hL,d,f,c,a⟩:=h.open;cases e
 have hz:m=0→(zs.drop s).take m=[]:=fun e=>by rw [e];rfl
 refine ⟨fun e=>?_,fun ad e ec=>?_,fun ad e ec=>?_⟩
 ·have:=c e;rw [hz (by omega)];exact Row.nil _ _
 ·rw [hz (by omega)];exact gM (fun e=>by cases e) (Nat.zero_le _)
 ·subst e;by_cases hm:m=0
  ·rw [hz hm,hm];exact gM (fun e=>by cases e) (by unfold maxLen at *;omega)
  ·obtain ⟨b,off,e,_⟩:=a 0 (by omega);cases e
   have ea:(⟨b,off,none⟩:Addr).add s=⟨b,off+s,none⟩:=by unfold Addr.add;split <;> simp_all
   rw [ea];exact tU h h2

theorem rI (B n:Nat) (w:World) :
  Calls Tryz.prog 114 #[.pointer none,.int .i64 (n:Int)] w fun e w'=>∃ u,e=.returned (.tuple #[u,.int .i64 (aR [] n:Nat)])∧Row .u8 w' u (bG [] n)∧Lsc w' none B (bf [] n)∧Kept (ofP none) w w':=by
 have hR:bf [] (n:Int)=[]:=by unfold bf;split <;> simp
 have hL:bG [] (n:Int)=[]:=by unfold bG;split <;> simp
 rw [hR,hL];have J:=xM (.slice none 0 0) [] w (Row.nil _ _) (by simp);by_cases h0:n=0
 ·subst h0;have hE:aR [] ((0:Nat):Int)=0:=rfl;rw [hE];clear hE hR hL;go_enter Tryz.func114,Tryz.ntmps114;go_wp2_with fail;refine J.mono ?_;rintro e w1 ⟨b,rfl,hb,h1,k1⟩;have J2:=tm _ _ _ w1 h1;have c:=aa k1;have H1:=aa h1;clear J k1 h1;go_wp2_with fail;refine J2.mono ?_;rintro e w2 ⟨rfl,k2⟩;have f:=aa (c.out.trans k2);have h2:=H1.out.grew k2;rcases h2 with ⟨e,_⟩ | ⟨b',v,ps,k,e,ed,h2⟩
  ·cases e
  cases e
  obtain ⟨c0,c1⟩:=h2.cells;have f1:=h2.free;have h3:=h2.put k h2.2.2.1;obtain ⟨d0,d1⟩:=h3.cells;have m:=h2.2.2.2.1;have i:k=ps.length:=by
   have e1:=congrArg List.length ed;rw [List.length_drop] at e1;have e2:=h2.2.2.1;have e3:([]:List Nat).length=0:=rfl;omega
  obtain ⟨ao,L,cap,rfl,hL,l,o,g,a⟩:=h2.2.1.open;obtain rfl:k=L:=i.trans hL.out;have d:Hid (Kept (ofP none) w (w2.setCell ⟨b,1,none⟩ (.int .i64 (k:Nat)))):=(f.out.any (S:=ofP none)).setCell _ (fun h=>absurd h (by show ¬ b<w.heap.size;omega)) _;have g1:(k:Int)+0=(k:Int):=by omega
  have g0:(0:Int)≤(k:Int):=by omega
  have g2:(k:Int)≤(cap:Int):=by omega
  have j:k≤1000000:=by omega
  have HN:=aa g;have HB:=aa hb;clear J2 h2 h3 k2 a g c f H1 ed i hL m hb;cases ao with
  | none=>
   obtain rfl:=HN.out rfl;obtain rfl:k=0:=by omega
   go_wp2_with fail;go_quiet (fail);go_wp2_with fail;go_ret2;exact ⟨_,rfl,Row.nil _ _,.inl ⟨rfl,rfl⟩,d.out.drewN _⟩
  | some ad=>
   by_cases hck:cap=k
   ·subst hck;go_wp2_with fail;go_quiet (fail);go_wp2_with fail;go_ret2;exact ⟨_,rfl,gM (fun e=>by cases e) (by unfold maxLen at *;omega),.inl ⟨rfl,rfl⟩,d.out.drewN _⟩
   ·go_wp2_with fail;go_quiet (fail);go_wp2_with fail;go_ret2;exact ⟨_,rfl,gM (fun e=>by cases e) (by unfold maxLen at *;omega),.inl ⟨rfl,rfl⟩,d.out.drewN _⟩
 ·have hE:aR [] (n:Int)=150:=by unfold aR;rw [if_neg (by omega),if_pos (by simp;omega)]
  rw [hE];have g1:(n:Int) > ((0:Nat):Int):=by omega
  have g2:((0:Nat):Int)<(n:Int):=by omega
  have g3:(0:Int)<(n:Int):=by omega
  clear hE hR hL;go_enter Tryz.func114,Tryz.ntmps114;go_wp2_with fail;refine J.mono ?_;rintro e w1 ⟨b,rfl,hb,h1,k1⟩;have J2:=tm _ _ _ w1 h1;have c:=aa k1;have H1:=aa h1;clear J k1 h1;go_wp2_with fail;refine J2.mono ?_;rintro e w2 ⟨rfl,k2⟩;have f:=aa (c.out.trans k2);have h2:=H1.out.grew k2;rcases h2 with ⟨e,_⟩ | ⟨b',v,ps,k,e,ed,h2⟩
  ·cases e
  cases e
  obtain ⟨c0,c1⟩:=h2.cells;have f1:=h2.free;obtain ⟨ao,L,cap,rfl,hL,l,o,g,a⟩:=h2.2.1.open;have d:Hid (Kept (ofP none) w (w2.setCell ⟨b,1,none⟩ (.int .i64 (L:Nat)))):=(f.out.any (S:=ofP none)).setCell _ (fun h=>absurd h (by show ¬ b<w.heap.size;omega)) _;clear J2 h2 k2 a g c f H1 ed;go_wp2_with fail;go_ret2;exact ⟨_,rfl,Row.nil _ _,.inl ⟨rfl,rfl⟩,d.out⟩

theorem zN (b B n k:Nat) (v:Value) (ps:List Nat) (w:World) (h:LscB w b B v ps k) :
  Calls Tryz.prog 114 #[.pointer (some ⟨b,0,none⟩),.int .i64 (n:Int)] w fun e w'=>∃ u,e=.returned (.tuple #[u,.int .i64 (aR (ps.drop k) n:Nat)])∧Row .u8 w' u (bG (ps.drop k) n)∧Lsc w' (some ⟨b,0,none⟩) B (bf (ps.drop k) n)∧Kept (fun x=>x=b) w w':=by
 have J:=tm _ _ _ w h.lsc;have H:=aa h;obtain ⟨ao,L,cap,rfl,hL,t,z,c,g⟩:=h.2.1.open;have p:k≤L:=by rw [← hL.out];exact h.2.2.1
 have q:L≤1000000:=by rw [← hL.out];exact h.2.2.2.1
 have hd:(ps.drop k).length=L-k:=by rw [List.length_drop,hL.out]
 rw [hd] at J;obtain ⟨d,j⟩:∃ d,d=L-k:=⟨_,rfl⟩
 rw [← j] at J hd;by_cases h1:d<n
 ·have e1:aR (ps.drop k) (n:Int)=150:=by unfold aR;rw [if_neg (by omega),if_pos (by omega)]
  have e2:bG (ps.drop k) (n:Int)=[]:=by unfold bG;rw [e1];rfl
  have e3:bf (ps.drop k) (n:Int)=ps.drop ps.length:=by
   unfold bf;rw [if_neg (by omega),List.drop_of_length_le (by rw [hd];show d≤((n:Int)).toNat;omega),List.drop_of_length_le (leR _)]
  rw [e1,e2,e3];have g1:(n:Int) > (d:Int):=by omega
  have g2:(d:Int)<(n:Int):=by omega
  have i:=aa hL.out;clear e1 e2 e3 h g c j hd hL;go_enter Tryz.func114,Tryz.ntmps114;go_wp2_with fail;refine J.mono ?_;rintro e w1 ⟨rfl,k1⟩;have H1:=aa (H.out.kept k1 (fun _ _ f=>f));obtain ⟨c0,c1⟩:=H1.out.cells;have f1:=H1.out.free;have HP:=aa (H1.out.put L (by rw [i.out];exact leR _));have HK:=aa ((k1.any (S:=fun x=>x=b)).setCell ⟨b,1,none⟩ (fun _=>rfl) (.int .i64 (L:Nat)));clear J k1;go_wp2_with fail;go_ret2;exact ⟨_,rfl,Row.nil _ _,by rw [i.out];exact HP.out.lsc,HK.out⟩
 ·have e1:aR (ps.drop k) (n:Int)=0:=by unfold aR;rw [if_neg (by omega),if_neg (by omega)]
  have e2:bG (ps.drop k) (n:Int)=(ps.drop k).take n:=by unfold bG;rw [e1];rfl
  have e3:bf (ps.drop k) (n:Int)=ps.drop (k+n):=by
   unfold bf;rw [if_neg (by omega),List.drop_drop];rfl
  rw [e1,e2,e3];obtain ⟨m,hm⟩:∃ m,m=k+n:=⟨_,rfl⟩
  rw [← hm];have g1:¬ (n:Int) > (d:Int):=by omega
  have g2:¬ (d:Int)<(n:Int):=by omega
  have g3:(k:Int)+(n:Int)=(m:Int):=by omega
  have g4:(k:Int)≤(m:Int):=by omega
  have g5:(m:Int)≤(cap:Int):=by omega
  have g6:(0:Int)≤(k:Int):=by omega
  have g7:m-k=n:=by omega
  have l:m≤L:=by omega
  have s:m≤cap:=by omega
  have A:k≤m:=by omega
  have i:=aa hL.out;have y:k≤1000000:=by omega
  have r:m≤1000000:=by omega
  have HN:=aa c;have o:=aa (show k+n≤L by omega);clear e1 e2 e3 h g j hd hL hm;go_enter Tryz.func114,Tryz.ntmps114;go_wp2_with fail;refine J.mono ?_;rintro e w1 ⟨rfl,k1⟩;have H1:=aa (H.out.kept k1 (fun _ _ f=>f));obtain ⟨c0,c1⟩:=H1.out.cells;have f1:=H1.out.free;have HP:=aa (H1.out.put m (by rw [i.out];exact l));obtain ⟨d0,d1⟩:=HP.out.cells;have HK:=aa ((k1.any (S:=fun x=>x=b)).setCell ⟨b,1,none⟩ (fun _=>rfl) (.int .i64 (m:Nat)));have HC:=aa (vH HP.out.2.1 o.out);clear J k1;cases ao with
  | none=>
   obtain rfl:=HN.out rfl;obtain rfl:L=0:=by omega
   obtain rfl:m=0:=by omega
   obtain rfl:k=0:=by omega
   obtain rfl:n=0:=by omega
   have a:=aa (HC.out.1 rfl);clear HC c;go_wp2_with fail;go_quiet (fail);go_wp2_with fail;go_ret2;exact ⟨_,rfl,a.out.kept' (S:=ae) ((ah _ _).drewN _) (fun _ _ _ f=>f),HP.out.lsc.grew ((ah _ _).drewN _),HK.out.drewN _⟩
  | some ad=>
   by_cases hck:cap=k
   ·have a:=aa (HC.out.2.1 ad rfl hck);obtain rfl:m=k:=by omega
    obtain rfl:n=0:=by omega
    subst hck;clear HC c;go_wp2_with fail;go_quiet (fail);go_wp2_with fail;go_ret2;exact ⟨_,rfl,a.out.kept' (S:=ae) ((ah _ _).drewN _) (fun _ _ _ f=>f),HP.out.lsc.grew ((ah _ _).drewN _),HK.out.drewN _⟩
   ·have a:=aa (HC.out.2.2 ad rfl hck);clear HC c;go_wp2_with fail;go_quiet (fail);go_wp2_with fail;go_ret2;exact ⟨_,rfl,a.out.kept' (S:=ae) ((ah _ _).drewN _) (fun _ _ _ f=>f),HP.out.lsc.grew ((ah _ _).drewN _),HK.out.drewN _⟩

theorem AW (p:Option Addr) (B n:Nat) (bs:List Nat) (w:World) (h:Lsc w p B bs) :
  Calls Tryz.prog 114 #[.pointer p,.int .i64 (n:Int)] w fun e w'=>∃ u,e=.returned (.tuple #[u,.int .i64 (aR bs n:Nat)])∧Row .u8 w' u (bG bs n)∧Lsc w' p B (bf bs n)∧Kept (ofP p) w w':=by
 rcases h with ⟨rfl,rfl⟩ | ⟨b,v,ps,k,rfl,rfl,h⟩
 ·exact rI B n w
 ·refine (zN b B n k v ps w h).mono ?_;rintro e w' ⟨u,he,h1,h2,h3⟩;exact ⟨u,he,h1,h2,h3.mono fun x _ e=>by cases e;rfl⟩

theorem uz (bs:List Nat) (n:Nat):aR bs n=0∨aR bs n=150:=by
 unfold aR;rw [if_neg (by omega)]
 split <;> simp

theorem uj (bs:List Nat) (n:Int):(bG bs n).length≤bs.length:=by
 unfold bG
 split
 ·rw [List.length_take];omega
 ·simp

theorem yy (p:Option Addr) (B:Nat) (bs:List Nat) (n:Int) (w:World) (h:Lsc w p B bs) :
  Calls Tryz.prog 73 #[.pointer p,.int .i64 n] w fun e w'=>∃ u,e=.returned (.tuple #[u,.int .i64 (aR bs n:Nat)])∧OwnB w' w.heap.size u (bG bs n)∧Lsc w' p B (bf bs n)∧Kept (ofP p) w w':=by
 have H:=aa h;by_cases h1:n<0
 ·have e1:aR bs n=1:=by unfold aR;rw [if_pos h1]
  have e2:bG bs n=[]:=by unfold bG;rw [e1];rfl
  have e3:bf bs n=bs:=by unfold bf;rw [if_pos h1]
  rw [e1,e2,e3];clear e1 e2 e3 h;go_enter Tryz.func73,Tryz.ntmps73;go_wp2_with fail;go_ret2;exact ⟨_,rfl,OwnB.nil _ _,H.out,ah _ _⟩
 ·obtain ⟨m,rfl⟩:=Int.eq_ofNat_of_zero_le (show 0≤n by omega);have J:=AW p B m bs w h;have hb:=(uj bs (m:Int))
  have d:=h.len;have HE:=uz bs m;have HL:Hid (aR bs (m:Int)≠0→bG bs (m:Int)=[]):=fun e=>if_neg e
  generalize bG bs (m:Int)=l at *;generalize aR bs (m:Int)=E at *;generalize bf bs (m:Int)=r at *;clear h;go_enter Tryz.func73,Tryz.ntmps73;go_wp2_with fail;refine J.mono ?_;rintro e w1 ⟨u,rfl,hr,a,k1⟩;have J2:=yQ u l w1 hr (by omega);have HS:=aa a;have HK:=aa k1;obtain ⟨ao,L,cap,rfl,_⟩:=hr.open;clear J k1 a hr;rcases HE with rfl | rfl
  ·clear HL;go_wp2_with fail;refine J2.mono ?_;rintro e w2 ⟨u2,rfl,hO,k2⟩;have b:=aa (HS.out.grew k2);have HO:=aa (hO.base HK.out.size);have c:=aa (HK.out.trans k2.any);clear J2 k2 hO;go_wp2_with fail;go_ret2;exact ⟨_,rfl,HO.out,b.out,c.out⟩
  ·obtain rfl:=HL.out (by decide);clear J2;go_wp2_with fail;go_ret2;exact ⟨_,rfl,OwnB.nil _ _,HS.out,HK.out⟩

def eG (p:Option Addr) (w:World):Nat:=match p with
 | none=>0
 | some a=>match w.cell? ⟨a.block,0,none⟩,w.cell? ⟨a.block,1,none⟩ with
  | some v,some (.int _ k)=>mW v-k.toNat
  | _,_=>0

theorem Lsc.left {w:World} {p:Option Addr} {B:Nat} {bs:List Nat} (h:Lsc w p B bs):eG p w=bs.length:=by
 rcases h with ⟨rfl,rfl⟩ | ⟨b,v,ps,k,rfl,rfl,h⟩
 ·rfl
 ·obtain ⟨c0,c1⟩:=h.cells;obtain ⟨_,_,e,_⟩:=h.2.1;unfold eG;simp only [c0,c1];rw [e,List.length_drop];rfl

open Go.RowKit Go.Shelf

def LowT {β:Type} (B:Nat) (T:Nat→Prop) (J:β→World→Prop):Prop:=∀ s A C,J s A→Kept (fun x=>T x∨B≤x) A C→J s C

theorem gp {A C:World} {B:Nat} {T:Nat→Prop} (h:Below B A C):Kept (fun x=>T x∨B≤x) A C:=
 ⟨h.os,h.tape,h.output,h.size,fun i _ hs=>h.block i (Nat.lt_of_not_le fun e=>hs (.inr e))⟩

theorem LowT.below {β:Type} {B:Nat} {T:Nat→Prop} {J:β→World→Prop} (h:LowT B T J) {s:β} {A C:World} (j:J s A) (k:Below B A C):J s C:=h s A C j (gp k)

def mr {β:Type} (B:Nat) (J:β→World→Prop):Prop:=∀ s A l o o',J s A→B≤l→A.heap[l]? = some o→o.isCells=false→J s (A.putObj l o')

def Bq {α:Type} (n:Nat) (P:Program) (g:Nat) (lb:Array Value) (encs:α→Array Value) (X:List α→α→World→Prop) (Sb T:Nat→Prop) (S:List α→World→Prop) (w:World):Prop:=
 ∀ (l:Nat) (J Jx:List α→World→Prop) (W:World),Kept ae w W→l=w.heap.size+1→W.heap.size=w.heap.size+2 →
  LowT W.heap.size T J →
  (∀ pre x A,J pre A→X pre x A→YieldAt Fence.wide (n-1) P l (encs x) A fun e C=>
   (e=.returned (.bool true)∧J (pre ++ [x]) C∧Kept (fun b=>Sb b∨b=l∨b+1=l) A C)∨(e=.returned (.bool false)∧Jx (pre ++ [x]) C)) →
  J [] W →
  CallsIn Fence.wide n P g (#[.func (.yield l) #[] #[]] ++ lb) W fun e C=>(∃ v,e=.returned v)∧((∃ s,S s C∧J s C)∨∃ s,Jx s C)

theorem j6 {α:Type} {P:Program} {n:Nat} {g:Operand} {ps:Array Tmp} {assign body:Code} {Q:Exit→Act→World→Prop} {a:Act} {w:World} (h1:1≤n) {gf:Nat} {lb:Array Value}
  (hg:a.eval g=.func (.func gf) #[] lb) (eg:∀ args w,(callFunc gf args).run P w=.ok (.enter gf args) w)
  {y:α→Array Value} {X:List α→α→World→Prop} {Sb T:Nat→Prop} {S:List α→World→Prop} (L:Bq (n-1) P gf lb y X Sb T S w) (af:∀ x,(y x).size=ps.size) (hSb:∀ b,Sb b→b<w.heap.size) (hT:∀ b,T b→b<w.heap.size)
  (hX:∀ m x A l o o',X m x A→A.heap[l]? = some o→o.isCells=false→X m x (A.putObj l o'))
  (I:List α→World→Prop) (Ix:Code→List α→World→Prop) (hI:LowT w.heap.size T I) (M:∀ c,mr w.heap.size (Ix c)) (hS:mr w.heap.size S) (h0:I [] w) (a₁:α→Act)
  (q:∀ (l:Nat) (x:α) (W:World) (K:Act→World→Prop),K (a₁ x) W→assign.wpIn (Fence.wide.inRound l) (n-1-1) P (Exit.then K (fun _ _ _=>False)) { tmps:=(ps.zip (y x)).foldl (fun t (p,v)=>t.setIfInBounds p v) a.tmps,defers:=[] } W)
  (hbody:∀ (l:Nat) (m:List α) (x:α) (W:World),I m W→X m x W→body.wpIn (Fence.wide.inRound l) (n-1-1) P (yL Sb I Ix (m ++ [x]) W) (a₁ x) W)
  (hdone:∀ (D:Nat) (s:List α) (W:World),w.heap.size≤D→S s W→I s W→W.heap[D]? = some (.deferred (some []))→Q .normal { a with defers:={ target:=.collected D,args:=#[] } :: a.defers } W)
  (hstop:∀ (D:Nat) (c:Code) (s:List α) (W:World),w.heap.size≤D→Ix c s W→W.heap[D]? = some (.deferred (some []))→c.wpIn Fence.wide n P Q { a with defers:={ target:=.collected D,args:=#[] } :: a.defers } W) :
  (Code.rangeFunc g ps assign body).wpIn Fence.wide n P Q a w:=by
 refine wpIn_rangeFunc fun fn ab=>?_
 obtain ⟨f,d⟩:∃ f:LoopState→Option Code→Loop,f=fun st pe=>{ state:=st,pending:=pe,fn,tmps:=a.tmps,params:=ps,assign,body,defers:=w.heap.size }:=⟨_,rfl⟩
 obtain ⟨W1,B⟩:∃ W1,W1=(w.alloc (.deferred (some []))).alloc (.loop (f .ready none)):=⟨_,rfl⟩
 have O:W1.heap.size=w.heap.size+2:=by rw [B];simp
 have N:Kept ae w W1:=by rw [B];exact ((ah _ w).alloc _).alloc _
 have aa:Books w.heap.size (f .ready none) W1:=by
  rw [B];refine ⟨?_,(Below.heap_alloc _ _ _ (by simp)).trans (World.alloc_heap_new w _)⟩;have:=World.alloc_heap_new (w.alloc (.deferred (some []))) (.loop (f .ready none))
  rwa [World.size_alloc] at this
 refine ⟨w.heap.size+1,[{ target:=.collected w.heap.size,args:=#[] }],W1,{ target:=.fn (.func gf) lb,args:=#[.func (.yield (w.heap.size+1)) #[] #[]] },W1,gf,#[.func (.yield (w.heap.size+1)) #[] #[]] ++ lb,W1,?_,?_,fun _ _=>trivial,?_,fun _=>h1,?_⟩
 ·rw [B,d];exact run_enterLoop_outer _ _ _ _ _
 ·simp only [resolve,hg];simp [go_sem]
 ·simp [invoke,go_sem,eg]
 ·have z:∀ (j:Option Code) (A:World),Books w.heap.size (f .busy none) A→∃ C,(Instr.endRound (w.heap.size+1) j).run P A=.ok (.bool j.isNone) C∧Books w.heap.size (f (if j.isNone then .ready else .done) j) C∧Below w.heap.size A C∧Kept (fun b=>b=w.heap.size+1) A C∧∃ o',C=A.putObj (w.heap.size+1) o':=fun j A hb=>by
   refine ⟨_,run_endRound (P:=P) j hb.1,?_,gQ _ (by omega),dC _ _ _,_,rfl⟩;have:=hb.put { f .busy none with state:=if j.isNone then .ready else .done,pending:=j };rw [d] at this ⊢;exact this
  have G:∀ {β:Type} {J:β→World→Prop} {r:Loop},LowT w.heap.size T J→LowT W1.heap.size T (fun s A=>J s A∧Books w.heap.size r A):=fun hJ s A C h k=>by
   rw [O] at k;refine ⟨hJ s A C h.1 (k.mono (fun x _ e=>?_)),?_⟩
   ·rcases e with e | e
    ·exact .inl e
    ·exact .inr (by omega)
   ·have hl:=h.2.lt;refine ⟨(k.block _ (by omega) ?_).trans h.2.1,(k.block _ (by omega) ?_).trans h.2.2⟩
    all_goals
     rintro (e | e)
     ·have:=hT _ e;omega
     ·omega
  refine (L (w.heap.size+1) (fun s A=>I s A∧Books w.heap.size (f .ready none) A) (fun s A=>∃ c,Ix c s A∧Books w.heap.size (f .done (some c)) A) W1 N rfl O (G hI) ?_ ⟨hI.below h0 (fG N (leR _)),aa⟩).mono ?_
  ·rintro m x A ⟨hi,hb⟩ hx;have hy:=run_yield (P:=P) (args:=y x) hb.1 (by rw [d];exact af x);rw [d] at hy;refine ⟨fn,_,assign,body,hy,roundIn_of_wpIn ab (q _ x A _ ⟨_,run_beginRound hb.1 (by rw [d]),?_⟩)⟩;have Y:=hb.put { f .ready none with state:=.busy };have Z:=hX m x A _ _ (.loop { f .ready none with state:=.busy }) hx hb.1 rfl;have U:=hI.below hi (gQ (l:=w.heap.size+1) (.loop { f .ready none with state:=.busy }) (by omega));have ac:=dC A (w.heap.size+1) (.loop { f .ready none with state:=.busy })
   have H:∀ C,Kept Sb (A.putObj (w.heap.size+1) (.loop { f .ready none with state:=.busy })) C→Books w.heap.size (f .busy none) C:=fun C k=>by
    have:=Y.kept k hSb;rw [d] at this ⊢;exact this
   refine wpIn_mono (hbody _ m x _ U Z) ?_;generalize A.putObj (w.heap.size+1) (.loop { f .ready none with state:=.busy })=A2 at *;have F:∀ (c:Code) (C:World),Kept Sb A2 C→Ix c (m ++ [x]) C→∃ v C',(Instr.endRound (w.heap.size+1) (some c)).run P C=.ok v C'∧((Ending.returned v=.returned (.bool true)∧(I (m ++ [x]) C'∧Books w.heap.size (f .ready none) C')∧Kept (fun b=>Sb b∨b=w.heap.size+1∨b+1=w.heap.size+1) A C')∨(Ending.returned v=.returned (.bool false)∧∃ c,Ix c (m ++ [x]) C'∧Books w.heap.size (f .done (some c)) C')):=fun c C k hc=>by
    obtain ⟨C',hr,E,_,_,o',rfl⟩:=z (some c) C (H C k);exact ⟨_,_,hr,.inr ⟨rfl,c,M c _ _ _ _ o' hc (by omega) (H C k).1 rfl,E⟩⟩
   rintro e a3 C hp;cases e with
   | normal=>
    obtain ⟨k,ad⟩:=hp;obtain ⟨C',hr,E,ag,V,_⟩:=z none C (H C k);exact ⟨_,_,hr,.inl ⟨rfl,⟨hI.below ad ag,E⟩,((ac.mono (fun _ _ e=>.inr (.inl e))).next k (fun _ _ e=>.inl e)).next V (fun _ _ e=>.inr (.inl e))⟩⟩
   | ret=>exact F _ C hp.1 hp.2
   | exit i=>exact F _ C hp.1 hp.2
   | goto t=>exact F _ C hp.1 hp.2
   | panic c=>exact hp.elim
   | outgrown=>exact hp.elim
  ·rintro e C ⟨⟨v,rfl⟩,(⟨s,R,hi,hb⟩ | ⟨s,c,hi,hb⟩)⟩
   ·refine ⟨_,_,run_endLoop (P:=P) hb.1 (by rw [d];simp),?_⟩;rw [d] at hb ⊢;exact hdone _ s _ (leR _) (hS _ _ _ _ _ R (by omega) hb.1 rfl) (hI.below hi (gQ _ (by omega))) ((World.putObj_heap_other (by omega)).trans hb.2)
   ·refine ⟨_,_,run_endLoop (P:=P) hb.1 (by rw [d];simp),?_⟩;rw [d] at hb ⊢;exact hstop _ c s _ (leR _) (M c _ _ _ _ _ hi (by omega) hb.1 rfl) ((World.putObj_heap_other (by omega)).trans hb.2)

open Go.Shelf

def uG:Go.Shelf.Ren:=⟨fun | 129=>132 | n=>n,fun | 53=>23 | 3=>3 | 4=>4 | 46=>68 | 5=>5 | 9=>9 | n=>n,fun n=>n⟩

theorem zG:Lays.n129 Tryz.prog uG:={
 mixed:=by kernel_rfl,
 f129:=Tryz.func132.trans (congrArg some (by kernel_rfl)),
 t3:=Tryz.underlying3,
 a3:=Tryz.isAgg3,
 z3:=Tryz.sizeOf3,
 v3:=Tryz.zeroValue3,
 t4:=Tryz.underlying4,
 a4:=Tryz.isAgg4,
 z4:=Tryz.sizeOf4,
 v4:=Tryz.zeroValue4,
 t5:=Tryz.underlying5,
 a5:=Tryz.isAgg5,
 z5:=Tryz.sizeOf5,
 v5:=Tryz.zeroValue5,
 t9:=Tryz.underlying9,
 a9:=Tryz.isAgg9,
 z9:=Tryz.sizeOf9,
 v9:=Tryz.zeroValue9,
 t46:=Tryz.underlying68,
 a46:=Tryz.isAgg68,
 z46:=Tryz.sizeOf68,
 v46:=Tryz.zeroValue68,
 t53:=Tryz.underlying23,
 a53:=Tryz.isAgg23,
 z53:=Tryz.sizeOf23,
 v53:=Tryz.zeroValue23 }

theorem pE (v:Value) (zs:List Nat) (w:World) (h:Row .u64 w v zs) :
  Calls Tryz.prog 131 #[v] w fun r w'=>∃ m v',r=.returned v'∧m≤zs.length∧Row .u64 w v' (zs.take m)∧(∀ i,m≤i→zs.getD i 0=0)∧(m=0∨zs.getD (m-1) 0≠0)∧v'.ownBlock=v.ownBlock∧(∃ ao n cap,v=.slice ao n cap∧v'=.slice ao m cap)∧w'=w:=by
 have hcut:=fun ao n cap (e:v=.slice ao n cap) m (hm:m≤zs.length)=>(show Row .u64 w (.slice ao n cap) zs from e ▸ h).cut hm
 obtain ⟨ao,n,cap,rfl,hN,h1,h2,h3,h4⟩:=h.open;have HC:Hid (∀ m,m≤n→Row .u64 w (.slice ao m cap) (zs.take m)):=fun m hm=>hcut ao n cap rfl m (by have:=hN.out;omega)
 have HL:Hid (∀ i,n≤i→zs.getD i 0=0):=fun i hi=>by have:=hN.out;rw [List.getD_eq_getElem?_getD,List.getElem?_eq_none (by omega)];rfl
 clear hcut h h3;go_enter Tryz.func131,Tryz.ntmps131;go_wp2_with fail;go_loop [0] (fun a=>∃ m:Nat,m≤n∧a=.slice ao m cap∧Hid (∀ i,m≤i→zs.getD i 0=0)) (fun a=>nZ a)
 case atStart=>exact ⟨n,leR _,rfl,HL⟩
 case round=>
  obtain ⟨m,hm,rfl,hz⟩:=hrel;cases m with
  | zero=>
   clear h4;go_wp2;go_ret;exact ⟨0,_,rfl,Nat.zero_le _,HC.out 0 (Nat.zero_le _),hz.out,.inl rfl,jn ao 0 n cap,⟨ao,n,cap,⟨rfl,rfl,rfl⟩,rfl⟩,rfl⟩
  | succ j=>
   obtain ⟨b,off,rfl,hc⟩:=h4 j (by omega);obtain ⟨z,c⟩:∃ z,z=zs.getD j 0:=⟨_,rfl⟩
   rw [← c] at hc;have HZ:Hid (z=zs.getD j 0):=c;clear c h4;by_cases h0:z=0
   ·have f:((z:Int) == 0)=true:=by simp [h0]
    subst h0;go_wp2;go_round
    case rel=>exact ⟨j,by omega,rfl,fun i hi=>by
     by_cases e:i=j
     ·subst e;exact HZ.out.symm
     ·exact hz.out i (by omega)⟩
    case measure=>simp [nZ]
   ·have d:Hid (zs.getD (j+1-1) 0≠0):=by
     unfold Hid;rw [Nat.add_sub_cancel,← HZ.out];exact h0
    have f:((z:Int) == 0)=false:=by simp;omega
    have g:¬ ((z:Int)=0):=by omega
    go_wp2;go_ret;exact ⟨j+1,_,rfl,by have:=hN.out;omega,HC.out _ hm,hz.out,.inr d.out,jn _ _ _ _,⟨_,_,_,⟨rfl,rfl,rfl⟩,rfl⟩,rfl⟩

theorem iS {ds:List Nat} (hd:Digs ds) (ht:ep ds):ds.length=aj (val ds):=by
 have h1:=(em (by omega) hd ht (aj (val ds))).2 ((ap _ _).1 (leR _));have h2:=(ap (val ds) ds.length).2 ((em (by omega) hd ht _).1 (leR _));omega

theorem yJ (v:Value) (xs:List Nat) (w:World) (h:Row .u64 w v xs) (hd:Digs xs) :
  Calls Tryz.prog 131 #[v] w fun r w'=>∃ v' ys,r=.returned v'∧Row .u64 w v' ys∧Digs ys∧ep ys∧val ys=val xs∧Hid (ys.length=aj (val xs))∧ys.length≤xs.length∧v'.ownBlock=v.ownBlock∧w'=w:=by
 refine (pE v xs w h).mono ?_;rintro e w' ⟨m,v',rfl,hm,hr,hz,ht,ho,_,rfl⟩;have e1:=dj (B:=18446744073709551616) hm hz;have t1:=dm hm ht;refine ⟨v',xs.take m,rfl,hr,hd.take m,t1,e1,?_,by rw [List.length_take];omega,ho,rfl⟩;have:=iS (hd.take m) t1;rw [e1] at this;exact this

theorem pK (n:Int) (w:World):Calls Tryz.prog 150 #[.int .i64 n] w fun r w'=>r=.returned (.int .i64 (if 300<n then 2 else if n<0 then 1 else 0))∧w'=w:=by
 by_cases h1:300<n
 ·rw [if_pos h1];go_enter Tryz.func150,Tryz.ntmps150;go_wp2;go_ret;exact ⟨rfl,rfl⟩
 ·rw [if_neg h1];by_cases h2:n<0
  ·rw [if_pos h2];go_enter Tryz.func150,Tryz.ntmps150;go_wp2;go_ret;exact ⟨rfl,rfl⟩
  ·rw [if_neg h2];go_enter Tryz.func150,Tryz.ntmps150;go_wp2;go_ret;exact ⟨rfl,rfl⟩

theorem gh (x:Nat) (h:x<18446744073709551616):Lib.bitLen x=au x:=by
 by_cases h0:x=0
 ·subst h0;rfl
 ·obtain ⟨a,b,c⟩:=Lib.bitLenAux_bounds 64 x h h0;unfold Lib.bitLen;have h1:=(aA x _).2 c;have h2:¬ au x≤Lib.bitLenAux 64 x-1:=fun k=>by have:=(aA x _).1 k;omega
  omega

theorem tA {ys:List Nat} (hd:Digs ys) (ht:ep ys) (hn:0<ys.length):au (val ys)=64*(ys.length-1)+au (ys.getD (ys.length-1) 0):=by
 have e:=aw 18446744073709551616 ys (ys.length-1) (by omega);have a:ys.drop (ys.length-1)=[ys.getD (ys.length-1) 0]:=by
  rw [List.drop_eq_getElem_cons (by omega),List.drop_eq_nil_of_le (by omega),List.getD_eq_getElem?_getD,List.getElem?_eq_getElem (by omega)];rfl
 rw [a] at e;have b:val (ys.take (ys.length-1))<18446744073709551616^(ys.length-1):=by
  have:=aq (by omega) (hd.take (ys.length-1))
  rwa [List.length_take,Nat.min_eq_left (by omega)] at this
 have d:ys.getD (ys.length-1) 0≠0:=by
  rcases ht with h | h
  ·omega
  ·exact h
 simp only [val,Nat.mul_zero,Nat.add_zero] at e;generalize ys.getD (ys.length-1) 0=y at *;generalize ys.length-1=k at *;generalize val (ys.take k)=L at *;generalize val ys=V at *;have hB:(18446744073709551616:Nat)^k=2^(64*k):=by rw [Nat.pow_mul]
 rw [hB] at e b;generalize hM:au y=M;have h1:y<2^M:=(aA _ _).1 (by omega);have h2:2^(M-1)≤y:=by
  have:¬ au y≤M-1:=by
   have:0<au y:=by
    rcases Nat.eq_zero_or_pos (au y) with z | z
    ·have:=(aA y 0).1 (by omega);omega
    ·exact z
   omega
  have:=mt (aA y (M-1)).2 this;omega
 have f:1≤M:=by
  rcases Nat.eq_zero_or_pos M with z | z
  ·rw [z] at h1;omega
  ·exact z
 have u1:V<2^(64*k+M):=by
  rw [Nat.pow_add];have:2^(64*k)*(y+1)≤2^(64*k)*2^M:=Nat.mul_le_mul_left _ h1;rw [Nat.mul_add,Nat.mul_one] at this;omega
 have u2:2^(64*k+(M-1))≤V:=by
  rw [Nat.pow_add];have:2^(64*k)*2^(M-1)≤2^(64*k)*y:=Nat.mul_le_mul_left _ h2;omega
 have h3:=(aA V _).2 u1;have h4:¬ au V≤64*k+(M-1):=fun c=>by have:=(aA V _).1 c;omega
 omega

theorem dy (v:Value) (xs:List Nat) (w:World) (h:Row .u64 w v xs) (hd:Digs xs) (hl:xs.length≤100000000) :
  Calls Tryz.prog 91 #[v] w fun r w'=>r=.returned (.int .i64 (au (val xs):Nat))∧w'=w:=by
 have hN:=yJ v xs w h hd;obtain ⟨R,hR⟩:∃ R,R=au (val xs):=⟨_,rfl⟩
 rw [← hR];have HR:Hid (R=au (val xs)):=hR;clear hR;go_enter Tryz.func91,Tryz.ntmps91;go_wp2_with fail;refine hN.mono ?_;rintro e w' ⟨v',ys,rfl,hr,c,d,hv,_,k,_,rfl⟩;rw [← hv] at HR;obtain ⟨ao,n,cap,rfl,hL,h1,h2,h3,h4⟩:=hr.open;cases n with
 | zero=>
  obtain rfl:ys=[]:=List.eq_nil_of_length_eq_zero hL.out;clear h4 hL;go_wp2;go_ret;exact ⟨by rw [HR.out];rfl,rfl⟩
 | succ j=>
  have hb:=tA c d (by have:=hL.out;omega);have hj:ys.length-1=j:=by have:=hL.out;omega
  rw [hj] at hb;have i:j<100000000:=by have:=hL.out;omega
  obtain ⟨b,off,rfl,hc⟩:=h4 j (by omega);have hy:ys.getD j 0<18446744073709551616:=c.getD (by omega) j;rw [hb] at HR;generalize ys.getD j 0=y at *;have f:au y≤64:=(aA y 64).2 hy;have a:=Any.bits_Len64 zG (y:Int) w' (by omega) (by omega);rw [show ((y:Int).toNat)=y from rfl,gh y hy] at a;clear h4 hb hv hr c d hN h hd;have l:wrap64 ((j:Int)+1-1)=j:=by simp [wrap64];omega
  have m:wrap64 (64*(j:Int))=64*j:=by simp [wrap64];omega
  have g:wrap64 (64*(j:Int)+(au y:Nat))=64*j+(au y:Nat):=by simp [wrap64];omega
  generalize au y=M at *;go_wp2_with fail;refine a.mono ?_;rintro e w' ⟨rfl,rfl⟩;go_wp2;go_ret;exact ⟨by rw [HR.out];simp,rfl⟩

theorem fu (x m:Nat) (hx:x<18446744073709551616):ag x (m+1)=x :: List.replicate m 0:=by
 refine (aT (by omega) (B:=18446744073709551616) (l:=x :: List.replicate m 0) (V:=x) (n:=m+1) ?_ (by simp) ?_).symm
 ·intro d hd;rcases List.mem_cons.1 hd with rfl | hd
  ·exact hx
  ·rw [List.mem_replicate] at hd;omega
 ·have hz:val (List.replicate m 0)=0:=cH _ (fun d hd=>(List.mem_replicate.1 hd).2);rw [al (Nat.lt_of_lt_of_le hx (by rw [Nat.pow_succ];exact Nat.le_mul_of_pos_left _ (Nat.pow_pos (by omega))))];simp only [val,hz];omega

def se:Go.Shelf.Ren:=⟨fun | 122=>158 | 215=>203 | n=>n,fun | 3=>3 | 4=>4 | n=>n,fun n=>n⟩

theorem Ck:Lays.n122 Tryz.prog se:={
 mixed:=by kernel_rfl,
 f122:=Tryz.func158.trans (congrArg some (by kernel_rfl)),
 f215:=Tryz.func203.trans (congrArg some (by kernel_rfl)),
 t3:=Tryz.underlying3,
 a3:=Tryz.isAgg3,
 z3:=Tryz.sizeOf3,
 v3:=Tryz.zeroValue3,
 t4:=Tryz.underlying4,
 a4:=Tryz.isAgg4,
 z4:=Tryz.sizeOf4,
 v4:=Tryz.zeroValue4 }

theorem kQ (x:Nat) (hx:x<18446744073709551616) (n:Int) (w:World) :
  Calls Tryz.prog 79 #[.int .u64 x,.int .i64 n] w fun r w'=>∃ v',r=.returned v'∧Row .u64 w' v' (ag x (cZ n))∧Kept ae w w':=by
 obtain ⟨i0,d,i,b,c⟩:=info_parts Tryz.info23;obtain ⟨m,hm⟩:∃ m,cZ n=m+1:=⟨cZ n-1,by unfold cZ;omega⟩
 have hb:m+1≤300:=by rw [← hm];unfold cZ;omega
 have hc:min (max n 1) 300=((m+1:Nat):Int):=by rw [← hm];unfold cZ;omega
 rw [hm,fu x m hx];clear hm;go_enter Tryz.func79,Tryz.ntmps79;go_wp2_with (at_make;refine wpList_make_full _ rfl _ _ 32 rfl w.heap.size 23 i0 _ 1 Tryz.underlying32 d i b _ _ _ _ (m+1) rfl rfl (by first | exact hc | rfl) (by first | exact hc | rfl) (by rw [c];omega) (by unfold maxLen;omega) (leR _) ?_;intro w1 a g;rw [aE] at a;have k1:=aC g;have j:w1.cell? ⟨w.heap.size,0,none⟩=some (.int .u64 0):=(by rw [World.ownsRow.cellAt a 0 (by omega)];rfl);have hf:=World.ownsRow.frozenAt a 0;have f:=(World.ownsRow.stored a 0 (.int .u64 (x:Nat))).1);go_ret;refine ⟨_,rfl,Row.of_own (base:=w.heap.size) (e:=23) ?_,k1.setCell _ (fun h=>by simp at h) _⟩
 simpa [List.replicate_succ] using f

theorem yW (v:Value) (xs:List Nat) (i:Int) (w:World) (h:Row .u64 w v xs) (hd:Digs xs) (hi:i≤9223372036854775807) :
  Calls Tryz.prog 133 #[v,.int .i64 i] w fun r w'=>r=.returned (.int .u64 (j8 (val xs) i:Nat))∧w'=w:=by
 obtain ⟨ao,n,cap,rfl,hL,h1,h2,h3,h4⟩:=h.open;by_cases hi0:i<0
 ·rw [show j8 (val xs) i=0 from if_pos hi0];clear h4 h hd;go_enter Tryz.func133,Tryz.ntmps133;go_wp2;go_ret;exact ⟨rfl,rfl⟩
 ·obtain ⟨j,rfl⟩:=Int.eq_ofNat_of_zero_le (show 0≤i by omega);rw [ew,← kt,aN (by omega) hd];by_cases hlt:j/64<n
  ·obtain ⟨b,off,rfl,hc⟩:=h4 (j/64) hlt;have hx:xs.getD (j/64) 0<18446744073709551616:=hd.getD (by omega) _;clear h4 h hd;generalize xs.getD (j/64) 0=x at *;have g1:(j:Int)/64<(n:Int):=by omega
   have g2:(0:Int)≤(j:Int)/64:=by omega
   have g3:((j:Int)/64).toNat=j/64:=by omega
   have hy:=Nat.div_le_self x (2^(j%64));have a:Hid (bits .and .u64 ((x:Int)/2^(j%64)) 1=((x/2^(j%64)%2:Nat):Int)):=by
    unfold Hid;have e:(x:Int)/2^(j%64)=((x/2^(j%64):Nat):Int):=by simp
    rw [e];generalize x/2^(j%64)=Y at *;rw [and_one_u64 (Y:Int) (by omega) (by omega)];omega
   clear hy;generalize x/2^(j%64)%2=R at *;go_enter Tryz.func133,Tryz.ntmps133;go_wp2;go_ret;refine ⟨?_,rfl⟩;show Ending.returned (Value.int .u64 (bits .and .u64 ((x:Int)/2^(j%64)) 1))=_
   rw [a.out]
  ·have hz:xs.getD (j/64) 0=0:=by have:=hL.out;rw [List.getD_eq_getElem?_getD,List.getElem?_eq_none (by omega)];rfl
   rw [hz,Nat.zero_div];have g1:¬ (j:Int)/64<(n:Int):=by omega
   clear h4 h hd;go_enter Tryz.func133,Tryz.ntmps133;go_wp2;go_ret;exact ⟨rfl,rfl⟩

theorem nU (v:Value) (xs:List Nat) (n:Int) (w:World) (h:Row .u64 w v xs) (hd:Digs xs) :
  Calls Tryz.prog 107 #[v,.int .i64 n] w fun r w'=>∃ v',r=.returned (.tuple #[v',.int .i64 (aP (val xs) n)])∧Row .u64 w' v' (bh (val xs) n)∧(∀ b,v'.ownBlock=some b→w.heap.size≤b)∧Kept ae w w':=by
 obtain ⟨i0,y,G,s,A⟩:=info_parts Tryz.info23;have hE:=pK n w;have hN:=yJ v xs w h hd;by_cases h1:300<n
 ·obtain ⟨e1,e2⟩:=mw (V:=val xs) h1;rw [e1,e2];rw [if_pos h1] at hE;go_enter Tryz.func107,Tryz.ntmps107;go_wp2_with fail;refine hE.mono ?_;rintro e w' ⟨rfl,rfl⟩;go_wp2;go_ret2;exact ⟨_,rfl,Row.nil _ _,(fun b hb=>by cases hb),ah _ _⟩
 ·rw [if_neg h1] at hE;by_cases h2:n<0
  ·obtain ⟨e1,e2⟩:=gJ (V:=val xs) h1 (.inl h2);rw [e1,e2];rw [if_pos h2] at hE;go_enter Tryz.func107,Tryz.ntmps107;go_wp2_with fail;refine hE.mono ?_;rintro e w' ⟨rfl,rfl⟩;go_wp2;go_ret2;exact ⟨_,rfl,Row.nil _ _,(fun b hb=>by cases hb),ah _ _⟩
  ·rw [if_neg h2] at hE;obtain ⟨m,rfl⟩:=Int.eq_ofNat_of_zero_le (show 0≤n by omega);obtain ⟨RC,g⟩:∃ RC,RC=aP (val xs) (m:Int):=⟨_,rfl⟩
   obtain ⟨RL,i⟩:∃ RL,RL=bh (val xs) (m:Int):=⟨_,rfl⟩
   rw [← g,← i];have HC:Hid (RC=aP (val xs) (m:Int)):=g;have HL:Hid (RL=bh (val xs) (m:Int)):=i;clear g i;go_enter Tryz.func107,Tryz.ntmps107;go_wp2_with fail;refine hE.mono ?_;rintro e w' ⟨rfl,rfl⟩;go_wp2_with fail;refine hN.mono ?_;rintro e w' ⟨v',ys,rfl,hr,E,I,hv,l,_,_,rfl⟩;obtain ⟨ao,q,cap,rfl,hL,g1,g2,g3,g4⟩:=hr.open;have hq:q=aj (val xs):=by rw [← hL.out];exact l.out
   by_cases h3:q≤m
   ·obtain ⟨e1,e2⟩:=i9 (V:=val xs) (n:=m) (by omega) (by omega);have H:¬ (q:Int) > (m:Int):=by omega
    rw [e1] at HC;rw [e2,dZ E hv (by rw [hL.out];exact h3)] at HL;obtain ⟨CS,a⟩:∃ CS,CS=ys.map (fun z:Nat=>Value.int .u64 (z:Int)):=⟨_,rfl⟩
    have o:CS.length=q:=by rw [a,List.length_map];exact hL.out
    have B:Hid (CS=ys.map (fun z:Nat=>Value.int .u64 (z:Int))):=a;have c:∀ u ∈ CS,u.oneCell'=true:=by
     intro u hu;rw [a] at hu;obtain ⟨z,_,rfl⟩:=List.mem_map.1 hu;rfl
    have d:∀ W,Kept ae w' W→0<CS.length→∃ ad,ao=some ad∧∀ j u,CS[j]? = some u→W.cell? (ad.add j)=some u:=by
     intro W hk hp;obtain ⟨b,off,rfl,_⟩:=g4 0 (by omega);refine ⟨_,rfl,fun j u hu=>?_⟩;have hj:j<q:=by
      have:=(List.getElem?_eq_some_iff.1 hu).1;omega
     obtain ⟨b',F,e,hc⟩:=(g4 j hj).grew hk;simp only [Option.some.injEq,Addr.mk.injEq] at e;obtain ⟨rfl,rfl,_⟩:=e;rw [a,List.getElem?_map,List.getElem?_eq_getElem (by rw [hL.out];exact hj)] at hu;rw [show (⟨b,off,none⟩:Addr).add j=⟨b,off+j,none⟩ by simp [Addr.add],hc,← hu,List.getD_eq_getElem?_getD,List.getElem?_eq_getElem (by rw [hL.out];exact hj)];rfl
    have HP:Hid (∀ W,Kept ae w' W→0<CS.length→∃ ad,ao=some ad∧∀ j u,CS[j]? = some u→W.cell? (ad.add j)=some u):=d;have HO:Hid (∀ u ∈ CS,u.oneCell'=true):=c;have x:Hid (CS.length=q):=o;clear a g4 hr hN h hE d c o hq hv e1 e2
    go_wp2_with (at_make;refine wpList_make_full _ rfl _ _ 32 rfl w'.heap.size 23 i0 _ 1 Tryz.underlying32 y G s _ _ _ _ m rfl rfl rfl rfl (by rw [A];omega) (by unfold maxLen;omega) (leR _) ?_;intro w1 k p;rw [aE] at k;have k1:=aC p;obtain ⟨w2,C,t,k2⟩:=cX (P:=Tryz.prog) 32 32 3 23 w'.heap.size 0 m m (some ⟨w'.heap.size,0,none⟩) ao q cap _ 23 CS Tryz.underlying32 (by rw [y];simp [s]) (ei k) (by rw [x.out];exact (Nat.min_eq_left h3).symm) (fun hp=>⟨rfl,HP.out _ k1 hp⟩) (by have:=x.out;simp;omega) HO.out;have D:Hid _:=t;clear t k p);go_ret2;have f:=D.out;rw [B.out,dR] at f;rw [HC.out,HL.out]
    exact ⟨_,rfl,Row.of_block f (by simp [hL.out];omega) (by unfold maxLen;omega),(fun b hb=>by simp [Value.ownBlock] at hb;omega),cG k1 k2 (leR _)⟩
   ·obtain ⟨e1,e2⟩:=gJ (V:=val xs) (n:=(m:Int)) (by omega) (.inr (by simp;omega));have H:(q:Int) > (m:Int):=by omega
    rw [e1] at HC;rw [e2] at HL;clear g4 hr hN h hE hq hv;go_wp2;go_ret2;rw [HC.out,HL.out];exact ⟨_,rfl,Row.nil _ _,(fun b hb=>by cases hb),ah _ _⟩

theorem pt (v:Value) (xs:List Nat) (n:Int) (w:World) (h:Row .u64 w v xs) (hd:Digs xs) :
  Calls Tryz.prog 107 #[v,.int .i64 n] w fun r w'=>∃ v',r=.returned (.tuple #[v',.int .i64 (aP (val xs) n)])∧Row .u64 w' v' (bh (val xs) n)∧Kept ae w w':=
 (nU v xs n w h hd).mono fun _ _ ⟨v',e,hr,_,k⟩=>⟨v',e,hr,k⟩

def KeepB (S:Nat→Prop) (W W':World):Prop:=∀ k,S k→W'.heap[k]? = W.heap[k]?

theorem KeepB.refl (S:Nat→Prop) (W:World):KeepB S W W:=fun _ _=>rfl

theorem KeepB.trans {S:Nat→Prop} {A B C:World} (h:KeepB S A B) (k:KeepB S B C):KeepB S A C:=fun i hi=>(k i hi).trans (h i hi)

theorem KeepB.put {S:Nat→Prop} {w:World} (hS:∀ k,S k→k<w.heap.size) (W:World) (l:Nat) (o o':Obj) (hl:w.heap.size≤l) (_:W.heap[l]? = some o) (_:o.isCells=false) (_:o.isWalk=false):KeepB S W (W.putObj l o'):=fun k hk=>
 World.putObj_heap_other (fun e=>by have:=hS k hk;omega)

theorem KeepB.cell {S:Nat→Prop} {W W':World} (h:KeepB S W W') {p:Addr} (hp:S p.block):W'.cell? p=W.cell? p:=World.cell?_of_block (h p.block hp)

theorem KeepB.row {S:Nat→Prop} {k:IntKind} {W W':World} {v:Value} {zs:List Nat} (h:KeepB S W W') (hs:∀ b,v.ownBlock=some b→0<zs.length→S b) (hr:Row k W v zs):Row k W' v zs:=by
 obtain ⟨ao,cap,rfl,h1,h2,h3,h4⟩:=hr;refine ⟨ao,cap,rfl,h1,h2,h3,fun i hi=>?_⟩;obtain ⟨b,off,rfl,hc⟩:=h4 i hi;exact ⟨b,off,rfl,(h.cell (p:=⟨b,off+i,none⟩) (hs b rfl (by omega))).trans hc⟩

theorem yS {W:World} {a:Addr} {v:Value} (o:Obj) (h:W.cell? a=some v):(W.alloc o).cell? a=some v:=cell_kept h (World.grownBy_alloc W o none) (fun r e=>by cases e)

theorem vI {W:World} {a:Addr} {v:Value} (o:Obj) (h:W.cell? a=some v) (hf:W.frozen? a=false):(W.alloc o).frozen? a=false:=(frozen_kept h (World.grownBy_alloc W o none) (fun r e=>by cases e)).trans hf

def Turn (B:Nat) (W W':World):Prop:=∃ row,W.grownBy W' row∧∀ r,row=some r→B≤r∧∃ o:Obj,W.heap[r]? = some o∧o.isCells=false

theorem mY {W W':World} {b:Option Nat} {base a n:Nat} {e:TypeId} {v:Value} {xs:List Value} (h:W.ownsRow base e a v n xs) (hg:W.grownBy W' b) (hr:∀ r,b=some r→∃ o:Obj,W.heap[r]? = some o∧o.isCells=false):W'.ownsRow base e a v n xs:=by
 refine ⟨h.1,?_⟩;rcases h.2 with h1 | ⟨g,cap,cur,e1,hb,hblk,h4⟩
 ·exact .inl h1
 ·refine .inr ⟨g,cap,cur,e1,hb,?_,h4⟩;rw [hg.block g (Array.getElem?_eq_some_iff.1 hblk).1 ?_]
  ·exact hblk
  ·intro e;obtain ⟨o,ho,hc⟩:=hr g e.symm;rw [hblk] at ho;cases ho
   cases hc

theorem oN {W W':World} {a:Option Nat} {B:Nat} {t:TypeId} {v:Value} (h:Boxed W B t v) (hg:W.grownBy W' a) (hr:∀ r,a=some r→∃ o:Obj,W.heap[r]? = some o∧o.isCells=false):Boxed W' B t v:=h.kept hg (fun e=>by
 obtain ⟨o,ho,hc⟩:=hr B e.symm;have hb:W.heap[B]? = some _:=h;rw [hb] at ho;cases ho
 cases hc)

theorem Turn.cells {B:Nat} {W W':World} (t:Turn B W W') {b:Nat} {c:Array Value} {ty:TypeId} {f:Nat × Nat} (h:W.heap[b]? = some (.cells c ty f)):W'.heap[b]? = some (.cells c ty f):=by
 obtain ⟨a,hg,hr⟩:=t;rw [hg.block b (Array.getElem?_eq_some_iff.1 h).1 ?_]
 ·exact h
 ·intro e;obtain ⟨_,o,ho,hc⟩:=hr b e.symm;rw [h] at ho;cases ho
  cases hc

theorem Turn.kept {B:Nat} {S:Nat→Prop} {w W W':World} (t:Turn B W W') (k:Kept S w W) (hB:w.heap.size≤B):Kept S w W':=by
 obtain ⟨a,hg,hr⟩:=t;exact k.grown hg (fun b e hb=>by have:=(hr b e).1;omega)

theorem Turn.cell {B:Nat} {W W':World} (t:Turn B W W') {a:Addr} {v:Value} (h:W.cell? a=some v):W'.cell? a=some v:=by
 obtain ⟨b,hg,hr⟩:=t;exact cell_kept h hg (fun r e=>(hr r e).2)

theorem Turn.row {B:Nat} {W W':World} (t:Turn B W W') {k:IntKind} {v:Value} {zs:List Nat} (h:Row k W v zs):Row k W' v zs:=by
 obtain ⟨ao,cap,rfl,h1,h2,h3,h4⟩:=h;refine ⟨ao,cap,rfl,h1,h2,h3,fun i hi=>?_⟩;obtain ⟨b,off,rfl,hc⟩:=h4 i hi;exact ⟨b,off,rfl,t.cell hc⟩

theorem uy {B D:Nat} {W:World} {o:Obj} (hD:B≤D) (hK:W.heap[D]? = some o) (ho:o.isCells=false) (o':Obj):Turn B W (W.putObj D o'):=
 ⟨some D,grownBy_putObj' W D o',fun r e=>by cases e;exact ⟨hD,o,hK,ho⟩⟩

theorem kX {β:Type} {B:Nat} {I:β→World→Prop} (h:∀ s W W',I s W→Turn B W W'→I s W'):OwnFrom B I:=fun s W W' a hs hg hr=>h s W W' hs ⟨a,hg,hr⟩

theorem jF {B:Nat} {S:Nat→Prop} {W W':World} (k:Kept S W W') (hS:∀ b,S b→B≤b→∃ c ty f,W.heap[b]? = some (.cells c ty f)):KeepsFrom B W W':=
 ⟨k.size,fun b o hb hk ho=>by
  rw [← hk];refine k.block b (Array.getElem?_eq_some_iff.1 hk).1 (fun hs=>?_);obtain ⟨c,ty,f,h⟩:=hS b hs hb;rw [h] at hk;cases hk
  cases ho⟩

end Go.Proofs.YtcemlfokmjjiaaaGreatDoor
