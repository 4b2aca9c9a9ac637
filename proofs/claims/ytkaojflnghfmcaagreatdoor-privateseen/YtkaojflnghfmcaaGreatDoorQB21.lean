/- Put together of: Lsc1 Lsc2 Lsc3 Seq3 Lays NatC NatD NatE. -/
import Derived.Test.YtkaojflnghfmcaaGreatDoorQB20
import Derived.Shelf.Strings.BuilderK
import Derived.Shelf.Strings.Repeat
import Derived.Shelf.Small.Wraps

namespace Go.Proofs.YtkaojflnghfmcaaGreatDoor
set_option maxRecDepth 100000
set_option maxHeartbeats 4000000
open Go.RowKit

def LscB (w:World) (b B:Nat) (v:Value) (ps:List Nat) (k:Nat):Prop:=
 w.heap[b]? = some (.cells #[v,.int .i64 (k:Nat)] 84 (0,0))∧Row .u8 w v ps∧k≤ps.length∧ps.length≤1000000∧b<B∧(ps≠[]→∀ x,v.ownBlock=some x→x<B∧x≠b)

def Lsc (w:World) (p:Option Addr) (B:Nat) (bs:List Nat):Prop:=(p=none∧bs=[])∨∃ b v ps k,p=some ⟨b,0,none⟩∧bs=ps.drop k∧LscB w b B v ps k

def ofP (p:Option Addr) (x:Nat):Prop:=p.map Addr.block=some x

theorem LscB.lt {w:World} {b B k:Nat} {v:Value} {ps:List Nat} (h:LscB w b B v ps k):b<w.heap.size:=lt_of_block h.1

theorem LscB.cells {w:World} {b B k:Nat} {v:Value} {ps:List Nat} (h:LscB w b B v ps k):w.cell? ⟨b,0,none⟩=some v∧w.cell? ⟨b,1,none⟩=some (.int .i64 (k:Nat)):=
 ⟨(cell_of_row w b 0 _ _ _ h.1).trans rfl,(cell_of_row w b 1 _ _ _ h.1).trans rfl⟩

theorem LscB.free {w:World} {b B k:Nat} {v:Value} {ps:List Nat} (h:LscB w b B v ps k):w.frozen? ⟨b,1,none⟩=false:=by simp [World.frozen?,h.1]

theorem LscB.kept {S:Nat→Prop} {w w':World} {b B k:Nat} {v:Value} {ps:List Nat} (h:LscB w b B v ps k) (kk:Kept S w w') (hS:∀ x,x<B→¬ S x):LscB w' b B v ps k:=
 ⟨(kk.block b h.lt (hS b h.2.2.2.2.1)).trans h.1,h.2.1.kept' kk (fun e x hx=>hS x (h.2.2.2.2.2 e x hx).1),h.2.2⟩

theorem LscB.put {w:World} {b B k:Nat} {v:Value} {ps:List Nat} (h:LscB w b B v ps k) (m:Nat) (hm:m≤ps.length):LscB (w.setCell ⟨b,1,none⟩ (.int .i64 (m:Nat))) b B v ps m:=by
 refine ⟨?_,h.2.1.kept' ((ag (fun x=>x=b) w).setCell ⟨b,1,none⟩ (fun _=>rfl) _) (fun e x hx=>(h.2.2.2.2.2 e x hx).2),hm,h.2.2.2⟩;have:=heap_setCell_same w b 1 _ 84 (.int .i64 (m:Nat)) h.1;rw [this];rfl

theorem LscB.lsc {w:World} {b B k:Nat} {v:Value} {ps:List Nat} (h:LscB w b B v ps k):Lsc w (some ⟨b,0,none⟩) B (ps.drop k):=.inr ⟨b,v,ps,k,rfl,rfl,h⟩

theorem Lsc.len {w:World} {p:Option Addr} {B:Nat} {bs:List Nat} (h:Lsc w p B bs):bs.length≤1000000:=by
 rcases h with ⟨_,rfl⟩ | ⟨b,v,ps,k,_,rfl,_,_,_,h,_⟩
 ·simp
 ·rw [List.length_drop];omega

theorem Lsc.kept {S:Nat→Prop} {w w':World} {p:Option Addr} {B:Nat} {bs:List Nat} (h:Lsc w p B bs) (k:Kept S w w') (hS:∀ x,x<B→¬ S x):Lsc w' p B bs:=by
 rcases h with h | ⟨b,v,ps,k',e,e2,h⟩
 ·exact .inl h
 ·exact .inr ⟨b,v,ps,k',e,e2,h.kept k hS⟩

theorem Lsc.grew {w w':World} {p:Option Addr} {B:Nat} {bs:List Nat} (h:Lsc w p B bs) (k:Kept ae w w'):Lsc w' p B bs:=h.kept k fun _ _ f=>f

theorem Lsc.inP {w:World} {p:Option Addr} {B x:Nat} {bs:List Nat} (h:Lsc w p B bs) (hx:ofP p x):x<B∧x<w.heap.size:=by
 rcases h with ⟨rfl,_⟩ | ⟨b,v,ps,k,rfl,_,h⟩
 ·cases hx
 ·cases hx
  exact ⟨h.2.2.2.2.1,h.lt⟩

theorem Lsc.put {w:World} {p:Option Addr} {B l:Nat} {bs:List Nat} {o:Obj} (o':Obj) (h:Lsc w p B bs) (hl:w.heap[l]? = some o) (ho:o.isCells=false):Lsc (w.putObj l o') p B bs:=by
 rcases h with h | ⟨b,v,ps,k,e,e2,h1,h2,h3⟩
 ·exact .inl h
 ·refine .inr ⟨b,v,ps,k,e,e2,(World.putObj_heap_other fun e=>?_).trans h1,mU o' h2 hl ho,h3⟩;subst e;rw [hl] at h1;cases h1
  cases ho

theorem zK (v:Value) (bs:List Nat) (w:World) (h:Row .u8 w v bs) (hl:bs.length≤1000000) :
  Calls Tryz.prog 40 #[v] w fun e w'=>∃ u,e=.returned u∧OwnB w' w.heap.size u bs∧Kept ae w w':=by
 obtain ⟨i0,l,r,m,s⟩:=info_parts Tryz.info8s;have HX:=aa h;obtain ⟨ao,na,ca,rfl,b,t,x,_⟩:=h.open;obtain ⟨CS,a⟩:∃ CS,CS=bs.map fun z:Nat=>Value.int .u8 (z:Int):=⟨_,rfl⟩
 have HC:=aa a;have f:Hid (CS.length=na):=by unfold Hid;rw [a,List.length_map];exact b.out
 have c:Hid (∀ W,Kept ae w W→0<CS.length→∃ ad,ao=some ad∧∀ j u,CS[j]? = some u→W.cell? (ad.add j)=some u):=by rw [a];exact fun W k hp=>yv HX.out k hp
 have p:Hid (∀ u ∈ CS,u.oneCell'=true):=by rw [a];exact Ch _ _
 have y:na≤1000000:=by have:=b.out;omega
 clear h a;go_enter Tryz.func40,Tryz.ntmps40;go_wp2_with (at_make;refine wpList_make_full _ rfl _ _ 27 rfl w.heap.size 5 i0 _ 1 Tryz.underlying27 l r m _ _ _ _ na rfl rfl rfl rfl (by rw [s];omega) (by unfold maxLen;omega) (leR _) ?_;intro w1 d i;rw [aM] at d;have k1:=aK i;obtain ⟨w2,q,g,k2⟩:=bD (P:=Tryz.prog) 27 27 3 5 w.heap.size 0 na na (some ⟨w.heap.size,0,none⟩) ao na ca _ 5 CS Tryz.underlying27 (by rw [l];simp [m]) (dG d) (by rw [f.out];exact (Nat.min_self _).symm) (fun hp=>⟨rfl,c.out _ k1 hp⟩) (by have:=f.out;simp;omega) p.out;have n:Hid _:=g;have o:=aa (cH k1 k2 (leR _));clear g d i k1 k2)
 have hA:=n.out;rw [HC.out,dv,b.out,Nat.sub_self,List.replicate_zero,List.append_nil] at hA;go_ret;exact ⟨_,rfl,OwnB.of (bg hA b.out (by unfold maxLen;omega) (leR _)),o.out⟩

theorem yW (v:Value) (bs:List Nat) (w:World) (h:Row .u8 w v bs) (hl:bs.length≤1000000) :
  Calls Tryz.prog 14 #[v] w fun e w'=>∃ b,e=.returned (.pointer (some ⟨b,0,none⟩))∧w.heap.size≤b∧Lsc w' (some ⟨b,0,none⟩) w'.heap.size bs∧Kept ae w w':=by
 have J:=zK v bs w h hl;clear h;go_enter Tryz.func14,Tryz.ntmps14;go_wp2_with fail;refine J.mono ?_;rintro e w1 ⟨u,rfl,hO,k1⟩;have hs:=k1.size;have k2:Kept ae w1 (w1.alloc (.cells #[u,.int .i64 0] 84)):=(ag _ _).alloc _;have HR:Hid (LscB (w1.alloc (.cells #[u,.int .i64 0] 84)) w1.heap.size (w1.alloc (.cells #[u,.int .i64 0] 84)).heap.size u bs 0):=by
  refine ⟨World.alloc_heap_new w1 _,hO.row.grew k2,Nat.zero_le _,hl,by simp,fun _ x hx=>?_⟩;have:=(hO.lt x hx).2;rw [World.size_alloc];omega
 have HK:=aa (k1.alloc (.cells #[u,.int .i64 0] 84));obtain ⟨ao,a,rfl⟩:=aZ hO;clear J k1 k2 hO;go_wp2_with fail;go_ret;exact ⟨_,rfl,hs,HR.out.lsc,HK.out⟩

theorem vE (p:Option Addr) (B:Nat) (bs:List Nat) (w:World) (h:Lsc w p B bs) :
  Calls Tryz.prog 18 #[.pointer p] w fun e w'=>e=.returned (.int .i64 (bs.length:Nat))∧Kept ae w w':=by
 rcases h with ⟨rfl,rfl⟩ | ⟨b,v,ps,k,rfl,rfl,h⟩
 ·go_enter Tryz.func18,Tryz.ntmps18;go_wp2_with fail;go_ret;exact ⟨rfl,ag _ _⟩
 ·obtain ⟨c0,c1⟩:=h.cells;obtain ⟨ao,L,f,rfl,hL,i,j,c,a⟩:=h.2.1.open;have hk:k≤L:=by rw [← hL.out];exact h.2.2.1
  have g:L≤1000000:=by rw [← hL.out];exact h.2.2.2.1
  have e1:(ps.drop k).length=L-k:=by rw [List.length_drop,hL.out]
  rw [e1];obtain ⟨d,hd⟩:∃ d,d=L-k:=⟨_,rfl⟩
  rw [← hd];have g1:(L:Int)-(k:Int)=(d:Int):=by omega
  clear hd e1 a h c;go_enter Tryz.func18,Tryz.ntmps18;go_wp2_with fail;go_quiet (fail);go_wp2_with fail;go_ret;exact ⟨rfl,(ag _ _).drewN _⟩

theorem vF (B n:Nat) (w:World) :
  Calls Tryz.prog 229 #[.pointer none,.int .i64 (n:Int)] w fun e w'=>∃ u,e=.returned (.tuple #[u,.int .i64 (du [] n:Nat)])∧Row .u8 w' u (ek [] n)∧Lsc w' none B (eK [] n)∧Kept (ofP none) w w':=by
 have hR:eK [] (n:Int)=[]:=by unfold eK;split <;> simp
 have hL:ek [] (n:Int)=[]:=by unfold ek;split <;> simp
 rw [hR,hL];have J:=yW (.slice none 0 0) [] w (Row.nil _ _) (by simp);by_cases h0:n=0
 ·subst h0;have hE:du [] ((0:Nat):Int)=0:=rfl;rw [hE];clear hE hR hL;go_enter Tryz.func229,Tryz.ntmps229;go_wp2_with fail;refine J.mono ?_;rintro e w1 ⟨b,rfl,hb,h1,k1⟩;have J2:=vE _ _ _ w1 h1;have c:=aa k1;have H1:=aa h1;clear J k1 h1;go_wp2_with fail;refine J2.mono ?_;rintro e w2 ⟨rfl,k2⟩;have d:=aa (c.out.trans k2);have h2:=H1.out.grew k2;rcases h2 with ⟨e,_⟩ | ⟨b',v,ps,k,e,ed,h2⟩
  ·cases e
  cases e
  obtain ⟨c0,c1⟩:=h2.cells;have f1:=h2.free;have h3:=h2.put k h2.2.2.1;obtain ⟨d0,d1⟩:=h3.cells;have o:=h2.2.2.2.1;have j:k=ps.length:=by
   have e1:=congrArg List.length ed;rw [List.length_drop] at e1;have e2:=h2.2.2.1;have e3:([]:List Nat).length=0:=rfl;omega
  obtain ⟨ao,L,i,rfl,hL,l,m,g,a⟩:=h2.2.1.open;obtain rfl:k=L:=j.trans hL.out;have f:Hid (Kept (ofP none) w (w2.setCell ⟨b,1,none⟩ (.int .i64 (k:Nat)))):=(d.out.any (S:=ofP none)).setCell _ (fun h=>absurd h (by show ¬ b<w.heap.size;omega)) _;have g1:(k:Int)+0=(k:Int):=by omega
  have g0:(0:Int)≤(k:Int):=by omega
  have g2:(k:Int)≤(i:Int):=by omega
  have p:k≤1000000:=by omega
  have HN:=aa g;have HB:=aa hb;clear J2 h2 h3 k2 a g c d H1 ed j hL o hb;cases ao with
  | none=>
   obtain rfl:=HN.out rfl;obtain rfl:k=0:=by omega
   go_wp2_with fail;go_quiet (fail);go_wp2_with fail;go_ret2;exact ⟨_,rfl,Row.nil _ _,.inl ⟨rfl,rfl⟩,f.out.drewN _⟩
  | some ad=>
   by_cases hck:i=k
   ·subst hck;go_wp2_with fail;go_quiet (fail);go_wp2_with fail;go_ret2;exact ⟨_,rfl,ie (fun e=>by cases e) (by unfold maxLen at *;omega),.inl ⟨rfl,rfl⟩,f.out.drewN _⟩
   ·go_wp2_with fail;go_quiet (fail);go_wp2_with fail;go_ret2;exact ⟨_,rfl,ie (fun e=>by cases e) (by unfold maxLen at *;omega),.inl ⟨rfl,rfl⟩,f.out.drewN _⟩
 ·have hE:du [] (n:Int)=150:=by unfold du;rw [if_neg (by omega),if_pos (by simp;omega)]
  rw [hE];have g1:(n:Int) > ((0:Nat):Int):=by omega
  have g2:((0:Nat):Int)<(n:Int):=by omega
  have g3:(0:Int)<(n:Int):=by omega
  clear hE hR hL;go_enter Tryz.func229,Tryz.ntmps229;go_wp2_with fail;refine J.mono ?_;rintro e w1 ⟨b,rfl,hb,h1,k1⟩;have J2:=vE _ _ _ w1 h1;have c:=aa k1;have H1:=aa h1;clear J k1 h1;go_wp2_with fail;refine J2.mono ?_;rintro e w2 ⟨rfl,k2⟩;have d:=aa (c.out.trans k2);have h2:=H1.out.grew k2;rcases h2 with ⟨e,_⟩ | ⟨b',v,ps,k,e,ed,h2⟩
  ·cases e
  cases e
  obtain ⟨c0,c1⟩:=h2.cells;have f1:=h2.free;obtain ⟨ao,L,i,rfl,hL,l,m,g,a⟩:=h2.2.1.open;have f:Hid (Kept (ofP none) w (w2.setCell ⟨b,1,none⟩ (.int .i64 (L:Nat)))):=(d.out.any (S:=ofP none)).setCell _ (fun h=>absurd h (by show ¬ b<w.heap.size;omega)) _;clear J2 h2 k2 a g c d H1 ed;go_wp2_with fail;go_ret2;exact ⟨_,rfl,Row.nil _ _,.inl ⟨rfl,rfl⟩,f.out⟩

theorem Bj (b B n k:Nat) (v:Value) (ps:List Nat) (w:World) (h:LscB w b B v ps k) :
  Calls Tryz.prog 229 #[.pointer (some ⟨b,0,none⟩),.int .i64 (n:Int)] w fun e w'=>∃ u,e=.returned (.tuple #[u,.int .i64 (du (ps.drop k) n:Nat)])∧Row .u8 w' u (ek (ps.drop k) n)∧Lsc w' (some ⟨b,0,none⟩) B (eK (ps.drop k) n)∧Kept (fun x=>x=b) w w':=by
 have J:=vE _ _ _ w h.lsc;have H:=aa h;obtain ⟨ao,L,j,rfl,hL,r,s,c,g⟩:=h.2.1.open;have t:k≤L:=by rw [← hL.out];exact h.2.2.1
 have q:L≤1000000:=by rw [← hL.out];exact h.2.2.2.1
 have hd:(ps.drop k).length=L-k:=by rw [List.length_drop,hL.out]
 rw [hd] at J;obtain ⟨d,l⟩:∃ d,d=L-k:=⟨_,rfl⟩
 rw [← l] at J hd;by_cases h1:d<n
 ·have e1:du (ps.drop k) (n:Int)=150:=by unfold du;rw [if_neg (by omega),if_pos (by omega)]
  have e2:ek (ps.drop k) (n:Int)=[]:=by unfold ek;rw [e1];rfl
  have e3:eK (ps.drop k) (n:Int)=ps.drop ps.length:=by
   unfold eK;rw [if_neg (by omega),List.drop_of_length_le (by rw [hd];show d≤((n:Int)).toNat;omega),List.drop_of_length_le (leR _)]
  rw [e1,e2,e3];have g1:(n:Int) > (d:Int):=by omega
  have g2:(d:Int)<(n:Int):=by omega
  have i:=aa hL.out;clear e1 e2 e3 h g c l hd hL;go_enter Tryz.func229,Tryz.ntmps229;go_wp2_with fail;refine J.mono ?_;rintro e w1 ⟨rfl,k1⟩;have H1:=aa (H.out.kept k1 (fun _ _ f=>f));obtain ⟨c0,c1⟩:=H1.out.cells;have f1:=H1.out.free;have HP:=aa (H1.out.put L (by rw [i.out];exact leR _));have HK:=aa ((k1.any (S:=fun x=>x=b)).setCell ⟨b,1,none⟩ (fun _=>rfl) (.int .i64 (L:Nat)));clear J k1;go_wp2_with fail;go_ret2;exact ⟨_,rfl,Row.nil _ _,by rw [i.out];exact HP.out.lsc,HK.out⟩
 ·have e1:du (ps.drop k) (n:Int)=0:=by unfold du;rw [if_neg (by omega),if_neg (by omega)]
  have e2:ek (ps.drop k) (n:Int)=(ps.drop k).take n:=by unfold ek;rw [e1];rfl
  have e3:eK (ps.drop k) (n:Int)=ps.drop (k+n):=by
   unfold eK;rw [if_neg (by omega),List.drop_drop];rfl
  rw [e1,e2,e3];obtain ⟨m,hm⟩:∃ m,m=k+n:=⟨_,rfl⟩
  rw [← hm];have g1:¬ (n:Int) > (d:Int):=by omega
  have g2:¬ (d:Int)<(n:Int):=by omega
  have g3:(k:Int)+(n:Int)=(m:Int):=by omega
  have g4:(k:Int)≤(m:Int):=by omega
  have g5:(m:Int)≤(j:Int):=by omega
  have g6:(0:Int)≤(k:Int):=by omega
  have g7:m-k=n:=by omega
  have p:m≤L:=by omega
  have C:m≤j:=by omega
  have z:k≤m:=by omega
  have i:=aa hL.out;have y:k≤1000000:=by omega
  have A:m≤1000000:=by omega
  have HN:=aa c;have o:=aa (show k+n≤L by omega);clear e1 e2 e3 h g l hd hL hm;go_enter Tryz.func229,Tryz.ntmps229;go_wp2_with fail;refine J.mono ?_;rintro e w1 ⟨rfl,k1⟩;have H1:=aa (H.out.kept k1 (fun _ _ f=>f));obtain ⟨c0,c1⟩:=H1.out.cells;have f1:=H1.out.free;have HP:=aa (H1.out.put m (by rw [i.out];exact p));obtain ⟨d0,d1⟩:=HP.out.cells;have HK:=aa ((k1.any (S:=fun x=>x=b)).setCell ⟨b,1,none⟩ (fun _=>rfl) (.int .i64 (m:Nat)));have HC:=aa (yu HP.out.2.1 o.out);clear J k1;cases ao with
  | none=>
   obtain rfl:=HN.out rfl;obtain rfl:L=0:=by omega
   obtain rfl:m=0:=by omega
   obtain rfl:k=0:=by omega
   obtain rfl:n=0:=by omega
   have a:=aa (HC.out.1 rfl);clear HC c;go_wp2_with fail;go_quiet (fail);go_wp2_with fail;go_ret2;exact ⟨_,rfl,a.out.kept' (S:=ae) ((ag _ _).drewN _) (fun _ _ _ f=>f),HP.out.lsc.grew ((ag _ _).drewN _),HK.out.drewN _⟩
  | some ad=>
   by_cases hck:j=k
   ·have a:=aa (HC.out.2.1 ad rfl hck);obtain rfl:m=k:=by omega
    obtain rfl:n=0:=by omega
    subst hck;clear HC c;go_wp2_with fail;go_quiet (fail);go_wp2_with fail;go_ret2;exact ⟨_,rfl,a.out.kept' (S:=ae) ((ag _ _).drewN _) (fun _ _ _ f=>f),HP.out.lsc.grew ((ag _ _).drewN _),HK.out.drewN _⟩
   ·have a:=aa (HC.out.2.2 ad rfl hck);clear HC c;go_wp2_with fail;go_quiet (fail);go_wp2_with fail;go_ret2;exact ⟨_,rfl,a.out.kept' (S:=ae) ((ag _ _).drewN _) (fun _ _ _ f=>f),HP.out.lsc.grew ((ag _ _).drewN _),HK.out.drewN _⟩

theorem CV (p:Option Addr) (B n:Nat) (bs:List Nat) (w:World) (h:Lsc w p B bs) :
  Calls Tryz.prog 229 #[.pointer p,.int .i64 (n:Int)] w fun e w'=>∃ u,e=.returned (.tuple #[u,.int .i64 (du bs n:Nat)])∧Row .u8 w' u (ek bs n)∧Lsc w' p B (eK bs n)∧Kept (ofP p) w w':=by
 rcases h with ⟨rfl,rfl⟩ | ⟨b,v,ps,k,rfl,rfl,h⟩
 ·exact vF B n w
 ·refine (Bj b B n k v ps w h).mono ?_;rintro e w' ⟨u,he,h1,h2,h3⟩;exact ⟨u,he,h1,h2,h3.mono fun x _ e=>by cases e;rfl⟩

theorem uA (bs:List Nat) (n:Nat):du bs n=0∨du bs n=150:=by
 unfold du;rw [if_neg (by omega)]
 split <;> simp

theorem uB (bs:List Nat) (n:Int):(ek bs n).length≤bs.length:=by
 unfold ek
 split
 ·rw [List.length_take];omega
 ·simp

theorem CU (p:Option Addr) (B:Nat) (bs:List Nat) (n:Int) (w:World) (h:Lsc w p B bs) :
  Calls Tryz.prog 187 #[.pointer p,.int .i64 n] w fun e w'=>∃ u,e=.returned (.tuple #[u,.int .i64 (du bs n:Nat)])∧OwnB w' w.heap.size u (ek bs n)∧Lsc w' p B (eK bs n)∧Kept (ofP p) w w':=by
 have H:=aa h;by_cases h1:n<0
 ·have e1:du bs n=1:=by unfold du;rw [if_pos h1]
  have e2:ek bs n=[]:=by unfold ek;rw [e1];rfl
  have e3:eK bs n=bs:=by unfold eK;rw [if_pos h1]
  rw [e1,e2,e3];clear e1 e2 e3 h;go_enter Tryz.func187,Tryz.ntmps187;go_wp2_with fail;go_ret2;exact ⟨_,rfl,OwnB.nil _ _,H.out,ag _ _⟩
 ·obtain ⟨m,rfl⟩:=Int.eq_ofNat_of_zero_le (show 0≤n by omega);have J:=CV p B m bs w h;have hb:=(uB bs (m:Int))
  have f:=h.len;have HE:=uA bs m;have HL:Hid (du bs (m:Int)≠0→ek bs (m:Int)=[]):=fun e=>if_neg e
  generalize ek bs (m:Int)=l at *;generalize du bs (m:Int)=E at *;generalize eK bs (m:Int)=r at *;clear h;go_enter Tryz.func187,Tryz.ntmps187;go_wp2_with fail;refine J.mono ?_;rintro e w1 ⟨u,rfl,hr,a,k1⟩;have J2:=zK u l w1 hr (by omega);have HS:=aa a;have HK:=aa k1;obtain ⟨ao,L,d,rfl,_⟩:=hr.open;clear J k1 a hr;rcases HE with rfl | rfl
  ·clear HL;go_wp2_with fail;refine J2.mono ?_;rintro e w2 ⟨u2,rfl,hO,k2⟩;have c:=aa (HS.out.grew k2);have HO:=aa (hO.base HK.out.size);have b:=aa (HK.out.trans k2.any);clear J2 k2 hO;go_wp2_with fail;go_ret2;exact ⟨_,rfl,HO.out,c.out,b.out⟩
  ·obtain rfl:=HL.out (by decide);clear J2;go_wp2_with fail;go_ret2;exact ⟨_,rfl,OwnB.nil _ _,HS.out,HK.out⟩

def kr (p:Option Addr) (w:World):Nat:=match p with
 | none=>0
 | some a=>match w.cell? ⟨a.block,0,none⟩,w.cell? ⟨a.block,1,none⟩ with
  | some v,some (.int _ k)=>uL v-k.toNat
  | _,_=>0

theorem Lsc.left {w:World} {p:Option Addr} {B:Nat} {bs:List Nat} (h:Lsc w p B bs):kr p w=bs.length:=by
 rcases h with ⟨rfl,rfl⟩ | ⟨b,v,ps,k,rfl,rfl,h⟩
 ·rfl
 ·obtain ⟨c0,c1⟩:=h.cells;obtain ⟨_,_,e,_⟩:=h.2.1;unfold kr;simp only [c0,c1];rw [e,List.length_drop];rfl

open Go.RowKit Go.Shelf

def LowT {β:Type} (B:Nat) (T:Nat→Prop) (J:β→World→Prop):Prop:=∀ s A C,J s A→Kept (fun x=>T x∨B≤x) A C→J s C

theorem nt {A C:World} {B:Nat} {T:Nat→Prop} (h:Below B A C):Kept (fun x=>T x∨B≤x) A C:=
 ⟨h.os,h.tape,h.output,h.size,fun i _ hs=>h.block i (Nat.lt_of_not_le fun e=>hs (.inr e))⟩

theorem LowT.below {β:Type} {B:Nat} {T:Nat→Prop} {J:β→World→Prop} (h:LowT B T J) {s:β} {A C:World} (j:J s A) (k:Below B A C):J s C:=h s A C j (nt k)

def zg {β:Type} (B:Nat) (J:β→World→Prop):Prop:=∀ s A l o o',J s A→B≤l→A.heap[l]? = some o→o.isCells=false→J s (A.putObj l o')

def Bo {α:Type} (n:Nat) (P:Program) (g:Nat) (lb:Array Value) (encs:α→Array Value) (X:List α→α→World→Prop) (Sb T:Nat→Prop) (S:List α→World→Prop) (w:World):Prop:=
 ∀ (l:Nat) (J Jx:List α→World→Prop) (W:World),Kept ae w W→l=w.heap.size+1→W.heap.size=w.heap.size+2 →
  LowT W.heap.size T J →
  (∀ pre x A,J pre A→X pre x A→YieldAt Fence.wide (n-1) P l (encs x) A fun e C=>
   (e=.returned (.bool true)∧J (pre ++ [x]) C∧Kept (fun b=>Sb b∨b=l∨b+1=l) A C)∨(e=.returned (.bool false)∧Jx (pre ++ [x]) C)) →
  J [] W →
  CallsIn Fence.wide n P g (#[.func (.yield l) #[] #[]] ++ lb) W fun e C=>(∃ v,e=.returned v)∧((∃ s,S s C∧J s C)∨∃ s,Jx s C)

theorem kX {α:Type} {P:Program} {n:Nat} {g:Operand} {ps:Array Tmp} {assign body:Code} {Q:Exit→Act→World→Prop} {a:Act} {w:World} (h1:1≤n) {gf:Nat} {lb:Array Value}
  (hg:a.eval g=.func (.func gf) #[] lb) (eg:∀ args w,(callFunc gf args).run P w=.ok (.enter gf args) w)
  {q:α→Array Value} {X:List α→α→World→Prop} {Sb T:Nat→Prop} {S:List α→World→Prop} (H:Bo (n-1) P gf lb q X Sb T S w) (af:∀ x,(q x).size=ps.size) (hSb:∀ b,Sb b→b<w.heap.size) (hT:∀ b,T b→b<w.heap.size)
  (hX:∀ m x A l o o',X m x A→A.heap[l]? = some o→o.isCells=false→X m x (A.putObj l o'))
  (I:List α→World→Prop) (Ix:Code→List α→World→Prop) (hI:LowT w.heap.size T I) (M:∀ c,zg w.heap.size (Ix c)) (hS:zg w.heap.size S) (h0:I [] w) (a₁:α→Act)
  (y:∀ (l:Nat) (x:α) (W:World) (K:Act→World→Prop),K (a₁ x) W→assign.wpIn (Fence.wide.inRound l) (n-1-1) P (Exit.then K (fun _ _ _=>False)) { tmps:=(ps.zip (q x)).foldl (fun t (p,v)=>t.setIfInBounds p v) a.tmps,defers:=[] } W)
  (hbody:∀ (l:Nat) (m:List α) (x:α) (W:World),I m W→X m x W→body.wpIn (Fence.wide.inRound l) (n-1-1) P (B8 Sb I Ix (m ++ [x]) W) (a₁ x) W)
  (hdone:∀ (D:Nat) (s:List α) (W:World),w.heap.size≤D→S s W→I s W→W.heap[D]? = some (.deferred (some []))→Q .normal { a with defers:={ target:=.collected D,args:=#[] } :: a.defers } W)
  (hstop:∀ (D:Nat) (c:Code) (s:List α) (W:World),w.heap.size≤D→Ix c s W→W.heap[D]? = some (.deferred (some []))→c.wpIn Fence.wide n P Q { a with defers:={ target:=.collected D,args:=#[] } :: a.defers } W) :
  (Code.rangeFunc g ps assign body).wpIn Fence.wide n P Q a w:=by
 refine wpIn_rangeFunc fun fn Y=>?_
 obtain ⟨f,d⟩:∃ f:LoopState→Option Code→Loop,f=fun st pe=>{ state:=st,pending:=pe,fn,tmps:=a.tmps,params:=ps,assign,body,defers:=w.heap.size }:=⟨_,rfl⟩
 obtain ⟨W1,B⟩:∃ W1,W1=(w.alloc (.deferred (some []))).alloc (.loop (f .ready none)):=⟨_,rfl⟩
 have O:W1.heap.size=w.heap.size+2:=by rw [B];simp
 have N:Kept ae w W1:=by rw [B];exact ((ag _ w).alloc _).alloc _
 have U:Books w.heap.size (f .ready none) W1:=by
  rw [B];refine ⟨?_,(Below.heap_alloc _ _ _ (by simp)).trans (World.alloc_heap_new w _)⟩;have:=World.alloc_heap_new (w.alloc (.deferred (some []))) (.loop (f .ready none))
  rwa [World.size_alloc] at this
 refine ⟨w.heap.size+1,[{ target:=.collected w.heap.size,args:=#[] }],W1,{ target:=.fn (.func gf) lb,args:=#[.func (.yield (w.heap.size+1)) #[] #[]] },W1,gf,#[.func (.yield (w.heap.size+1)) #[] #[]] ++ lb,W1,?_,?_,fun _ _=>trivial,?_,fun _=>h1,?_⟩
 ·rw [B,d];exact run_enterLoop_outer _ _ _ _ _
 ·simp only [resolve,hg];simp [go_sem]
 ·simp [invoke,go_sem,eg]
 ·have z:∀ (j:Option Code) (A:World),Books w.heap.size (f .busy none) A→∃ C,(Instr.endRound (w.heap.size+1) j).run P A=.ok (.bool j.isNone) C∧Books w.heap.size (f (if j.isNone then .ready else .done) j) C∧Below w.heap.size A C∧Kept (fun b=>b=w.heap.size+1) A C∧∃ o',C=A.putObj (w.heap.size+1) o':=fun j A hb=>by
   refine ⟨_,run_endRound (P:=P) j hb.1,?_,mG _ (by omega),km _ _ _,_,rfl⟩;have:=hb.put { f .busy none with state:=if j.isNone then .ready else .done,pending:=j };rw [d] at this ⊢;exact this
  have E:∀ {β:Type} {J:β→World→Prop} {r:Loop},LowT w.heap.size T J→LowT W1.heap.size T (fun s A=>J s A∧Books w.heap.size r A):=fun hJ s A C h k=>by
   rw [O] at k;refine ⟨hJ s A C h.1 (k.mono (fun x _ e=>?_)),?_⟩
   ·rcases e with e | e
    ·exact .inl e
    ·exact .inr (by omega)
   ·have hl:=h.2.lt;refine ⟨(k.block _ (by omega) ?_).trans h.2.1,(k.block _ (by omega) ?_).trans h.2.2⟩
    all_goals
     rintro (e | e)
     ·have:=hT _ e;omega
     ·omega
  refine (H (w.heap.size+1) (fun s A=>I s A∧Books w.heap.size (f .ready none) A) (fun s A=>∃ c,Ix c s A∧Books w.heap.size (f .done (some c)) A) W1 N rfl O (E hI) ?_ ⟨hI.below h0 (cD N (leR _)),U⟩).mono ?_
  ·rintro m x A ⟨hi,hb⟩ hx;have hy:=run_yield (P:=P) (args:=q x) hb.1 (by rw [d];exact af x);rw [d] at hy;refine ⟨fn,_,assign,body,hy,roundIn_of_wpIn Y (y _ x A _ ⟨_,run_beginRound hb.1 (by rw [d]),?_⟩)⟩;have V:=hb.put { f .ready none with state:=.busy };have ah:=hX m x A _ _ (.loop { f .ready none with state:=.busy }) hx hb.1 rfl;have Z:=hI.below hi (mG (l:=w.heap.size+1) (.loop { f .ready none with state:=.busy }) (by omega));have ab:=km A (w.heap.size+1) (.loop { f .ready none with state:=.busy })
   have F:∀ C,Kept Sb (A.putObj (w.heap.size+1) (.loop { f .ready none with state:=.busy })) C→Books w.heap.size (f .busy none) C:=fun C k=>by
    have:=V.kept k hSb;rw [d] at this ⊢;exact this
   refine wpIn_mono (hbody _ m x _ Z ah) ?_;generalize A.putObj (w.heap.size+1) (.loop { f .ready none with state:=.busy })=A2 at *;have L:∀ (c:Code) (C:World),Kept Sb A2 C→Ix c (m ++ [x]) C→∃ v C',(Instr.endRound (w.heap.size+1) (some c)).run P C=.ok v C'∧((Ending.returned v=.returned (.bool true)∧(I (m ++ [x]) C'∧Books w.heap.size (f .ready none) C')∧Kept (fun b=>Sb b∨b=w.heap.size+1∨b+1=w.heap.size+1) A C')∨(Ending.returned v=.returned (.bool false)∧∃ c,Ix c (m ++ [x]) C'∧Books w.heap.size (f .done (some c)) C')):=fun c C k hc=>by
    obtain ⟨C',hr,G,_,_,o',rfl⟩:=z (some c) C (F C k);exact ⟨_,_,hr,.inr ⟨rfl,c,M c _ _ _ _ o' hc (by omega) (F C k).1 rfl,G⟩⟩
   rintro e a3 C hp;cases e with
   | normal=>
    obtain ⟨k,aa⟩:=hp;obtain ⟨C',hr,G,ad,ac,_⟩:=z none C (F C k);exact ⟨_,_,hr,.inl ⟨rfl,⟨hI.below aa ad,G⟩,((ab.mono (fun _ _ e=>.inr (.inl e))).next k (fun _ _ e=>.inl e)).next ac (fun _ _ e=>.inr (.inl e))⟩⟩
   | ret=>exact L _ C hp.1 hp.2
   | exit i=>exact L _ C hp.1 hp.2
   | goto t=>exact L _ C hp.1 hp.2
   | panic c=>exact hp.elim
   | outgrown=>exact hp.elim
  ·rintro e C ⟨⟨v,rfl⟩,(⟨s,R,hi,hb⟩ | ⟨s,c,hi,hb⟩)⟩
   ·refine ⟨_,_,run_endLoop (P:=P) hb.1 (by rw [d];simp),?_⟩;rw [d] at hb ⊢;exact hdone _ s _ (leR _) (hS _ _ _ _ _ R (by omega) hb.1 rfl) (hI.below hi (mG _ (by omega))) ((World.putObj_heap_other (by omega)).trans hb.2)
   ·refine ⟨_,_,run_endLoop (P:=P) hb.1 (by rw [d];simp),?_⟩;rw [d] at hb ⊢;exact hstop _ c s _ (leR _) (M c _ _ _ _ _ hi (by omega) hb.1 rfl) ((World.putObj_heap_other (by omega)).trans hb.2)

open Go.Shelf

def ts:Go.Shelf.Ren:=⟨fun | 122=>115 | 215=>172 | n=>n,fun | 3=>3 | 4=>4 | n=>n,fun n=>n⟩

theorem Dm:Lays.n122 Tryz.prog ts:={
 mixed:=by kernel_rfl,
 f122:=Tryz.func115.trans (congrArg some (by kernel_rfl)),
 f215:=Tryz.func172.trans (congrArg some (by kernel_rfl)),
 t3:=Tryz.underlying3,
 a3:=Tryz.isAgg3,
 z3:=Tryz.sizeOf3,
 v3:=Tryz.zeroValue3,
 t4:=Tryz.underlying4,
 a4:=Tryz.isAgg4,
 z4:=Tryz.sizeOf4,
 v4:=Tryz.zeroValue4 }

attribute [local go_sem] Oper.semAt_some

def cu (L:Nat) (r:Nat):List Nat:=(List.range (L-r)).map fun j=>L-1-j

theorem nG (L:Nat):cu L L=[]:=by simp [cu]

theorem f8 {L j:Nat} (h:j<L):cu L j=cu L (j+1) ++ [j]:=by
 unfold cu;rw [show L-j=(L-(j+1))+1 by omega,List.range_succ,List.map_append,List.map_singleton,show L-1-(L-(j+1))=j by omega]

theorem j5 (L r:Nat):(cu L r).length=L-r:=by simp [cu]

theorem By (F:Fence) (n:Nat) (hf:F.fn 173) (A:F.round=none) (hn:1≤n) (l Bs L:Nat) (g:Nat→Nat) (v:Value) (zs:List Nat) (hL:Hid (zs.length=L)) (hg:Hid (∀ j,zs.getD j 0=g j)) (S:Nat→Prop) (hS:S Bs) (w:∀ b,v.ownBlock=some b→0<L→S b)
  (J Jx:List (Fin L)→World→Prop)
  (hY:∀ a (x:Fin L) W,J a W→a.length<L→YieldAt F (n-1) Tryz.prog l #[.int .i64 (x.val:Nat),.int .u64 (g x.val:Nat)] W fun e W'=>
   (e=.returned (.bool true)∧J (a ++ [x]) W'∧KeepB S W W')∨(e=.returned (.bool false)∧Jx (a ++ [x]) W'))
  (W:World) (s:W.cell? ⟨Bs,0,none⟩=some v) (hr:Row .u64 W v zs) (h0:J [] W) :
  CallsIn F n Tryz.prog 173 #[.func (.yield l) #[] #[],.pointer (some ⟨Bs,0,none⟩)] W fun e W'=>(∃ v,e=.returned v) ∧
   ((∃ ys,ys.map Fin.val=cu L 0∧J ys W')∨(∃ a,(∃ r,r<L∧a.map Fin.val=cu L r)∧Jx a W')):=by
 obtain ⟨ao,m,B,rfl,hN,c1,c2,c3,f⟩:=hr.open;obtain rfl:m=L:=by rw [← hN.out];exact hL.out
 have d:Hid (∀ i,i<m→NumAt .u64 W ao zs i):=f;clear f hr;refine callsIn_of_wp Tryz.func173 rfl hf ?_ A;simp only [Tryz.ntmps173,List.size_toArray,List.length_cons,List.length_nil,Nat.reduceAdd,Nat.reduceSub,Array.replicate_succ,Array.replicate_zero,List.push_toArray,List.append_toArray,List.nil_append,List.cons_append]
 gi_wp2
 gi_loopw [3] (fun i wr=>∃ r:Nat,r≤m∧i=.int .i64 ((r:Int)-1)∧(∃ a:List (Fin m),Hid (a.map Fin.val=cu m r)∧J a wr)∧KeepB S W wr)
  (fun i _=>(intOf i+1).toNat)
 case atStart=>exact ⟨m,leR _,by simp,⟨[],by simp [Hid,nG],h0⟩,KeepB.refl _ _⟩
 case round=>
  obtain ⟨r,hr,rfl,⟨a,c,q⟩,k⟩:=hrel;cases r with
  | zero=>
   gi_wp2
   go_end0
   exact ⟨⟨_,rfl⟩,.inl ⟨a,c.out,q⟩⟩
  | succ j=>
   rw [show (((j+1:Nat):Int)-1)=(j:Int) by omega];obtain ⟨b,off,rfl,hc⟩:=d.out j (by omega);have C:wr.cell? ⟨b,off+j,none⟩=some (.int .u64 (g j:Nat)):=by
    rw [k.cell (p:=⟨b,off+j,none⟩) (w b rfl (by omega)),hc,hg.out]
   have y:=(k.cell (p:=⟨Bs,0,none⟩) hS).trans s;have o:a.length<m:=by
    have:=congrArg List.length c.out;rw [List.length_map,j5] at this;omega
   obtain ⟨fn,tmps,assign,body,hy,hR⟩:=hY a ⟨j,by omega⟩ wr q o;dsimp only at hy;clear hc d
   gi_wp2
   refine hR.mono ?_;rintro e W3 (⟨rfl,t,z⟩ | ⟨rfl,h⟩)
   ·gi_wp2
    go_roundw
    case rel=>exact ⟨j,by omega,by simp,⟨a ++ [⟨j,by omega⟩],by unfold Hid;rw [List.map_append,c.out,f8 (show j<m by omega)];rfl,t⟩,k.trans z⟩
    case measure=>simp [intOf]
   ·gi_wp2
    refine bodyPost_ret (results_none rfl _ _ _) rfl ?_;exact ⟨⟨_,rfl⟩,.inr ⟨_,⟨j,by omega,by rw [List.map_append,c.out,f8 (show j<m by omega)];rfl⟩,h⟩⟩

theorem vZ (F:Fence) (n:Nat) (h5:F.fn 116) (c:F.round=none) (ao:Option Addr) (b a:Nat) (w:World) :
  CallsIn F n Tryz.prog 116 #[.slice ao b a] w fun e w'=>e=.returned (.func (.func 173) #[] #[.pointer (some ⟨w.heap.size,0,none⟩)])∧w'=w.alloc (.cells #[.slice ao b a] 23):=by
 refine callsIn_of_wp Tryz.func116 rfl h5 ?_ c;simp only [Tryz.ntmps116,List.size_toArray,List.length_cons,List.length_nil,Nat.reduceAdd,Nat.reduceSub,Array.replicate_succ,Array.replicate_zero,List.push_toArray,List.append_toArray,List.nil_append,List.cons_append]
 gi_wp2
 go_ret;exact ⟨rfl,rfl⟩

theorem rE (F:Fence) (n:Nat) (hf:F.fn 173) (e:F.round=none) (hn:1≤n) (Bs L:Nat) (g:Nat→Nat) (v:Value) (zs:List Nat) (hL:zs.length=L) (hg:∀ j,zs.getD j 0=g j) (S:Nat→Prop) (hS:S Bs) (a:∀ b,v.ownBlock=some b→0<L→S b)
  (w:World) (d:∀ k,S k→k<w.heap.size) (c:w.cell? ⟨Bs,0,none⟩=some v) (hr:Row .u64 w v zs) :
  SeqStopsK F n Tryz.prog 173 #[.pointer (some ⟨Bs,0,none⟩)] (fun x:Fin L=>#[Value.int .i64 (x.val:Nat),Value.int .u64 (g x.val:Nat)]) (KeepB S) (fun ys=>ys.map Fin.val=cu L 0) (fun f=>∃ r,r<L∧f.map Fin.val=cu L r) L w:=fun l J Jx W hW _ _ hY h0=>by
 have hk:KeepB S w W:=fun k hk=>hW.block k (d k hk)
 exact By F n hf e hn l Bs L g v zs hL hg S hS a J Jx hY W ((hk.cell (p:=⟨Bs,0,none⟩) hS).trans c) (hk.row (fun b hb hp=>a b hb (by omega)) hr) h0

attribute [local go_sem] Oper.semAt_some

theorem tN (ao:Option Addr) (n a:Nat) (xs:List Nat) (w:World) (h:Row .u64 w (.slice ao n a) xs) (hd:Digs xs) :
  Calls Tryz.prog 114 #[.slice ao n a] w fun r w'=>r=.returned (.slice ao (ah (val xs)) a)∧w'=w:=by
 refine (qE _ xs w h).mono ?_;rintro e w' ⟨m,v',rfl,hm,hr,hz,ht,ho,⟨c,n',b,e1,rfl⟩,rfl⟩;have e2:=jn (hd.take m) (gF hm ht);rw [ij (B:=18446744073709551616) hm hz,List.length_take,Nat.min_eq_left hm] at e2;cases e1
 rw [e2];exact ⟨rfl,rfl⟩

theorem fU {xs:List Nat} (hd:Digs xs):ah (val xs)≤xs.length:=(aA _ _).2 (aD (by omega) hd)

theorem l8 {xs:List Nat} (hd:Digs xs):∃ ys,ys=xs.take (ah (val xs))∧ys.length=ah (val xs)∧Digs ys∧val ys=val xs∧(∀ j,j<ah (val xs)→ys.getD j 0=xs.getD j 0):=by
 have hl:=fU hd;refine ⟨_,rfl,by rw [List.length_take];omega,hd.take _,?_,fun j hj=>?_⟩
 ·refine ij hl (fun i hi=>?_);rw [← bk (by omega) hd i];unfold dig;rw [Nat.div_eq_of_lt,Nat.zero_mod];exact (aA _ _).1 hi
 ·rw [List.getD_eq_getElem?_getD,List.getD_eq_getElem?_getD,List.getElem?_take,if_pos hj]

theorem AA (x y:Nat) (w:World):Calls Tryz.prog 117 #[.int .u64 x,.int .u64 y] w fun r w'=>r=.returned (.int .i64 (cS x y))∧w'=w:=by
 rcases Nat.lt_trichotomy x y with h | h | h
 ·rw [fw h];have h':(x:Int)<(y:Int):=by omega
  go_enter Tryz.func117,Tryz.ntmps117;go_wp2;go_ret;exact ⟨rfl,rfl⟩
 ·rw [iI h];subst h;go_enter Tryz.func117,Tryz.ntmps117;go_wp2;go_ret;exact ⟨rfl,rfl⟩
 ·rw [g8 h];have h':¬ (x:Int)<(y:Int):=by omega
  have a:(x:Int) > (y:Int):=by omega
  go_enter Tryz.func117,Tryz.ntmps117;go_wp2;go_ret;exact ⟨rfl,rfl⟩

theorem zZ (x y:Nat):Lib.compareInt (x:Int) (y:Int)=cS x y:=by
 unfold Lib.compareInt cS;by_cases h:x<y
 ·rw [if_pos h,if_pos (by omega)]
 ·rw [if_neg h,if_neg (by omega)];by_cases h2:x=y
  ·rw [if_pos h2,if_neg (by omega)]
  ·rw [if_neg h2,if_pos (by omega)]

theorem ru {A B:Nat} (h:ah A≠ah B):cS (ah A) (ah B)=cS A B:=by
 rcases Nat.lt_or_gt_of_ne h with k | k
 ·rw [fw k,fw];have h1:=(aA A _).1 (leR _);have h2:¬ ah B≤ah A:=by omega
  have h3:=mt (aA B (ah A)).2 h2;omega
 ·rw [g8 k,g8];have h1:=(aA B _).1 (leR _);have h2:¬ ah A≤ah B:=by omega
  have h3:=mt (aA A (ah B)).2 h2;omega

theorem Aa {a b:List Nat} {k:Nat} (ha:Digs a) (hb:Digs b) (hl:a.length=b.length) (hk:k<a.length) (he:∀ j,k<j→j<a.length→a.getD j 0=b.getD j 0) :
  a.getD k 0≠b.getD k 0→cS (a.getD k 0) (b.getD k 0)=cS (val a) (val b):=by
 intro d;have ea:=aP 18446744073709551616 a (k+1) (by omega);have eb:=aP 18446744073709551616 b (k+1) (by omega);have c:a.drop (k+1)=b.drop (k+1):=by
  apply List.ext_getElem?;intro i;rw [List.getElem?_drop,List.getElem?_drop];by_cases hi:k+1+i<a.length
  ·have:=he (k+1+i) (by omega) hi;rw [List.getD_eq_getElem?_getD,List.getD_eq_getElem?_getD,List.getElem?_eq_getElem hi,List.getElem?_eq_getElem (show k+1+i<b.length by omega)] at this;rw [List.getElem?_eq_getElem hi,List.getElem?_eq_getElem (show k+1+i<b.length by omega)];exact congrArg some this
  ·rw [List.getElem?_eq_none (by omega),List.getElem?_eq_none (by omega)]
 have ta:a.take (k+1)=a.take k ++ [a.getD k 0]:=by rw [List.take_add_one,List.getD_eq_getElem?_getD,List.getElem?_eq_getElem hk];rfl
 have tb:b.take (k+1)=b.take k ++ [b.getD k 0]:=by rw [List.take_add_one,List.getD_eq_getElem?_getD,List.getElem?_eq_getElem (show k<b.length by omega)];rfl
 rw [ta,bH,List.length_take,Nat.min_eq_left (by omega)] at ea;rw [tb,bH,List.length_take,Nat.min_eq_left (by omega),← c] at eb;have la:val (a.take k)<18446744073709551616^k:=by
  have:=aD (by omega) (ha.take k)
  rwa [List.length_take,Nat.min_eq_left (by omega)] at this
 have lb:val (b.take k)<18446744073709551616^k:=by
  have:=aD (by omega) (hb.take k)
  rwa [List.length_take,Nat.min_eq_left (by omega)] at this
 generalize a.getD k 0=x at *;generalize b.getD k 0=y at *;generalize 18446744073709551616^(k+1)*val (a.drop (k+1))=H at *;generalize val (a.take k)=p at *;generalize val (b.take k)=q at *;generalize 18446744073709551616^k=M at *;rcases Nat.lt_or_gt_of_ne d with h | h
 ·have:M*(x+1)≤M*y:=Nat.mul_le_mul_left _ h;rw [Nat.mul_add,Nat.mul_one] at this;rw [fw h,fw (by omega)]
 ·have:M*(y+1)≤M*x:=Nat.mul_le_mul_left _ h;rw [Nat.mul_add,Nat.mul_one] at this;rw [g8 h,g8 (by omega)]

theorem iJ {x y:Nat}:cS x y=0↔x=y:=by
 unfold cS;by_cases h:x<y
 ·rw [if_pos h];constructor <;> intro h2 <;> omega
 ·rw [if_neg h];by_cases h2:x=y
  ·simp [h2]
  ·rw [if_neg h2];constructor <;> intro h3 <;> omega

attribute [local go_sem] Oper.semAt_some

theorem nH {L r j:Nat}:j ∈ cu L r↔r≤j∧j<L:=by
 unfold cu;simp only [List.mem_map,List.mem_range];constructor
 ·rintro ⟨i,hi,rfl⟩;omega
 ·rintro ⟨h1,h2⟩;exact ⟨L-1-j,by omega,by omega⟩

theorem om {L r:Nat} {a:List (Fin L)} (h:a.map Fin.val=cu L r) {j:Nat} (h1:r≤j) (h2:j<L):∃ x ∈ a,x.val=j:=by
 have:j ∈ a.map Fin.val:=by rw [h];exact nH.2 ⟨h1,h2⟩
 simpa using this

theorem rF {L r:Nat} {a:List (Fin L)} {x:Fin L} (hr:r<L) (h:(a ++ [x]).map Fin.val=cu L r):x.val=r∧a.map Fin.val=cu L (r+1):=by
 rw [f8 hr,List.map_append] at h;obtain ⟨h1,h2⟩:=List.append_inj' h (by simp);exact ⟨by simpa using h2,h1⟩

theorem iU (u v:Value) (xs ys:List Nat) (w:World) (hu:Row .u64 w u xs) (hv:Row .u64 w v ys) (O:Digs xs) (P:Digs ys) :
  Calls Tryz.prog 64 #[u,v] w fun r w'=>r=.returned (.int .i64 (cS (val xs) (val ys)))∧Kept ae w w':=by
 obtain ⟨R,hR⟩:∃ R,R=cS (val xs) (val ys):=⟨_,rfl⟩
 rw [← hR];have HR:Hid (R=cS (val xs) (val ys)):=hR;clear hR;have X:=fun ao n d (e:u=.slice ao n d) W (hk:Kept ae w W)=>tN ao n d xs W (e ▸ hu.grew hk) O
 have Y:=fun ao n d (e:v=.slice ao n d) W (hk:Kept ae w W)=>tN ao n d ys W (e ▸ hv.grew hk) P
 obtain ⟨ao,n,d,rfl,ai,c1,c2,c3,aC⟩:=hu.open;obtain ⟨bo,m,a,rfl,aj,d1,d2,d3,aD⟩:=hv.open;have X:=X ao n d rfl;have Y:=Y bo m a rfl;obtain ⟨A,hA,lA,dA,vA,gA⟩:=l8 O;obtain ⟨B,hB,lB,dB,vB,gB⟩:=l8 P;have rA:Row .u64 w (.slice ao (ah (val xs)) d) A:=hA ▸ hu.cut (fU O);have rB:Row .u64 w (.slice bo (ah (val ys)) a) B:=hB ▸ hv.cut (fU P);have HW:Hid (cS (ah (val xs)) (ah (val ys))=0∨cS (ah (val xs)) (ah (val ys))=R):=by
  unfold Hid;rw [HR.out];by_cases e:ah (val xs)=ah (val ys)
  ·exact .inl (iJ.2 e)
  ·exact .inr (ru e)
 rw [← vA,← vB] at HR;clear hA hB gA gB vA vB hu hv aC aD;have w1:ah (val xs)≤n:=by have:=fU O;have:=ai.out;omega
 have w2:ah (val ys)≤m:=by have:=fU P;have:=aj.out;omega
 clear O P ai aj;generalize ah (val xs)=p at *;generalize ah (val ys)=q at *;refine (callsIn_wide (n:=9)).1 ?_;refine callsIn_of_wp_marks Tryz.func64 rfl trivial ?_ rfl;simp only [Tryz.ntmps64,List.size_toArray,List.length_cons,List.length_nil,Nat.reduceAdd,Nat.reduceSub,Array.replicate_succ,Array.replicate_zero,List.push_toArray,List.append_toArray,List.nil_append,List.cons_append];refine wpIn_wide.2 ?_;go_wp2_with fail;have G:Kept ae w ((w.alloc (.cells #[.slice bo m a] 23)).alloc (.cells #[.int .i64 0] 3)):=((ag ae w).alloc _).alloc _
 have ak:((w.alloc (.cells #[.slice bo m a] 23)).alloc (.cells #[.int .i64 0] 3)).cell? ⟨w.heap.size,0,none⟩=some (.slice bo m a):=((Boxed.new w 23 (.slice bo m a)).alloc _).cell;have aA:((w.alloc (.cells #[.slice bo m a] 23)).alloc (.cells #[.int .i64 0] 3)).frozen? ⟨w.heap.size,0,none⟩=false:=((Boxed.new w 23 (.slice bo m a)).alloc _).frozen;have al:((w.alloc (.cells #[.slice bo m a] 23)).alloc (.cells #[.int .i64 0] 3)).cell? ⟨w.heap.size+1,0,none⟩=some (.int .i64 0):=by have:=(Boxed.new (w.alloc (.cells #[.slice bo m a] 23)) 3 (.int .i64 0)).cell;rwa [World.size_alloc] at this
 have an:((w.alloc (.cells #[.slice bo m a] 23)).alloc (.cells #[.int .i64 0] 3)).frozen? ⟨w.heap.size+1,0,none⟩=false:=by have:=(Boxed.new (w.alloc (.cells #[.slice bo m a] 23)) 3 (.int .i64 0)).frozen;rwa [World.size_alloc] at this
 have aq:((w.alloc (.cells #[.slice bo m a] 23)).alloc (.cells #[.int .i64 0] 3)).heap.size=w.heap.size+2:=by simp
 generalize hw1:(w.alloc (.cells #[.slice bo m a] 23)).alloc (.cells #[.int .i64 0] 3)=W1 at *;clear hw1
 refine Code.wp_mono (Q:=Exit.then (fun a' w'=>a'={ tmps:=#[.slice ao p d,.slice bo m a,undef,.pointer (some ⟨w.heap.size,0,none⟩),.pointer (some ⟨w.heap.size+1,0,none⟩),undef,undef,undef,undef,.slice ao n d,.slice ao p d,.slice bo m a,.slice bo q a,undef,undef,undef,undef,undef,undef,undef,undef,undef,undef,undef,undef,undef,undef,undef,undef,undef,undef,undef,undef,undef],defers:=[] }∧w'.cell? ⟨w.heap.size,0,none⟩=some (.slice bo q a)∧w'.cell? ⟨w.heap.size+1,0,none⟩=some (.int .i64 0)∧w'.frozen? ⟨w.heap.size+1,0,none⟩=false∧w'.heap.size=w.heap.size+2∧Kept ae w w') (fun _ _ _=>False)) ?_ ?_
 ·rintro e a' w' h;cases e with
  | normal=>
   obtain ⟨rfl,ay,ac,az,I,af⟩:=h;have hC:=Any.cmp_Compare_int Dm (p:Int) (q:Int) w';rw [zZ] at hC;clear X Y G ak aA al an aq;by_cases hpq:p=q
   ·subst hpq;rw [iI rfl] at hC;clear HW;have hD:=callsIn_wide.1 (vZ Fence.wide 0 trivial rfl ao p d w');go_wp2_with fail;refine hC.mono ?_;rintro e w3 ⟨rfl,rfl⟩;go_wp2_with fail;refine hD.mono ?_;rintro e w4 ⟨rfl,rfl⟩;clear hC hD;have bN:=Boxed.new w3 23 (.slice ao p d);rw [I] at bN;have z:∀ b,(Value.slice ao p d).ownBlock=some b→0<p→b<w.heap.size:=by
     intro b hb hp;obtain ⟨aH,n',au,e1,aB,_,_,_,h4⟩:=rA.open;cases e1
     obtain ⟨b',off,rfl,hc⟩:=h4 0 hp;cases hb
     exact World.block_lt_of_cell? w _ hc
    have ax:Below w.heap.size w (w3.alloc (.cells #[.slice ao p d] 23)):=(af.alloc _).below (leR _) (fun _ f=>f.elim);have aa:=rA.grew (af.alloc (.cells #[.slice ao p d] 23));have Z:Hid (∀ W,Below w.heap.size w W→Row .u64 W (.slice bo p a) B):=fun W hb=>rB.kept (S:=ae) ⟨hb.os,hb.tape,hb.output,hb.size,fun k hk _=>hb.block k hk⟩ (fun _ _ f=>f)
    go_wp2_with fail;obtain ⟨g,hg⟩:∃ g:Nat→Nat,∀ j,A.getD j 0=g j:=⟨_,fun _=>rfl⟩
    refine (wpIn_wide (n:=9)).1 ?_;refine wpIn_rangeFunc_ownG (F:=Fence.wide) (n:=9) rfl (by omega) (gf:=173) (lb:=#[.pointer (some ⟨w.heap.size+2,0,none⟩)]) rfl trivial (enters_of Tryz.func173 (by kernel_rfl) rfl)
     (rE Fence.wide 8 trivial rfl (by omega) (w.heap.size+2) p g (.slice ao p d) A lA hg (fun k=>k=w.heap.size+2∨((Value.slice ao p d).ownBlock=some k∧0<p)) (.inl rfl) (fun b hb hp=>.inr ⟨hb,hp⟩) _ ?hsw bN.cell aa) KeepB.trans (KeepB.put ?hsw2) (Below.refl _ _) (fun _=>rfl)
     (fun L W=>((∀ x ∈ L,g x.val=B.getD x.val 0)∧W.cell? ⟨w.heap.size,0,none⟩=some (.slice bo p a)∧W.cell? ⟨w.heap.size+1,0,none⟩=some (.int .i64 0)∧W.frozen? ⟨w.heap.size+1,0,none⟩=false)∧Below w.heap.size w W)
     (fun c L W=>(c=.ret∧∃ V o,L=V ++ [o]∧(∀ x ∈ V,g x.val=B.getD x.val 0)∧g o.val≠B.getD o.val 0∧W.cell? ⟨w.heap.size+1,0,none⟩=some (.int .i64 (cS (g o.val) (B.getD o.val 0))))∧Below w.heap.size w W)
     (OwnFrom.and (Own.from (fun s A B aG hs hg hr=>⟨hs.1,cell_kept hs.2.1 hg hr,cell_kept hs.2.2.1 hg hr,(frozen_kept hs.2.2.1 hg hr).trans hs.2.2.2⟩) _) (ownFrom_below (leR _) (by simp;omega)))
     (fun c=>OwnFrom.and (Own.from (fun s A B aG hs hg hr=>by obtain ⟨hc,V,o,e1,e2,e3,e4⟩:=hs;exact ⟨hc,V,o,e1,e2,e3,cell_kept e4 hg hr⟩) _) (ownFrom_below (leR _) (by simp;omega)))
     ⟨⟨by simp,zj _ ay,zj _ ac,xq _ ac az⟩,ax⟩
     ?act ?assign ?body ?done ?stop
    case hsw=>
     rintro k (rfl | ⟨hk,hp⟩)
     ·simp [I]
     ·have:=z k hk hp;simp [I];omega
    case hsw2=>
     rintro k (rfl | ⟨hk,hp⟩)
     ·simp [I]
     ·have:=z k hk hp;simp [I];omega
    case assign=>
     intro l x W K hK
     gi_wp2
     exact hK
    case body=>
     rintro l L x W ⟨⟨hp,am,E,ap⟩,hB⟩ _;obtain ⟨aI,q',av,e1,aB,_,_,_,h4⟩:=(Z.out W hB).open;cases e1
     have hx:=x.isLt;obtain ⟨b,off,rfl,hc⟩:=h4 x.val hx;have hN:=AA (g x.val) (B.getD x.val 0) W;have HP:Hid (∀ x ∈ L,g x.val=B.getD x.val 0):=hp;have HX:Hid (∃ y,y=x):=⟨_,rfl⟩
     obtain ⟨yb,J⟩:∃ yb,yb=B.getD x.val 0:=⟨_,rfl⟩
     rw [← J] at hN;rw [← J] at hc;clear h4 hp rA rB Z aa;by_cases he:g x.val=yb
     ·rw [iI he] at hN;have HE:Hid (g x.val=B.getD x.val 0):=by rw [← J];exact he
      clear J he hg
      gi_wp2_with (refine ⟨trivial,?_⟩;gi_at_call 117;refine (CallsIn.inRound l (callsIn_wide.2 hN)).mono ?_;rintro e w' ⟨rfl,rfl⟩)
      refine ⟨KeepsFrom.refl _ _,KeepB.refl _ _,⟨fun y hy=>?_,am,E,ap⟩,hB⟩;rcases List.mem_append.1 hy with h | h
      ·exact HP.out y h
      ·rw [List.mem_singleton.1 h];exact HE.out
     ·have h0:cS (g x.val) yb≠0:=fun h=>he (iJ.1 h)
      have HC:Hid (cS (g x.val) yb=cS (g x.val) (B.getD x.val 0)):=by rw [J];rfl
      have HE:Hid (g x.val≠B.getD x.val 0):=by rw [← J];exact he
      generalize cS (g x.val) yb=C at *;clear J he hg
      gi_wp2_with (refine ⟨trivial,?_⟩;gi_at_call 117;refine (CallsIn.inRound l (callsIn_wide.2 hN)).mono ?_;rintro e w' ⟨rfl,rfl⟩)
      exact ⟨(KeepsOthers.setCell _ _ _).from _,⟨rfl,L,x,rfl,HP.out,HE.out,by rw [← HC.out];exact World.cell?_setCell_same _ _ _ E⟩,hB.setCell (p:=⟨w.heap.size+1,0,none⟩) (by simp) _⟩
    case done=>
     rintro D ys W hD ar ⟨⟨M,am,E,ap⟩,hB⟩ hK;have aw:A=B:=by
      apply List.ext_getElem
      ·rw [lA,lB]
      ·intro i h1 h2;obtain ⟨x,hx,aE⟩:=om ar (Nat.zero_le i) (show i<p by omega);have:=M x hx;rw [aE,← hg,List.getD_eq_getElem?_getD,List.getD_eq_getElem?_getD,List.getElem?_eq_getElem h1,List.getElem?_eq_getElem h2] at this;simpa using this
     rw [aw,iI rfl] at HR;clear M ar rA rB Z aa z hg;go_wp2;have ab:=(KeepsOthers.setCell W ⟨w.heap.size+1,0,none⟩ (.int .i64 0)).same D _ hK rfl;refine ⟨by simp,.inl ⟨_,_,rfl,run_takeDeferred ab,?_⟩⟩;have N:=cell_kept (World.cell?_setCell_same W ⟨w.heap.size+1,0,none⟩ (.int .i64 0) E) (grownBy_putObj' _ D (.deferred none)) (fun r e=>by cases e;exact ⟨_,ab,rfl⟩);have t:=(hB.setCell (p:=⟨w.heap.size+1,0,none⟩) (by simp) (.int .i64 0)).trans (belowK_b (w:=w) (leR _) _ D _ (.deferred none) (by simp [I] at hD;omega) ab rfl rfl);refine ⟨.int .i64 0,?_,by rw [HR.out],⟨t.os,t.tape,t.output,t.size,fun k hk _=>t.block k hk⟩⟩;simp [results,Tryz.f64,go_sem,N]
    case stop=>
     rintro D c L W hD ⟨r,hr,U⟩ ⟨⟨rfl,V,o,rfl,e2,e3,E⟩,hB⟩ hK;obtain ⟨H,T⟩:=rF hr U;rw [H,← hg] at e3 E;have ad:=Aa dA dB (by rw [lA,lB]) (show r<A.length by omega) (fun j h1 h2=>by
      obtain ⟨x,hx,aF⟩:=om T h1 (show j<p by omega);have:=e2 x hx
      rwa [aF,← hg] at this) e3
     rw [ad,← HR.out] at E;clear e2 e3 U T H rA rB Z aa z hg
     gi_wp2
     refine ⟨by simp,.inl ⟨_,_,rfl,run_takeDeferred hK,?_⟩⟩;have N:=cell_kept E (grownBy_putObj' _ D (.deferred none)) (fun r e=>by cases e;exact ⟨_,hK,rfl⟩);have t:=hB.trans (belowK_b (w:=w) (leR _) W D _ (.deferred none) (by simp [I] at hD;omega) hK rfl rfl);refine ⟨.int .i64 R,?_,rfl,⟨t.os,t.tape,t.output,t.size,fun k hk _=>t.block k hk⟩⟩;simp [results,Tryz.f64,go_sem,N]
   ·rw [show cS p q=R from HW.out.resolve_left (fun h=>hpq (iJ.1 h))] at hC;have aJ:R≠0:=by
     rw [← HW.out.resolve_left (fun h=>hpq (iJ.1 h))];exact fun h=>hpq (iJ.1 h)
    go_wp2_with fail;refine hC.mono ?_;rintro e w3 ⟨rfl,rfl⟩;go_wp2;have N:=World.cell?_setCell_same w3 ⟨w.heap.size+1,0,none⟩ (.int .i64 R) ac;refine ⟨.int .i64 R,?_,rfl,af.setCell ⟨w.heap.size+1,0,none⟩ (fun h=>absurd h (by simp)) _⟩;simp [results,Tryz.f64,go_sem,N]
  | _=>exact h.elim
 ·go_region_with (first
   | (go_at_call_of 114 ao;refine (X _ ?_).mono ?_;(first | exact G | exact G.drew | exact G.drewN _);rintro e w' ⟨rfl,rfl⟩)
   | (go_at_call_of 114 bo;refine (Y _ ?_).mono ?_;(first | exact G | exact G.drew | exact G.drewN _);rintro e w' ⟨rfl,rfl⟩))
  all_goals exact ⟨rfl,World.cell?_setCell_same _ _ _ ak,(World.cell?_setCell_other _ _ _ _ (by simp)).trans al,(World.frozen?_setCell _ _ _ _).trans an,by simpa using aq,(G.setCell ⟨w.heap.size,0,none⟩ (fun h=>absurd h (by simp)) _).drew⟩

end Go.Proofs.YtkaojflnghfmcaaGreatDoor
