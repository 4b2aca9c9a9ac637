/- Put together of: Pro2 MonA. -/
import Derived.Test.YtcemlfokmjjiaaaGreatDoorPf12

namespace Go.Proofs.YtcemlfokmjjiaaaGreatDoor
set_option maxRecDepth 100000
set_option maxHeartbeats 4000000
open Go.RowKit

theorem Box.did {w w':World} {o o':Tr} {m:List Ev} {b:Nat} {v:Value} {t:TypeId} (h:Box w b v t) (d:Did w o m w' o') (ht:TrIn w o) (h1:t≠225) (h2:t≠189):Box w' b v t:=h.kept d.kept (ay h ht h1 h2)

theorem Box.apart {w:World} {o:Tr} {b:Nat} {v:Value} {t:TypeId} (h:Box w b v t) (ht:TrIn w o) (h1:t≠225) (h2:t≠189):¬ dx o b:=ay h ht h1 h2

theorem aI (o:Tr):∃ po,aE o=.pointer po:=by
 cases o with
 | none=>exact ⟨_,rfl⟩
 | some x=>exact ⟨_,rfl⟩

theorem BD (o:Tr) (ao bo:Option Addr) (L M cap c:Nat) (xs ys:List Nat) (bT bA bB bO:Nat) (w:World) (ht:TrRoom w o 300) (hu:RowT w o (.slice ao L cap) xs) (hv:RowT w o (.slice bo M c) ys) (h:Digs xs) (d:Digs ys)
  (hT:Box w bT (aE o) 127) (hA:Box w bA (.slice ao L cap) 32) (hB:Box w bB (.slice bo M c) 32) (hO:Box w bO (.slice none 0 0) 32) :
  Calls Tryz.prog 96 #[.pointer (some ⟨bA,0,none⟩),.pointer (some ⟨bB,0,none⟩),.pointer (some ⟨bT,0,none⟩),.pointer (some ⟨bO,0,none⟩)] w fun e w'=>
   ((L≤300∧M≤300)∧e=.returned (.tuple #[])∧∃ v' w1 o',v'=.slice (some ⟨w.heap.size,0,none⟩) (L+M) (L+M)∧OwnN .u64 23 w1 w.heap.size v' (L+M) (digs (val xs*val ys) (L+M))∧Did w o (List.replicate L (1,(M:Nat),0)) w1 o'∧Kept (fun b=>b=bO) w1 w'∧Box w' bO v' 32) ∨
   (¬ (L≤300∧M≤300)∧e=.panicked [refusal 2]∧w'=w):=by
 obtain ⟨_,_,_,e1,g,_,_,_,_⟩:=hu.1.open;cases e1
 obtain ⟨_,_,_,e1,f,_,_,_,_⟩:=hv.1.open;cases e1
 have eL:=g.out;have eM:=f.out;have hP:=fun W=>sP ao bo L M cap c W
 have hR:=fun W (k:Kept af w W) (l1:L≤300) (l2:M≤300)=>Cf o _ _ xs ys W ((ht.less (by omega)).grew k) (hu.grew k) (hv.grew k) h d (by omega) (by omega)
 rw [eL,eM] at hR;obtain ⟨po,i⟩:=aI o;rw [i] at hR hT;have cT:=hT.cell;have cA:=hA.cell;have cB:=hB.cell;have HO:=aa hO;have HT:=aa ht.1;clear hu hv h d g f eL eM i hT hA hB hO ht;go_enter Tryz.func96,Tryz.ntmps96;go_wp2_with fail;refine (hP _).mono ?_;rintro e w1 ⟨⟨l1,l2,rfl⟩ | ⟨l1,rfl⟩,rfl⟩
 ·go_wp2_with fail;refine (hR _ (ai _ _) l1 l2).mono ?_;rintro e w2 ⟨v',rfl,rfl,ho,o',hd⟩;have a:=HO.out.did hd HT.out (by decide) (by decide);have cO:=a.cell;have fO:=a.free;have HD:=aa hd;have j:=aa ho;have l:=aa a;clear hP hR cT cA cB hd ho a;go_wp2_with fail;go_end0
  exact .inl ⟨⟨l1,l2⟩,rfl,_,_,o',rfl,j.out,HD.out,ar _ _ _,l.out.set _⟩
 ·exact ⟨rfl,.inr ⟨l1,rfl,rfl⟩⟩

def fF (X Y L M:Nat):List Nat:=if L≤300∧M≤300 then digs (X*Y) (L+M) else []

def j5 (L M:Nat):List Ev:=if L≤300∧M≤300 then List.replicate L (1,((M:Nat):Int),0) else []

theorem yU (o:Tr) (ao bo:Option Addr) (L M cap i:Nat) (xs ys:List Nat) (w:World) (ht:TrRoom w o 300) (hu:RowT w o (.slice ao L cap) xs) (hv:RowT w o (.slice bo M i) ys) (E:Digs xs) (C:Digs ys) :
  Calls Tryz.prog 50 #[aE o,.slice ao L cap,.slice bo M i] w fun e w'=>∃ v',e=.returned v' ∧
   Row .u64 w' v' (fF (val xs) (val ys) L M)∧(∀ b,v'.ownBlock=some b→w.heap.size≤b)∧(L≤300∧M≤300→∃ g,w.heap.size≤g∧v'=.slice (some ⟨g,0,none⟩) (L+M) (L+M)∧OwnN .u64 23 w' g v' (L+M) (digs (val xs*val ys) (L+M)))∧∃ o',Did w o (j5 L M) w' o':=by
 have I:=eR;obtain ⟨po,z⟩:=aI o;have A:=jI w (.pointer po) (.slice ao L cap) (.slice bo M i) (.slice none 0 0) 127 32 32 32;have he:∀ args w,(callFunc 96 args).run Tryz.prog w=.ok (.enter 96 args) w:=fun _ _=>by simp [go_sem]
 rw [z];go_enter Tryz.func50,Tryz.ntmps50;go_wp2_with fail;generalize (((w.alloc (.cells #[.pointer po] 127)).alloc (.cells #[.slice ao L cap] 32)).alloc (.cells #[.slice bo M i] 32)).alloc (.cells #[.slice none 0 0] 32)=W at *;obtain ⟨k0,x1,x2,x3,x4,hs⟩:=A;have k1:=k0.alloc (.cells #[.int .i64 0] 33);have xe:=Box.new W (.int .i64 0) 33;have h1:=BD o ao bo L M cap i xs ys _ _ _ _ _ (ht.grew k1) (hu.grew k1) (hv.grew k1) E C (by rw [z];exact x1.alloc _) (x2.alloc _) (x3.alloc _) (x4.alloc (.cells #[.int .i64 0] 33))
 refine (iP 96 _ W (fun n W'=>(n=0∧(L≤300∧M≤300)∧∃ v' o',v'=.slice (some ⟨W.heap.size+1,0,none⟩) (L+M) (L+M)∧OwnN .u64 23 W' (W.heap.size+1) v' (L+M) (digs (val xs*val ys) (L+M))∧Did w o (List.replicate L (1,(M:Nat),0)) W' o'∧Box W' (w.heap.size+1+1+1) v' 32)∨(n=2∧¬ (L≤300∧M≤300)∧Kept af w W'∧Box W' (w.heap.size+1+1+1) (.slice none 0 0) 32)) he (h1.mono ?_)).mono ?_
 ·rintro e w' (⟨hl,rfl,v',w1,o',l,ho,hd,hk,hb⟩ | ⟨hl,rfl,rfl⟩)
  ·rw [show (W.alloc (.cells #[.int .i64 0] 33)).heap.size=W.heap.size+1 by simp] at ho l;have m:=(hd.room (k:=0) ((ht.grew k1).less (by simp;omega))).1;have F:=(x4.alloc (.cells #[.int .i64 0] 33)).did hd (ht.grew k1).1 (by decide) (by decide);have G:=(xe.did hd (ht.grew k1).1 (by decide) (by decide)).kept hk (by omega);refine ⟨G,.inl ⟨rfl,.inl ⟨rfl,hl,v',o',l,hk.own ho (fun b d e=>?_),(Did.after k1 hd).wroteNew hk (by omega) (F.apart m (by decide) (by decide)),hb⟩⟩⟩;have:=(ho.lt b d).1;omega
  ·exact ⟨xe,.inr ⟨2,rfl,.inr ⟨rfl,hl,k1,x4.alloc _⟩⟩⟩
 ·rintro e w' ⟨n,w1,rfl,⟨hq,q⟩,rfl⟩;have c:Box w1 W.heap.size (.int .i64 0) 33:=q;rcases hq with ⟨rfl,hl,v',o',l,ho,hd,hb⟩ | ⟨rfl,hl,hk,hb⟩
  ·have m:=(hd.room (k:=0) (ht.less (by simp;omega))).1;have p:=hd.wroteNew (ar w1 W.heap.size (.int .i64 0)) (by omega) (c.apart m (by decide) (by decide));have s:=(ar w1 W.heap.size (.int .i64 0)).own ho (fun b d e=>by have:=(ho.lt b d).1;omega);have a:=hb.other ⟨W.heap.size,0,none⟩ (by show _≠W.heap.size;omega) (.int .i64 0);have H:=a.cell;have B:=a.free;have r:=(a.set v').cell;have y:=(ar _ (w.heap.size+1+1+1) v').own s (fun b d e=>by have:=(ho.lt b d).1;omega);have j:=(p.room (k:=0) (ht.less (by simp;omega))).1;have t:=p.wroteNew (ar _ (w.heap.size+1+1+1) v') (by omega) (a.apart j (by decide) (by decide))
   have f:Hid (∀ b,v'.ownBlock=some b→w.heap.size≤b):=fun b d=>by have:=(ho.lt b d).1;omega
   obtain ⟨xo,xc,rfl⟩:=bh ho;have D:=aa l;clear l;have HO:=aa y;have HD:=aa t;clear h1 ho hd hb s p y t m j a q c hu hv ht;generalize w1.setCell ⟨W.heap.size,0,none⟩ (.int .i64 0)=W2 at *;go_wp2_with fail;refine bodyPost_ret (v:=.slice xo (L+M) xc) (by simp [results,Tryz.results50,go_sem,r]) rfl ?_;unfold fF j5;rw [if_pos hl,if_pos hl];exact ⟨_,rfl,Row.of_own (base:=W.heap.size+1) (e:=23) (by rw [ag];exact HO.out),f.out,(fun _=>⟨_,by omega,D.out,HO.out⟩),o',HD.out⟩
  ·have k2:=hk.next (ar w1 W.heap.size (.int .i64 2)) (fun x hx e=>by omega)
   have a:=hb.other ⟨W.heap.size,0,none⟩ (by show _≠W.heap.size;omega) (.int .i64 2);have H:=a.cell;have B:=a.free;have r:=(a.set (.slice none 0 0)).cell;have HD:=aa (Did.of_kept (k2.next (ar _ (w.heap.size+1+1+1) (.slice none 0 0)) (fun x hx e=>by omega)) ht.1);clear h1 hb hu hv ht hk k2 a q c;generalize w1.setCell ⟨W.heap.size,0,none⟩ (.int .i64 2)=W2 at *;go_wp2_with fail;refine bodyPost_ret (v:=.slice none 0 0) (by simp [results,Tryz.results50,go_sem,r]) rfl ?_;unfold fF j5;rw [if_neg hl,if_neg hl];exact ⟨_,rfl,Row.nil _ _,(fun b hb=>by cases hb),(fun h=>absurd h hl),o,HD.out⟩

theorem Cy (o:Tr) (ao bo:Option Addr) (L M cap a:Nat) (xs ys:List Nat) (w:World) (ht:TrRoom w o 300) (hu:RowT w o (.slice ao L cap) xs) (hv:RowT w o (.slice bo M a) ys) (c:Digs xs) (d:Digs ys) :
  Calls Tryz.prog 50 #[aE o,.slice ao L cap,.slice bo M a] w fun e w'=>∃ v',e=.returned v' ∧
   Row .u64 w' v' (fF (val xs) (val ys) L M)∧(∀ b,v'.ownBlock=some b→w.heap.size≤b)∧∃ o',Did w o (j5 L M) w' o':=by
 refine (yU o ao bo L M cap a xs ys w ht hu hv c d).mono ?_;rintro e w' ⟨v',rfl,h1,h2,_,h3⟩;exact ⟨v',rfl,h1,h2,h3⟩

theorem BZ (v:Value) (xs:List Nat) (n:Nat) (w:World) (h:Row .u64 w v xs) (hl:xs.length≤n) (hn:n≤1000000) :
  Calls Tryz.prog 148 #[v,.int .i64 (n:Nat)] w fun e w'=>e=.returned (.slice (some ⟨w.heap.size,0,none⟩) n n)∧OwnN .u64 23 w' w.heap.size (.slice (some ⟨w.heap.size,0,none⟩) n n) n (xs ++ List.replicate (n-xs.length) 0)∧Kept af w w':=by
 obtain ⟨i0,f,o,g,l⟩:=info_parts Tryz.info23;obtain ⟨ao,q,cap,rfl,hL,_,_,_,_⟩:=h.open;have HS:Hid (∀ W,Kept af w W→0<(xs.map fun z:Nat=>Value.int .u64 (z:Int)).length→∃ ad,ao=some ad∧∀ j u,(xs.map fun z:Nat=>Value.int .u64 (z:Int))[j]? = some u→W.cell? (ad.add j)=some u):=fun W hk hp=>h.source hk hp
 have HO:=aa (gQ .u64 xs);have d:Hid ((xs.map fun z:Nat=>Value.int .u64 (z:Int)).length=q):=by unfold Hid;rw [List.length_map];exact hL.out
 obtain ⟨CS,c⟩:∃ CS,CS=xs.map (fun z:Nat=>Value.int .u64 (z:Int)):=⟨_,rfl⟩
 rw [← c] at HS HO d;have p:Hid (CS=xs.map (fun z:Nat=>Value.int .u64 (z:Int))):=c;have hq:q≤n:=by rw [← hL.out];exact hl
 clear c h hl;go_enter Tryz.func148,Tryz.ntmps148;go_wp2_with (at_make;refine wpList_make_full _ rfl _ _ 32 rfl w.heap.size 23 i0 _ 1 Tryz.underlying32 f o g _ _ _ _ n rfl rfl rfl rfl (by rw [l];omega) (by unfold maxLen;omega) (leR _) ?_;intro w1 b i;rw [aG] at b;have k1:=aD i;obtain ⟨w2,m,k,k2⟩:=df (P:=Tryz.prog) 32 32 3 23 w.heap.size 0 n n (some ⟨w.heap.size,0,none⟩) ao q cap _ 23 CS Tryz.underlying32 (by rw [f];simp [g]) (et b) (by rw [d.out];exact (Nat.min_eq_left hq).symm) (fun hp=>⟨rfl,HS.out _ k1 hp⟩) (by have:=d.out;simp;omega) HO.out;have r:Hid _:=k;clear k b i);go_ret;have a:=r.out
 rw [p.out,dU] at a;have kk:=cP k1 k2 (leR _);exact ⟨rfl,cl a (by simp [hL.out];omega) (by unfold maxLen;omega) (leR _),kk⟩

def tT (X W Y L M:Nat):List Nat:=if L≤300∧M≤300 then digs (Y+X*W) (max L M) else []

def pS (X W Y L M:Nat):Nat:=if L≤300∧M≤300 then (Y+X*W)/18446744073709551616^max L M else 0

def sf (L M:Nat):List Ev:=if L≤300∧M≤300 then [(1,((max L M:Nat):Int),0)] else []

theorem n9 {ys:List Nat} (n:Nat):val (ys ++ List.replicate n 0)=val ys:=by
 rw [bG,cN _ (fun d hd=>(List.mem_replicate.1 hd).2),Nat.mul_zero,Nat.add_zero]

theorem aY {w:World} {base n:Nat} {v:Value} {zs:List Nat} (h:OwnN .u64 23 w base v n zs) (hl:zs.length=n):Row .u64 w v zs:=
 Row.of_own (base:=base) (e:=23) (by rw [hl];exact h)

theorem kU {ys:List Nat} (h:Digs ys) (n:Nat):Digs (ys ++ List.replicate n 0):=h.append (fun d hd=>by rw [(List.mem_replicate.1 hd).2];omega)

theorem ri (o:Tr) (ao bo:Option Addr) (L M cap G:Nat) (xs ys:List Nat) (x:Nat) (hx:x<18446744073709551616) (bT bA bB bO bW bU N:Nat) (hN:N=max L M) (w:World) (ht:TrRoom w o 300) (hu:RowT w o (.slice ao L cap) xs) (hv:RowT w o (.slice bo M G) ys) (T:Digs xs) (Z:Digs ys)
  (hT:Box w bT (aE o) 127) (hA:Box w bA (.slice ao L cap) 32) (hB:Box w bB (.slice bo M G) 32) (hO:Box w bO (.slice none 0 0) 32) (hW:Box w bW (.int .u64 (x:Nat)) 23) (hU:Box w bU (.int .u64 0) 23) (y:bO≠bU) (ag:bA≠bO) (aq:bW≠bO) (aw:bA≠bU) (ak:bW≠bU) (aH:xs≠[]→∀ b,(Value.slice ao L cap).ownBlock=some b→b≠bO) (X Y R:Nat) (hX:X=val xs) (hY:Y=val ys) (hR:R=(Y+X*x)/18446744073709551616^N) :
  Calls Tryz.prog 147 #[.pointer (some ⟨bA,0,none⟩),.pointer (some ⟨bB,0,none⟩),.pointer (some ⟨bT,0,none⟩),.pointer (some ⟨bO,0,none⟩),.pointer (some ⟨bW,0,none⟩),.pointer (some ⟨bU,0,none⟩)] w fun e w'=>
   ((L≤300∧M≤300)∧e=.returned (.tuple #[])∧∃ v' w1 o',OwnN .u64 23 w' w.heap.size v' N (digs (Y+X*x) N)∧Did w o [(1,(N:Int),0)] w1 o'∧Kept (fun b=>b=bO∨b=bU∨w1.heap.size≤b) w1 w'∧Box w' bO v' 32∧Box w' bU (.int .u64 (R:Nat)) 23) ∨
   (¬ (L≤300∧M≤300)∧e=.panicked [refusal 2]∧w'=w):=by
 obtain ⟨_,_,_,e1,S,_,_,_,_⟩:=hu.1.open;cases e1
 obtain ⟨_,_,_,e1,ab,_,_,_,_⟩:=hv.1.open;cases e1
 have eL:=S.out;have eM:=ab.out;have hP:=fun W=>sP ao bo L M cap G W
 obtain ⟨po,ac⟩:=aI o;have hS:=fun (n:Int)=>dC o n w ht.1
 rw [ac] at hS hT;have cT:=hT.cell;have cA:=hA.cell;have cB:=hB.cell;have HO:=aa hO;have HT:=aa ht;have HU:=aa hu;have HV:=aa hv;have HA:=aa hA;have HB:=aa hB;have HW:=aa hW;have aJ:=aa hU;have aD:=aa T;have am:=aa Z;clear hu hv T Z S ab ac hT hA hB hO ht hW hU;go_enter Tryz.func147,Tryz.ntmps147;go_wp2_with fail;refine (hP _).mono ?_;rintro e w1 ⟨⟨l1,l2,rfl⟩ | ⟨l1,rfl⟩,rfl⟩
 ·have gN:max (L:Int) (M:Int)=(N:Int):=by omega
  have aN:L≤N:=by omega
  have aP:M≤N:=by omega
  have aM:N≤300:=by omega
  clear hN hP;go_wp2_with fail;refine (hS _).mono ?_;rintro e w2 ⟨rfl,o2,d2⟩;have p:=HT.out.1;have D:=HO.out.did d2 p (by decide) (by decide);have E:=HA.out.did d2 p (by decide) (by decide);have A:=HW.out.did d2 p (by decide) (by decide);have z:=aJ.out.did d2 p (by decide) (by decide);have P:=HB.out.did d2 p (by decide) (by decide);have V:=(HU.out.did d2).1;have O:=(HV.out.did d2).1;have aB:=P.cell;have U:=BZ _ ys N w2 O (by omega) (by omega);clear hS;go_wp2_with fail;refine U.mono ?_;rintro e w3 ⟨rfl,s,k3⟩;have a:=D.grew k3;have aF:=a.cell;have ax:=a.free;obtain ⟨g,hg⟩:∃ g,g=w2.heap.size:=⟨_,rfl⟩
  rw [← hg] at s ⊢;have ah:=D.lt;have aG:=z.lt;have h:=a.set (.slice (some ⟨g,0,none⟩) N N);have j:=((E.grew k3).kept (ar w3 bO (.slice (some ⟨g,0,none⟩) N N)) ag)
  have i:=((A.grew k3).kept (ar w3 bO (.slice (some ⟨g,0,none⟩) N N)) aq)
  have l:=((z.grew k3).kept (ar w3 bO (.slice (some ⟨g,0,none⟩) N N)) (fun e=>y e.symm))
  have C:=(ar w3 bO (.slice (some ⟨g,0,none⟩) N N)).own s (fun b q e=>by have:=(s.lt b q).1;omega);have HG:=aa hg;have F:Kept (fun b=>b=bO) w2 (w3.setCell ⟨bO,0,none⟩ (.slice (some ⟨g,0,none⟩) N N)):=k3.any.trans (ar w3 bO _);clear hg;go_wp2_with fail;generalize w3.setCell ⟨bO,0,none⟩ (.slice (some ⟨g,0,none⟩) N N)=W4 at *;have Q:Row .u64 W4 (.slice ao L cap) xs:=V.kept' F (fun J b hb e=>aH J b hb e)
  have ap:∀ W,Kept af W4 W→Calls Tryz.prog 148 #[.slice ao L cap,.int .i64 (N:Int)] W fun e w'=>∃ b0,e=.returned (.slice (some ⟨b0,0,none⟩) N N)∧W4.heap.size≤b0∧Row .u64 w' (.slice (some ⟨b0,0,none⟩) N N) (xs ++ List.replicate (N-xs.length) 0)∧Kept af W4 w':=fun W k=>by
   refine (BZ _ xs N W (Q.grew k) (by omega) (by omega)).mono ?_;rintro e w' ⟨rfl,ho,kk⟩;exact ⟨_,rfl,k.size,aY ho (by simp;omega),k.trans kk⟩
  have az:g<W4.heap.size:=cW C;have al:∀ W b0,Kept af W4 W→W4.heap.size≤b0→Row .u64 W (.slice (some ⟨b0,0,none⟩) N N) (xs ++ List.replicate (N-xs.length) 0)→Calls Tryz.prog 136 #[.slice (some ⟨g,0,none⟩) N N,.slice (some ⟨b0,0,none⟩) N N,.int .u64 (x:Nat)] W fun e w'=>e=.returned (.int .u64 (R:Nat))∧OwnN .u64 23 w' g (.slice (some ⟨g,0,none⟩) N N) N (digs (Y+X*x) N)∧Kept (fun b=>b=g) W4 w':=fun W b0 k ad hr=>by
   refine (lF g g N N 0 N N x _ _ _ W (k.own C (fun _ _ f=>f)) (by simp;omega) (kU am.out _) (by omega) hr (by simp;omega) (kU aD.out _) (fun _ b hb e=>by simp [Value.ownBlock] at hb;omega) hx R (Y+X*x) (by rw [List.drop_zero,List.take_of_length_le (by simp;omega),n9,n9,hY,hX]) hR).mono ?_;rintro e w' ⟨rfl,ho,kk⟩;rw [List.take_zero,List.nil_append,List.drop_of_length_le (by simp;omega),List.append_nil] at ho;exact ⟨rfl,ho,k.any.trans kk⟩
  have aA:=h.cell;have au:=j.cell;have av:=i.cell;have I:=aa h;have H:=aa l;have t:=aa j;have v:=aa i;have aC:bA≠g:=by have:=E.lt;have:=HG.out;omega
  have an:bW≠g:=by have:=A.lt;have:=HG.out;omega
  have ay:bO≠g:=by have:=HG.out;omega
  have aj:bU≠g:=by have:=HG.out;omega
  have B:=aa F;have ae:=aa d2;clear h j i l C F Q D E A z P V O aB U s k3 a aF ax cT cA cB hX hY hR d2;go_region_held3 (fun w'=>w'.cell? ⟨bO,0,none⟩=some (.slice (some ⟨g,0,none⟩) N N)∧w'.cell? ⟨bA,0,none⟩=some (.slice ao L cap)∧w'.cell? ⟨bW,0,none⟩=some (.int .u64 (x:Int)))
   (((try dsimp only);(repeat' apply And.intro) <;> first | (go_keep;done) | assumption | exact (d.other ⟨bU,0,none⟩ y _).cell | exact (m.other ⟨bU,0,none⟩ aw _).cell | exact (r.other ⟨bU,0,none⟩ ak _).cell))
   (first
   | (go_at_call 148;refine (ap _ ?_).mono ?_;(first | exact (ai _ _).drew | exact ai _ _);rintro e w5 ⟨b0,rfl,ad,aL,k5⟩;have p1:=k5.cellN aA;have p2:=k5.cellN au;have p3:=k5.cellN av)
   | (go_at_call 136;refine (al _ _ ?_ ad ?_).mono ?_;(exact k5);(exact aL);rintro e w6 ⟨rfl,aK,k6⟩;have c:=H.out.kept k6 aj;have d:=I.out.kept k6 ay;have m:=t.out.kept k6 aC;have r:=v.out.kept k6 an;have q1:=d.cell;have q2:=m.cell;have q3:=r.cell;have c6:=c.cell;have f6:=c.free))
  all_goals
   go_end0
   have aO:w2.heap.size≤g:=by have:=HG.out;omega
   have kk:Kept (fun b=>b=bO∨b=bU∨w2.heap.size≤b) w2 (w6.setCell ⟨bU,0,none⟩ (.int .u64 (R:Int))):=((B.out.mono (fun _ _ e=>.inl e)).next k6 (fun b _ e=>.inr (.inr (by omega)))).next (ar w6 bU _) (fun b _ e=>.inr (.inl e))
   exact .inl ⟨⟨l1,l2⟩,rfl,_,w2,o2,aZ ((ar w6 bU _).own aK (fun b q e=>by simp [Value.ownBlock] at q;omega)) (fun b q=>by simp [Value.ownBlock] at q;have:=ae.out.size;omega),ae.out,kk,d.other ⟨bU,0,none⟩ y _,c.set _⟩
 ·exact ⟨rfl,.inr ⟨l1,rfl,rfl⟩⟩

theorem Did.wroteSome {S:Nat→Prop} {w w' w2:World} {o o':Tr} {m:List Ev} (d:Did w o m w' o') (k:Kept S w' w2) (hS:∀ b,S b→w.heap.size≤b∧¬ dx o' b):Did w o m w2 o':=by
 refine ⟨d.1.next k (fun x hx e=>by have:=(hS x e).1;omega),?_⟩;rcases d.2 with h1 | ⟨p,g,l,g',e1,e2,ht,hg⟩
 ·exact .inl h1
 ·subst e2;exact .inr ⟨p,g,l,g',e1,rfl,ht.kept k (fun e=>(hS p e).2 (.inl rfl)) (fun x hx e=>(hS x e).2 (.inr hx)),hg⟩

theorem x9 {w:World} {o:Tr} (ht:TrIn w o) {b:Nat} (hf:dx o b):b<w.heap.size:=ht.foot b hf

theorem qM (o:Tr) (ao bo:Option Addr) (L M cap q:Nat) (xs ys:List Nat) (x:Nat) (hx:x<18446744073709551616) (c:Nat) (hc:c=pS (val xs) x (val ys) L M) (w:World) (ht:TrRoom w o 300) (hu:RowT w o (.slice ao L cap) xs) (hv:RowT w o (.slice bo M q) ys) (O:Digs xs) (F:Digs ys) :
  Calls Tryz.prog 103 #[aE o,.slice ao L cap,.int .u64 (x:Nat),.slice bo M q] w fun e w'=>∃ v',e=.returned (.tuple #[v',.int .u64 (c:Nat)]) ∧
   Row .u64 w' v' (tT (val xs) x (val ys) L M)∧(L≤300∧M≤300→OwnN .u64 23 w' w.heap.size v' (max L M) (digs (val ys+val xs*x) (max L M)))∧∃ o',Did w o (sf L M) w' o':=by
 have D:=eR;obtain ⟨po,C⟩:=aI o;have H:=tg w (.pointer po) (.slice ao L cap) (.int .u64 (x:Nat)) (.slice bo M q) (.slice none 0 0) (.int .u64 0) 127 32 23 32 32 23;have he:∀ args w,(callFunc 147 args).run Tryz.prog w=.ok (.enter 147 args) w:=fun _ _=>by simp [go_sem]
 obtain ⟨N,hN⟩:∃ N,N=max L M:=⟨_,rfl⟩
 obtain ⟨X,hX⟩:∃ X,X=val xs:=⟨_,rfl⟩
 obtain ⟨Y,hY⟩:∃ Y,Y=val ys:=⟨_,rfl⟩
 obtain ⟨R,hR⟩:∃ R,R=(Y+X*x)/18446744073709551616^N:=⟨_,rfl⟩
 rw [C];rw [← hX,← hY] at hc ⊢;have HC:=aa hc;have HN:=aa hN;have HR:=aa hR;have HX:=aa hX;have HY:=aa hY;clear hc hN hR hX hY;go_enter Tryz.func103,Tryz.ntmps103;go_wp2_with fail;generalize (((((w.alloc (.cells #[.pointer po] 127)).alloc (.cells #[.slice ao L cap] 32)).alloc (.cells #[.int .u64 (x:Nat)] 23)).alloc (.cells #[.slice bo M q] 32)).alloc (.cells #[.slice none 0 0] 32)).alloc (.cells #[.int .u64 0] 23)=W at *;obtain ⟨k0,x1,x2,x3,x4,x5,x6,hs⟩:=H;have k1:=k0.alloc (.cells #[.int .i64 0] 33);have xe:=Box.new W (.int .i64 0) 33;have z:xs≠[]→∀ b,(Value.slice ao L cap).ownBlock=some b→b≠w.heap.size+1+1+1+1:=fun h b hb e=>by have:=hu.1.lt h b hb;omega
 have h1:=ri o ao bo L M cap q xs ys x hx _ _ _ _ _ _ N HN.out _ (ht.grew k1) (hu.grew k1) (hv.grew k1) O F (by rw [C];exact x1.alloc _) (x2.alloc _) (x4.alloc _) (x5.alloc (.cells #[.int .i64 0] 33)) (x3.alloc _) (x6.alloc _) (by omega) (by omega) (by omega) (by omega) (by omega) z X Y R HX.out HY.out HR.out;have r:(W.alloc (.cells #[.int .i64 0] 33)).heap.size=W.heap.size+1:=by simp
 refine (iP 147 _ W (fun n W'=>(n=0∧(L≤300∧M≤300)∧∃ v' o',OwnN .u64 23 W' (W.heap.size+1) v' N (digs (Y+X*x) N)∧Did w o [(1,(N:Int),0)] W' o'∧TrIn W' o'∧Box W' (w.heap.size+1+1+1+1) v' 32∧Box W' (w.heap.size+1+1+1+1+1) (.int .u64 (R:Nat)) 23)∨(n=2∧¬ (L≤300∧M≤300)∧Kept af w W'∧Box W' (w.heap.size+1+1+1+1) (.slice none 0 0) 32∧Box W' (w.heap.size+1+1+1+1+1) (.int .u64 0) 23)) he (h1.mono ?_)).mono ?_
 ·rintro e w' (⟨hl,rfl,v',w1,o',ho,hd,hk,hb,g⟩ | ⟨hl,rfl,rfl⟩)
  ·rw [r] at ho;have l:=(hd.room (k:=0) ((ht.grew k1).less (by simp))).1;have G:=(x5.alloc (.cells #[.int .i64 0] 33)).did hd (ht.grew k1).1 (by decide) (by decide);have J:=(x6.alloc (.cells #[.int .i64 0] 33)).did hd (ht.grew k1).1 (by decide) (by decide);have E:=hd.size;rw [r] at E;have P:=(xe.did hd (ht.grew k1).1 (by decide) (by decide)).kept hk (by omega);have A:=(Did.after k1 hd).wroteSome hk (fun b hb=>by
    rcases hb with rfl | rfl | hb
    ·exact ⟨by omega,G.apart l (by decide) (by decide)⟩
    ·exact ⟨by omega,J.apart l (by decide) (by decide)⟩
    ·exact ⟨by omega,fun f=>by have:=x9 l f;omega⟩)
   exact ⟨P,.inl ⟨rfl,.inl ⟨rfl,hl,v',o',ho,A,(A.room (k:=0) (ht.less (by simp))).1,hb,g⟩⟩⟩
  ·exact ⟨xe,.inr ⟨2,rfl,.inr ⟨rfl,hl,k1,x5.alloc _,x6.alloc _⟩⟩⟩
 ·rintro e w' ⟨n,w1,rfl,⟨hq,t⟩,rfl⟩;have i:Box w1 W.heap.size (.int .i64 0) 33:=t;rcases hq with ⟨rfl,hl,v',o',ho,hd,l,hb,g⟩ | ⟨rfl,hl,hk,hb,g⟩
  ·have s:=hd.wroteNew (ar w1 W.heap.size (.int .i64 0)) (by omega) (i.apart l (by decide) (by decide));have B:=(ar w1 W.heap.size (.int .i64 0)).own ho (fun b m e=>by have:=(ho.lt b m).1;omega);have d:=hb.other ⟨W.heap.size,0,none⟩ (by show _≠W.heap.size;omega) (.int .i64 0);have a:=g.other ⟨W.heap.size,0,none⟩ (by show _≠W.heap.size;omega) (.int .i64 0);have c1:=d.cell;have f1:=d.free;have c2:=a.cell;have f2:=a.free;obtain ⟨xo,xc,rfl⟩:=bh ho;have p:w.heap.size+1+1+1+1≠w.heap.size+1+1+1+1+1:=by omega
   have c3:=((d.set (.slice xo N xc)).other ⟨w.heap.size+1+1+1+1+1,0,none⟩ p (.int .u64 (R:Nat))).cell;have c4:=((a.other ⟨w.heap.size+1+1+1+1,0,none⟩ p.symm (.slice xo N xc)).set (.int .u64 (R:Nat))).cell;have kb:=(ar (w1.setCell ⟨W.heap.size,0,none⟩ (.int .i64 0)) (w.heap.size+1+1+1+1) (.slice xo N xc)).mono (T:=fun b=>b=w.heap.size+1+1+1+1∨b=w.heap.size+1+1+1+1+1) (fun b _ e=>.inl e);have y:=kb.next (ar _ (w.heap.size+1+1+1+1+1) (.int .u64 (R:Nat))) (fun b _ e=>.inr e)
   have j:=(s.room (k:=0) (ht.less (by simp))).1;have HD:=aa (s.wroteSome y (fun b hb=>by
    rcases hb with rfl | rfl
    ·exact ⟨by omega,d.apart j (by decide) (by decide)⟩
    ·exact ⟨by omega,a.apart j (by decide) (by decide)⟩))
   have HO:=aa (y.own B (fun b m e=>by have:=(ho.lt b m).1;omega));have I:Hid (OwnN .u64 23 (((w1.setCell ⟨W.heap.size,0,none⟩ (.int .i64 0)).setCell ⟨w.heap.size+1+1+1+1,0,none⟩ (.slice xo N xc)).setCell ⟨w.heap.size+1+1+1+1+1,0,none⟩ (.int .u64 (R:Nat))) w.heap.size (.slice xo N xc) N (digs (Y+X*x) N)):=aZ HO.out (fun b m=>by have:=(HO.out.lt b m).1;omega);have HE:Hid (c=R):=by
    unfold Hid;rw [HC.out,HR.out,HN.out];unfold pS;rw [if_pos hl]
   generalize w1.setCell ⟨W.heap.size,0,none⟩ (.int .i64 0)=W2 at *;clear h1 hb g d a ho B kb y hd s l j t i hu hv ht x1 x2 x3 x4 x5 x6 xe k0 k1 z r he D;go_wp2_with fail;go_region
   all_goals
    go_wp2;refine bodyPost_ret (v:=.tuple #[.slice xo N xc,.int .u64 (R:Nat)]) (by simp [results,Tryz.results103,go_sem,c3,c4]) rfl ?_;rw [HE.out];unfold tT sf;rw [if_pos hl,if_pos hl,← HN.out];exact ⟨_,rfl,(aY HO.out (ag _ _ _)).grew (ai _ _).drew,fun _=>I.out.drew,o',HD.out.grew (ai _ _).drew⟩
  ·have d:=hb.other ⟨W.heap.size,0,none⟩ (by show _≠W.heap.size;omega) (.int .i64 2);have a:=g.other ⟨W.heap.size,0,none⟩ (by show _≠W.heap.size;omega) (.int .i64 2);have c1:=d.cell;have f1:=d.free;have c2:=a.cell;have f2:=a.free;have p:w.heap.size+1+1+1+1≠w.heap.size+1+1+1+1+1:=by omega
   have c3:=((d.set (.slice none 0 0)).other ⟨w.heap.size+1+1+1+1+1,0,none⟩ p (.int .u64 0)).cell;have c4:=((a.other ⟨w.heap.size+1+1+1+1,0,none⟩ p.symm (.slice none 0 0)).set (.int .u64 0)).cell;have k2:=hk.next (ar w1 W.heap.size (.int .i64 2)) (fun x hx e=>by omega)
   have k3:=(k2.next (ar _ (w.heap.size+1+1+1+1) (.slice none 0 0)) (fun x hx e=>by omega)).next (ar _ (w.heap.size+1+1+1+1+1) (.int .u64 0)) (fun x hx e=>by omega)
   have HD:=aa (Did.of_kept k3 ht.1);have HE:Hid (c=0):=by
    unfold Hid;rw [HC.out];unfold pS;rw [if_neg hl]
   generalize w1.setCell ⟨W.heap.size,0,none⟩ (.int .i64 2)=W2 at *;clear h1 hb g d a hk k2 k3 t i hu hv ht x1 x2 x3 x4 x5 x6 xe k0 k1 z r he D;go_wp2_with fail;go_region
   all_goals
    go_wp2;refine bodyPost_ret (v:=.tuple #[.slice none 0 0,.int .u64 0]) (by simp [results,Tryz.results103,go_sem,c3,c4]) rfl ?_;rw [HE.out];unfold tT sf;rw [if_neg hl,if_neg hl];exact ⟨_,rfl,Row.nil _ _,fun h=>absurd h hl,o,HD.out.grew (ai _ _).drew⟩

theorem ax {W:World} {p:Nat} {a b c:Value} {t:TypeId} {fr:Nat × Nat} (h:W.heap[p]? = some (.cells #[a,b,c] t fr)):W.cell? ⟨p,0,none⟩=some a∧W.cell? ⟨p,1,none⟩=some b∧W.cell? ⟨p,2,none⟩=some c:=
 ⟨(cell_of_row W p 0 _ _ _ h).trans rfl,(cell_of_row W p 1 _ _ _ h).trans rfl,(cell_of_row W p 2 _ _ _ h).trans rfl⟩

theorem vW {P Pn B V X Q q c c2 z R d a low rest Sl A:Nat}
 (hA:A=low+P*(a+Pn*(d+B*rest))) (hv:A+P*Pn*c=X+V*Q)
 (hS:a+V*q=Sl+Pn*R) (hz:z+B*c2=d+R+c) :
 low+P*(Sl+Pn*z+Pn*B*rest)+P*Pn*B*c2=X+V*(Q+P*q):=by grind

theorem AL {Q P q B:Nat} (h:Q<P) (hq:q<B):Q+P*q<P*B:=by
 have:P*(q+1)≤P*B:=Nat.mul_le_mul_left _ hq
 grind

theorem tH {B V K d q a:Nat} (hg:(V*K+1)%B=0) (hq:q=d*K%B) (hp:a%B=d):(a+V*q)%B=0:=by
 obtain ⟨t,ht⟩:=Nat.dvd_of_mod_eq_zero hg;have e1:d*K=B*(d*K/B)+q:=by rw [hq];exact (Nat.div_add_mod _ _).symm
 have e2:a=B*(a/B)+d:=by rw [← hp];exact (Nat.div_add_mod _ _).symm
 apply Nat.mod_eq_zero_of_dvd;have h3:B ∣ a+V*q+B*(V*(d*K/B)):=by
  refine ⟨a/B+d*t,?_⟩;generalize a/B=pb at *;generalize d*K/B=kb at *
  grind
 exact (Nat.dvd_add_left ⟨_,rfl⟩).1 h3

theorem xA {P V X Q T c A:Nat} (hA:A=P*T) (hv:A+P*P*c=X+V*Q) (hQ:Q<P) (hX:X<V*P):T+P*c<2*V∧(P*(T+P*c))%V=X%V:=by
 have e:P*(T+P*c)=X+V*Q:=by rw [← hv,hA];grind
 refine ⟨?_,by rw [e,Nat.add_mul_mod_self_left]⟩;apply Nat.lt_of_mul_lt_mul_left (a:=P);rw [e];have:V*(Q+1)≤V*P:=Nat.mul_le_mul_left _ hQ
 grind

theorem ye {Z V:Nat} (h:Z<2*V):(if V≤Z then Z-V else Z)=Z%V:=by
 split
 ·rename_i h1
  rw [Nat.mod_eq_sub_mod h1,al (by omega)]
 ·rw [al (by omega)]

theorem tW {V P Q Q' a:Nat} (hc:Nat.Coprime V P) (hQ:Q<P) (c:Q'<P) (h:(a+V*Q)%P=(a+V*Q')%P):Q=Q':=by
 have b:∀ x y:Nat,x≤y→y<P→(a+V*x)%P=(a+V*y)%P→x=y:=by
  intro x y f hy he;have hd:P ∣ (a+V*y)-(a+V*x):=Nat.dvd_of_mod_eq_zero (Nat.sub_mod_eq_zero_of_mod_eq he.symm);have e:(a+V*y)-(a+V*x)=V*(y-x):=by rw [Nat.mul_sub];omega
  rw [e] at hd;have d:=(Nat.Coprime.symm hc).dvd_of_dvd_mul_left hd;have:=Nat.eq_zero_of_dvd_of_lt d (by omega);omega
 rcases Nat.le_total Q Q' with h1 | h1
 ·exact b _ _ h1 c h
 ·exact (b _ _ h1 hQ h.symm).symm

theorem tG {V R P1 Q W E A c:Nat} (hR:R<V) (hQ:Q<P1) (hE:V*P1≤E) (hv:A+E*c=R+V*Q) (hA:A%P1=0) (hc:Nat.Coprime V P1) (hW:W%P1=0) (d:W/V<P1):A=W↔R=W%V:=by
 have hlt:R+V*Q<E:=by
  have:V*(Q+1)≤V*P1:=Nat.mul_le_mul_left _ hQ
  grind
 have e:c=0:=by
  rcases Nat.eq_zero_or_pos c with h | h
  ·exact h
  ·have:E*1≤E*c:=Nat.mul_le_mul_left _ h;omega
 subst e;rw [Nat.mul_zero,Nat.add_zero] at hv;constructor
 ·intro h;rw [← h,hv,Nat.add_mul_mod_self_left,al hR]
 ·intro h;have b:R+V*(W/V)=W:=by rw [h];exact Nat.mod_add_div _ _
  have:=tW (a:=R) hc hQ d (by rw [b,← hv,hA,hW]);rw [hv,this,b]

theorem ff {P V Y Z:Nat} (hc:Nat.Coprime P V) (h:P*Y%V=P*Z%V):Y%V=Z%V:=by
 have a:∀ x y:Nat,x≤y→P*x%V=P*y%V→x%V=y%V:=by
  intro x y b he;have hd:V ∣ P*y-P*x:=Nat.dvd_of_mod_eq_zero (Nat.sub_mod_eq_zero_of_mod_eq he.symm);rw [← Nat.mul_sub] at hd;obtain ⟨t,ht⟩:=(Nat.Coprime.symm hc).dvd_of_dvd_mul_left hd;have:y=x+V*t:=by omega
  rw [this,Nat.add_mul_mod_self_left]
 rcases Nat.le_total Y Z with h1 | h1
 ·exact a _ _ h1 h
 ·exact (a _ _ h1 h.symm).symm

theorem zH {P V Y e:Nat} (hc:Nat.Coprime P V) (hY:Y<V) (h:P*Y%V=(P*2^e%V)*(P*2^e%V)%V):Y=P*2^(2*e)%V:=by
 rw [← al hY];apply ff hc;rw [h,← Nat.mul_mod,Nat.two_mul,Nat.pow_add]
 congr 1
 grind

theorem pN {V a:Nat}:2*(a%V)%V=2*a%V:=by
 rw [Nat.mul_mod,Nat.mod_mod,← Nat.mul_mod]

theorem dS {V k:Nat} (h:V%2=1):Nat.Coprime V (2^k):=by
 apply Nat.Coprime.pow_right;rw [Nat.Coprime,Nat.gcd_comm,Nat.gcd_rec,h];rfl

theorem sd {X V n N k Q q R S z c c2 K:Nat} {zs:List Nat} (e:Digs zs) (h:zs.length=N) (w:k+n<N) (hv:val zs+18446744073709551616^(k+n)*c=X+V*Q) (hQ:Q<18446744073709551616^k) (hq:q=zs.getD k 0*K%18446744073709551616)
  (hS:S=val ((zs.drop k).take n)+V*q) (hR:R=S/18446744073709551616^n) (hz:z+18446744073709551616*c2=zs.getD (k+n) 0+R+c) (m:z<18446744073709551616) (f:(V*K+1)%18446744073709551616=0→0<n→val zs%18446744073709551616^k=0) :
  val (zs.take k ++ ((digs S n ++ [z]) ++ zs.drop (k+(n+1))))+18446744073709551616^(k+1+n)*c2=X+V*(Q+18446744073709551616^k*q)∧Q+18446744073709551616^k*q<18446744073709551616^(k+1)∧((V*K+1)%18446744073709551616=0→0<n→val (zs.take k ++ ((digs S n ++ [z]) ++ zs.drop (k+(n+1))))%18446744073709551616^(k+1)=0) ∧
  Digs (zs.take k ++ ((digs S n ++ [z]) ++ zs.drop (k+(n+1))))∧(zs.take k ++ ((digs S n ++ [z]) ++ zs.drop (k+(n+1)))).length=N:=by
 have hB:0<18446744073709551616:=by omega
 have g:(digs S n ++ [z]).length=n+1:=by simp [ag]
 have o:q<18446744073709551616:=by rw [hq];exact Nat.mod_lt _ hB
 have b:=mZ (j:=k) (k:=n+1) hB e g (by omega);rw [aS,ag,ak] at b;have a:=nA hB e k n;have i:zs.getD (k+n) 0=val zs/18446744073709551616^(k+n)%18446744073709551616:=by rw [← aR hB e (k+n)];rfl
 have t:zs.getD k 0=val zs/18446744073709551616^k%18446744073709551616:=by rw [← aR hB e k];rfl
 have hA:val zs=val zs%18446744073709551616^k+18446744073709551616^k*(val zs/18446744073709551616^k%18446744073709551616^n+18446744073709551616^n*(val zs/18446744073709551616^(k+n)%18446744073709551616+18446744073709551616*(val zs/18446744073709551616^(k+(n+1))))):=by
  have e1:val zs/18446744073709551616^(k+n)=val zs/18446744073709551616^k/18446744073709551616^n:=by rw [Nat.pow_add,Nat.div_div_eq_div_mul]
  have e2:val zs/18446744073709551616^(k+(n+1))=val zs/18446744073709551616^k/18446744073709551616^n/18446744073709551616:=by rw [← Nat.add_assoc,Nat.pow_succ,Nat.pow_add,Nat.div_div_eq_div_mul,Nat.div_div_eq_div_mul,Nat.mul_assoc]
  rw [e1,e2,Nat.mod_add_div,Nat.mod_add_div,Nat.mod_add_div]
 have l:val zs/18446744073709551616^k%18446744073709551616^n+V*q=S%18446744073709551616^n+18446744073709551616^n*R:=by rw [← a,← hS,hR,Nat.mod_add_div]
 rw [Nat.pow_add] at hv;rw [i] at hz;have v:=vW hA hv l hz;refine ⟨?_,?_,?_,fy e ((ah hB _ _).append (Digs.one m)),lO h g (by omega)⟩
 ·have e4:18446744073709551616^(k+1+n)=18446744073709551616^k*18446744073709551616^n*18446744073709551616:=by rw [show k+1+n=k+n+1 by omega,Nat.pow_succ,Nat.pow_add]
  have e5:18446744073709551616^(n+1)=18446744073709551616^n*18446744073709551616:=Nat.pow_succ _ _;rw [b,e4,e5];exact v
 ·rw [Nat.pow_succ];exact AL hQ o
 ·intro hg hn;have e6:18446744073709551616^(k+1)=18446744073709551616^k*18446744073709551616:=Nat.pow_succ _ _;rw [b,f hg hn,Nat.zero_add,e6,Nat.mul_mod_mul_left];obtain ⟨n',rfl⟩:∃ n',n=n'+1:=⟨n-1,by omega⟩
  have h0:S%18446744073709551616=0:=by
   rw [hS,a];refine tH hg (d:=zs.getD k 0) hq ?_;rw [Nat.pow_succ,Nat.mod_mul_left_mod,← t]
  have h1:(S%18446744073709551616^(n'+1)+18446744073709551616^(n'+1)*z+18446744073709551616^(n'+1+1)*(val zs/18446744073709551616^(k+(n'+1+1))))%18446744073709551616=0:=by
   rw [Nat.pow_succ 18446744073709551616 (n'+1),Nat.pow_succ 18446744073709551616 n'];have e3:S%(18446744073709551616^n'*18446744073709551616)+18446744073709551616^n'*18446744073709551616*z+18446744073709551616^n'*18446744073709551616*18446744073709551616*(val zs/18446744073709551616^(k+(n'+1+1)))=S%(18446744073709551616^n'*18446744073709551616)+18446744073709551616*(18446744073709551616^n'*z+18446744073709551616^n'*18446744073709551616*(val zs/18446744073709551616^(k+(n'+1+1)))):=by
    generalize 18446744073709551616^n'=p;generalize val zs/18446744073709551616^(k+(n'+1+1))=r;generalize S%(p*18446744073709551616)=s
    grind
   rw [e3,Nat.add_mul_mod_self_left,Nat.mod_mul_left_mod,h0]
  rw [h1,Nat.mul_zero]

theorem vO (g base N cap j n c W:Nat) (zs ys:List Nat) (v:Value) (w:World) (ho:OwnN .u64 23 w base (.slice (some ⟨g,0,none⟩) N cap) N zs) (D:zs.length=N) (l:Digs zs) (hj:j+n≤N)
  (hv:Row .u64 w v ys) (r:ys.length=n) (f:Digs ys) (B:ys≠[]→∀ b,v.ownBlock=some b→b≠g) (hW:W<18446744073709551616) (R S:Nat) (hS:S=val ((zs.drop j).take n)+val ys*W) (hR:R=S/18446744073709551616^n) :
  Calls Tryz.prog 250 #[.slice (some ⟨g,j,none⟩) n c,v,.int .u64 (W:Nat)] w fun e w'=>e=.returned (.int .u64 (R:Nat)) ∧
   OwnN .u64 23 w' base (.slice (some ⟨g,0,none⟩) N cap) N (zs.take j ++ (digs S n ++ zs.drop (j+n)))∧Kept (fun b=>b=g) w w':=by
 have hX:=jE (j:=j) (n:=n) l;have hY:val ys<18446744073709551616^n:=by rw [← r];exact aq (by omega) f
 have s:Hid (∀ k,k<n→dig (val ((zs.drop j).take n)) k=zs.getD (j+k) 0):=fun k hk=>j9 l hk
 have o:Hid (∀ k,dig (val ys) k=ys.getD k 0):=fun k=>aR (by omega) f k
 have q:Hid (∀ k,zs.getD (j+k) 0<18446744073709551616):=fun k=>l.getD (by omega) _
 have p:Hid (∀ k,ys.getD k 0<18446744073709551616):=fun k=>f.getD (by omega) _
 have a:Hid (∀ W',Kept (fun b=>b=g) w W'→Row .u64 W' v ys):=fun W' k=>hv.kept' k B
 generalize val ((zs.drop j).take n)=X at *;generalize val ys=Y at *;have HX:=aa hX;have HY:=aa hY;have HS:=aa hS;have HR:=aa hR;have C:=aa D;have HO:=aa ho;have hlt:=cW ho;obtain ⟨bo,m,bc,rfl,hM,_,_,_,_⟩:=hv.open;obtain rfl:m=n:=hM.out.symm.trans r;clear ho D hX hY hS hR r f l B hv hM;go_enter Tryz.func250,Tryz.ntmps250;go_wp2_with fail;go_loopw [7,11] (fun ab i wr=>∃ (k c':Nat) (os:List Nat),k≤m∧c'<18446744073709551616∧i=.int .i64 (k:Int)∧ab=.int .u64 (c':Int)∧Hid (os.length=k)∧Digs os∧OwnN .u64 23 wr base (.slice (some ⟨g,0,none⟩) N cap) N (zs.take j ++ (os ++ zs.drop (j+k)))∧Kept (fun b=>b=g) w wr ∧
   Hid (val os+18446744073709551616^k*c'=X%18446744073709551616^k+Y%18446744073709551616^k*W)) (fun _ i _=>m-(intOf i).toNat)
 case atStart=>exact ⟨0,0,[],Nat.zero_le _,by omega,rfl,rfl,rfl,Digs.nil _,by rw [Nat.add_zero,List.nil_append,List.take_append_drop];exact HO.out,ai _ _,by unfold Hid;simp [val,Nat.mod_one]⟩
 case round=>
  obtain ⟨k,c',os,hk,hc,rfl,rfl,HL,A,ho,t,HV⟩:=hrel;by_cases hkn:k<m
  ·have O:(0:Int)≤(k:Int):=Int.natCast_nonneg _;have F:(k:Int)<(m:Int):=by omega
   have M:=eY ho C.out HL.out (by omega);obtain ⟨_,_,_,e2,_,_,_,_,d⟩:=(a.out wr t).open;cases e2
   obtain ⟨b2,E,rfl,P⟩:=d k hkn;have hf:=World.ownsRow.frozenAt ho (j+k);have hx:=q.out k;have hy:=p.out k;have I:Hid (∀ z c2,z+18446744073709551616*c2=ys.getD k 0*W+zs.getD (j+k) 0+c'→val (os ++ [z])+18446744073709551616^(k+1)*c2=X%18446744073709551616^(k+1)+Y%18446744073709551616^(k+1)*W):=fun z c2 h=>iW HL.out HV.out (by rw [s.out k hkn,o.out k];exact h)
   have G:Hid (∀ u:Nat,OwnN .u64 23 (wr.setCell ⟨g,j+k,none⟩ (.int .u64 (u:Int))) base (.slice (some ⟨g,0,none⟩) N cap) N (zs.take j ++ ((os ++ [u]) ++ zs.drop (j+(k+1))))):=fun u=>by
    have:=(World.ownsRow.stored ho (j+k) (.int .u64 (u:Int))).1;unfold OwnN;rw [← fM zs os j k u HL.out (by have:=C.out;omega),List.map_set];exact this
   clear HV a d s o q p HO HX HY HS HR;generalize zs.getD (j+k) 0=x at *;generalize ys.getD k 0=y at *;go_wp2_with fail;go_region_with (go_at_call 178;refine (pR y W x c' hy hW hx hc _).mono ?_;rintro e w7 ⟨h2,l2,rfl,J,H,L,rfl⟩)
   all_goals
    go_wp2_with fail;go_roundw
    case rel=>exact ⟨k+1,h2,os ++ [l2],by omega,J,by go_num,rfl,by unfold Hid;rw [List.length_append,HL.out];rfl,A.append (Digs.one H),G.out l2,(t.setCell _ (fun _=>rfl) _).drew,I.out l2 h2 L⟩
    case measure=>simp [intOf];omega
  ·have F:¬ (k:Int)<(m:Int):=by omega
   obtain rfl:k=m:=by omega
   have e:=HV.out;rw [al HX.out,al HY.out,← HS.out] at e;obtain ⟨e1,e2⟩:=l9 (by omega) HL.out A e;have E1:=aa e1;have E2:=aa (e2.trans HR.out.symm);clear e e1 e2 HV a s o q p HO HX HY HS HR;go_wp2_with fail;go_ret;rw [← E1.out,← E2.out];exact ⟨rfl,ho,t⟩

end Go.Proofs.YtcemlfokmjjiaaaGreatDoor
