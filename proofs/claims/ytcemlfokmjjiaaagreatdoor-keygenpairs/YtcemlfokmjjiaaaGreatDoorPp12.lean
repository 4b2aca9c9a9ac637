/- Put together of: Pro2 MonA. -/
import Derived.Test.YtcemlfokmjjiaaaGreatDoorPp11

namespace Go.Proofs.YtcemlfokmjjiaaaGreatDoor
set_option maxRecDepth 100000
set_option maxHeartbeats 4000000
open Go.RowKit

theorem Box.did {w w':World} {o o':Tr} {m:List Ev} {b:Nat} {v:Value} {t:TypeId} (h:Box w b v t) (d:Did w o m w' o') (ht:TrIn w o) (h1:t≠225) (h2:t≠189):Box w' b v t:=h.kept d.kept (ax h ht h1 h2)

theorem Box.apart {w:World} {o:Tr} {b:Nat} {v:Value} {t:TypeId} (h:Box w b v t) (ht:TrIn w o) (h1:t≠225) (h2:t≠189):¬ dx o b:=ax h ht h1 h2

theorem aH (o:Tr):∃ po,aD o=.pointer po:=by
 cases o with
 | none=>exact ⟨_,rfl⟩
 | some x=>exact ⟨_,rfl⟩

theorem BK (o:Tr) (ao bo:Option Addr) (L M cap c:Nat) (xs ys:List Nat) (bT bA bB bO:Nat) (w:World) (ht:TrRoom w o 300) (hu:RowT w o (.slice ao L cap) xs) (hv:RowT w o (.slice bo M c) ys) (h:Digs xs) (i:Digs ys)
  (hT:Box w bT (aD o) 127) (hA:Box w bA (.slice ao L cap) 32) (hB:Box w bB (.slice bo M c) 32) (hO:Box w bO (.slice none 0 0) 32) :
  Calls Tryz.prog 96 #[.pointer (some ⟨bA,0,none⟩),.pointer (some ⟨bB,0,none⟩),.pointer (some ⟨bT,0,none⟩),.pointer (some ⟨bO,0,none⟩)] w fun e w'=>
   ((L≤300∧M≤300)∧e=.returned (.tuple #[])∧∃ v' w1 o',v'=.slice (some ⟨w.heap.size,0,none⟩) (L+M) (L+M)∧OwnN .u64 23 w1 w.heap.size v' (L+M) (ag (val xs*val ys) (L+M))∧Did w o (List.replicate L (1,(M:Nat),0)) w1 o'∧Kept (fun b=>b=bO) w1 w'∧Box w' bO v' 32) ∨
   (¬ (L≤300∧M≤300)∧e=.panicked [refusal 2]∧w'=w):=by
 obtain ⟨_,_,_,e1,f,_,_,_,_⟩:=hu.1.open;cases e1
 obtain ⟨_,_,_,e1,d,_,_,_,_⟩:=hv.1.open;cases e1
 have eL:=f.out;have eM:=d.out;have hP:=fun W=>rZ ao bo L M cap c W
 have hR:=fun W (k:Kept ae w W) (l1:L≤300) (l2:M≤300)=>Bb o _ _ xs ys W ((ht.less (by omega)).grew k) (hu.grew k) (hv.grew k) h i (by omega) (by omega)
 rw [eL,eM] at hR;obtain ⟨po,g⟩:=aH o;rw [g] at hR hT;have cT:=hT.cell;have cA:=hA.cell;have cB:=hB.cell;have HO:=aa hO;have HT:=aa ht.1;clear hu hv h i f d eL eM g hT hA hB hO ht;go_enter Tryz.func96,Tryz.ntmps96;go_wp2_with fail;refine (hP _).mono ?_;rintro e w1 ⟨⟨l1,l2,rfl⟩ | ⟨l1,rfl⟩,rfl⟩
 ·go_wp2_with fail;refine (hR _ (ah _ _) l1 l2).mono ?_;rintro e w2 ⟨v',rfl,rfl,ho,o',hd⟩;have a:=HO.out.did hd HT.out (by decide) (by decide);have cO:=a.cell;have fO:=a.free;have HD:=aa hd;have l:=aa ho;have j:=aa a;clear hP hR cT cA cB hd ho a;go_wp2_with fail;go_end0
  exact .inl ⟨⟨l1,l2⟩,rfl,_,_,o',rfl,l.out,HD.out,ar _ _ _,j.out.set _⟩
 ·exact ⟨rfl,.inr ⟨l1,rfl,rfl⟩⟩

def fl (X Y L M:Nat):List Nat:=if L≤300∧M≤300 then ag (X*Y) (L+M) else []

def jH (L M:Nat):List Ev:=if L≤300∧M≤300 then List.replicate L (1,((M:Nat):Int),0) else []

theorem yP (o:Tr) (ao bo:Option Addr) (L M cap f:Nat) (xs ys:List Nat) (w:World) (ht:TrRoom w o 300) (hu:RowT w o (.slice ao L cap) xs) (hv:RowT w o (.slice bo M f) ys) (E:Digs xs) (F:Digs ys) :
  Calls Tryz.prog 50 #[aD o,.slice ao L cap,.slice bo M f] w fun e w'=>∃ v',e=.returned v' ∧
   Row .u64 w' v' (fl (val xs) (val ys) L M)∧(∀ b,v'.ownBlock=some b→w.heap.size≤b)∧(L≤300∧M≤300→∃ g,w.heap.size≤g∧v'=.slice (some ⟨g,0,none⟩) (L+M) (L+M)∧OwnN .u64 23 w' g v' (L+M) (ag (val xs*val ys) (L+M)))∧∃ o',Did w o (jH L M) w' o':=by
 have I:=eI;obtain ⟨po,t⟩:=aH o;have A:=jC w (.pointer po) (.slice ao L cap) (.slice bo M f) (.slice none 0 0) 127 32 32 32;have he:∀ args w,(callFunc 96 args).run Tryz.prog w=.ok (.enter 96 args) w:=fun _ _=>by simp [go_sem]
 rw [t];go_enter Tryz.func50,Tryz.ntmps50;go_wp2_with fail;generalize (((w.alloc (.cells #[.pointer po] 127)).alloc (.cells #[.slice ao L cap] 32)).alloc (.cells #[.slice bo M f] 32)).alloc (.cells #[.slice none 0 0] 32)=W at *;obtain ⟨k0,x1,x2,x3,x4,hs⟩:=A;have k1:=k0.alloc (.cells #[.int .i64 0] 33);have xe:=Box.new W (.int .i64 0) 33;have h1:=BK o ao bo L M cap f xs ys _ _ _ _ _ (ht.grew k1) (hu.grew k1) (hv.grew k1) E F (by rw [t];exact x1.alloc _) (x2.alloc _) (x3.alloc _) (x4.alloc (.cells #[.int .i64 0] 33))
 refine (iK 96 _ W (fun n W'=>(n=0∧(L≤300∧M≤300)∧∃ v' o',v'=.slice (some ⟨W.heap.size+1,0,none⟩) (L+M) (L+M)∧OwnN .u64 23 W' (W.heap.size+1) v' (L+M) (ag (val xs*val ys) (L+M))∧Did w o (List.replicate L (1,(M:Nat),0)) W' o'∧Box W' (w.heap.size+1+1+1) v' 32)∨(n=2∧¬ (L≤300∧M≤300)∧Kept ae w W'∧Box W' (w.heap.size+1+1+1) (.slice none 0 0) 32)) he (h1.mono ?_)).mono ?_
 ·rintro e w' (⟨hl,rfl,v',w1,o',l,ho,hd,hk,hb⟩ | ⟨hl,rfl,rfl⟩)
  ·rw [show (W.alloc (.cells #[.int .i64 0] 33)).heap.size=W.heap.size+1 by simp] at ho l;have m:=(hd.room (k:=0) ((ht.grew k1).less (by simp;omega))).1;have D:=(x4.alloc (.cells #[.int .i64 0] 33)).did hd (ht.grew k1).1 (by decide) (by decide);have B:=(xe.did hd (ht.grew k1).1 (by decide) (by decide)).kept hk (by omega);refine ⟨B,.inl ⟨rfl,.inl ⟨rfl,hl,v',o',l,hk.own ho (fun b d e=>?_),(Did.after k1 hd).wroteNew hk (by omega) (D.apart m (by decide) (by decide)),hb⟩⟩⟩;have:=(ho.lt b d).1;omega
  ·exact ⟨xe,.inr ⟨2,rfl,.inr ⟨rfl,hl,k1,x4.alloc _⟩⟩⟩
 ·rintro e w' ⟨n,w1,rfl,⟨hq,p⟩,rfl⟩;have c:Box w1 W.heap.size (.int .i64 0) 33:=p;rcases hq with ⟨rfl,hl,v',o',l,ho,hd,hb⟩ | ⟨rfl,hl,hk,hb⟩
  ·have m:=(hd.room (k:=0) (ht.less (by simp;omega))).1;have r:=hd.wroteNew (ar w1 W.heap.size (.int .i64 0)) (by omega) (c.apart m (by decide) (by decide));have z:=(ar w1 W.heap.size (.int .i64 0)).own ho (fun b d e=>by have:=(ho.lt b d).1;omega);have a:=hb.other ⟨W.heap.size,0,none⟩ (by show _≠W.heap.size;omega) (.int .i64 0);have G:=a.cell;have H:=a.free;have q:=(a.set v').cell;have s:=(ar _ (w.heap.size+1+1+1) v').own z (fun b d e=>by have:=(ho.lt b d).1;omega);have i:=(r.room (k:=0) (ht.less (by simp;omega))).1;have y:=r.wroteNew (ar _ (w.heap.size+1+1+1) v') (by omega) (a.apart i (by decide) (by decide))
   have j:Hid (∀ b,v'.ownBlock=some b→w.heap.size≤b):=fun b d=>by have:=(ho.lt b d).1;omega
   obtain ⟨xo,xc,rfl⟩:=aV ho;have C:=aa l;clear l;have HO:=aa s;have HD:=aa y;clear h1 ho hd hb z r s y m i a p c hu hv ht;generalize w1.setCell ⟨W.heap.size,0,none⟩ (.int .i64 0)=W2 at *;go_wp2_with fail;refine bodyPost_ret (v:=.slice xo (L+M) xc) (by simp [results,Tryz.results50,go_sem,q]) rfl ?_;unfold fl jH;rw [if_pos hl,if_pos hl];exact ⟨_,rfl,Row.of_own (base:=W.heap.size+1) (e:=23) (by rw [af];exact HO.out),j.out,(fun _=>⟨_,by omega,C.out,HO.out⟩),o',HD.out⟩
  ·have k2:=hk.next (ar w1 W.heap.size (.int .i64 2)) (fun x hx e=>by omega)
   have a:=hb.other ⟨W.heap.size,0,none⟩ (by show _≠W.heap.size;omega) (.int .i64 2);have G:=a.cell;have H:=a.free;have q:=(a.set (.slice none 0 0)).cell;have HD:=aa (Did.of_kept (k2.next (ar _ (w.heap.size+1+1+1) (.slice none 0 0)) (fun x hx e=>by omega)) ht.1);clear h1 hb hu hv ht hk k2 a p c;generalize w1.setCell ⟨W.heap.size,0,none⟩ (.int .i64 2)=W2 at *;go_wp2_with fail;refine bodyPost_ret (v:=.slice none 0 0) (by simp [results,Tryz.results50,go_sem,q]) rfl ?_;unfold fl jH;rw [if_neg hl,if_neg hl];exact ⟨_,rfl,Row.nil _ _,(fun b hb=>by cases hb),(fun h=>absurd h hl),o,HD.out⟩

theorem B9 (o:Tr) (ao bo:Option Addr) (L M cap a:Nat) (xs ys:List Nat) (w:World) (ht:TrRoom w o 300) (hu:RowT w o (.slice ao L cap) xs) (hv:RowT w o (.slice bo M a) ys) (c:Digs xs) (d:Digs ys) :
  Calls Tryz.prog 50 #[aD o,.slice ao L cap,.slice bo M a] w fun e w'=>∃ v',e=.returned v' ∧
   Row .u64 w' v' (fl (val xs) (val ys) L M)∧(∀ b,v'.ownBlock=some b→w.heap.size≤b)∧∃ o',Did w o (jH L M) w' o':=by
 refine (yP o ao bo L M cap a xs ys w ht hu hv c d).mono ?_;rintro e w' ⟨v',rfl,h1,h2,_,h3⟩;exact ⟨v',rfl,h1,h2,h3⟩

theorem Bw (v:Value) (xs:List Nat) (n:Nat) (w:World) (h:Row .u64 w v xs) (hl:xs.length≤n) (hn:n≤1000000) :
  Calls Tryz.prog 148 #[v,.int .i64 (n:Nat)] w fun e w'=>e=.returned (.slice (some ⟨w.heap.size,0,none⟩) n n)∧OwnN .u64 23 w' w.heap.size (.slice (some ⟨w.heap.size,0,none⟩) n n) n (xs ++ List.replicate (n-xs.length) 0)∧Kept ae w w':=by
 obtain ⟨i0,k,r,g,l⟩:=info_parts Tryz.info23;obtain ⟨ao,q,cap,rfl,hL,_,_,_,_⟩:=h.open;have HS:Hid (∀ W,Kept ae w W→0<(xs.map fun z:Nat=>Value.int .u64 (z:Int)).length→∃ ad,ao=some ad∧∀ j u,(xs.map fun z:Nat=>Value.int .u64 (z:Int))[j]? = some u→W.cell? (ad.add j)=some u):=fun W hk hp=>h.source hk hp
 have HO:=aa (gw .u64 xs);have d:Hid ((xs.map fun z:Nat=>Value.int .u64 (z:Int)).length=q):=by unfold Hid;rw [List.length_map];exact hL.out
 obtain ⟨CS,b⟩:∃ CS,CS=xs.map (fun z:Nat=>Value.int .u64 (z:Int)):=⟨_,rfl⟩
 rw [← b] at HS HO d;have m:Hid (CS=xs.map (fun z:Nat=>Value.int .u64 (z:Int))):=b;have hq:q≤n:=by rw [← hL.out];exact hl
 clear b h hl;go_enter Tryz.func148,Tryz.ntmps148;go_wp2_with (at_make;refine wpList_make_full _ rfl _ _ 32 rfl w.heap.size 23 i0 _ 1 Tryz.underlying32 k r g _ _ _ _ n rfl rfl rfl rfl (by rw [l];omega) (by unfold maxLen;omega) (leR _) ?_;intro w1 c f;rw [aE] at c;have k1:=aC f;obtain ⟨w2,o,i,k2⟩:=cX (P:=Tryz.prog) 32 32 3 23 w.heap.size 0 n n (some ⟨w.heap.size,0,none⟩) ao q cap _ 23 CS Tryz.underlying32 (by rw [k];simp [g]) (ei c) (by rw [d.out];exact (Nat.min_eq_left hq).symm) (fun hp=>⟨rfl,HS.out _ k1 hp⟩) (by have:=d.out;simp;omega) HO.out;have p:Hid _:=i;clear i c f);go_ret;have a:=p.out
 rw [m.out,dR] at a;have kk:=cG k1 k2 (leR _);exact ⟨rfl,bZ a (by simp [hL.out];omega) (by unfold maxLen;omega) (leR _),kk⟩

def ut (X W Y L M:Nat):List Nat:=if L≤300∧M≤300 then ag (Y+X*W) (max L M) else []

def pa (X W Y L M:Nat):Nat:=if L≤300∧M≤300 then (Y+X*W)/18446744073709551616^max L M else 0

def sX (L M:Nat):List Ev:=if L≤300∧M≤300 then [(1,((max L M:Nat):Int),0)] else []

theorem mq {ys:List Nat} (n:Nat):val (ys ++ List.replicate n 0)=val ys:=by
 rw [bu,cH _ (fun d hd=>(List.mem_replicate.1 hd).2),Nat.mul_zero,Nat.add_zero]

theorem aS {w:World} {base n:Nat} {v:Value} {zs:List Nat} (h:OwnN .u64 23 w base v n zs) (hl:zs.length=n):Row .u64 w v zs:=
 Row.of_own (base:=base) (e:=23) (by rw [hl];exact h)

theorem kM {ys:List Nat} (h:Digs ys) (n:Nat):Digs (ys ++ List.replicate n 0):=h.append (fun d hd=>by rw [(List.mem_replicate.1 hd).2];omega)

theorem p8 (o:Tr) (ao bo:Option Addr) (L M cap G:Nat) (xs ys:List Nat) (x:Nat) (hx:x<18446744073709551616) (bT bA bB bO bW bU N:Nat) (hN:N=max L M) (w:World) (ht:TrRoom w o 300) (hu:RowT w o (.slice ao L cap) xs) (hv:RowT w o (.slice bo M G) ys) (V:Digs xs) (Q:Digs ys)
  (hT:Box w bT (aD o) 127) (hA:Box w bA (.slice ao L cap) 32) (hB:Box w bB (.slice bo M G) 32) (hO:Box w bO (.slice none 0 0) 32) (hW:Box w bW (.int .u64 (x:Nat)) 23) (hU:Box w bU (.int .u64 0) 23) (I:bO≠bU) (aC:bA≠bO) (aw:bW≠bO) (am:bA≠bU) (ax:bW≠bU) (aI:xs≠[]→∀ b,(Value.slice ao L cap).ownBlock=some b→b≠bO) (X Y R:Nat) (hX:X=val xs) (hY:Y=val ys) (hR:R=(Y+X*x)/18446744073709551616^N) :
  Calls Tryz.prog 147 #[.pointer (some ⟨bA,0,none⟩),.pointer (some ⟨bB,0,none⟩),.pointer (some ⟨bT,0,none⟩),.pointer (some ⟨bO,0,none⟩),.pointer (some ⟨bW,0,none⟩),.pointer (some ⟨bU,0,none⟩)] w fun e w'=>
   ((L≤300∧M≤300)∧e=.returned (.tuple #[])∧∃ v' w1 o',OwnN .u64 23 w' w.heap.size v' N (ag (Y+X*x) N)∧Did w o [(1,(N:Int),0)] w1 o'∧Kept (fun b=>b=bO∨b=bU∨w1.heap.size≤b) w1 w'∧Box w' bO v' 32∧Box w' bU (.int .u64 (R:Nat)) 23) ∨
   (¬ (L≤300∧M≤300)∧e=.panicked [refusal 2]∧w'=w):=by
 obtain ⟨_,_,_,e1,af,_,_,_,_⟩:=hu.1.open;cases e1
 obtain ⟨_,_,_,e1,P,_,_,_,_⟩:=hv.1.open;cases e1
 have eL:=af.out;have eM:=P.out;have hP:=fun W=>rZ ao bo L M cap G W
 obtain ⟨po,ad⟩:=aH o;have hS:=fun (n:Int)=>dG o n w ht.1
 rw [ad] at hS hT;have cT:=hT.cell;have cA:=hA.cell;have cB:=hB.cell;have HO:=aa hO;have HT:=aa ht;have HU:=aa hu;have HV:=aa hv;have HA:=aa hA;have HB:=aa hB;have HW:=aa hW;have aq:=aa hU;have av:=aa V;have aE:=aa Q;clear hu hv V Q af P ad hT hA hB hO ht hW hU;go_enter Tryz.func147,Tryz.ntmps147;go_wp2_with fail;refine (hP _).mono ?_;rintro e w1 ⟨⟨l1,l2,rfl⟩ | ⟨l1,rfl⟩,rfl⟩
 ·have gN:max (L:Int) (M:Int)=(N:Int):=by omega
  have aN:L≤N:=by omega
  have aP:M≤N:=by omega
  have aO:N≤300:=by omega
  clear hN hP;go_wp2_with fail;refine (hS _).mono ?_;rintro e w2 ⟨rfl,o2,d2⟩;have r:=HT.out.1;have D:=HO.out.did d2 r (by decide) (by decide);have y:=HA.out.did d2 r (by decide) (by decide);have A:=HW.out.did d2 r (by decide) (by decide);have F:=aq.out.did d2 r (by decide) (by decide);have S:=HB.out.did d2 r (by decide) (by decide);have ac:=(HU.out.did d2).1;have ab:=(HV.out.did d2).1;have aj:=S.cell;have O:=Bw _ ys N w2 ab (by omega) (by omega);clear hS;go_wp2_with fail;refine O.mono ?_;rintro e w3 ⟨rfl,s,k3⟩;have a:=D.grew k3;have au:=a.cell;have aL:=a.free;obtain ⟨g,hg⟩:∃ g,g=w2.heap.size:=⟨_,rfl⟩
  rw [← hg] at s ⊢;have aA:=D.lt;have aG:=F.lt;have c:=a.set (.slice (some ⟨g,0,none⟩) N N);have d:=((y.grew k3).kept (ar w3 bO (.slice (some ⟨g,0,none⟩) N N)) aC)
  have j:=((A.grew k3).kept (ar w3 bO (.slice (some ⟨g,0,none⟩) N N)) aw)
  have l:=((F.grew k3).kept (ar w3 bO (.slice (some ⟨g,0,none⟩) N N)) (fun e=>I e.symm))
  have B:=(ar w3 bO (.slice (some ⟨g,0,none⟩) N N)).own s (fun b q e=>by have:=(s.lt b q).1;omega);have HG:=aa hg;have J:Kept (fun b=>b=bO) w2 (w3.setCell ⟨bO,0,none⟩ (.slice (some ⟨g,0,none⟩) N N)):=k3.any.trans (ar w3 bO _);clear hg;go_wp2_with fail;generalize w3.setCell ⟨bO,0,none⟩ (.slice (some ⟨g,0,none⟩) N N)=W4 at *;have Z:Row .u64 W4 (.slice ao L cap) xs:=ac.kept' J (fun t b hb e=>aI t b hb e)
  have aF:∀ W,Kept ae W4 W→Calls Tryz.prog 148 #[.slice ao L cap,.int .i64 (N:Int)] W fun e w'=>∃ b0,e=.returned (.slice (some ⟨b0,0,none⟩) N N)∧W4.heap.size≤b0∧Row .u64 w' (.slice (some ⟨b0,0,none⟩) N N) (xs ++ List.replicate (N-xs.length) 0)∧Kept ae W4 w':=fun W k=>by
   refine (Bw _ xs N W (Z.grew k) (by omega) (by omega)).mono ?_;rintro e w' ⟨rfl,ho,kk⟩;exact ⟨_,rfl,k.size,aS ho (by simp;omega),k.trans kk⟩
  have an:g<W4.heap.size:=cL B;have aB:∀ W b0,Kept ae W4 W→W4.heap.size≤b0→Row .u64 W (.slice (some ⟨b0,0,none⟩) N N) (xs ++ List.replicate (N-xs.length) 0)→Calls Tryz.prog 136 #[.slice (some ⟨g,0,none⟩) N N,.slice (some ⟨b0,0,none⟩) N N,.int .u64 (x:Nat)] W fun e w'=>e=.returned (.int .u64 (R:Nat))∧OwnN .u64 23 w' g (.slice (some ⟨g,0,none⟩) N N) N (ag (Y+X*x) N)∧Kept (fun b=>b=g) W4 w':=fun W b0 k U hr=>by
   refine (lW g g N N 0 N N x _ _ _ W (k.own B (fun _ _ f=>f)) (by simp;omega) (kM aE.out _) (by omega) hr (by simp;omega) (kM av.out _) (fun _ b hb e=>by simp [Value.ownBlock] at hb;omega) hx R (Y+X*x) (by rw [List.drop_zero,List.take_of_length_le (by simp;omega),mq,mq,hY,hX]) hR).mono ?_;rintro e w' ⟨rfl,ho,kk⟩;rw [List.take_zero,List.nil_append,List.drop_of_length_le (by simp;omega),List.append_nil] at ho;exact ⟨rfl,ho,k.any.trans kk⟩
  have ap:=c.cell;have ai:=d.cell;have az:=j.cell;have E:=aa c;have C:=aa l;have z:=aa d;have v:=aa j;have al:bA≠g:=by have:=y.lt;have:=HG.out;omega
  have aJ:bW≠g:=by have:=A.lt;have:=HG.out;omega
  have aM:bO≠g:=by have:=HG.out;omega
  have ay:bU≠g:=by have:=HG.out;omega
  have H:=aa J;have T:=aa d2;clear c d j l B J Z D y A F S ac ab aj O s k3 a au aL cT cA cB hX hY hR d2;go_region_held3 (fun w'=>w'.cell? ⟨bO,0,none⟩=some (.slice (some ⟨g,0,none⟩) N N)∧w'.cell? ⟨bA,0,none⟩=some (.slice ao L cap)∧w'.cell? ⟨bW,0,none⟩=some (.int .u64 (x:Int)))
   (((try dsimp only);(repeat' apply And.intro) <;> first | (go_keep;done) | assumption | exact (h.other ⟨bU,0,none⟩ I _).cell | exact (p.other ⟨bU,0,none⟩ am _).cell | exact (m.other ⟨bU,0,none⟩ ax _).cell))
   (first
   | (go_at_call 148;refine (aF _ ?_).mono ?_;(first | exact (ah _ _).drew | exact ah _ _);rintro e w5 ⟨b0,rfl,U,ak,k5⟩;have p1:=k5.cellN ap;have p2:=k5.cellN ai;have p3:=k5.cellN az)
   | (go_at_call 136;refine (aB _ _ ?_ U ?_).mono ?_;(exact k5);(exact ak);rintro e w6 ⟨rfl,aK,k6⟩;have i:=C.out.kept k6 ay;have h:=E.out.kept k6 aM;have p:=z.out.kept k6 al;have m:=v.out.kept k6 aJ;have q1:=h.cell;have q2:=p.cell;have q3:=m.cell;have c6:=i.cell;have f6:=i.free))
  all_goals
   go_end0
   have aQ:w2.heap.size≤g:=by have:=HG.out;omega
   have kk:Kept (fun b=>b=bO∨b=bU∨w2.heap.size≤b) w2 (w6.setCell ⟨bU,0,none⟩ (.int .u64 (R:Int))):=((H.out.mono (fun _ _ e=>.inl e)).next k6 (fun b _ e=>.inr (.inr (by omega)))).next (ar w6 bU _) (fun b _ e=>.inr (.inl e))
   exact .inl ⟨⟨l1,l2⟩,rfl,_,w2,o2,aU ((ar w6 bU _).own aK (fun b q e=>by simp [Value.ownBlock] at q;omega)) (fun b q=>by simp [Value.ownBlock] at q;have:=T.out.size;omega),T.out,kk,h.other ⟨bU,0,none⟩ I _,i.set _⟩
 ·exact ⟨rfl,.inr ⟨l1,rfl,rfl⟩⟩

theorem Did.wroteSome {S:Nat→Prop} {w w' w2:World} {o o':Tr} {m:List Ev} (d:Did w o m w' o') (k:Kept S w' w2) (hS:∀ b,S b→w.heap.size≤b∧¬ dx o' b):Did w o m w2 o':=by
 refine ⟨d.1.next k (fun x hx e=>by have:=(hS x e).1;omega),?_⟩;rcases d.2 with h1 | ⟨p,g,l,g',e1,e2,ht,hg⟩
 ·exact .inl h1
 ·subst e2;exact .inr ⟨p,g,l,g',e1,rfl,ht.kept k (fun e=>(hS p e).2 (.inl rfl)) (fun x hx e=>(hS x e).2 (.inr hx)),hg⟩

theorem xQ {w:World} {o:Tr} (ht:TrIn w o) {b:Nat} (hf:dx o b):b<w.heap.size:=ht.foot b hf

theorem rg (o:Tr) (ao bo:Option Addr) (L M cap m:Nat) (xs ys:List Nat) (x:Nat) (hx:x<18446744073709551616) (c:Nat) (hc:c=pa (val xs) x (val ys) L M) (w:World) (ht:TrRoom w o 300) (hu:RowT w o (.slice ao L cap) xs) (hv:RowT w o (.slice bo M m) ys) (I:Digs xs) (H:Digs ys) :
  Calls Tryz.prog 103 #[aD o,.slice ao L cap,.int .u64 (x:Nat),.slice bo M m] w fun e w'=>∃ v',e=.returned (.tuple #[v',.int .u64 (c:Nat)]) ∧
   Row .u64 w' v' (ut (val xs) x (val ys) L M)∧(L≤300∧M≤300→OwnN .u64 23 w' w.heap.size v' (max L M) (ag (val ys+val xs*x) (max L M)))∧∃ o',Did w o (sX L M) w' o':=by
 have B:=eI;obtain ⟨po,C⟩:=aH o;have J:=tE w (.pointer po) (.slice ao L cap) (.int .u64 (x:Nat)) (.slice bo M m) (.slice none 0 0) (.int .u64 0) 127 32 23 32 32 23;have he:∀ args w,(callFunc 147 args).run Tryz.prog w=.ok (.enter 147 args) w:=fun _ _=>by simp [go_sem]
 obtain ⟨N,hN⟩:∃ N,N=max L M:=⟨_,rfl⟩
 obtain ⟨X,hX⟩:∃ X,X=val xs:=⟨_,rfl⟩
 obtain ⟨Y,hY⟩:∃ Y,Y=val ys:=⟨_,rfl⟩
 obtain ⟨R,hR⟩:∃ R,R=(Y+X*x)/18446744073709551616^N:=⟨_,rfl⟩
 rw [C];rw [← hX,← hY] at hc ⊢;have HC:=aa hc;have HN:=aa hN;have HR:=aa hR;have HX:=aa hX;have HY:=aa hY;clear hc hN hR hX hY;go_enter Tryz.func103,Tryz.ntmps103;go_wp2_with fail;generalize (((((w.alloc (.cells #[.pointer po] 127)).alloc (.cells #[.slice ao L cap] 32)).alloc (.cells #[.int .u64 (x:Nat)] 23)).alloc (.cells #[.slice bo M m] 32)).alloc (.cells #[.slice none 0 0] 32)).alloc (.cells #[.int .u64 0] 23)=W at *;obtain ⟨k0,x1,x2,x3,x4,x5,x6,hs⟩:=J;have k1:=k0.alloc (.cells #[.int .i64 0] 33);have xe:=Box.new W (.int .i64 0) 33;have t:xs≠[]→∀ b,(Value.slice ao L cap).ownBlock=some b→b≠w.heap.size+1+1+1+1:=fun h b hb e=>by have:=hu.1.lt h b hb;omega
 have h1:=p8 o ao bo L M cap m xs ys x hx _ _ _ _ _ _ N HN.out _ (ht.grew k1) (hu.grew k1) (hv.grew k1) I H (by rw [C];exact x1.alloc _) (x2.alloc _) (x4.alloc _) (x5.alloc (.cells #[.int .i64 0] 33)) (x3.alloc _) (x6.alloc _) (by omega) (by omega) (by omega) (by omega) (by omega) t X Y R HX.out HY.out HR.out;have r:(W.alloc (.cells #[.int .i64 0] 33)).heap.size=W.heap.size+1:=by simp
 refine (iK 147 _ W (fun n W'=>(n=0∧(L≤300∧M≤300)∧∃ v' o',OwnN .u64 23 W' (W.heap.size+1) v' N (ag (Y+X*x) N)∧Did w o [(1,(N:Int),0)] W' o'∧TrIn W' o'∧Box W' (w.heap.size+1+1+1+1) v' 32∧Box W' (w.heap.size+1+1+1+1+1) (.int .u64 (R:Nat)) 23)∨(n=2∧¬ (L≤300∧M≤300)∧Kept ae w W'∧Box W' (w.heap.size+1+1+1+1) (.slice none 0 0) 32∧Box W' (w.heap.size+1+1+1+1+1) (.int .u64 0) 23)) he (h1.mono ?_)).mono ?_
 ·rintro e w' (⟨hl,rfl,v',w1,o',ho,hd,hk,hb,j⟩ | ⟨hl,rfl,rfl⟩)
  ·rw [r] at ho;have l:=(hd.room (k:=0) ((ht.grew k1).less (by simp))).1;have G:=(x5.alloc (.cells #[.int .i64 0] 33)).did hd (ht.grew k1).1 (by decide) (by decide);have P:=(x6.alloc (.cells #[.int .i64 0] 33)).did hd (ht.grew k1).1 (by decide) (by decide);have F:=hd.size;rw [r] at F;have E:=(xe.did hd (ht.grew k1).1 (by decide) (by decide)).kept hk (by omega);have A:=(Did.after k1 hd).wroteSome hk (fun b hb=>by
    rcases hb with rfl | rfl | hb
    ·exact ⟨by omega,G.apart l (by decide) (by decide)⟩
    ·exact ⟨by omega,P.apart l (by decide) (by decide)⟩
    ·exact ⟨by omega,fun f=>by have:=xQ l f;omega⟩)
   exact ⟨E,.inl ⟨rfl,.inl ⟨rfl,hl,v',o',ho,A,(A.room (k:=0) (ht.less (by simp))).1,hb,j⟩⟩⟩
  ·exact ⟨xe,.inr ⟨2,rfl,.inr ⟨rfl,hl,k1,x5.alloc _,x6.alloc _⟩⟩⟩
 ·rintro e w' ⟨n,w1,rfl,⟨hq,s⟩,rfl⟩;have g:Box w1 W.heap.size (.int .i64 0) 33:=s;rcases hq with ⟨rfl,hl,v',o',ho,hd,l,hb,j⟩ | ⟨rfl,hl,hk,hb,j⟩
  ·have z:=hd.wroteNew (ar w1 W.heap.size (.int .i64 0)) (by omega) (g.apart l (by decide) (by decide));have D:=(ar w1 W.heap.size (.int .i64 0)).own ho (fun b q e=>by have:=(ho.lt b q).1;omega);have a:=hb.other ⟨W.heap.size,0,none⟩ (by show _≠W.heap.size;omega) (.int .i64 0);have d:=j.other ⟨W.heap.size,0,none⟩ (by show _≠W.heap.size;omega) (.int .i64 0);have c1:=a.cell;have f1:=a.free;have c2:=d.cell;have f2:=d.free;obtain ⟨xo,xc,rfl⟩:=aV ho;have p:w.heap.size+1+1+1+1≠w.heap.size+1+1+1+1+1:=by omega
   have c3:=((a.set (.slice xo N xc)).other ⟨w.heap.size+1+1+1+1+1,0,none⟩ p (.int .u64 (R:Nat))).cell;have c4:=((d.other ⟨w.heap.size+1+1+1+1,0,none⟩ p.symm (.slice xo N xc)).set (.int .u64 (R:Nat))).cell;have kb:=(ar (w1.setCell ⟨W.heap.size,0,none⟩ (.int .i64 0)) (w.heap.size+1+1+1+1) (.slice xo N xc)).mono (T:=fun b=>b=w.heap.size+1+1+1+1∨b=w.heap.size+1+1+1+1+1) (fun b _ e=>.inl e);have y:=kb.next (ar _ (w.heap.size+1+1+1+1+1) (.int .u64 (R:Nat))) (fun b _ e=>.inr e)
   have i:=(z.room (k:=0) (ht.less (by simp))).1;have HD:=aa (z.wroteSome y (fun b hb=>by
    rcases hb with rfl | rfl
    ·exact ⟨by omega,a.apart i (by decide) (by decide)⟩
    ·exact ⟨by omega,d.apart i (by decide) (by decide)⟩))
   have HO:=aa (y.own D (fun b q e=>by have:=(ho.lt b q).1;omega));have O:Hid (OwnN .u64 23 (((w1.setCell ⟨W.heap.size,0,none⟩ (.int .i64 0)).setCell ⟨w.heap.size+1+1+1+1,0,none⟩ (.slice xo N xc)).setCell ⟨w.heap.size+1+1+1+1+1,0,none⟩ (.int .u64 (R:Nat))) w.heap.size (.slice xo N xc) N (ag (Y+X*x) N)):=aU HO.out (fun b q=>by have:=(HO.out.lt b q).1;omega);have HE:Hid (c=R):=by
    unfold Hid;rw [HC.out,HR.out,HN.out];unfold pa;rw [if_pos hl]
   generalize w1.setCell ⟨W.heap.size,0,none⟩ (.int .i64 0)=W2 at *;clear h1 hb j a d ho D kb y hd z l i s g hu hv ht x1 x2 x3 x4 x5 x6 xe k0 k1 t r he B;go_wp2_with fail;go_region
   all_goals
    go_wp2;refine bodyPost_ret (v:=.tuple #[.slice xo N xc,.int .u64 (R:Nat)]) (by simp [results,Tryz.results103,go_sem,c3,c4]) rfl ?_;rw [HE.out];unfold ut sX;rw [if_pos hl,if_pos hl,← HN.out];exact ⟨_,rfl,(aS HO.out (af _ _ _)).grew (ah _ _).drew,fun _=>O.out.drew,o',HD.out.grew (ah _ _).drew⟩
  ·have a:=hb.other ⟨W.heap.size,0,none⟩ (by show _≠W.heap.size;omega) (.int .i64 2);have d:=j.other ⟨W.heap.size,0,none⟩ (by show _≠W.heap.size;omega) (.int .i64 2);have c1:=a.cell;have f1:=a.free;have c2:=d.cell;have f2:=d.free;have p:w.heap.size+1+1+1+1≠w.heap.size+1+1+1+1+1:=by omega
   have c3:=((a.set (.slice none 0 0)).other ⟨w.heap.size+1+1+1+1+1,0,none⟩ p (.int .u64 0)).cell;have c4:=((d.other ⟨w.heap.size+1+1+1+1,0,none⟩ p.symm (.slice none 0 0)).set (.int .u64 0)).cell;have k2:=hk.next (ar w1 W.heap.size (.int .i64 2)) (fun x hx e=>by omega)
   have k3:=(k2.next (ar _ (w.heap.size+1+1+1+1) (.slice none 0 0)) (fun x hx e=>by omega)).next (ar _ (w.heap.size+1+1+1+1+1) (.int .u64 0)) (fun x hx e=>by omega)
   have HD:=aa (Did.of_kept k3 ht.1);have HE:Hid (c=0):=by
    unfold Hid;rw [HC.out];unfold pa;rw [if_neg hl]
   generalize w1.setCell ⟨W.heap.size,0,none⟩ (.int .i64 2)=W2 at *;clear h1 hb j a d hk k2 k3 s g hu hv ht x1 x2 x3 x4 x5 x6 xe k0 k1 t r he B;go_wp2_with fail;go_region
   all_goals
    go_wp2;refine bodyPost_ret (v:=.tuple #[.slice none 0 0,.int .u64 0]) (by simp [results,Tryz.results103,go_sem,c3,c4]) rfl ?_;rw [HE.out];unfold ut sX;rw [if_neg hl,if_neg hl];exact ⟨_,rfl,Row.nil _ _,fun h=>absurd h hl,o,HD.out.grew (ah _ _).drew⟩

theorem ay {W:World} {p:Nat} {a b c:Value} {t:TypeId} {fr:Nat × Nat} (h:W.heap[p]? = some (.cells #[a,b,c] t fr)):W.cell? ⟨p,0,none⟩=some a∧W.cell? ⟨p,1,none⟩=some b∧W.cell? ⟨p,2,none⟩=some c:=
 ⟨(cell_of_row W p 0 _ _ _ h).trans rfl,(cell_of_row W p 1 _ _ _ h).trans rfl,(cell_of_row W p 2 _ _ _ h).trans rfl⟩

theorem ya {P Pn B V X Q q c c2 z R d a low rest Sl A:Nat}
 (hA:A=low+P*(a+Pn*(d+B*rest))) (hv:A+P*Pn*c=X+V*Q)
 (hS:a+V*q=Sl+Pn*R) (hz:z+B*c2=d+R+c) :
 low+P*(Sl+Pn*z+Pn*B*rest)+P*Pn*B*c2=X+V*(Q+P*q):=by grind

theorem zX {Q P q B:Nat} (h:Q<P) (hq:q<B):Q+P*q<P*B:=by
 have:P*(q+1)≤P*B:=Nat.mul_le_mul_left _ hq
 grind

theorem rX {B V K d q a:Nat} (hg:(V*K+1)%B=0) (hq:q=d*K%B) (hp:a%B=d):(a+V*q)%B=0:=by
 obtain ⟨t,ht⟩:=Nat.dvd_of_mod_eq_zero hg;have e1:d*K=B*(d*K/B)+q:=by rw [hq];exact (Nat.div_add_mod _ _).symm
 have e2:a=B*(a/B)+d:=by rw [← hp];exact (Nat.div_add_mod _ _).symm
 apply Nat.mod_eq_zero_of_dvd;have h3:B ∣ a+V*q+B*(V*(d*K/B)):=by
  refine ⟨a/B+d*t,?_⟩;generalize a/B=pb at *;generalize d*K/B=kb at *
  grind
 exact (Nat.dvd_add_left ⟨_,rfl⟩).1 h3

theorem vk {P V X Q T c A:Nat} (hA:A=P*T) (hv:A+P*P*c=X+V*Q) (hQ:Q<P) (hX:X<V*P):T+P*c<2*V∧(P*(T+P*c))%V=X%V:=by
 have e:P*(T+P*c)=X+V*Q:=by rw [← hv,hA];grind
 refine ⟨?_,by rw [e,Nat.add_mul_mod_self_left]⟩;apply Nat.lt_of_mul_lt_mul_left (a:=P);rw [e];have:V*(Q+1)≤V*P:=Nat.mul_le_mul_left _ hQ
 grind

theorem vz {Z V:Nat} (h:Z<2*V):(if V≤Z then Z-V else Z)=Z%V:=by
 split
 ·rename_i h1
  rw [Nat.mod_eq_sub_mod h1,al (by omega)]
 ·rw [al (by omega)]

theorem uC {V P Q Q' a:Nat} (hc:Nat.Coprime V P) (hQ:Q<P) (c:Q'<P) (h:(a+V*Q)%P=(a+V*Q')%P):Q=Q':=by
 have b:∀ x y:Nat,x≤y→y<P→(a+V*x)%P=(a+V*y)%P→x=y:=by
  intro x y f hy he;have hd:P ∣ (a+V*y)-(a+V*x):=Nat.dvd_of_mod_eq_zero (Nat.sub_mod_eq_zero_of_mod_eq he.symm);have e:(a+V*y)-(a+V*x)=V*(y-x):=by rw [Nat.mul_sub];omega
  rw [e] at hd;have d:=(Nat.Coprime.symm hc).dvd_of_dvd_mul_left hd;have:=Nat.eq_zero_of_dvd_of_lt d (by omega);omega
 rcases Nat.le_total Q Q' with h1 | h1
 ·exact b _ _ h1 c h
 ·exact (b _ _ h1 hQ h.symm).symm

theorem ue {V R P1 Q W E A c:Nat} (hR:R<V) (hQ:Q<P1) (hE:V*P1≤E) (hv:A+E*c=R+V*Q) (hA:A%P1=0) (hc:Nat.Coprime V P1) (hW:W%P1=0) (e:W/V<P1):A=W↔R=W%V:=by
 have hlt:R+V*Q<E:=by
  have:V*(Q+1)≤V*P1:=Nat.mul_le_mul_left _ hQ
  grind
 have d:c=0:=by
  rcases Nat.eq_zero_or_pos c with h | h
  ·exact h
  ·have:E*1≤E*c:=Nat.mul_le_mul_left _ h;omega
 subst d;rw [Nat.mul_zero,Nat.add_zero] at hv;constructor
 ·intro h;rw [← h,hv,Nat.add_mul_mod_self_left,al hR]
 ·intro h;have b:R+V*(W/V)=W:=by rw [h];exact Nat.mod_add_div _ _
  have:=uC (a:=R) hc hQ e (by rw [b,← hv,hA,hW]);rw [hv,this,b]

theorem e8 {P V Y Z:Nat} (hc:Nat.Coprime P V) (h:P*Y%V=P*Z%V):Y%V=Z%V:=by
 have a:∀ x y:Nat,x≤y→P*x%V=P*y%V→x%V=y%V:=by
  intro x y b he;have hd:V ∣ P*y-P*x:=Nat.dvd_of_mod_eq_zero (Nat.sub_mod_eq_zero_of_mod_eq he.symm);rw [← Nat.mul_sub] at hd;obtain ⟨t,ht⟩:=(Nat.Coprime.symm hc).dvd_of_dvd_mul_left hd;have:y=x+V*t:=by omega
  rw [this,Nat.add_mul_mod_self_left]
 rcases Nat.le_total Y Z with h1 | h1
 ·exact a _ _ h1 h
 ·exact (a _ _ h1 h.symm).symm

theorem Af {P V Y e:Nat} (hc:Nat.Coprime P V) (hY:Y<V) (h:P*Y%V=(P*2^e%V)*(P*2^e%V)%V):Y=P*2^(2*e)%V:=by
 rw [← al hY];apply e8 hc;rw [h,← Nat.mul_mod,Nat.two_mul,Nat.pow_add]
 congr 1
 grind

theorem ph {V a:Nat}:2*(a%V)%V=2*a%V:=by
 rw [Nat.mul_mod,Nat.mod_mod,← Nat.mul_mod]

theorem dL {V k:Nat} (h:V%2=1):Nat.Coprime V (2^k):=by
 apply Nat.Coprime.pow_right;rw [Nat.Coprime,Nat.gcd_comm,Nat.gcd_rec,h];rfl

theorem rG {X V n N k Q q R S z c c2 K:Nat} {zs:List Nat} (e:Digs zs) (l:zs.length=N) (w:k+n<N) (hv:val zs+18446744073709551616^(k+n)*c=X+V*Q) (hQ:Q<18446744073709551616^k) (hq:q=zs.getD k 0*K%18446744073709551616)
  (hS:S=val ((zs.drop k).take n)+V*q) (hR:R=S/18446744073709551616^n) (hz:z+18446744073709551616*c2=zs.getD (k+n) 0+R+c) (v:z<18446744073709551616) (f:(V*K+1)%18446744073709551616=0→0<n→val zs%18446744073709551616^k=0) :
  val (zs.take k ++ ((ag S n ++ [z]) ++ zs.drop (k+(n+1))))+18446744073709551616^(k+1+n)*c2=X+V*(Q+18446744073709551616^k*q)∧Q+18446744073709551616^k*q<18446744073709551616^(k+1)∧((V*K+1)%18446744073709551616=0→0<n→val (zs.take k ++ ((ag S n ++ [z]) ++ zs.drop (k+(n+1))))%18446744073709551616^(k+1)=0) ∧
  Digs (zs.take k ++ ((ag S n ++ [z]) ++ zs.drop (k+(n+1))))∧(zs.take k ++ ((ag S n ++ [z]) ++ zs.drop (k+(n+1)))).length=N:=by
 have hB:0<18446744073709551616:=by omega
 have g:(ag S n ++ [z]).length=n+1:=by simp [af]
 have i:q<18446744073709551616:=by rw [hq];exact Nat.mod_lt _ hB
 have b:=nm (j:=k) (k:=n+1) hB e g (by omega);rw [aO,af,ak] at b;have a:=nW hB e k n;have h:zs.getD (k+n) 0=val zs/18446744073709551616^(k+n)%18446744073709551616:=by rw [← aN hB e (k+n)];rfl
 have t:zs.getD k 0=val zs/18446744073709551616^k%18446744073709551616:=by rw [← aN hB e k];rfl
 have hA:val zs=val zs%18446744073709551616^k+18446744073709551616^k*(val zs/18446744073709551616^k%18446744073709551616^n+18446744073709551616^n*(val zs/18446744073709551616^(k+n)%18446744073709551616+18446744073709551616*(val zs/18446744073709551616^(k+(n+1))))):=by
  have e1:val zs/18446744073709551616^(k+n)=val zs/18446744073709551616^k/18446744073709551616^n:=by rw [Nat.pow_add,Nat.div_div_eq_div_mul]
  have e2:val zs/18446744073709551616^(k+(n+1))=val zs/18446744073709551616^k/18446744073709551616^n/18446744073709551616:=by rw [← Nat.add_assoc,Nat.pow_succ,Nat.pow_add,Nat.div_div_eq_div_mul,Nat.div_div_eq_div_mul,Nat.mul_assoc]
  rw [e1,e2,Nat.mod_add_div,Nat.mod_add_div,Nat.mod_add_div]
 have m:val zs/18446744073709551616^k%18446744073709551616^n+V*q=S%18446744073709551616^n+18446744073709551616^n*R:=by rw [← a,← hS,hR,Nat.mod_add_div]
 rw [Nat.pow_add] at hv;rw [h] at hz;have o:=ya hA hv m hz;refine ⟨?_,?_,?_,fj e ((ai hB _ _).append (Digs.one v)),l8 l g (by omega)⟩
 ·have e4:18446744073709551616^(k+1+n)=18446744073709551616^k*18446744073709551616^n*18446744073709551616:=by rw [show k+1+n=k+n+1 by omega,Nat.pow_succ,Nat.pow_add]
  have e5:18446744073709551616^(n+1)=18446744073709551616^n*18446744073709551616:=Nat.pow_succ _ _;rw [b,e4,e5];exact o
 ·rw [Nat.pow_succ];exact zX hQ i
 ·intro hg hn;have e6:18446744073709551616^(k+1)=18446744073709551616^k*18446744073709551616:=Nat.pow_succ _ _;rw [b,f hg hn,Nat.zero_add,e6,Nat.mul_mod_mul_left];obtain ⟨n',rfl⟩:∃ n',n=n'+1:=⟨n-1,by omega⟩
  have h0:S%18446744073709551616=0:=by
   rw [hS,a];refine rX hg (d:=zs.getD k 0) hq ?_;rw [Nat.pow_succ,Nat.mod_mul_left_mod,← t]
  have h1:(S%18446744073709551616^(n'+1)+18446744073709551616^(n'+1)*z+18446744073709551616^(n'+1+1)*(val zs/18446744073709551616^(k+(n'+1+1))))%18446744073709551616=0:=by
   rw [Nat.pow_succ 18446744073709551616 (n'+1),Nat.pow_succ 18446744073709551616 n'];have e3:S%(18446744073709551616^n'*18446744073709551616)+18446744073709551616^n'*18446744073709551616*z+18446744073709551616^n'*18446744073709551616*18446744073709551616*(val zs/18446744073709551616^(k+(n'+1+1)))=S%(18446744073709551616^n'*18446744073709551616)+18446744073709551616*(18446744073709551616^n'*z+18446744073709551616^n'*18446744073709551616*(val zs/18446744073709551616^(k+(n'+1+1)))):=by
    generalize 18446744073709551616^n'=p;generalize val zs/18446744073709551616^(k+(n'+1+1))=r;generalize S%(p*18446744073709551616)=s
    grind
   rw [e3,Nat.add_mul_mod_self_left,Nat.mod_mul_left_mod,h0]
  rw [h1,Nat.mul_zero]

theorem yr (g base N cap j n c W:Nat) (zs ys:List Nat) (v:Value) (w:World) (ho:OwnN .u64 23 w base (.slice (some ⟨g,0,none⟩) N cap) N zs) (D:zs.length=N) (l:Digs zs) (hj:j+n≤N)
  (hv:Row .u64 w v ys) (p:ys.length=n) (f:Digs ys) (A:ys≠[]→∀ b,v.ownBlock=some b→b≠g) (hW:W<18446744073709551616) (R S:Nat) (hS:S=val ((zs.drop j).take n)+val ys*W) (hR:R=S/18446744073709551616^n) :
  Calls Tryz.prog 250 #[.slice (some ⟨g,j,none⟩) n c,v,.int .u64 (W:Nat)] w fun e w'=>e=.returned (.int .u64 (R:Nat)) ∧
   OwnN .u64 23 w' base (.slice (some ⟨g,0,none⟩) N cap) N (zs.take j ++ (ag S n ++ zs.drop (j+n)))∧Kept (fun b=>b=g) w w':=by
 have hX:=jp (j:=j) (n:=n) l;have hY:val ys<18446744073709551616^n:=by rw [← p];exact aq (by omega) f
 have t:Hid (∀ k,k<n→dig (val ((zs.drop j).take n)) k=zs.getD (j+k) 0):=fun k hk=>jY l hk
 have q:Hid (∀ k,dig (val ys) k=ys.getD k 0):=fun k=>aN (by omega) f k
 have s:Hid (∀ k,zs.getD (j+k) 0<18446744073709551616):=fun k=>l.getD (by omega) _
 have r:Hid (∀ k,ys.getD k 0<18446744073709551616):=fun k=>f.getD (by omega) _
 have a:Hid (∀ W',Kept (fun b=>b=g) w W'→Row .u64 W' v ys):=fun W' k=>hv.kept' k A
 generalize val ((zs.drop j).take n)=X at *;generalize val ys=Y at *;have HX:=aa hX;have HY:=aa hY;have HS:=aa hS;have HR:=aa hR;have B:=aa D;have HO:=aa ho;have hlt:=cL ho;obtain ⟨bo,m,bc,rfl,hM,_,_,_,_⟩:=hv.open;obtain rfl:m=n:=hM.out.symm.trans p;clear ho D hX hY hS hR p f l A hv hM;go_enter Tryz.func250,Tryz.ntmps250;go_wp2_with fail;go_loopw [7,11] (fun ab i wr=>∃ (k c':Nat) (os:List Nat),k≤m∧c'<18446744073709551616∧i=.int .i64 (k:Int)∧ab=.int .u64 (c':Int)∧Hid (os.length=k)∧Digs os∧OwnN .u64 23 wr base (.slice (some ⟨g,0,none⟩) N cap) N (zs.take j ++ (os ++ zs.drop (j+k)))∧Kept (fun b=>b=g) w wr ∧
   Hid (val os+18446744073709551616^k*c'=X%18446744073709551616^k+Y%18446744073709551616^k*W)) (fun _ i _=>m-(intOf i).toNat)
 case atStart=>exact ⟨0,0,[],Nat.zero_le _,by omega,rfl,rfl,rfl,Digs.nil _,by rw [Nat.add_zero,List.nil_append,List.take_append_drop];exact HO.out,ah _ _,by unfold Hid;simp [val,Nat.mod_one]⟩
 case round=>
  obtain ⟨k,c',os,hk,hc,rfl,rfl,HL,C,ho,o,HV⟩:=hrel;by_cases hkn:k<m
  ·have P:(0:Int)≤(k:Int):=Int.natCast_nonneg _;have G:(k:Int)<(m:Int):=by omega
   have O:=eP ho B.out HL.out (by omega);obtain ⟨_,_,_,e2,_,_,_,_,d⟩:=(a.out wr o).open;cases e2
   obtain ⟨b2,I,rfl,M⟩:=d k hkn;have hf:=World.ownsRow.frozenAt ho (j+k);have hx:=s.out k;have hy:=r.out k;have H:Hid (∀ z c2,z+18446744073709551616*c2=ys.getD k 0*W+zs.getD (j+k) 0+c'→val (os ++ [z])+18446744073709551616^(k+1)*c2=X%18446744073709551616^(k+1)+Y%18446744073709551616^(k+1)*W):=fun z c2 h=>iO HL.out HV.out (by rw [t.out k hkn,q.out k];exact h)
   have E:Hid (∀ u:Nat,OwnN .u64 23 (wr.setCell ⟨g,j+k,none⟩ (.int .u64 (u:Int))) base (.slice (some ⟨g,0,none⟩) N cap) N (zs.take j ++ ((os ++ [u]) ++ zs.drop (j+(k+1))))):=fun u=>by
    have:=(World.ownsRow.stored ho (j+k) (.int .u64 (u:Int))).1;unfold OwnN;rw [← fz zs os j k u HL.out (by have:=B.out;omega),List.map_set];exact this
   clear HV a d t q s r HO HX HY HS HR;generalize zs.getD (j+k) 0=x at *;generalize ys.getD k 0=y at *;go_wp2_with fail;go_region_with (go_at_call 178;refine (pN y W x c' hy hW hx hc _).mono ?_;rintro e w7 ⟨h2,l2,rfl,F,J,L,rfl⟩)
   all_goals
    go_wp2_with fail;go_roundw
    case rel=>exact ⟨k+1,h2,os ++ [l2],by omega,F,by go_num,rfl,by unfold Hid;rw [List.length_append,HL.out];rfl,C.append (Digs.one J),E.out l2,(o.setCell _ (fun _=>rfl) _).drew,H.out l2 h2 L⟩
    case measure=>simp [intOf];omega
  ·have G:¬ (k:Int)<(m:Int):=by omega
   obtain rfl:k=m:=by omega
   have e:=HV.out;rw [al HX.out,al HY.out,← HS.out] at e;obtain ⟨e1,e2⟩:=mi (by omega) HL.out C e;have E1:=aa e1;have E2:=aa (e2.trans HR.out.symm);clear e e1 e2 HV a t q s r HO HX HY HS HR;go_wp2_with fail;go_ret;rw [← E1.out,← E2.out];exact ⟨rfl,ho,o⟩

end Go.Proofs.YtcemlfokmjjiaaaGreatDoor
