/- Put together of: Pro2 MonA. -/
import Derived.Test.YtcemlfokmjjiaaaGreatDoorPm15

namespace Go.Proofs.YtcemlfokmjjiaaaGreatDoor
set_option maxRecDepth 100000
set_option maxHeartbeats 4000000
open Go.RowKit

theorem Box.did {w w':World} {o o':Tr} {m:List Ev} {b:Nat} {v:Value} {t:TypeId} (h:Box w b v t) (d:Did w o m w' o') (ht:TrIn w o) (h1:t≠225) (h2:t≠189):Box w' b v t:=h.kept d.kept (aA h ht h1 h2)

theorem Box.apart {w:World} {o:Tr} {b:Nat} {v:Value} {t:TypeId} (h:Box w b v t) (ht:TrIn w o) (h1:t≠225) (h2:t≠189):¬ dM o b:=aA h ht h1 h2

theorem aN (o:Tr):∃ po,aG o=.pointer po:=by
 cases o with
 | none=>exact ⟨_,rfl⟩
 | some x=>exact ⟨_,rfl⟩

theorem Br (o:Tr) (ao bo:Option Addr) (L M cap c:Nat) (xs ys:List Nat) (bT bA bB bO:Nat) (w:World) (ht:TrRoom w o 300) (hu:RowT w o (.slice ao L cap) xs) (hv:RowT w o (.slice bo M c) ys) (f:Digs xs) (i:Digs ys)
  (hT:Box w bT (aG o) 127) (hA:Box w bA (.slice ao L cap) 32) (hB:Box w bB (.slice bo M c) 32) (hO:Box w bO (.slice none 0 0) 32) :
  Calls Tryz.prog 96 #[.pointer (some ⟨bA,0,none⟩),.pointer (some ⟨bB,0,none⟩),.pointer (some ⟨bT,0,none⟩),.pointer (some ⟨bO,0,none⟩)] w fun e w'=>
   ((L≤300∧M≤300)∧e=.returned (.tuple #[])∧∃ v' w1 o',v'=.slice (some ⟨w.heap.size,0,none⟩) (L+M) (L+M)∧OwnN .u64 23 w1 w.heap.size v' (L+M) (ai (val xs*val ys) (L+M))∧Did w o (List.replicate L (1,(M:Nat),0)) w1 o'∧Kept (fun b=>b=bO) w1 w'∧Box w' bO v' 32) ∨
   (¬ (L≤300∧M≤300)∧e=.panicked [refusal 2]∧w'=w):=by
 obtain ⟨_,_,_,e1,h,_,_,_,_⟩:=hu.1.open;cases e1
 obtain ⟨_,_,_,e1,d,_,_,_,_⟩:=hv.1.open;cases e1
 have eL:=h.out;have eM:=d.out;have hP:=fun W=>vU ao bo L M cap c W
 have hR:=fun W (k:Kept af w W) (l1:L≤300) (l2:M≤300)=>Cm o _ _ xs ys W ((ht.less (by omega)).grew k) (hu.grew k) (hv.grew k) f i (by omega) (by omega)
 rw [eL,eM] at hR;obtain ⟨po,g⟩:=aN o;rw [g] at hR hT;have cT:=hT.cell;have cA:=hA.cell;have cB:=hB.cell;have HO:=aa hO;have HT:=aa ht.1;clear hu hv f i h d eL eM g hT hA hB hO ht;go_enter Tryz.func96,Tryz.ntmps96;go_wp2_with fail;refine (hP _).mono ?_;rintro e w1 ⟨⟨l1,l2,rfl⟩ | ⟨l1,rfl⟩,rfl⟩
 ·go_wp2_with fail;refine (hR _ (ah _ _) l1 l2).mono ?_;rintro e w2 ⟨v',rfl,rfl,ho,o',hd⟩;have a:=HO.out.did hd HT.out (by decide) (by decide);have cO:=a.cell;have fO:=a.free;have HD:=aa hd;have l:=aa ho;have j:=aa a;clear hP hR cT cA cB hd ho a;go_wp2_with fail;go_end0
  exact .inl ⟨⟨l1,l2⟩,rfl,_,_,o',rfl,l.out,HD.out,au _ _ _,j.out.set _⟩
 ·exact ⟨rfl,.inr ⟨l1,rfl,rfl⟩⟩

def fJ (X Y L M:Nat):List Nat:=if L≤300∧M≤300 then ai (X*Y) (L+M) else []

def j4 (L M:Nat):List Ev:=if L≤300∧M≤300 then List.replicate L (1,((M:Nat):Int),0) else []

theorem zB (o:Tr) (ao bo:Option Addr) (L M cap i:Nat) (xs ys:List Nat) (w:World) (ht:TrRoom w o 300) (hu:RowT w o (.slice ao L cap) xs) (hv:RowT w o (.slice bo M i) ys) (A:Digs xs) (F:Digs ys) :
  Calls Tryz.prog 50 #[aG o,.slice ao L cap,.slice bo M i] w fun e w'=>∃ v',e=.returned v' ∧
   Row .u64 w' v' (fJ (val xs) (val ys) L M)∧(∀ b,v'.ownBlock=some b→w.heap.size≤b)∧(L≤300∧M≤300→∃ g,w.heap.size≤g∧v'=.slice (some ⟨g,0,none⟩) (L+M) (L+M)∧OwnN .u64 23 w' g v' (L+M) (ai (val xs*val ys) (L+M)))∧∃ o',Did w o (j4 L M) w' o':=by
 have I:=fd;obtain ⟨po,s⟩:=aN o;have H:=jV w (.pointer po) (.slice ao L cap) (.slice bo M i) (.slice none 0 0) 127 32 32 32;have he:∀ args w,(callFunc 96 args).run Tryz.prog w=.ok (.enter 96 args) w:=fun _ _=>by simp [go_sem]
 rw [s];go_enter Tryz.func50,Tryz.ntmps50;go_wp2_with fail;generalize (((w.alloc (.cells #[.pointer po] 127)).alloc (.cells #[.slice ao L cap] 32)).alloc (.cells #[.slice bo M i] 32)).alloc (.cells #[.slice none 0 0] 32)=W at *;obtain ⟨k0,x1,x2,x3,x4,hs⟩:=H;have k1:=k0.alloc (.cells #[.int .i64 0] 33);have xe:=Box.new W (.int .i64 0) 33;have h1:=Br o ao bo L M cap i xs ys _ _ _ _ _ (ht.grew k1) (hu.grew k1) (hv.grew k1) A F (by rw [s];exact x1.alloc _) (x2.alloc _) (x3.alloc _) (x4.alloc (.cells #[.int .i64 0] 33))
 refine (jc 96 _ W (fun n W'=>(n=0∧(L≤300∧M≤300)∧∃ v' o',v'=.slice (some ⟨W.heap.size+1,0,none⟩) (L+M) (L+M)∧OwnN .u64 23 W' (W.heap.size+1) v' (L+M) (ai (val xs*val ys) (L+M))∧Did w o (List.replicate L (1,(M:Nat),0)) W' o'∧Box W' (w.heap.size+1+1+1) v' 32)∨(n=2∧¬ (L≤300∧M≤300)∧Kept af w W'∧Box W' (w.heap.size+1+1+1) (.slice none 0 0) 32)) he (h1.mono ?_)).mono ?_
 ·rintro e w' (⟨hl,rfl,v',w1,o',f,ho,hd,hk,hb⟩ | ⟨hl,rfl,rfl⟩)
  ·rw [show (W.alloc (.cells #[.int .i64 0] 33)).heap.size=W.heap.size+1 by simp] at ho f;have m:=(hd.room (k:=0) ((ht.grew k1).less (by simp;omega))).1;have G:=(x4.alloc (.cells #[.int .i64 0] 33)).did hd (ht.grew k1).1 (by decide) (by decide);have D:=(xe.did hd (ht.grew k1).1 (by decide) (by decide)).kept hk (by omega);refine ⟨D,.inl ⟨rfl,.inl ⟨rfl,hl,v',o',f,hk.own ho (fun b c e=>?_),(Did.after k1 hd).wroteNew hk (by omega) (G.apart m (by decide) (by decide)),hb⟩⟩⟩;have:=(ho.lt b c).1;omega
  ·exact ⟨xe,.inr ⟨2,rfl,.inr ⟨rfl,hl,k1,x4.alloc _⟩⟩⟩
 ·rintro e w' ⟨n,w1,rfl,⟨hq,r⟩,rfl⟩;have d:Box w1 W.heap.size (.int .i64 0) 33:=r;rcases hq with ⟨rfl,hl,v',o',f,ho,hd,hb⟩ | ⟨rfl,hl,hk,hb⟩
  ·have m:=(hd.room (k:=0) (ht.less (by simp;omega))).1;have q:=hd.wroteNew (au w1 W.heap.size (.int .i64 0)) (by omega) (d.apart m (by decide) (by decide));have z:=(au w1 W.heap.size (.int .i64 0)).own ho (fun b c e=>by have:=(ho.lt b c).1;omega);have a:=hb.other ⟨W.heap.size,0,none⟩ (by show _≠W.heap.size;omega) (.int .i64 0);have E:=a.cell;have B:=a.free;have p:=(a.set v').cell;have t:=(au _ (w.heap.size+1+1+1) v').own z (fun b c e=>by have:=(ho.lt b c).1;omega);have j:=(q.room (k:=0) (ht.less (by simp;omega))).1;have y:=q.wroteNew (au _ (w.heap.size+1+1+1) v') (by omega) (a.apart j (by decide) (by decide))
   have l:Hid (∀ b,v'.ownBlock=some b→w.heap.size≤b):=fun b c=>by have:=(ho.lt b c).1;omega
   obtain ⟨xo,xc,rfl⟩:=bh ho;have C:=aa f;clear f;have HO:=aa t;have HD:=aa y;clear h1 ho hd hb z q t y m j a r d hu hv ht;generalize w1.setCell ⟨W.heap.size,0,none⟩ (.int .i64 0)=W2 at *;go_wp2_with fail;refine bodyPost_ret (v:=.slice xo (L+M) xc) (by simp [results,Tryz.results50,go_sem,p]) rfl ?_;unfold fJ j4;rw [if_pos hl,if_pos hl];exact ⟨_,rfl,Row.of_own (base:=W.heap.size+1) (e:=23) (by rw [ag];exact HO.out),l.out,(fun _=>⟨_,by omega,C.out,HO.out⟩),o',HD.out⟩
  ·have k2:=hk.next (au w1 W.heap.size (.int .i64 2)) (fun x hx e=>by omega)
   have a:=hb.other ⟨W.heap.size,0,none⟩ (by show _≠W.heap.size;omega) (.int .i64 2);have E:=a.cell;have B:=a.free;have p:=(a.set (.slice none 0 0)).cell;have HD:=aa (Did.of_kept (k2.next (au _ (w.heap.size+1+1+1) (.slice none 0 0)) (fun x hx e=>by omega)) ht.1);clear h1 hb hu hv ht hk k2 a r d;generalize w1.setCell ⟨W.heap.size,0,none⟩ (.int .i64 2)=W2 at *;go_wp2_with fail;refine bodyPost_ret (v:=.slice none 0 0) (by simp [results,Tryz.results50,go_sem,p]) rfl ?_;unfold fJ j4;rw [if_neg hl,if_neg hl];exact ⟨_,rfl,Row.nil _ _,(fun b hb=>by cases hb),(fun h=>absurd h hl),o,HD.out⟩

theorem CG (o:Tr) (ao bo:Option Addr) (L M cap a:Nat) (xs ys:List Nat) (w:World) (ht:TrRoom w o 300) (hu:RowT w o (.slice ao L cap) xs) (hv:RowT w o (.slice bo M a) ys) (c:Digs xs) (d:Digs ys) :
  Calls Tryz.prog 50 #[aG o,.slice ao L cap,.slice bo M a] w fun e w'=>∃ v',e=.returned v' ∧
   Row .u64 w' v' (fJ (val xs) (val ys) L M)∧(∀ b,v'.ownBlock=some b→w.heap.size≤b)∧∃ o',Did w o (j4 L M) w' o':=by
 refine (zB o ao bo L M cap a xs ys w ht hu hv c d).mono ?_;rintro e w' ⟨v',rfl,h1,h2,_,h3⟩;exact ⟨v',rfl,h1,h2,h3⟩

theorem Cf (v:Value) (xs:List Nat) (n:Nat) (w:World) (h:Row .u64 w v xs) (hl:xs.length≤n) (hn:n≤1000000) :
  Calls Tryz.prog 148 #[v,.int .i64 (n:Nat)] w fun e w'=>e=.returned (.slice (some ⟨w.heap.size,0,none⟩) n n)∧OwnN .u64 23 w' w.heap.size (.slice (some ⟨w.heap.size,0,none⟩) n n) n (xs ++ List.replicate (n-xs.length) 0)∧Kept af w w':=by
 obtain ⟨i0,i,p,f,m⟩:=info_parts Tryz.info23;obtain ⟨ao,q,cap,rfl,hL,_,_,_,_⟩:=h.open;have HS:Hid (∀ W,Kept af w W→0<(xs.map fun z:Nat=>Value.int .u64 (z:Int)).length→∃ ad,ao=some ad∧∀ j u,(xs.map fun z:Nat=>Value.int .u64 (z:Int))[j]? = some u→W.cell? (ad.add j)=some u):=fun W hk hp=>h.source hk hp
 have HO:=aa (ib .u64 xs);have b:Hid ((xs.map fun z:Nat=>Value.int .u64 (z:Int)).length=q):=by unfold Hid;rw [List.length_map];exact hL.out
 obtain ⟨CS,d⟩:∃ CS,CS=xs.map (fun z:Nat=>Value.int .u64 (z:Int)):=⟨_,rfl⟩
 rw [← d] at HS HO b;have o:Hid (CS=xs.map (fun z:Nat=>Value.int .u64 (z:Int))):=d;have hq:q≤n:=by rw [← hL.out];exact hl
 clear d h hl;go_enter Tryz.func148,Tryz.ntmps148;go_wp2_with (at_make;refine wpList_make_full _ rfl _ _ 32 rfl w.heap.size 23 i0 _ 1 Tryz.underlying32 i p f _ _ _ _ n rfl rfl rfl rfl (by rw [m];omega) (by unfold maxLen;omega) (leR _) ?_;intro w1 c k;rw [aJ] at c;have k1:=aE k;obtain ⟨w2,l,g,k2⟩:=dr (P:=Tryz.prog) 32 32 3 23 w.heap.size 0 n n (some ⟨w.heap.size,0,none⟩) ao q cap _ 23 CS Tryz.underlying32 (by rw [i];simp [f]) (eF c) (by rw [b.out];exact (Nat.min_eq_left hq).symm) (fun hp=>⟨rfl,HS.out _ k1 hp⟩) (by have:=b.out;simp;omega) HO.out;have r:Hid _:=g;clear g c k);go_ret;have a:=r.out
 rw [o.out,er] at a;have kk:=cZ k1 k2 (leR _);exact ⟨rfl,cL a (by simp [hL.out];omega) (by unfold maxLen;omega) (leR _),kk⟩

def tT (X W Y L M:Nat):List Nat:=if L≤300∧M≤300 then ai (Y+X*W) (max L M) else []

def pO (X W Y L M:Nat):Nat:=if L≤300∧M≤300 then (Y+X*W)/18446744073709551616^max L M else 0

def tV (L M:Nat):List Ev:=if L≤300∧M≤300 then [(1,((max L M:Nat):Int),0)] else []

theorem nK {ys:List Nat} (n:Nat):val (ys ++ List.replicate n 0)=val ys:=by
 rw [bZ,cY _ (fun d hd=>(List.mem_replicate.1 hd).2),Nat.mul_zero,Nat.add_zero]

theorem bf {w:World} {base n:Nat} {v:Value} {zs:List Nat} (h:OwnN .u64 23 w base v n zs) (hl:zs.length=n):Row .u64 w v zs:=
 Row.of_own (base:=base) (e:=23) (by rw [hl];exact h)

theorem lF {ys:List Nat} (h:Digs ys) (n:Nat):Digs (ys ++ List.replicate n 0):=h.append (fun d hd=>by rw [(List.mem_replicate.1 hd).2];omega)

theorem rS (o:Tr) (ao bo:Option Addr) (L M cap A:Nat) (xs ys:List Nat) (x:Nat) (hx:x<18446744073709551616) (bT bA bB bO bW bU N:Nat) (hN:N=max L M) (w:World) (ht:TrRoom w o 300) (hu:RowT w o (.slice ao L cap) xs) (hv:RowT w o (.slice bo M A) ys) (P:Digs xs) (ae:Digs ys)
  (hT:Box w bT (aG o) 127) (hA:Box w bA (.slice ao L cap) 32) (hB:Box w bB (.slice bo M A) 32) (hO:Box w bO (.slice none 0 0) 32) (hW:Box w bW (.int .u64 (x:Nat)) 23) (hU:Box w bU (.int .u64 0) 23) (J:bO≠bU) (ax:bA≠bO) (az:bW≠bO) (am:bA≠bU) (aw:bW≠bU) (an:xs≠[]→∀ b,(Value.slice ao L cap).ownBlock=some b→b≠bO) (X Y R:Nat) (hX:X=val xs) (hY:Y=val ys) (hR:R=(Y+X*x)/18446744073709551616^N) :
  Calls Tryz.prog 147 #[.pointer (some ⟨bA,0,none⟩),.pointer (some ⟨bB,0,none⟩),.pointer (some ⟨bT,0,none⟩),.pointer (some ⟨bO,0,none⟩),.pointer (some ⟨bW,0,none⟩),.pointer (some ⟨bU,0,none⟩)] w fun e w'=>
   ((L≤300∧M≤300)∧e=.returned (.tuple #[])∧∃ v' w1 o',OwnN .u64 23 w' w.heap.size v' N (ai (Y+X*x) N)∧Did w o [(1,(N:Int),0)] w1 o'∧Kept (fun b=>b=bO∨b=bU∨w1.heap.size≤b) w1 w'∧Box w' bO v' 32∧Box w' bU (.int .u64 (R:Nat)) 23) ∨
   (¬ (L≤300∧M≤300)∧e=.panicked [refusal 2]∧w'=w):=by
 obtain ⟨_,_,_,e1,V,_,_,_,_⟩:=hu.1.open;cases e1
 obtain ⟨_,_,_,e1,ab,_,_,_,_⟩:=hv.1.open;cases e1
 have eL:=V.out;have eM:=ab.out;have hP:=fun W=>vU ao bo L M cap A W
 obtain ⟨po,U⟩:=aN o;have hS:=fun (n:Int)=>dX o n w ht.1
 rw [U] at hS hT;have cT:=hT.cell;have cA:=hA.cell;have cB:=hB.cell;have HO:=aa hO;have HT:=aa ht;have HU:=aa hu;have HV:=aa hv;have HA:=aa hA;have HB:=aa hB;have HW:=aa hW;have aH:=aa hU;have aA:=aa P;have aB:=aa ae;clear hu hv P ae V ab U hT hA hB hO ht hW hU;go_enter Tryz.func147,Tryz.ntmps147;go_wp2_with fail;refine (hP _).mono ?_;rintro e w1 ⟨⟨l1,l2,rfl⟩ | ⟨l1,rfl⟩,rfl⟩
 ·have gN:max (L:Int) (M:Int)=(N:Int):=by omega
  have aQ:L≤N:=by omega
  have aP:M≤N:=by omega
  have aM:N≤300:=by omega
  clear hN hP;go_wp2_with fail;refine (hS _).mono ?_;rintro e w2 ⟨rfl,o2,d2⟩;have p:=HT.out.1;have v:=HO.out.did d2 p (by decide) (by decide);have B:=HA.out.did d2 p (by decide) (by decide);have y:=HW.out.did d2 p (by decide) (by decide);have C:=aH.out.did d2 p (by decide) (by decide);have ac:=HB.out.did d2 p (by decide) (by decide);have ad:=(HU.out.did d2).1;have Q:=(HV.out.did d2).1;have aq:=ac.cell;have Z:=Cf _ ys N w2 Q (by omega) (by omega);clear hS;go_wp2_with fail;refine Z.mono ?_;rintro e w3 ⟨rfl,s,k3⟩;have a:=v.grew k3;have ay:=a.cell;have ap:=a.free;obtain ⟨g,hg⟩:∃ g,g=w2.heap.size:=⟨_,rfl⟩
  rw [← hg] at s ⊢;have aj:=v.lt;have aE:=C.lt;have i:=a.set (.slice (some ⟨g,0,none⟩) N N);have c:=((B.grew k3).kept (au w3 bO (.slice (some ⟨g,0,none⟩) N N)) ax)
  have j:=((y.grew k3).kept (au w3 bO (.slice (some ⟨g,0,none⟩) N N)) az)
  have r:=((C.grew k3).kept (au w3 bO (.slice (some ⟨g,0,none⟩) N N)) (fun e=>J e.symm))
  have G:=(au w3 bO (.slice (some ⟨g,0,none⟩) N N)).own s (fun b m e=>by have:=(s.lt b m).1;omega);have HG:=aa hg;have z:Kept (fun b=>b=bO) w2 (w3.setCell ⟨bO,0,none⟩ (.slice (some ⟨g,0,none⟩) N N)):=k3.any.trans (au w3 bO _);clear hg;go_wp2_with fail;generalize w3.setCell ⟨bO,0,none⟩ (.slice (some ⟨g,0,none⟩) N N)=W4 at *;have T:Row .u64 W4 (.slice ao L cap) xs:=ad.kept' z (fun F b hb e=>an F b hb e)
  have av:∀ W,Kept af W4 W→Calls Tryz.prog 148 #[.slice ao L cap,.int .i64 (N:Int)] W fun e w'=>∃ b0,e=.returned (.slice (some ⟨b0,0,none⟩) N N)∧W4.heap.size≤b0∧Row .u64 w' (.slice (some ⟨b0,0,none⟩) N N) (xs ++ List.replicate (N-xs.length) 0)∧Kept af W4 w':=fun W k=>by
   refine (Cf _ xs N W (T.grew k) (by omega) (by omega)).mono ?_;rintro e w' ⟨rfl,ho,kk⟩;exact ⟨_,rfl,k.size,bf ho (by simp;omega),k.trans kk⟩
  have ak:g<W4.heap.size:=de G;have aD:∀ W b0,Kept af W4 W→W4.heap.size≤b0→Row .u64 W (.slice (some ⟨b0,0,none⟩) N N) (xs ++ List.replicate (N-xs.length) 0)→Calls Tryz.prog 136 #[.slice (some ⟨g,0,none⟩) N N,.slice (some ⟨b0,0,none⟩) N N,.int .u64 (x:Nat)] W fun e w'=>e=.returned (.int .u64 (R:Nat))∧OwnN .u64 23 w' g (.slice (some ⟨g,0,none⟩) N N) N (ai (Y+X*x) N)∧Kept (fun b=>b=g) W4 w':=fun W b0 k S hr=>by
   refine (mw g g N N 0 N N x _ _ _ W (k.own G (fun _ _ f=>f)) (by simp;omega) (lF aB.out _) (by omega) hr (by simp;omega) (lF aA.out _) (fun _ b hb e=>by simp [Value.ownBlock] at hb;omega) hx R (Y+X*x) (by rw [List.drop_zero,List.take_of_length_le (by simp;omega),nK,nK,hY,hX]) hR).mono ?_;rintro e w' ⟨rfl,ho,kk⟩;rw [List.take_zero,List.nil_append,List.drop_of_length_le (by simp;omega),List.append_nil] at ho;exact ⟨rfl,ho,k.any.trans kk⟩
  have al:=i.cell;have aK:=c.cell;have ar:=j.cell;have H:=aa i;have E:=aa r;have t:=aa c;have D:=aa j;have ag:bA≠g:=by have:=B.lt;have:=HG.out;omega
  have aL:bW≠g:=by have:=y.lt;have:=HG.out;omega
  have aI:bO≠g:=by have:=HG.out;omega
  have aJ:bU≠g:=by have:=HG.out;omega
  have I:=aa z;have O:=aa d2;clear i c j r G z T v B y C ac ad Q aq Z s k3 a ay ap cT cA cB hX hY hR d2;go_region_held3 (fun w'=>w'.cell? ⟨bO,0,none⟩=some (.slice (some ⟨g,0,none⟩) N N)∧w'.cell? ⟨bA,0,none⟩=some (.slice ao L cap)∧w'.cell? ⟨bW,0,none⟩=some (.int .u64 (x:Int)))
   (((try dsimp only);(repeat' apply And.intro) <;> first | (go_keep;done) | assumption | exact (d.other ⟨bU,0,none⟩ J _).cell | exact (q.other ⟨bU,0,none⟩ am _).cell | exact (l.other ⟨bU,0,none⟩ aw _).cell))
   (first
   | (go_at_call 148;refine (av _ ?_).mono ?_;(first | exact (ah _ _).drew | exact ah _ _);rintro e w5 ⟨b0,rfl,S,aC,k5⟩;have p1:=k5.cellN al;have p2:=k5.cellN aK;have p3:=k5.cellN ar)
   | (go_at_call 136;refine (aD _ _ ?_ S ?_).mono ?_;(exact k5);(exact aC);rintro e w6 ⟨rfl,aF,k6⟩;have h:=E.out.kept k6 aJ;have d:=H.out.kept k6 aI;have q:=t.out.kept k6 ag;have l:=D.out.kept k6 aL;have q1:=d.cell;have q2:=q.cell;have q3:=l.cell;have c6:=h.cell;have f6:=h.free))
  all_goals
   go_end0
   have aO:w2.heap.size≤g:=by have:=HG.out;omega
   have kk:Kept (fun b=>b=bO∨b=bU∨w2.heap.size≤b) w2 (w6.setCell ⟨bU,0,none⟩ (.int .u64 (R:Int))):=((I.out.mono (fun _ _ e=>.inl e)).next k6 (fun b _ e=>.inr (.inr (by omega)))).next (au w6 bU _) (fun b _ e=>.inr (.inl e))
   exact .inl ⟨⟨l1,l2⟩,rfl,_,w2,o2,bg ((au w6 bU _).own aF (fun b m e=>by simp [Value.ownBlock] at m;omega)) (fun b m=>by simp [Value.ownBlock] at m;have:=O.out.size;omega),O.out,kk,d.other ⟨bU,0,none⟩ J _,h.set _⟩
 ·exact ⟨rfl,.inr ⟨l1,rfl,rfl⟩⟩

theorem Did.wroteSome {S:Nat→Prop} {w w' w2:World} {o o':Tr} {m:List Ev} (d:Did w o m w' o') (k:Kept S w' w2) (hS:∀ b,S b→w.heap.size≤b∧¬ dM o' b):Did w o m w2 o':=by
 refine ⟨d.1.next k (fun x hx e=>by have:=(hS x e).1;omega),?_⟩;rcases d.2 with h1 | ⟨p,g,l,g',e1,e2,ht,hg⟩
 ·exact .inl h1
 ·subst e2;exact .inr ⟨p,g,l,g',e1,rfl,ht.kept k (fun e=>(hS p e).2 (.inl rfl)) (fun x hx e=>(hS x e).2 (.inr hx)),hg⟩

theorem yJ {w:World} {o:Tr} (ht:TrIn w o) {b:Nat} (hf:dM o b):b<w.heap.size:=ht.foot b hf

theorem rY (o:Tr) (ao bo:Option Addr) (L M cap p:Nat) (xs ys:List Nat) (x:Nat) (hx:x<18446744073709551616) (c:Nat) (hc:c=pO (val xs) x (val ys) L M) (w:World) (ht:TrRoom w o 300) (hu:RowT w o (.slice ao L cap) xs) (hv:RowT w o (.slice bo M p) ys) (E:Digs xs) (P:Digs ys) :
  Calls Tryz.prog 103 #[aG o,.slice ao L cap,.int .u64 (x:Nat),.slice bo M p] w fun e w'=>∃ v',e=.returned (.tuple #[v',.int .u64 (c:Nat)]) ∧
   Row .u64 w' v' (tT (val xs) x (val ys) L M)∧(L≤300∧M≤300→OwnN .u64 23 w' w.heap.size v' (max L M) (ai (val ys+val xs*x) (max L M)))∧∃ o',Did w o (tV L M) w' o':=by
 have C:=fd;obtain ⟨po,D⟩:=aN o;have J:=uX w (.pointer po) (.slice ao L cap) (.int .u64 (x:Nat)) (.slice bo M p) (.slice none 0 0) (.int .u64 0) 127 32 23 32 32 23;have he:∀ args w,(callFunc 147 args).run Tryz.prog w=.ok (.enter 147 args) w:=fun _ _=>by simp [go_sem]
 obtain ⟨N,hN⟩:∃ N,N=max L M:=⟨_,rfl⟩
 obtain ⟨X,hX⟩:∃ X,X=val xs:=⟨_,rfl⟩
 obtain ⟨Y,hY⟩:∃ Y,Y=val ys:=⟨_,rfl⟩
 obtain ⟨R,hR⟩:∃ R,R=(Y+X*x)/18446744073709551616^N:=⟨_,rfl⟩
 rw [D];rw [← hX,← hY] at hc ⊢;have HC:=aa hc;have HN:=aa hN;have HR:=aa hR;have HX:=aa hX;have HY:=aa hY;clear hc hN hR hX hY;go_enter Tryz.func103,Tryz.ntmps103;go_wp2_with fail;generalize (((((w.alloc (.cells #[.pointer po] 127)).alloc (.cells #[.slice ao L cap] 32)).alloc (.cells #[.int .u64 (x:Nat)] 23)).alloc (.cells #[.slice bo M p] 32)).alloc (.cells #[.slice none 0 0] 32)).alloc (.cells #[.int .u64 0] 23)=W at *;obtain ⟨k0,x1,x2,x3,x4,x5,x6,hs⟩:=J;have k1:=k0.alloc (.cells #[.int .i64 0] 33);have xe:=Box.new W (.int .i64 0) 33;have s:xs≠[]→∀ b,(Value.slice ao L cap).ownBlock=some b→b≠w.heap.size+1+1+1+1:=fun h b hb e=>by have:=hu.1.lt h b hb;omega
 have h1:=rS o ao bo L M cap p xs ys x hx _ _ _ _ _ _ N HN.out _ (ht.grew k1) (hu.grew k1) (hv.grew k1) E P (by rw [D];exact x1.alloc _) (x2.alloc _) (x4.alloc _) (x5.alloc (.cells #[.int .i64 0] 33)) (x3.alloc _) (x6.alloc _) (by omega) (by omega) (by omega) (by omega) (by omega) s X Y R HX.out HY.out HR.out;have r:(W.alloc (.cells #[.int .i64 0] 33)).heap.size=W.heap.size+1:=by simp
 refine (jc 147 _ W (fun n W'=>(n=0∧(L≤300∧M≤300)∧∃ v' o',OwnN .u64 23 W' (W.heap.size+1) v' N (ai (Y+X*x) N)∧Did w o [(1,(N:Int),0)] W' o'∧TrIn W' o'∧Box W' (w.heap.size+1+1+1+1) v' 32∧Box W' (w.heap.size+1+1+1+1+1) (.int .u64 (R:Nat)) 23)∨(n=2∧¬ (L≤300∧M≤300)∧Kept af w W'∧Box W' (w.heap.size+1+1+1+1) (.slice none 0 0) 32∧Box W' (w.heap.size+1+1+1+1+1) (.int .u64 0) 23)) he (h1.mono ?_)).mono ?_
 ·rintro e w' (⟨hl,rfl,v',w1,o',ho,hd,hk,hb,j⟩ | ⟨hl,rfl,rfl⟩)
  ·rw [r] at ho;have l:=(hd.room (k:=0) ((ht.grew k1).less (by simp))).1;have I:=(x5.alloc (.cells #[.int .i64 0] 33)).did hd (ht.grew k1).1 (by decide) (by decide);have F:=(x6.alloc (.cells #[.int .i64 0] 33)).did hd (ht.grew k1).1 (by decide) (by decide);have G:=hd.size;rw [r] at G;have H:=(xe.did hd (ht.grew k1).1 (by decide) (by decide)).kept hk (by omega);have A:=(Did.after k1 hd).wroteSome hk (fun b hb=>by
    rcases hb with rfl | rfl | hb
    ·exact ⟨by omega,I.apart l (by decide) (by decide)⟩
    ·exact ⟨by omega,F.apart l (by decide) (by decide)⟩
    ·exact ⟨by omega,fun f=>by have:=yJ l f;omega⟩)
   exact ⟨H,.inl ⟨rfl,.inl ⟨rfl,hl,v',o',ho,A,(A.room (k:=0) (ht.less (by simp))).1,hb,j⟩⟩⟩
  ·exact ⟨xe,.inr ⟨2,rfl,.inr ⟨rfl,hl,k1,x5.alloc _,x6.alloc _⟩⟩⟩
 ·rintro e w' ⟨n,w1,rfl,⟨hq,y⟩,rfl⟩;have g:Box w1 W.heap.size (.int .i64 0) 33:=y;rcases hq with ⟨rfl,hl,v',o',ho,hd,l,hb,j⟩ | ⟨rfl,hl,hk,hb,j⟩
  ·have t:=hd.wroteNew (au w1 W.heap.size (.int .i64 0)) (by omega) (g.apart l (by decide) (by decide));have B:=(au w1 W.heap.size (.int .i64 0)).own ho (fun b m e=>by have:=(ho.lt b m).1;omega);have a:=hb.other ⟨W.heap.size,0,none⟩ (by show _≠W.heap.size;omega) (.int .i64 0);have d:=j.other ⟨W.heap.size,0,none⟩ (by show _≠W.heap.size;omega) (.int .i64 0);have c1:=a.cell;have f1:=a.free;have c2:=d.cell;have f2:=d.free;obtain ⟨xo,xc,rfl⟩:=bh ho;have q:w.heap.size+1+1+1+1≠w.heap.size+1+1+1+1+1:=by omega
   have c3:=((a.set (.slice xo N xc)).other ⟨w.heap.size+1+1+1+1+1,0,none⟩ q (.int .u64 (R:Nat))).cell;have c4:=((d.other ⟨w.heap.size+1+1+1+1,0,none⟩ q.symm (.slice xo N xc)).set (.int .u64 (R:Nat))).cell;have kb:=(au (w1.setCell ⟨W.heap.size,0,none⟩ (.int .i64 0)) (w.heap.size+1+1+1+1) (.slice xo N xc)).mono (T:=fun b=>b=w.heap.size+1+1+1+1∨b=w.heap.size+1+1+1+1+1) (fun b _ e=>.inl e);have z:=kb.next (au _ (w.heap.size+1+1+1+1+1) (.int .u64 (R:Nat))) (fun b _ e=>.inr e)
   have i:=(t.room (k:=0) (ht.less (by simp))).1;have HD:=aa (t.wroteSome z (fun b hb=>by
    rcases hb with rfl | rfl
    ·exact ⟨by omega,a.apart i (by decide) (by decide)⟩
    ·exact ⟨by omega,d.apart i (by decide) (by decide)⟩))
   have HO:=aa (z.own B (fun b m e=>by have:=(ho.lt b m).1;omega));have O:Hid (OwnN .u64 23 (((w1.setCell ⟨W.heap.size,0,none⟩ (.int .i64 0)).setCell ⟨w.heap.size+1+1+1+1,0,none⟩ (.slice xo N xc)).setCell ⟨w.heap.size+1+1+1+1+1,0,none⟩ (.int .u64 (R:Nat))) w.heap.size (.slice xo N xc) N (ai (Y+X*x) N)):=bg HO.out (fun b m=>by have:=(HO.out.lt b m).1;omega);have HE:Hid (c=R):=by
    unfold Hid;rw [HC.out,HR.out,HN.out];unfold pO;rw [if_pos hl]
   generalize w1.setCell ⟨W.heap.size,0,none⟩ (.int .i64 0)=W2 at *;clear h1 hb j a d ho B kb z hd t l i y g hu hv ht x1 x2 x3 x4 x5 x6 xe k0 k1 s r he C;go_wp2_with fail;go_region
   all_goals
    go_wp2;refine bodyPost_ret (v:=.tuple #[.slice xo N xc,.int .u64 (R:Nat)]) (by simp [results,Tryz.results103,go_sem,c3,c4]) rfl ?_;rw [HE.out];unfold tT tV;rw [if_pos hl,if_pos hl,← HN.out];exact ⟨_,rfl,(bf HO.out (ag _ _ _)).grew (ah _ _).drew,fun _=>O.out.drew,o',HD.out.grew (ah _ _).drew⟩
  ·have a:=hb.other ⟨W.heap.size,0,none⟩ (by show _≠W.heap.size;omega) (.int .i64 2);have d:=j.other ⟨W.heap.size,0,none⟩ (by show _≠W.heap.size;omega) (.int .i64 2);have c1:=a.cell;have f1:=a.free;have c2:=d.cell;have f2:=d.free;have q:w.heap.size+1+1+1+1≠w.heap.size+1+1+1+1+1:=by omega
   have c3:=((a.set (.slice none 0 0)).other ⟨w.heap.size+1+1+1+1+1,0,none⟩ q (.int .u64 0)).cell;have c4:=((d.other ⟨w.heap.size+1+1+1+1,0,none⟩ q.symm (.slice none 0 0)).set (.int .u64 0)).cell;have k2:=hk.next (au w1 W.heap.size (.int .i64 2)) (fun x hx e=>by omega)
   have k3:=(k2.next (au _ (w.heap.size+1+1+1+1) (.slice none 0 0)) (fun x hx e=>by omega)).next (au _ (w.heap.size+1+1+1+1+1) (.int .u64 0)) (fun x hx e=>by omega)
   have HD:=aa (Did.of_kept k3 ht.1);have HE:Hid (c=0):=by
    unfold Hid;rw [HC.out];unfold pO;rw [if_neg hl]
   generalize w1.setCell ⟨W.heap.size,0,none⟩ (.int .i64 2)=W2 at *;clear h1 hb j a d hk k2 k3 y g hu hv ht x1 x2 x3 x4 x5 x6 xe k0 k1 s r he C;go_wp2_with fail;go_region
   all_goals
    go_wp2;refine bodyPost_ret (v:=.tuple #[.slice none 0 0,.int .u64 0]) (by simp [results,Tryz.results103,go_sem,c3,c4]) rfl ?_;rw [HE.out];unfold tT tV;rw [if_neg hl,if_neg hl];exact ⟨_,rfl,Row.nil _ _,fun h=>absurd h hl,o,HD.out.grew (ah _ _).drew⟩

theorem ay {W:World} {p:Nat} {a b c:Value} {t:TypeId} {fr:Nat × Nat} (h:W.heap[p]? = some (.cells #[a,b,c] t fr)):W.cell? ⟨p,0,none⟩=some a∧W.cell? ⟨p,1,none⟩=some b∧W.cell? ⟨p,2,none⟩=some c:=
 ⟨(cell_of_row W p 0 _ _ _ h).trans rfl,(cell_of_row W p 1 _ _ _ h).trans rfl,(cell_of_row W p 2 _ _ _ h).trans rfl⟩

theorem yH {P Pn B V X Q q c c2 z R d a low rest Sl A:Nat}
 (hA:A=low+P*(a+Pn*(d+B*rest))) (hv:A+P*Pn*c=X+V*Q)
 (hS:a+V*q=Sl+Pn*R) (hz:z+B*c2=d+R+c) :
 low+P*(Sl+Pn*z+Pn*B*rest)+P*Pn*B*c2=X+V*(Q+P*q):=by grind

theorem zP {Q P q B:Nat} (h:Q<P) (hq:q<B):Q+P*q<P*B:=by
 have:P*(q+1)≤P*B:=Nat.mul_le_mul_left _ hq
 grind

theorem up {B V K d q a:Nat} (hg:(V*K+1)%B=0) (hq:q=d*K%B) (hp:a%B=d):(a+V*q)%B=0:=by
 obtain ⟨t,ht⟩:=Nat.dvd_of_mod_eq_zero hg;have e1:d*K=B*(d*K/B)+q:=by rw [hq];exact (Nat.div_add_mod _ _).symm
 have e2:a=B*(a/B)+d:=by rw [← hp];exact (Nat.div_add_mod _ _).symm
 apply Nat.mod_eq_zero_of_dvd;have h3:B ∣ a+V*q+B*(V*(d*K/B)):=by
  refine ⟨a/B+d*t,?_⟩;generalize a/B=pb at *;generalize d*K/B=kb at *
  grind
 exact (Nat.dvd_add_left ⟨_,rfl⟩).1 h3

theorem yy {P V X Q T c A:Nat} (hA:A=P*T) (hv:A+P*P*c=X+V*Q) (hQ:Q<P) (hX:X<V*P):T+P*c<2*V∧(P*(T+P*c))%V=X%V:=by
 have e:P*(T+P*c)=X+V*Q:=by rw [← hv,hA];grind
 refine ⟨?_,by rw [e,Nat.add_mul_mod_self_left]⟩;apply Nat.lt_of_mul_lt_mul_left (a:=P);rw [e];have:V*(Q+1)≤V*P:=Nat.mul_le_mul_left _ hQ
 grind

theorem xg {Z V:Nat} (h:Z<2*V):(if V≤Z then Z-V else Z)=Z%V:=by
 split
 ·rename_i h1
  rw [Nat.mod_eq_sub_mod h1,am (by omega)]
 ·rw [am (by omega)]

theorem sS {V P Q Q' a:Nat} (hc:Nat.Coprime V P) (hQ:Q<P) (c:Q'<P) (h:(a+V*Q)%P=(a+V*Q')%P):Q=Q':=by
 have b:∀ x y:Nat,x≤y→y<P→(a+V*x)%P=(a+V*y)%P→x=y:=by
  intro x y f hy he;have hd:P ∣ (a+V*y)-(a+V*x):=Nat.dvd_of_mod_eq_zero (Nat.sub_mod_eq_zero_of_mod_eq he.symm);have e:(a+V*y)-(a+V*x)=V*(y-x):=by rw [Nat.mul_sub];omega
  rw [e] at hd;have d:=(Nat.Coprime.symm hc).dvd_of_dvd_mul_left hd;have:=Nat.eq_zero_of_dvd_of_lt d (by omega);omega
 rcases Nat.le_total Q Q' with h1 | h1
 ·exact b _ _ h1 c h
 ·exact (b _ _ h1 hQ h.symm).symm

theorem vO {V R P1 Q W E A c:Nat} (hR:R<V) (hQ:Q<P1) (hE:V*P1≤E) (hv:A+E*c=R+V*Q) (hA:A%P1=0) (hc:Nat.Coprime V P1) (hW:W%P1=0) (e:W/V<P1):A=W↔R=W%V:=by
 have hlt:R+V*Q<E:=by
  have:V*(Q+1)≤V*P1:=Nat.mul_le_mul_left _ hQ
  grind
 have d:c=0:=by
  rcases Nat.eq_zero_or_pos c with h | h
  ·exact h
  ·have:E*1≤E*c:=Nat.mul_le_mul_left _ h;omega
 subst d;rw [Nat.mul_zero,Nat.add_zero] at hv;constructor
 ·intro h;rw [← h,hv,Nat.add_mul_mod_self_left,am hR]
 ·intro h;have b:R+V*(W/V)=W:=by rw [h];exact Nat.mod_add_div _ _
  have:=sS (a:=R) hc hQ e (by rw [b,← hv,hA,hW]);rw [hv,this,b]

theorem fl {P V Y Z:Nat} (hc:Nat.Coprime P V) (h:P*Y%V=P*Z%V):Y%V=Z%V:=by
 have a:∀ x y:Nat,x≤y→P*x%V=P*y%V→x%V=y%V:=by
  intro x y b he;have hd:V ∣ P*y-P*x:=Nat.dvd_of_mod_eq_zero (Nat.sub_mod_eq_zero_of_mod_eq he.symm);rw [← Nat.mul_sub] at hd;obtain ⟨t,ht⟩:=(Nat.Coprime.symm hc).dvd_of_dvd_mul_left hd;have:y=x+V*t:=by omega
  rw [this,Nat.add_mul_mod_self_left]
 rcases Nat.le_total Y Z with h1 | h1
 ·exact a _ _ h1 h
 ·exact (a _ _ h1 h.symm).symm

theorem A4 {P V Y e:Nat} (hc:Nat.Coprime P V) (hY:Y<V) (h:P*Y%V=(P*2^e%V)*(P*2^e%V)%V):Y=P*2^(2*e)%V:=by
 rw [← am hY];apply fl hc;rw [h,← Nat.mul_mod,Nat.two_mul,Nat.pow_add]
 congr 1
 grind

theorem qG {V a:Nat}:2*(a%V)%V=2*a%V:=by
 rw [Nat.mul_mod,Nat.mod_mod,← Nat.mul_mod]

theorem et {V k:Nat} (h:V%2=1):Nat.Coprime V (2^k):=by
 apply Nat.Coprime.pow_right;rw [Nat.Coprime,Nat.gcd_comm,Nat.gcd_rec,h];rfl

theorem tm {X V n N k Q q R S z c c2 K:Nat} {zs:List Nat} (e:Digs zs) (v:zs.length=N) (w:k+n<N) (hv:val zs+18446744073709551616^(k+n)*c=X+V*Q) (hQ:Q<18446744073709551616^k) (hq:q=zs.getD k 0*K%18446744073709551616)
  (hS:S=val ((zs.drop k).take n)+V*q) (hR:R=S/18446744073709551616^n) (hz:z+18446744073709551616*c2=zs.getD (k+n) 0+R+c) (o:z<18446744073709551616) (f:(V*K+1)%18446744073709551616=0→0<n→val zs%18446744073709551616^k=0) :
  val (zs.take k ++ ((ai S n ++ [z]) ++ zs.drop (k+(n+1))))+18446744073709551616^(k+1+n)*c2=X+V*(Q+18446744073709551616^k*q)∧Q+18446744073709551616^k*q<18446744073709551616^(k+1)∧((V*K+1)%18446744073709551616=0→0<n→val (zs.take k ++ ((ai S n ++ [z]) ++ zs.drop (k+(n+1))))%18446744073709551616^(k+1)=0) ∧
  Digs (zs.take k ++ ((ai S n ++ [z]) ++ zs.drop (k+(n+1))))∧(zs.take k ++ ((ai S n ++ [z]) ++ zs.drop (k+(n+1)))).length=N:=by
 have hB:0<18446744073709551616:=by omega
 have g:(ai S n ++ [z]).length=n+1:=by simp [ag]
 have i:q<18446744073709551616:=by rw [hq];exact Nat.mod_lt _ hB
 have b:=nE (j:=k) (k:=n+1) hB e g (by omega);rw [aS,ag,al] at b;have a:=oA hB e k n;have l:zs.getD (k+n) 0=val zs/18446744073709551616^(k+n)%18446744073709551616:=by rw [← aR hB e (k+n)];rfl
 have h:zs.getD k 0=val zs/18446744073709551616^k%18446744073709551616:=by rw [← aR hB e k];rfl
 have hA:val zs=val zs%18446744073709551616^k+18446744073709551616^k*(val zs/18446744073709551616^k%18446744073709551616^n+18446744073709551616^n*(val zs/18446744073709551616^(k+n)%18446744073709551616+18446744073709551616*(val zs/18446744073709551616^(k+(n+1))))):=by
  have e1:val zs/18446744073709551616^(k+n)=val zs/18446744073709551616^k/18446744073709551616^n:=by rw [Nat.pow_add,Nat.div_div_eq_div_mul]
  have e2:val zs/18446744073709551616^(k+(n+1))=val zs/18446744073709551616^k/18446744073709551616^n/18446744073709551616:=by rw [← Nat.add_assoc,Nat.pow_succ,Nat.pow_add,Nat.div_div_eq_div_mul,Nat.div_div_eq_div_mul,Nat.mul_assoc]
  rw [e1,e2,Nat.mod_add_div,Nat.mod_add_div,Nat.mod_add_div]
 have t:val zs/18446744073709551616^k%18446744073709551616^n+V*q=S%18446744073709551616^n+18446744073709551616^n*R:=by rw [← a,← hS,hR,Nat.mod_add_div]
 rw [Nat.pow_add] at hv;rw [l] at hz;have m:=yH hA hv t hz;refine ⟨?_,?_,?_,fM e ((aj hB _ _).append (Digs.one o)),mr v g (by omega)⟩
 ·have e4:18446744073709551616^(k+1+n)=18446744073709551616^k*18446744073709551616^n*18446744073709551616:=by rw [show k+1+n=k+n+1 by omega,Nat.pow_succ,Nat.pow_add]
  have e5:18446744073709551616^(n+1)=18446744073709551616^n*18446744073709551616:=Nat.pow_succ _ _;rw [b,e4,e5];exact m
 ·rw [Nat.pow_succ];exact zP hQ i
 ·intro hg hn;have e6:18446744073709551616^(k+1)=18446744073709551616^k*18446744073709551616:=Nat.pow_succ _ _;rw [b,f hg hn,Nat.zero_add,e6,Nat.mul_mod_mul_left];obtain ⟨n',rfl⟩:∃ n',n=n'+1:=⟨n-1,by omega⟩
  have h0:S%18446744073709551616=0:=by
   rw [hS,a];refine up hg (d:=zs.getD k 0) hq ?_;rw [Nat.pow_succ,Nat.mod_mul_left_mod,← h]
  have h1:(S%18446744073709551616^(n'+1)+18446744073709551616^(n'+1)*z+18446744073709551616^(n'+1+1)*(val zs/18446744073709551616^(k+(n'+1+1))))%18446744073709551616=0:=by
   rw [Nat.pow_succ 18446744073709551616 (n'+1),Nat.pow_succ 18446744073709551616 n'];have e3:S%(18446744073709551616^n'*18446744073709551616)+18446744073709551616^n'*18446744073709551616*z+18446744073709551616^n'*18446744073709551616*18446744073709551616*(val zs/18446744073709551616^(k+(n'+1+1)))=S%(18446744073709551616^n'*18446744073709551616)+18446744073709551616*(18446744073709551616^n'*z+18446744073709551616^n'*18446744073709551616*(val zs/18446744073709551616^(k+(n'+1+1)))):=by
    generalize 18446744073709551616^n'=p;generalize val zs/18446744073709551616^(k+(n'+1+1))=r;generalize S%(p*18446744073709551616)=s
    grind
   rw [e3,Nat.add_mul_mod_self_left,Nat.mod_mul_left_mod,h0]
  rw [h1,Nat.mul_zero]

theorem ya (g base N cap j n c W:Nat) (zs ys:List Nat) (v:Value) (w:World) (ho:OwnN .u64 23 w base (.slice (some ⟨g,0,none⟩) N cap) N zs) (C:zs.length=N) (f:Digs zs) (hj:j+n≤N)
  (hv:Row .u64 w v ys) (p:ys.length=n) (l:Digs ys) (B:ys≠[]→∀ b,v.ownBlock=some b→b≠g) (hW:W<18446744073709551616) (R S:Nat) (hS:S=val ((zs.drop j).take n)+val ys*W) (hR:R=S/18446744073709551616^n) :
  Calls Tryz.prog 250 #[.slice (some ⟨g,j,none⟩) n c,v,.int .u64 (W:Nat)] w fun e w'=>e=.returned (.int .u64 (R:Nat)) ∧
   OwnN .u64 23 w' base (.slice (some ⟨g,0,none⟩) N cap) N (zs.take j ++ (ai S n ++ zs.drop (j+n)))∧Kept (fun b=>b=g) w w':=by
 have hX:=jM (j:=j) (n:=n) f;have hY:val ys<18446744073709551616^n:=by rw [← p];exact ar (by omega) l
 have o:Hid (∀ k,k<n→dig (val ((zs.drop j).take n)) k=zs.getD (j+k) 0):=fun k hk=>km f hk
 have t:Hid (∀ k,dig (val ys) k=ys.getD k 0):=fun k=>aR (by omega) l k
 have q:Hid (∀ k,zs.getD (j+k) 0<18446744073709551616):=fun k=>f.getD (by omega) _
 have s:Hid (∀ k,ys.getD k 0<18446744073709551616):=fun k=>l.getD (by omega) _
 have a:Hid (∀ W',Kept (fun b=>b=g) w W'→Row .u64 W' v ys):=fun W' k=>hv.kept' k B
 generalize val ((zs.drop j).take n)=X at *;generalize val ys=Y at *;have HX:=aa hX;have HY:=aa hY;have HS:=aa hS;have HR:=aa hR;have D:=aa C;have HO:=aa ho;have hlt:=de ho;obtain ⟨bo,m,bc,rfl,hM,_,_,_,_⟩:=hv.open;obtain rfl:m=n:=hM.out.symm.trans p;clear ho C hX hY hS hR p l f B hv hM;go_enter Tryz.func250,Tryz.ntmps250;go_wp2_with fail;go_loopw [7,11] (fun ab i wr=>∃ (k c':Nat) (os:List Nat),k≤m∧c'<18446744073709551616∧i=.int .i64 (k:Int)∧ab=.int .u64 (c':Int)∧Hid (os.length=k)∧Digs os∧OwnN .u64 23 wr base (.slice (some ⟨g,0,none⟩) N cap) N (zs.take j ++ (os ++ zs.drop (j+k)))∧Kept (fun b=>b=g) w wr ∧
   Hid (val os+18446744073709551616^k*c'=X%18446744073709551616^k+Y%18446744073709551616^k*W)) (fun _ i _=>m-(intOf i).toNat)
 case atStart=>exact ⟨0,0,[],Nat.zero_le _,by omega,rfl,rfl,rfl,Digs.nil _,by rw [Nat.add_zero,List.nil_append,List.take_append_drop];exact HO.out,ah _ _,by unfold Hid;simp [val,Nat.mod_one]⟩
 case round=>
  obtain ⟨k,c',os,hk,hc,rfl,rfl,HL,A,ho,r,HV⟩:=hrel;by_cases hkn:k<m
  ·have P:(0:Int)≤(k:Int):=Int.natCast_nonneg _;have L:(k:Int)<(m:Int):=by omega
   have O:=ff ho D.out HL.out (by omega);obtain ⟨_,_,_,e2,_,_,_,_,d⟩:=(a.out wr r).open;cases e2
   obtain ⟨b2,H,rfl,M⟩:=d k hkn;have hf:=World.ownsRow.frozenAt ho (j+k);have hx:=q.out k;have hy:=s.out k;have G:Hid (∀ z c2,z+18446744073709551616*c2=ys.getD k 0*W+zs.getD (j+k) 0+c'→val (os ++ [z])+18446744073709551616^(k+1)*c2=X%18446744073709551616^(k+1)+Y%18446744073709551616^(k+1)*W):=fun z c2 h=>jo HL.out HV.out (by rw [o.out k hkn,t.out k];exact h)
   have E:Hid (∀ u:Nat,OwnN .u64 23 (wr.setCell ⟨g,j+k,none⟩ (.int .u64 (u:Int))) base (.slice (some ⟨g,0,none⟩) N cap) N (zs.take j ++ ((os ++ [u]) ++ zs.drop (j+(k+1))))):=fun u=>by
    have:=(World.ownsRow.stored ho (j+k) (.int .u64 (u:Int))).1;unfold OwnN;rw [← fN zs os j k u HL.out (by have:=D.out;omega),List.map_set];exact this
   clear HV a d o t q s HO HX HY HS HR;generalize zs.getD (j+k) 0=x at *;generalize ys.getD k 0=y at *;go_wp2_with fail;go_region_with (go_at_call 178;refine (qm y W x c' hy hW hx hc _).mono ?_;rintro e w7 ⟨h2,l2,rfl,J,F,I,rfl⟩)
   all_goals
    go_wp2_with fail;go_roundw
    case rel=>exact ⟨k+1,h2,os ++ [l2],by omega,J,by go_num,rfl,by unfold Hid;rw [List.length_append,HL.out];rfl,A.append (Digs.one F),E.out l2,(r.setCell _ (fun _=>rfl) _).drew,G.out l2 h2 I⟩
    case measure=>simp [intOf];omega
  ·have L:¬ (k:Int)<(m:Int):=by omega
   obtain rfl:k=m:=by omega
   have e:=HV.out;rw [am HX.out,am HY.out,← HS.out] at e;obtain ⟨e1,e2⟩:=mx (by omega) HL.out A e;have E1:=aa e1;have E2:=aa (e2.trans HR.out.symm);clear e e1 e2 HV a o t q s HO HX HY HS HR;go_wp2_with fail;go_ret;rw [← E1.out,← E2.out];exact ⟨rfl,ho,r⟩

end Go.Proofs.YtcemlfokmjjiaaaGreatDoor
