/- Put together of: Pro2. -/
import Derived.Test.YtkaojflnghfmcaaGreatDoorQC6

namespace Go.Proofs.YtkaojflnghfmcaaGreatDoor
open _root_.Go.Proofs.Tryz
set_option maxRecDepth 100000
set_option maxHeartbeats 4000000
open Go.RowKit

theorem Box.did {w w':World} {o o':Tr} {m:List Ev} {b:Nat} {v:Value} {t:TypeId} (h:Box w b v t) (d:Did w o m w' o') (ht:TrIn w o) (h1:t≠100) (h2:t≠142):Box w' b v t:=h.kept d.kept (aI h ht h1 h2)

theorem Box.apart {w:World} {o:Tr} {b:Nat} {v:Value} {t:TypeId} (h:Box w b v t) (ht:TrIn w o) (h1:t≠100) (h2:t≠142):¬ cN o b:=aI h ht h1 h2

theorem aK (o:Tr):∃ po,aL o=.pointer po:=by
 cases o with
 | none=>exact ⟨_,rfl⟩
 | some x=>exact ⟨_,rfl⟩

theorem Hh (o:Tr) (ao bo:Option Addr) (L M c d:Nat) (xs ys:List Nat) (bT bA bB bO:Nat) (w:World) (ht:TrRoom w o 300) (hu:RowT w o (.slice ao L c) xs) (hv:RowT w o (.slice bo M d) ys) (h:Digs xs) (i:Digs ys)
  (hT:Box w bT (aL o) 53) (hA:Box w bA (.slice ao L c) 23) (hB:Box w bB (.slice bo M d) 23) (hO:Box w bO (.slice none 0 0) 23) :
  Calls prog 206 #[.pointer (some ⟨bA,0,none⟩),.pointer (some ⟨bB,0,none⟩),.pointer (some ⟨bT,0,none⟩),.pointer (some ⟨bO,0,none⟩)] w fun e w'=>
   ((L<=300/\M<=300)/\e=.returned (.tuple #[])/\∃ v' w1 o',v'=.slice (some ⟨w.heap.size,0,none⟩) (L+M) (L+M)/\OwnN .u64 24 w1 w.heap.size v' (L+M) (digs (val xs*val ys) (L+M))/\Did w o (List.replicate L (1,(M:Nat),0)) w1 o'/\Kept (fun b=>b=bO) w1 w'/\Box w' bO v' 23) \/
   (¬ (L<=300/\M<=300)/\e=.panicked [refusal 2]/\w'=w):=by
 obtain ⟨_,_,_,e1,f,_,_,_,_⟩:=hu.1.open;cases e1
 obtain ⟨_,_,_,e1,g,_,_,_,_⟩:=hv.1.open;cases e1
 have eL:=f.out;have eM:=g.out;have hP:=fun W=>xq ao bo L M c d W
 have hR:=fun W (k:Kept af w W) (l1:L<=300) (l2:M<=300)=>Hj o _ _ xs ys W ((ht.less (by omega)).grew k) (hu.grew k) (hv.grew k) h i (by omega) (by omega)
 rw [eL,eM] at hR;obtain ⟨po,j⟩:=aK o;rw [j] at hR hT;have cT:=hT.cell;have cA:=hA.cell;have cB:=hB.cell;have HO:=aa hO;have HT:=aa ht.1;clear hu hv h i f g eL eM j hT hA hB hO ht;go_enter func206,ntmps206;go_wp2_with fail;refine (hP _).mono ?_;rintro e w1 ⟨⟨l1,l2,rfl⟩ | ⟨l1,rfl⟩,rfl⟩
 ·go_wp2_with fail;refine (hR _ (aj _ _) l1 l2).mono ?_;rintro e w2 ⟨v',rfl,rfl,ho,o',hd⟩;have a:=HO.out.did hd HT.out (by decide) (by decide);have cO:=a.cell;have fO:=a.free;have HD:=aa hd;have m:=aa ho;have l:=aa a;clear hP hR cT cA cB hd ho a;go_wp2_with fail;go_end0
  exact .inl ⟨⟨l1,l2⟩,rfl,_,_,o',rfl,m.out,HD.out,aD _ _ _,l.out.set _⟩
 ·exact ⟨rfl,.inr ⟨l1,rfl,rfl⟩⟩

def jP (X Y L M:Nat):List Nat:=if L<=300/\M<=300 then digs (X*Y) (L+M) else []

def jQ (L M:Nat):List Ev:=if L<=300/\M<=300 then List.replicate L (1,((M:Nat):Int),0) else []

theorem A0 (o:Tr) (ao bo:Option Addr) (L M f i:Nat) (xs ys:List Nat) (w:World) (ht:TrRoom w o 300) (hu:RowT w o (.slice ao L f) xs) (hv:RowT w o (.slice bo M i) ys) (E:Digs xs) (F:Digs ys) :
  Calls prog 148 #[aL o,.slice ao L f,.slice bo M i] w fun e w'=>∃ v',e=.returned v' /\
   Row .u64 w' v' (jP (val xs) (val ys) L M)/\(∀ b,v'.ownBlock=some b->w.heap.size<=b)/\(L<=300/\M<=300->∃ g,w.heap.size<=g/\v'=.slice (some ⟨g,0,none⟩) (L+M) (L+M)/\OwnN .u64 24 w' g v' (L+M) (digs (val xs*val ys) (L+M)))/\∃ o',Did w o (jQ L M) w' o':=by
 have J:=im;obtain ⟨po,A⟩:=aK o;have D:=re w (.pointer po) (.slice ao L f) (.slice bo M i) (.slice none 0 0) 53 23 23 23;have he:∀ args w,(callFunc 206 args).run prog w=.ok (.enter 206 args) w:=fun _ _=>by simp [go_sem]
 rw [A];go_enter func148,ntmps148;go_wp2_with fail;generalize (((w.alloc (.cells #[.pointer po] 53)).alloc (.cells #[.slice ao L f] 23)).alloc (.cells #[.slice bo M i] 23)).alloc (.cells #[.slice none 0 0] 23)=W at *;obtain ⟨k0,x1,x2,x3,x4,hs⟩:=D;have k1:=k0.alloc (.cells #[.int .i64 0] 32);have xe:=Box.new W (.int .i64 0) 32;have h1:=Hh o ao bo L M f i xs ys _ _ _ _ _ (ht.grew k1) (hu.grew k1) (hv.grew k1) E F (by rw [A];exact x1.alloc _) (x2.alloc _) (x3.alloc _) (x4.alloc (.cells #[.int .i64 0] 32))
 refine (mW 206 _ W (fun n W'=>(n=0/\(L<=300/\M<=300)/\∃ v' o',v'=.slice (some ⟨W.heap.size+1,0,none⟩) (L+M) (L+M)/\OwnN .u64 24 W' (W.heap.size+1) v' (L+M) (digs (val xs*val ys) (L+M))/\Did w o (List.replicate L (1,(M:Nat),0)) W' o'/\Box W' (w.heap.size+1+1+1) v' 23)\/(n=2/\¬ (L<=300/\M<=300)/\Kept af w W'/\Box W' (w.heap.size+1+1+1) (.slice none 0 0) 23)) he (h1.mono ?_)).mono ?_
 ·rintro e w' (⟨hl,rfl,v',w1,o',l,ho,hd,hk,hb⟩ | ⟨hl,rfl,rfl⟩)
  ·rw [show (W.alloc (.cells #[.int .i64 0] 32)).heap.size=W.heap.size+1 by simp] at ho l;have p:=(hd.room (k:=0) ((ht.grew k1).less (by simp;omega))).1;have I:=(x4.alloc (.cells #[.int .i64 0] 32)).did hd (ht.grew k1).1 (by decide) (by decide);have H:=(xe.did hd (ht.grew k1).1 (by decide) (by decide)).kept hk (by omega);refine ⟨H,.inl ⟨rfl,.inl ⟨rfl,hl,v',o',l,hk.own ho (fun b c e=>?_),(Did.after k1 hd).wroteNew hk (by omega) (I.apart p (by decide) (by decide)),hb⟩⟩⟩;have:=(ho.lt b c).1;omega
  ·exact ⟨xe,.inr ⟨2,rfl,.inr ⟨rfl,hl,k1,x4.alloc _⟩⟩⟩
 ·rintro e w' ⟨n,w1,rfl,⟨hq,r⟩,rfl⟩;have d:Box w1 W.heap.size (.int .i64 0) 32:=r;rcases hq with ⟨rfl,hl,v',o',l,ho,hd,hb⟩ | ⟨rfl,hl,hk,hb⟩
  ·have p:=(hd.room (k:=0) (ht.less (by simp;omega))).1;have s:=hd.wroteNew (aD w1 W.heap.size (.int .i64 0)) (by omega) (d.apart p (by decide) (by decide));have y:=(aD w1 W.heap.size (.int .i64 0)).own ho (fun b c e=>by have:=(ho.lt b c).1;omega);have a:=hb.other ⟨W.heap.size,0,none⟩ (by show _≠W.heap.size;omega) (.int .i64 0);have C:=a.cell;have G:=a.free;have q:=(a.set v').cell;have z:=(aD _ (w.heap.size+1+1+1) v').own y (fun b c e=>by have:=(ho.lt b c).1;omega);have m:=(s.room (k:=0) (ht.less (by simp;omega))).1;have t:=s.wroteNew (aD _ (w.heap.size+1+1+1) v') (by omega) (a.apart m (by decide) (by decide))
   have j:Hid (∀ b,v'.ownBlock=some b->w.heap.size<=b):=fun b c=>by have:=(ho.lt b c).1;omega
   obtain ⟨xo,xc,rfl⟩:=dg ho;have B:=aa l;clear l;have HO:=aa z;have HD:=aa t;clear h1 ho hd hb y s z t p m a r d hu hv ht;generalize w1.setCell ⟨W.heap.size,0,none⟩ (.int .i64 0)=W2 at *;go_wp2_with fail;refine bodyPost_ret (v:=.slice xo (L+M) xc) (by simp [results,results148,go_sem,q]) rfl ?_;unfold jP jQ;rw [ah hl,ah hl];exact ⟨_,rfl,Row.of_own (base:=W.heap.size+1) (e:=24) (by rw [ag];exact HO.out),j.out,(fun _=>⟨_,by omega,B.out,HO.out⟩),o',HD.out⟩
  ·have k2:=hk.next (aD w1 W.heap.size (.int .i64 2)) (fun x hx e=>by omega)
   have a:=hb.other ⟨W.heap.size,0,none⟩ (by show _≠W.heap.size;omega) (.int .i64 2);have C:=a.cell;have G:=a.free;have q:=(a.set (.slice none 0 0)).cell;have HD:=aa (Did.of_kept (k2.next (aD _ (w.heap.size+1+1+1) (.slice none 0 0)) (fun x hx e=>by omega)) ht.1);clear h1 hb hu hv ht hk k2 a r d;generalize w1.setCell ⟨W.heap.size,0,none⟩ (.int .i64 2)=W2 at *;go_wp2_with fail;refine bodyPost_ret (v:=.slice none 0 0) (by simp [results,results148,go_sem,q]) rfl ?_;unfold jP jQ;rw [ai hl,ai hl];exact ⟨_,rfl,Row.nil _ _,(fun b hb=>by cases hb),(fun h=>absurd h hl),o,HD.out⟩

theorem IE (o:Tr) (ao bo:Option Addr) (L M a c:Nat) (xs ys:List Nat) (w:World) (ht:TrRoom w o 300) (hu:RowT w o (.slice ao L a) xs) (hv:RowT w o (.slice bo M c) ys) (d:Digs xs) (f:Digs ys) :
  Calls prog 148 #[aL o,.slice ao L a,.slice bo M c] w fun e w'=>∃ v',e=.returned v' /\
   Row .u64 w' v' (jP (val xs) (val ys) L M)/\(∀ b,v'.ownBlock=some b->w.heap.size<=b)/\∃ o',Did w o (jQ L M) w' o':=by
 refine (A0 o ao bo L M a c xs ys w ht hu hv d f).mono ?_;rintro e w' ⟨v',rfl,h1,h2,_,h3⟩;exact ⟨v',rfl,h1,h2,h3⟩

theorem Hg (v:Value) (xs:List Nat) (n:Nat) (w:World) (h:Row .u64 w v xs) (hl:xs.length<=n) (hn:n<=1000000) :
  Calls prog 247 #[v,.int .i64 (n:Nat)] w fun e w'=>e=.returned (.slice (some ⟨w.heap.size,0,none⟩) n n)/\OwnN .u64 24 w' w.heap.size (.slice (some ⟨w.heap.size,0,none⟩) n n) n (xs ++ List.replicate (n-xs.length) 0)/\Kept af w w':=by
 obtain ⟨i0,i,r,k,s⟩:=info_parts Tryz.info24;obtain ⟨ao,q,o,rfl,hL,_,_,_,_⟩:=h.open;have HS:Hid (∀ W,Kept af w W->0<(xs.map fun z:Nat=>Value.int .u64 (z:Int)).length->∃ ad,ao=some ad/\∀ j u,(xs.map fun z:Nat=>Value.int .u64 (z:Int))[j]? = some u->W.cell? (ad.add j)=some u):=fun W hk hp=>h.source hk hp
 have HO:=aa (jd .u64 xs);have b:Hid ((xs.map fun z:Nat=>Value.int .u64 (z:Int)).length=q):=by unfold Hid;rw [cf];exact hL.out
 obtain ⟨CS,c⟩:∃ CS,CS=xs.map (fun z:Nat=>Value.int .u64 (z:Int)):=⟨_,rfl⟩
 rw [<- c] at HS HO b;have m:Hid (CS=xs.map (fun z:Nat=>Value.int .u64 (z:Int))):=c;have hq:q<=n:=by rw [<- hL.out];exact hl
 clear c h hl;go_enter func247,ntmps247;go_wp2_with (at_make;refine wpList_make_full _ rfl _ _ 23 rfl w.heap.size 24 i0 _ 1 underlying23 i r k _ _ _ _ n rfl rfl rfl rfl (by rw [s];omega) (by unfold maxLen;omega) (leR _) ?_;intro w1 d g;rw [bg] at d;have k1:=aV g;obtain ⟨w2,p,f,k2⟩:=dS (P:=prog) 23 23 3 24 w.heap.size 0 n n (some ⟨w.heap.size,0,none⟩) ao q o _ 24 CS underlying23 (by rw [i];simp [k]) (gV d) (by rw [b.out];exact (cL hq).symm) (fun hp=>⟨rfl,HS.out _ k1 hp⟩) (by have:=b.out;simp;omega) HO.out;have l:Hid _:=f;clear f d g);go_ret;have a:=l.out
 rw [m.out,fZ] at a;have kk:=eZ k1 k2 (leR _);exact ⟨rfl,dD a (by simp [hL.out];omega) (by unfold maxLen;omega) (leR _),kk⟩

def AN (X W Y L M:Nat):List Nat:=if L<=300/\M<=300 then digs (Y+X*W) (max L M) else []

def vZ (X W Y L M:Nat):Nat:=if L<=300/\M<=300 then (Y+X*W)/18446744073709551616^max L M else 0

def AO (L M:Nat):List Ev:=if L<=300/\M<=300 then [(1,((max L M:Nat):Int),0)] else []

theorem tK {ys:List Nat} (n:Nat):val (ys ++ List.replicate n 0)=val ys:=by
 rw [dX,ep _ (fun d hd=>(eu.1 hd).2),cG,aU]

theorem cW {w:World} {base n:Nat} {v:Value} {zs:List Nat} (h:OwnN .u64 24 w base v n zs) (hl:zs.length=n):Row .u64 w v zs:=
 Row.of_own (base:=base) (e:=24) (by rw [hl];exact h)

theorem qp {ys:List Nat} (h:Digs ys) (n:Nat):Digs (ys ++ List.replicate n 0):=h.append (fun d hd=>by rw [(eu.1 hd).2];omega)

theorem yP (o:Tr) (ao bo:Option Addr) (L M c C:Nat) (xs ys:List Nat) (x:Nat) (hx:x<18446744073709551616) (bT bA bB bO bW bU N:Nat) (hN:N=max L M) (w:World) (ht:TrRoom w o 300) (hu:RowT w o (.slice ao L c) xs) (hv:RowT w o (.slice bo M C) ys) (V:Digs xs) (Z:Digs ys)
  (hT:Box w bT (aL o) 53) (hA:Box w bA (.slice ao L c) 23) (hB:Box w bB (.slice bo M C) 23) (hO:Box w bO (.slice none 0 0) 23) (hW:Box w bW (.int .u64 (x:Nat)) 24) (hU:Box w bU (.int .u64 0) 24) (D:bO≠bU) (au:bA≠bO) (aF:bW≠bO) (aw:bA≠bU) (aG:bW≠bU) (ay:xs≠[]->∀ b,(Value.slice ao L c).ownBlock=some b->b≠bO) (X Y R:Nat) (hX:X=val xs) (hY:Y=val ys) (hR:R=(Y+X*x)/18446744073709551616^N) :
  Calls prog 246 #[.pointer (some ⟨bA,0,none⟩),.pointer (some ⟨bB,0,none⟩),.pointer (some ⟨bT,0,none⟩),.pointer (some ⟨bO,0,none⟩),.pointer (some ⟨bW,0,none⟩),.pointer (some ⟨bU,0,none⟩)] w fun e w'=>
   ((L<=300/\M<=300)/\e=.returned (.tuple #[])/\∃ v' w1 o',OwnN .u64 24 w' w.heap.size v' N (digs (Y+X*x) N)/\Did w o [(1,(N:Int),0)] w1 o'/\Kept (fun b=>b=bO\/b=bU\/w1.heap.size<=b) w1 w'/\Box w' bO v' 23/\Box w' bU (.int .u64 (R:Nat)) 24) \/
   (¬ (L<=300/\M<=300)/\e=.panicked [refusal 2]/\w'=w):=by
 obtain ⟨_,_,_,e1,S,_,_,_,_⟩:=hu.1.open;cases e1
 obtain ⟨_,_,_,e1,T,_,_,_,_⟩:=hv.1.open;cases e1
 have eL:=S.out;have eM:=T.out;have hP:=fun W=>xq ao bo L M c C W
 obtain ⟨po,ab⟩:=aK o;have hS:=fun (n:Int)=>fz o n w ht.1
 rw [ab] at hS hT;have cT:=hT.cell;have cA:=hA.cell;have cB:=hB.cell;have HO:=aa hO;have HT:=aa ht;have HU:=aa hu;have HV:=aa hv;have HA:=aa hA;have HB:=aa hB;have HW:=aa hW;have ak:=aa hU;have ah:=aa V;have ai:=aa Z;clear hu hv V Z S T ab hT hA hB hO ht hW hU;go_enter func246,ntmps246;go_wp2_with fail;refine (hP _).mono ?_;rintro e w1 ⟨⟨l1,l2,rfl⟩ | ⟨l1,rfl⟩,rfl⟩
 ·have gN:max (L:Int) (M:Int)=(N:Int):=by omega
  have aN:L<=N:=by omega
  have aO:M<=N:=by omega
  have aP:N<=300:=by omega
  clear hN hP;go_wp2_with fail;refine (hS _).mono ?_;rintro e w2 ⟨rfl,o2,d2⟩;have p:=HT.out.1;have H:=HO.out.did d2 p (by decide) (by decide);have G:=HA.out.did d2 p (by decide) (by decide);have J:=HW.out.did d2 p (by decide) (by decide);have I:=ak.out.did d2 p (by decide) (by decide);have ag:=HB.out.did d2 p (by decide) (by decide);have ac:=(HU.out.did d2).1;have ae:=(HV.out.did d2).1;have am:=ag.cell;have Q:=Hg _ ys N w2 ae (by omega) (by omega);clear hS;go_wp2_with fail;refine Q.mono ?_;rintro e w3 ⟨rfl,t,k3⟩;have a:=H.grew k3;have an:=a.cell;have ar:=a.free;obtain ⟨g,hg⟩:∃ g,g=w2.heap.size:=⟨_,rfl⟩
  rw [<- hg] at t ⊢;have aB:=H.lt;have aE:=I.lt;have h:=a.set (.slice (some ⟨g,0,none⟩) N N);have d:=((G.grew k3).kept (aD w3 bO (.slice (some ⟨g,0,none⟩) N N)) au)
  have l:=((J.grew k3).kept (aD w3 bO (.slice (some ⟨g,0,none⟩) N N)) aF)
  have r:=((I.grew k3).kept (aD w3 bO (.slice (some ⟨g,0,none⟩) N N)) (fun e=>D e.symm))
  have F:=(aD w3 bO (.slice (some ⟨g,0,none⟩) N N)).own t (fun b m e=>by have:=(t.lt b m).1;omega);have HG:=aa hg;have O:Kept (fun b=>b=bO) w2 (w3.setCell ⟨bO,0,none⟩ (.slice (some ⟨g,0,none⟩) N N)):=k3.any.trans (aD w3 bO _);clear hg;go_wp2_with fail;generalize w3.setCell ⟨bO,0,none⟩ (.slice (some ⟨g,0,none⟩) N N)=W4 at *;have ad:Row .u64 W4 (.slice ao L c) xs:=ac.kept' O (fun E b hb e=>ay E b hb e)
  have az:∀ W,Kept af W4 W->Calls prog 247 #[.slice ao L c,.int .i64 (N:Int)] W fun e w'=>∃ b0,e=.returned (.slice (some ⟨b0,0,none⟩) N N)/\W4.heap.size<=b0/\Row .u64 w' (.slice (some ⟨b0,0,none⟩) N N) (xs ++ List.replicate (N-xs.length) 0)/\Kept af W4 w':=fun W k=>by
   refine (Hg _ xs N W (ad.grew k) (by omega) (by omega)).mono ?_;rintro e w' ⟨rfl,ho,kk⟩;exact ⟨_,rfl,k.size,cW ho (by simp;omega),k.trans kk⟩
  have aI:g<W4.heap.size:=eN F;have av:∀ W b0,Kept af W4 W->W4.heap.size<=b0->Row .u64 W (.slice (some ⟨b0,0,none⟩) N N) (xs ++ List.replicate (N-xs.length) 0)->Calls prog 244 #[.slice (some ⟨g,0,none⟩) N N,.slice (some ⟨b0,0,none⟩) N N,.int .u64 (x:Nat)] W fun e w'=>e=.returned (.int .u64 (R:Nat))/\OwnN .u64 24 w' g (.slice (some ⟨g,0,none⟩) N N) N (digs (Y+X*x) N)/\Kept (fun b=>b=g) W4 w':=fun W b0 k U hr=>by
   refine (rH g g N N 0 N N x _ _ _ W (k.own F (fun _ _ f=>f)) (by simp;omega) (qp ai.out _) (by omega) hr (by simp;omega) (qp ah.out _) (fun _ b hb e=>by simp [Value.ownBlock] at hb;omega) hx R (Y+X*x) (by rw [gC,dJ (by simp;omega),tK,tK,hY,hX]) hR).mono ?_;rintro e w' ⟨rfl,ho,kk⟩;rw [mx,bw,dZ (by simp;omega),dI] at ho;exact ⟨rfl,ho,k.any.trans kk⟩
  have ap:=h.cell;have al:=d.cell;have aq:=l.cell;have z:=aa h;have A:=aa r;have y:=aa d;have B:=aa l;have ax:bA≠g:=by have:=G.lt;have:=HG.out;omega
  have aH:bW≠g:=by have:=J.lt;have:=HG.out;omega
  have aA:bO≠g:=by have:=HG.out;omega
  have aC:bU≠g:=by have:=HG.out;omega
  have v:=aa O;have P:=aa d2;clear h d l r F O ad H G J I ag ac ae am Q t k3 a an ar cT cA cB hX hY hR d2;go_region_held3 (fun w'=>w'.cell? ⟨bO,0,none⟩=some (.slice (some ⟨g,0,none⟩) N N)/\w'.cell? ⟨bA,0,none⟩=some (.slice ao L c)/\w'.cell? ⟨bW,0,none⟩=some (.int .u64 (x:Int)))
   (((try dsimp only);(repeat' apply And.intro) <;> first | (go_keep;done) | assumption | exact (i.other ⟨bU,0,none⟩ D _).cell | exact (q.other ⟨bU,0,none⟩ aw _).cell | exact (s.other ⟨bU,0,none⟩ aG _).cell))
   (first
   | (go_at_call 247;refine (az _ ?_).mono ?_;(first | exact (aj _ _).drew | exact aj _ _);rintro e w5 ⟨b0,rfl,U,aM,k5⟩;have p1:=k5.cellN ap;have p2:=k5.cellN al;have p3:=k5.cellN aq)
   | (go_at_call 244;refine (av _ _ ?_ U ?_).mono ?_;(exact k5);(exact aM);rintro e w6 ⟨rfl,aJ,k6⟩;have j:=A.out.kept k6 aC;have i:=z.out.kept k6 aA;have q:=y.out.kept k6 ax;have s:=B.out.kept k6 aH;have q1:=i.cell;have q2:=q.cell;have q3:=s.cell;have c6:=j.cell;have f6:=j.free))
  all_goals
   go_end0
   have aQ:w2.heap.size<=g:=by have:=HG.out;omega
   have kk:Kept (fun b=>b=bO\/b=bU\/w2.heap.size<=b) w2 (w6.setCell ⟨bU,0,none⟩ (.int .u64 (R:Int))):=((v.out.mono (fun _ _ e=>.inl e)).next k6 (fun b _ e=>.inr (.inr (by omega)))).next (aD w6 bU _) (fun b _ e=>.inr (.inl e))
   exact .inl ⟨⟨l1,l2⟩,rfl,_,w2,o2,cE ((aD w6 bU _).own aJ (fun b m e=>by simp [Value.ownBlock] at m;omega)) (fun b m=>by simp [Value.ownBlock] at m;have:=P.out.size;omega),P.out,kk,i.other ⟨bU,0,none⟩ D _,j.set _⟩
 ·exact ⟨rfl,.inr ⟨l1,rfl,rfl⟩⟩

theorem Did.wroteSome {S:Nat->Prop} {w w' w2:World} {o o':Tr} {m:List Ev} (d:Did w o m w' o') (k:Kept S w' w2) (hS:∀ b,S b->w.heap.size<=b/\¬ cN o' b):Did w o m w2 o':=by
 refine ⟨d.1.next k (fun x hx e=>by have:=(hS x e).1;omega),?_⟩;rcases d.2 with h1 | ⟨p,g,l,g',e1,e2,ht,hg⟩
 ·exact .inl h1
 ·subst e2;exact .inr ⟨p,g,l,g',e1,rfl,ht.kept k (fun e=>(hS p e).2 (.inl rfl)) (fun x hx e=>(hS x e).2 (.inr hx)),hg⟩

theorem Cx {w:World} {o:Tr} (ht:TrIn w o) {b:Nat} (hf:cN o b):b<w.heap.size:=ht.foot b hf

theorem yQ (o:Tr) (ao bo:Option Addr) (L M l p:Nat) (xs ys:List Nat) (x:Nat) (hx:x<18446744073709551616) (c:Nat) (hc:c=vZ (val xs) x (val ys) L M) (w:World) (ht:TrRoom w o 300) (hu:RowT w o (.slice ao L l) xs) (hv:RowT w o (.slice bo M p) ys) (H:Digs xs) (I:Digs ys) :
  Calls prog 215 #[aL o,.slice ao L l,.int .u64 (x:Nat),.slice bo M p] w fun e w'=>∃ v',e=.returned (.tuple #[v',.int .u64 (c:Nat)]) /\
   Row .u64 w' v' (AN (val xs) x (val ys) L M)/\(L<=300/\M<=300->OwnN .u64 24 w' w.heap.size v' (max L M) (digs (val ys+val xs*x) (max L M)))/\∃ o',Did w o (AO L M) w' o':=by
 have C:=im;obtain ⟨po,E⟩:=aK o;have G:=EM w (.pointer po) (.slice ao L l) (.int .u64 (x:Nat)) (.slice bo M p) (.slice none 0 0) (.int .u64 0) 53 23 24 23 23 24;have he:∀ args w,(callFunc 246 args).run prog w=.ok (.enter 246 args) w:=fun _ _=>by simp [go_sem]
 obtain ⟨N,hN⟩:∃ N,N=max L M:=⟨_,rfl⟩
 obtain ⟨X,hX⟩:∃ X,X=val xs:=⟨_,rfl⟩
 obtain ⟨Y,hY⟩:∃ Y,Y=val ys:=⟨_,rfl⟩
 obtain ⟨R,hR⟩:∃ R,R=(Y+X*x)/18446744073709551616^N:=⟨_,rfl⟩
 rw [E];rw [<- hX,<- hY] at hc ⊢;have HC:=aa hc;have HN:=aa hN;have HR:=aa hR;have HX:=aa hX;have HY:=aa hY;clear hc hN hR hX hY;go_enter func215,ntmps215;go_wp2_with fail;generalize (((((w.alloc (.cells #[.pointer po] 53)).alloc (.cells #[.slice ao L l] 23)).alloc (.cells #[.int .u64 (x:Nat)] 24)).alloc (.cells #[.slice bo M p] 23)).alloc (.cells #[.slice none 0 0] 23)).alloc (.cells #[.int .u64 0] 24)=W at *;obtain ⟨k0,x1,x2,x3,x4,x5,x6,hs⟩:=G;have k1:=k0.alloc (.cells #[.int .i64 0] 32);have xe:=Box.new W (.int .i64 0) 32;have t:xs≠[]->∀ b,(Value.slice ao L l).ownBlock=some b->b≠w.heap.size+1+1+1+1:=fun h b hb e=>by have:=hu.1.lt h b hb;omega
 have h1:=yP o ao bo L M l p xs ys x hx _ _ _ _ _ _ N HN.out _ (ht.grew k1) (hu.grew k1) (hv.grew k1) H I (by rw [E];exact x1.alloc _) (x2.alloc _) (x4.alloc _) (x5.alloc (.cells #[.int .i64 0] 32)) (x3.alloc _) (x6.alloc _) (by omega) (by omega) (by omega) (by omega) (by omega) t X Y R HX.out HY.out HR.out;have s:(W.alloc (.cells #[.int .i64 0] 32)).heap.size=W.heap.size+1:=by simp
 refine (mW 246 _ W (fun n W'=>(n=0/\(L<=300/\M<=300)/\∃ v' o',OwnN .u64 24 W' (W.heap.size+1) v' N (digs (Y+X*x) N)/\Did w o [(1,(N:Int),0)] W' o'/\TrIn W' o'/\Box W' (w.heap.size+1+1+1+1) v' 23/\Box W' (w.heap.size+1+1+1+1+1) (.int .u64 (R:Nat)) 24)\/(n=2/\¬ (L<=300/\M<=300)/\Kept af w W'/\Box W' (w.heap.size+1+1+1+1) (.slice none 0 0) 23/\Box W' (w.heap.size+1+1+1+1+1) (.int .u64 0) 24)) he (h1.mono ?_)).mono ?_
 ·rintro e w' (⟨hl,rfl,v',w1,o',ho,hd,hk,hb,g⟩ | ⟨hl,rfl,rfl⟩)
  ·rw [s] at ho;have m:=(hd.room (k:=0) ((ht.grew k1).less (by simp))).1;have P:=(x5.alloc (.cells #[.int .i64 0] 32)).did hd (ht.grew k1).1 (by decide) (by decide);have Q:=(x6.alloc (.cells #[.int .i64 0] 32)).did hd (ht.grew k1).1 (by decide) (by decide);have J:=hd.size;rw [s] at J;have O:=(xe.did hd (ht.grew k1).1 (by decide) (by decide)).kept hk (by omega);have B:=(Did.after k1 hd).wroteSome hk (fun b hb=>by
    rcases hb with rfl | rfl | hb
    ·exact ⟨by omega,P.apart m (by decide) (by decide)⟩
    ·exact ⟨by omega,Q.apart m (by decide) (by decide)⟩
    ·exact ⟨by omega,fun f=>by have:=Cx m f;omega⟩)
   exact ⟨O,.inl ⟨rfl,.inl ⟨rfl,hl,v',o',ho,B,(B.room (k:=0) (ht.less (by simp))).1,hb,g⟩⟩⟩
  ·exact ⟨xe,.inr ⟨2,rfl,.inr ⟨rfl,hl,k1,x5.alloc _,x6.alloc _⟩⟩⟩
 ·rintro e w' ⟨n,w1,rfl,⟨hq,y⟩,rfl⟩;have i:Box w1 W.heap.size (.int .i64 0) 32:=y;rcases hq with ⟨rfl,hl,v',o',ho,hd,m,hb,g⟩ | ⟨rfl,hl,hk,hb,g⟩
  ·have z:=hd.wroteNew (aD w1 W.heap.size (.int .i64 0)) (by omega) (i.apart m (by decide) (by decide));have D:=(aD w1 W.heap.size (.int .i64 0)).own ho (fun b q e=>by have:=(ho.lt b q).1;omega);have a:=hb.other ⟨W.heap.size,0,none⟩ (by show _≠W.heap.size;omega) (.int .i64 0);have d:=g.other ⟨W.heap.size,0,none⟩ (by show _≠W.heap.size;omega) (.int .i64 0);have c1:=a.cell;have f1:=a.free;have c2:=d.cell;have f2:=d.free;obtain ⟨xo,xc,rfl⟩:=dg ho;have r:w.heap.size+1+1+1+1≠w.heap.size+1+1+1+1+1:=by omega
   have c3:=((a.set (.slice xo N xc)).other ⟨w.heap.size+1+1+1+1+1,0,none⟩ r (.int .u64 (R:Nat))).cell;have c4:=((d.other ⟨w.heap.size+1+1+1+1,0,none⟩ r.symm (.slice xo N xc)).set (.int .u64 (R:Nat))).cell;have kb:=(aD (w1.setCell ⟨W.heap.size,0,none⟩ (.int .i64 0)) (w.heap.size+1+1+1+1) (.slice xo N xc)).mono (T:=fun b=>b=w.heap.size+1+1+1+1\/b=w.heap.size+1+1+1+1+1) (fun b _ e=>.inl e);have A:=kb.next (aD _ (w.heap.size+1+1+1+1+1) (.int .u64 (R:Nat))) (fun b _ e=>.inr e)
   have j:=(z.room (k:=0) (ht.less (by simp))).1;have HD:=aa (z.wroteSome A (fun b hb=>by
    rcases hb with rfl | rfl
    ·exact ⟨by omega,a.apart j (by decide) (by decide)⟩
    ·exact ⟨by omega,d.apart j (by decide) (by decide)⟩))
   have HO:=aa (A.own D (fun b q e=>by have:=(ho.lt b q).1;omega));have F:Hid (OwnN .u64 24 (((w1.setCell ⟨W.heap.size,0,none⟩ (.int .i64 0)).setCell ⟨w.heap.size+1+1+1+1,0,none⟩ (.slice xo N xc)).setCell ⟨w.heap.size+1+1+1+1+1,0,none⟩ (.int .u64 (R:Nat))) w.heap.size (.slice xo N xc) N (digs (Y+X*x) N)):=cE HO.out (fun b q=>by have:=(HO.out.lt b q).1;omega);have HE:Hid (c=R):=by
    unfold Hid;rw [HC.out,HR.out,HN.out];unfold vZ;rw [ah hl]
   generalize w1.setCell ⟨W.heap.size,0,none⟩ (.int .i64 0)=W2 at *;clear h1 hb g a d ho D kb A hd z m j y i hu hv ht x1 x2 x3 x4 x5 x6 xe k0 k1 t s he C;go_wp2_with fail;go_region
   all_goals
    go_wp2;refine bodyPost_ret (v:=.tuple #[.slice xo N xc,.int .u64 (R:Nat)]) (by simp [results,results215,go_sem,c3,c4]) rfl ?_;rw [HE.out];unfold AN AO;rw [ah hl,ah hl,<- HN.out];exact ⟨_,rfl,(cW HO.out (ag _ _ _)).grew (aj _ _).drew,fun _=>F.out.drew,o',HD.out.grew (aj _ _).drew⟩
  ·have a:=hb.other ⟨W.heap.size,0,none⟩ (by show _≠W.heap.size;omega) (.int .i64 2);have d:=g.other ⟨W.heap.size,0,none⟩ (by show _≠W.heap.size;omega) (.int .i64 2);have c1:=a.cell;have f1:=a.free;have c2:=d.cell;have f2:=d.free;have r:w.heap.size+1+1+1+1≠w.heap.size+1+1+1+1+1:=by omega
   have c3:=((a.set (.slice none 0 0)).other ⟨w.heap.size+1+1+1+1+1,0,none⟩ r (.int .u64 0)).cell;have c4:=((d.other ⟨w.heap.size+1+1+1+1,0,none⟩ r.symm (.slice none 0 0)).set (.int .u64 0)).cell;have k2:=hk.next (aD w1 W.heap.size (.int .i64 2)) (fun x hx e=>by omega)
   have k3:=(k2.next (aD _ (w.heap.size+1+1+1+1) (.slice none 0 0)) (fun x hx e=>by omega)).next (aD _ (w.heap.size+1+1+1+1+1) (.int .u64 0)) (fun x hx e=>by omega)
   have HD:=aa (Did.of_kept k3 ht.1);have HE:Hid (c=0):=by
    unfold Hid;rw [HC.out];unfold vZ;rw [ai hl]
   generalize w1.setCell ⟨W.heap.size,0,none⟩ (.int .i64 2)=W2 at *;clear h1 hb g a d hk k2 k3 y i hu hv ht x1 x2 x3 x4 x5 x6 xe k0 k1 t s he C;go_wp2_with fail;go_region
   all_goals
    go_wp2;refine bodyPost_ret (v:=.tuple #[.slice none 0 0,.int .u64 0]) (by simp [results,results215,go_sem,c3,c4]) rfl ?_;rw [HE.out];unfold AN AO;rw [ai hl,ai hl];exact ⟨_,rfl,Row.nil _ _,fun h=>absurd h hl,o,HD.out.grew (aj _ _).drew⟩

end Go.Proofs.YtkaojflnghfmcaaGreatDoor
