/- Put together of: Pro2 Lim2 MonB Mon2 Inv0 Ref6m. -/
import Derived.Test.YtpkmoamgpjcdeaaGreatDoorBY6

namespace Go.Proofs.YtpkmoamgpjcdeaaGreatDoor
open _root_.Go.Proofs.Tryz
set_option maxRecDepth 100000
set_option maxHeartbeats 4000000
open Go.RowKit
variable {V X Y c n:Nat} {w:World} {zs:LN}

theorem Box.did {w':World} {o o':Tr} {m:List Ev} {b:Nat} {v:Value} {t:TypeId} (h:Box w b v t) (d:Did w o m w' o') (ht:TrIn w o) (h1:t≠231:=by decide) (h2:t≠200:=by decide):Box w' b v t:=h.kept d.kept (aH h ht h1 h2)

theorem Box.apart {o:Tr} {b:Nat} {v:Value} {t:TypeId} (h:Box w b v t) (ht:TrIn w o) (h1:t≠231:=by decide) (h2:t≠200:=by decide):¬ dr o b:=aH h ht h1 h2

theorem aM (o:Tr):∃ po,aP o=.pointer po:=by
 cases o with
 | none=>exact ⟨_,rfl⟩
 | some x=>exact ⟨_,rfl⟩

theorem La (o:Tr) (ao bo:OA) (L M c d:Nat) (xs ys:LN) (bT bA bB bO:Nat) (w:World) (ht:TrRoom w o 300) (hu:RowT w o (.slice ao L c) xs) (hv:RowT w o (.slice bo M d) ys) (h:Digs xs) (i:Digs ys)
  (hT:Box w bT (aP o) 57) (hA:Box w bA (.slice ao L c) 23) (hB:Box w bB (.slice bo M d) 23) (hO:Box w bO (.slice none 0 0) 23) :
  ClZ 168 #[.pointer (some ⟨bA,0,none⟩),.pointer (some ⟨bB,0,none⟩),.pointer (some ⟨bT,0,none⟩),.pointer (some ⟨bO,0,none⟩)] w fun e w'=>
   ((L<=300/\M<=300)/\e=.returned (.tuple #[])/\∃ v' w1 o',v'=.slice (some ⟨w.heap.size,0,none⟩) (L+M) (L+M)/\OwnN .u64 24 w1 w.heap.size v' (L+M) (digs (val xs*val ys) (L+M))/\Did w o (List.replicate L (1,(M:Nat),0)) w1 o'/\Kept (fun b=>b=bO) w1 w'/\Box w' bO v' 23) \/
   (¬ (L<=300/\M<=300)/\e=.panicked [refusal 2]/\w'=w):=by
 obtain ⟨_,_,_,e1,f,_,_,_,_⟩:=hu.1.open;cases e1
 obtain ⟨_,_,_,e1,g,_,_,_,_⟩:=hv.1.open;cases e1
 have eL:=f.o;have eM:=g.o;have hP:=fun W=>zX ao bo L M c d W
 have hR:=fun W (k:Kept af w W) (l1:L<=300) (l2:M<=300)=>Lc o _ _ xs ys W ((ht.l (by omega)).g k) (hu.g k) (hv.g k) h i (by omega) (by omega)
 rw [eL,eM] at hR;obtain ⟨po,j⟩:=aM o;rw [j] at hR hT;have cT:=hT.cell;have cA:=hA.cell;have cB:=hB.cell;have HO:=aa hO;have HT:=aa ht.1;clear hu hv h i f g eL eM j hT hA hB hO ht;delta ClZ;go_in;go_wp2_with fail;refine (hP _).mono ?_;rintro e w1 ⟨⟨l1,l2,rfl⟩ | ⟨l1,rfl⟩,rfl⟩
 ·go_wp2_with fail;refine (hR _ (ah _ _) l1 l2).mono ?_;rintro e w2 ⟨v',rfl,rfl,ho,o',hd⟩;have a:=HO.o.did hd HT.o;have cO:=a.cell;have fO:=a.free;have HD:=aa hd;have m:=aa ho;have l:=aa a;clear hP hR cT cA cB hd ho a;go_wp2_with fail;go_end0
  exact .inl ⟨⟨l1,l2⟩,rfl,_,_,o',rfl,m.o,HD.o,aF _ _ _,l.o.set _⟩
 ·exact ⟨rfl,.inr ⟨l1,rfl,rfl⟩⟩

def kD (X Y L M:Nat):LN:=if L<=300/\M<=300 then digs (X*Y) (L+M) else []

def kF (L M:Nat):List Ev:=if L<=300/\M<=300 then List.replicate L (1,((M:Nat):Int),0) else []

theorem Dh (o:Tr) (ao bo:OA) (L M f i:Nat) (xs ys:LN) (w:World) (ht:TrRoom w o 300) (hu:RowT w o (.slice ao L f) xs) (hv:RowT w o (.slice bo M i) ys) (E:Digs xs) (F:Digs ys) :
  ClZ 110 #[aP o,.slice ao L f,.slice bo M i] w fun e w'=>∃ v',e=.returned v' /\
   Row .u64 w' v' (kD (val xs) (val ys) L M)/\(∀ b,v'.ownBlock=some b->w.heap.size<=b)/\(L<=300/\M<=300->∃ g,w.heap.size<=g/\v'=.slice (some ⟨g,0,none⟩) (L+M) (L+M)/\OwnN .u64 24 w' g v' (L+M) (digs (val xs*val ys) (L+M)))/\∃ o',Did w o (kF L M) w' o':=by
 obtain ⟨po,A⟩:=aM o;have D:=sY w (.pointer po) (.slice ao L f) (.slice bo M i) (.slice none 0 0) 57 23 23 23;have he:∀ args w,(callFunc 168 args).run prog w=.ok (.enter 168 args) w:=fun _ _=>by simp [go_sem]
 rw [A];delta ClZ;go_in;go_wp2_with fail;generalize (((w.alloc (.cells #[.pointer po] 57)).alloc (.cells #[.slice ao L f] 23)).alloc (.cells #[.slice bo M i] 23)).alloc (.cells #[.slice none 0 0] 23)=W at *;obtain ⟨k0,x1,x2,x3,x4,hs⟩:=D;have k1:=k0.alloc (.cells #[.int .i64 0] 35);have xe:=Box.new W (.int .i64 0) 35;have h1:=La o ao bo L M f i xs ys _ _ _ _ _ (ht.g k1) (hu.g k1) (hv.g k1) E F (by rw [A];exact x1.alloc _) (x2.alloc _) (x3.alloc _) (x4.alloc (.cells #[.int .i64 0] 35))
 refine (oo 168 _ W (fun n W'=>(n=0/\(L<=300/\M<=300)/\∃ v' o',v'=.slice (some ⟨W.heap.size+1,0,none⟩) (L+M) (L+M)/\OwnN .u64 24 W' (W.heap.size+1) v' (L+M) (digs (val xs*val ys) (L+M))/\Did w o (List.replicate L (1,(M:Nat),0)) W' o'/\Box W' (w.heap.size+1+1+1) v' 23)\/(n=2/\¬ (L<=300/\M<=300)/\Kept af w W'/\Box W' (w.heap.size+1+1+1) (.slice none 0 0) 23)) he (h1.mono ?_)).mono ?_
 ·rintro e w' (⟨hl,rfl,v',w1,o',l,ho,hd,hk,hb⟩ | ⟨hl,rfl,rfl⟩)
  ·rw [show (W.alloc (.cells #[.int .i64 0] 35)).heap.size=W.heap.size+1 by simp] at ho l;have p:=(hd.room (k:=0) ((ht.g k1).l (by simp;omega))).1;have I:=(x4.alloc (.cells #[.int .i64 0] 35)).did hd (ht.g k1).1 (by decide) (by decide);have H:=(xe.did hd (ht.g k1).1 (by decide) (by decide)).kept hk (by omega);refine ⟨H,.inl ⟨rfl,.inl ⟨rfl,hl,v',o',l,hk.own ho (fun b c e=>?_),(Did.b k1 hd).wroteNew hk (by omega) (I.apart p),hb⟩⟩⟩;have:=(ho.lt b c).1;omega
  ·exact ⟨xe,.inr ⟨2,rfl,.inr ⟨rfl,hl,k1,x4.alloc _⟩⟩⟩
 ·rintro e w' ⟨n,w1,rfl,⟨hq,r⟩,rfl⟩;have d:Box w1 W.heap.size (.int .i64 0) 35:=r;rcases hq with ⟨rfl,hl,v',o',l,ho,hd,hb⟩ | ⟨rfl,hl,hk,hb⟩
  ·have p:=(hd.room (k:=0) (ht.l (by simp;omega))).1;have s:=hd.wroteNew (aF w1 W.heap.size (.int .i64 0)) (by omega) (d.apart p);have y:=(aF w1 W.heap.size (.int .i64 0)).own ho (fun b c e=>by have:=(ho.lt b c).1;omega);have a:=hb.other ⟨W.heap.size,0,none⟩ (by show _≠W.heap.size;omega) (.int .i64 0);have C:=a.cell;have G:=a.free;have q:=(a.set v').cell;have z:=(aF _ (w.heap.size+1+1+1) v').own y (fun b c e=>by have:=(ho.lt b c).1;omega);have m:=(s.room (k:=0) (ht.l (by simp;omega))).1;have t:=s.wroteNew (aF _ (w.heap.size+1+1+1) v') (by omega) (a.apart m)
   have j:HzD (∀ b,v'.ownBlock=some b->w.heap.size<=b):=fun b c=>by have:=(ho.lt b c).1;omega
   obtain ⟨xo,xc,rfl⟩:=dK ho;have B:=aa l;clear l;have HO:=aa z;have HD:=aa t;clear h1 ho hd hb y s z t p m a r d hu hv ht;generalize w1.setCell ⟨W.heap.size,0,none⟩ (.int .i64 0)=W2 at *;go_wp2_with fail;refine bodyPost_ret (v:=.slice xo (L+M) xc) (by simp [results,results110,go_sem,q]) rfl ?_;unfold kD kF;rw [ai hl,ai hl];exact ⟨_,rfl,Row.of_own (base:=W.heap.size+1) (e:=24) (by rw [ag];exact HO.o),j.o,(fun _=>⟨_,by omega,B.o,HO.o⟩),o',HD.o⟩
  ·have k2:=hk.next (aF w1 W.heap.size (.int .i64 2)) (fun x hx e=>by omega)
   have a:=hb.other ⟨W.heap.size,0,none⟩ (by show _≠W.heap.size;omega) (.int .i64 2);have C:=a.cell;have G:=a.free;have q:=(a.set (.slice none 0 0)).cell;have HD:=aa (Did.of_kept (k2.next (aF _ (w.heap.size+1+1+1) (.slice none 0 0)) (fun x hx e=>by omega)) ht.1);clear h1 hb hu hv ht hk k2 a r d;generalize w1.setCell ⟨W.heap.size,0,none⟩ (.int .i64 2)=W2 at *;go_wp2_with fail;refine bodyPost_ret (v:=.slice none 0 0) (by simp [results,results110,go_sem,q]) rfl ?_;unfold kD kF;rw [ar hl,ar hl];exact ⟨_,rfl,Row.nil _ _,(fun b hb=>by cases hb),(fun h=>absurd h hl),o,HD.o⟩

theorem L6 (o:Tr) (ao bo:OA) (L M a c:Nat) (xs ys:LN) (w:World) (ht:TrRoom w o 300) (hu:RowT w o (.slice ao L a) xs) (hv:RowT w o (.slice bo M c) ys) (d:Digs xs) (f:Digs ys) :
  ClZ 110 #[aP o,.slice ao L a,.slice bo M c] w fun e w'=>∃ v',e=.returned v' /\
   Row .u64 w' v' (kD (val xs) (val ys) L M)/\(∀ b,v'.ownBlock=some b->w.heap.size<=b)/\∃ o',Did w o (kF L M) w' o':=by
 refine (Dh o ao bo L M a c xs ys w ht hu hv d f).mono ?_;rintro e w' ⟨v',rfl,h1,h2,_,h3⟩;exact ⟨v',rfl,h1,h2,h3⟩

theorem JZ (v:Value) (xs:LN) (n:Nat) (w:World) (h:Row .u64 w v xs) (hl:xs.length<=n:=by omega) (hn:n<=1000000:=by omega) :
  ClZ 232 #[v,.int .i64 (n:Nat)] w fun e w'=>e=.returned (.slice (some ⟨w.heap.size,0,none⟩) n n)/\OwnN .u64 24 w' w.heap.size (.slice (some ⟨w.heap.size,0,none⟩) n n) n (xs ++ List.replicate (n-xs.length) 0)/\Kept af w w':=by
 obtain ⟨i0,i,r,k,s⟩:=info_parts Tryz.info24;obtain ⟨ao,q,o,rfl,hL,_,_,_,_⟩:=h.open;have HS:HzD (∀ W,Kept af w W->0<(xs.map fun z:Nat=>Value.int .u64 (z:Int)).length->∃ ad,ao=some ad/\∀ j u,(xs.map fun z:Nat=>Value.int .u64 (z:Int))[j]? = some u->W.cell? (ad.add j)=some u):=fun W hk hp=>h.source hk hp
 have HO:=aa (jE .u64 xs);have b:HzD ((xs.map fun z:Nat=>Value.int .u64 (z:Int)).length=q):=by unfold HzD;rw [cJ];exact hL.o
 obtain ⟨CS,c⟩:=aj (xs.map (fun z:Nat=>Value.int .u64 (z:Int)))
 rw [<- c] at HS HO b;have m:HzD (CS=xs.map (fun z:Nat=>Value.int .u64 (z:Int))):=c;have hq:q<=n:=by rw [<- hL.o];exact hl
 clear c h hl;delta ClZ;go_in;go_wp2_with (at_make;refine wpList_make_full _ rfl _ _ 23 rfl w.heap.size 24 i0 _ 1 underlying23 i r k _ _ _ _ n rfl rfl rfl rfl (by rw [s];omega) (by unfold maxLen;omega) (leR _) ?_;intro w1 d g;rw [bD] at d;have k1:=bf g;obtain ⟨w2,p,f,k2⟩:=ew (P:=prog) 23 23 3 24 w.heap.size 0 n n (some ⟨w.heap.size,0,none⟩) ao q o _ 24 CS underlying23 (by rw [i];simp [k]) (iy d) (by rw [b.o];exact (jw hq).symm) (fun hp=>⟨rfl,HS.o _ k1 hp⟩) (by have:=b.o;simp;omega) HO.o;have l:HzD _:=f;clear f d g);go_ret;have a:=l.o
 rw [m.o,ig] at a;have kk:=fH k1 k2 (leR _);exact ⟨rfl,dZ a (by simp [hL.o];omega) (by unfold maxLen;omega) (leR _),kk⟩

def CT (X W Y L M:Nat):LN:=if L<=300/\M<=300 then digs (Y+X*W) (max L M) else []

def zR (X W Y L M:Nat):Nat:=if L<=300/\M<=300 then (Y+X*W)/18446744073709551616^max L M else 0

def CU (L M:Nat):List Ev:=if L<=300/\M<=300 then [(1,((max L M:Nat):Int),0)] else []

theorem xA {ys:LN} (n:Nat):val (ys ++ List.replicate n 0)=val ys:=by
 rw [eK,eY _ (fun d hd=>(ff.1 hd).2),df,aV]

theorem dz {base:Nat} {v:Value} (h:OwnN .u64 24 w base v n zs) (hl:zs.length=n):Row .u64 w v zs:=
 Row.of_own (base:=base) (e:=24) (by rw [hl];exact h)

theorem sd {ys:LN} (h:Digs ys) (n:Nat):Digs (ys ++ List.replicate n 0):=h.append (fun d hd=>by rw [(ff.1 hd).2];omega)

theorem A9 (o:Tr) (ao bo:OA) (L M c C:Nat) (xs ys:LN) (x:Nat) (hx:x<18446744073709551616) (bT bA bB bO bW bU N:Nat) (hN:N=max L M) (w:World) (ht:TrRoom w o 300) (hu:RowT w o (.slice ao L c) xs) (hv:RowT w o (.slice bo M C) ys) (V:Digs xs) (Z:Digs ys)
  (hT:Box w bT (aP o) 57) (hA:Box w bA (.slice ao L c) 23) (hB:Box w bB (.slice bo M C) 23) (hO:Box w bO (.slice none 0 0) 23) (hW:Box w bW (.int .u64 (x:Nat)) 24) (hU:Box w bU (.int .u64 0) 24) (D:bO≠bU) (av:bA≠bO) (aG:bW≠bO) (ax:bA≠bU) (aH:bW≠bU) (az:xs≠[]->∀ b,(Value.slice ao L c).ownBlock=some b->b≠bO) (X Y R:Nat) (hX:X=val xs) (hY:Y=val ys) (hR:R=(Y+X*x)/18446744073709551616^N) :
  ClZ 231 #[.pointer (some ⟨bA,0,none⟩),.pointer (some ⟨bB,0,none⟩),.pointer (some ⟨bT,0,none⟩),.pointer (some ⟨bO,0,none⟩),.pointer (some ⟨bW,0,none⟩),.pointer (some ⟨bU,0,none⟩)] w fun e w'=>
   ((L<=300/\M<=300)/\e=.returned (.tuple #[])/\∃ v' w1 o',OwnN .u64 24 w' w.heap.size v' N (digs (Y+X*x) N)/\Did w o [(1,(N:Int),0)] w1 o'/\Kept (fun b=>b=bO\/b=bU\/w1.heap.size<=b) w1 w'/\Box w' bO v' 23/\Box w' bU (.int .u64 (R:Nat)) 24) \/
   (¬ (L<=300/\M<=300)/\e=.panicked [refusal 2]/\w'=w):=by
 obtain ⟨_,_,_,e1,S,_,_,_,_⟩:=hu.1.open;cases e1
 obtain ⟨_,_,_,e1,T,_,_,_,_⟩:=hv.1.open;cases e1
 have eL:=S.o;have eM:=T.o;have hP:=fun W=>zX ao bo L M c C W
 obtain ⟨po,ab⟩:=aM o;have hS:=fun (n:Int)=>gh o n w ht.1
 rw [ab] at hS hT;have cT:=hT.cell;have cA:=hA.cell;have cB:=hB.cell;have HO:=aa hO;have HT:=aa ht;have HU:=aa hu;have HV:=aa hv;have HA:=aa hA;have HB:=aa hB;have HW:=aa hW;have al:=aa hU;have ai:=aa V;have ak:=aa Z;clear hu hv V Z S T ab hT hA hB hO ht hW hU;delta ClZ;go_in;go_wp2_with fail;refine (hP _).mono ?_;rintro e w1 ⟨⟨l1,l2,rfl⟩ | ⟨l1,rfl⟩,rfl⟩
 ·have gN:max (L:Int) (M:Int)=(N:Int):=by omega
  have aN:L<=N:=by omega
  have aO:M<=N:=by omega
  have aQ:N<=300:=by omega
  clear hN hP;go_wp2_with fail;refine (hS _).mono ?_;rintro e w2 ⟨rfl,o2,d2⟩;have p:=HT.o.1;have H:=HO.o.did d2 p;have G:=HA.o.did d2 p;have J:=HW.o.did d2 p;have I:=al.o.did d2 p;have ag:=HB.o.did d2 p;have ac:=(HU.o.did d2).1;have ae:=(HV.o.did d2).1;have an:=ag.cell;have Q:=JZ _ ys N w2 ae;clear hS;go_wp2_with fail;refine Q.mono ?_;rintro e w3 ⟨rfl,t,k3⟩;have a:=H.g k3;have ap:=a.cell;have au:=a.free;obtain ⟨g,hg⟩:=aj w2.heap.size
  rw [<- hg] at t ⊢;have aC:=H.lt;have aE:=I.lt;have h:=a.set (.slice (some ⟨g,0,none⟩) N N);have d:=((G.g k3).kept (aF w3 bO (.slice (some ⟨g,0,none⟩) N N)) av)
  have l:=((J.g k3).kept (aF w3 bO (.slice (some ⟨g,0,none⟩) N N)) aG)
  have r:=((I.g k3).kept (aF w3 bO (.slice (some ⟨g,0,none⟩) N N)) (fun e=>D e.symm))
  have F:=(aF w3 bO (.slice (some ⟨g,0,none⟩) N N)).own t (fun b m e=>by have:=(t.lt b m).1;omega);have HG:=aa hg;have O:Kept (fun b=>b=bO) w2 (w3.setCell ⟨bO,0,none⟩ (.slice (some ⟨g,0,none⟩) N N)):=k3.any.trans (aF w3 bO _);clear hg;go_wp2_with fail;generalize w3.setCell ⟨bO,0,none⟩ (.slice (some ⟨g,0,none⟩) N N)=W4 at *;have ad:Row .u64 W4 (.slice ao L c) xs:=ac.kept' O (fun E b hb e=>az E b hb e)
  have aA:∀ W,Kept af W4 W->ClZ 232 #[.slice ao L c,.int .i64 (N:Int)] W fun e w'=>∃ b0,e=.returned (.slice (some ⟨b0,0,none⟩) N N)/\W4.heap.size<=b0/\Row .u64 w' (.slice (some ⟨b0,0,none⟩) N N) (xs ++ List.replicate (N-xs.length) 0)/\Kept af W4 w':=fun W k=>by
   refine (JZ _ xs N W (ad.g k)).mono ?_;rintro e w' ⟨rfl,ho,kk⟩;exact ⟨_,rfl,k.size,dz ho (by simp;omega),k.trans kk⟩
  have aJ:g<W4.heap.size:=fX F;have aw:∀ W b0,Kept af W4 W->W4.heap.size<=b0->Row .u64 W (.slice (some ⟨b0,0,none⟩) N N) (xs ++ List.replicate (N-xs.length) 0)->ClZ 218 #[.slice (some ⟨g,0,none⟩) N N,.slice (some ⟨b0,0,none⟩) N N,.int .u64 (x:Nat)] W fun e w'=>e=.returned (.int .u64 (R:Nat))/\OwnN .u64 24 w' g (.slice (some ⟨g,0,none⟩) N N) N (digs (Y+X*x) N)/\Kept (fun b=>b=g) W4 w':=fun W b0 k U hr=>by
   refine (tB g g N N 0 N N x _ _ _ W (k.own F (fun _ _ f=>f)) (by simp;omega) (sd ak.o _) (by omega) hr (by simp;omega) (sd ai.o _) (fun _ b hb e=>by simp [Value.ownBlock] at hb;omega) hx R (Y+X*x) (by rw [il,dS (by simp;omega),xA,xA,hY,hX]) hR).mono ?_;rintro e w' ⟨rfl,ho,kk⟩;rw [nF,bZ,kU (by simp;omega),dY] at ho;exact ⟨rfl,ho,k.any.trans kk⟩
  have aq:=h.cell;have am:=d.cell;have ar:=l.cell;have z:=aa h;have A:=aa r;have y:=aa d;have B:=aa l;have ay:bA≠g:=by have:=G.lt;have:=HG.o;omega
  have aI:bW≠g:=by have:=J.lt;have:=HG.o;omega
  have aB:bO≠g:=by have:=HG.o;omega
  have aD:bU≠g:=by have:=HG.o;omega
  have v:=aa O;have P:=aa d2;clear h d l r F O ad H G J I ag ac ae an Q t k3 a ap au cT cA cB hX hY hR d2;go_region_held3 (fun w'=>w'.cell? ⟨bO,0,none⟩=some (.slice (some ⟨g,0,none⟩) N N)/\w'.cell? ⟨bA,0,none⟩=some (.slice ao L c)/\w'.cell? ⟨bW,0,none⟩=some (.int .u64 (x:Int)))
   (((try dsimp only);(repeat' apply And.intro) <;> first | (go_keep;done) | assumption | exact (i.other ⟨bU,0,none⟩ D _).cell | exact (q.other ⟨bU,0,none⟩ ax _).cell | exact (s.other ⟨bU,0,none⟩ aH _).cell))
   (first
   | (go_at_call 232;refine (aA _ ?_).mono ?_;(first | exact (ah _ _).drew | exact ah _ _);rintro e w5 ⟨b0,rfl,U,aL,k5⟩;have p1:=k5.cellN aq;have p2:=k5.cellN am;have p3:=k5.cellN ar)
   | (go_at_call 218;refine (aw _ _ ?_ U ?_).mono ?_;(exact k5);(exact aL);rintro e w6 ⟨rfl,aK,k6⟩;have j:=A.o.kept k6 aD;have i:=z.o.kept k6 aB;have q:=y.o.kept k6 ay;have s:=B.o.kept k6 aI;have q1:=i.cell;have q2:=q.cell;have q3:=s.cell;have c6:=j.cell;have f6:=j.free))
  all_goals
   go_end0
   have aR:w2.heap.size<=g:=by have:=HG.o;omega
   have kk:Kept (fun b=>b=bO\/b=bU\/w2.heap.size<=b) w2 (w6.setCell ⟨bU,0,none⟩ (.int .u64 (R:Int))):=((v.o.mono (fun _ _ e=>.inl e)).next k6 (fun b _ e=>.inr (.inr (by omega)))).next (aF w6 bU _) (fun b _ e=>.inr (.inl e))
   exact .inl ⟨⟨l1,l2⟩,rfl,_,w2,o2,dg ((aF w6 bU _).own aK (fun b m e=>by simp [Value.ownBlock] at m;omega)) (fun b m=>by simp [Value.ownBlock] at m;have:=P.o.size;omega),P.o,kk,i.other ⟨bU,0,none⟩ D _,j.set _⟩
 ·exact ⟨rfl,.inr ⟨l1,rfl,rfl⟩⟩

theorem Did.wroteSome {S:Nat->Prop} {w' w2:World} {o o':Tr} {m:List Ev} (d:Did w o m w' o') (k:Kept S w' w2) (hS:∀ b,S b->w.heap.size<=b/\¬ dr o' b):Did w o m w2 o':=by
 refine ⟨d.1.next k (fun x hx e=>by have:=(hS x e).1;omega),?_⟩;rcases d.2 with h1 | ⟨p,g,l,g',e1,e2,ht,hg⟩
 ·exact .inl h1
 ·subst e2;exact .inr ⟨p,g,l,g',e1,rfl,ht.kept k (fun e=>(hS p e).2 (.inl rfl)) (fun x hx e=>(hS x e).2 (.inr hx)),hg⟩

theorem EO {o:Tr} (ht:TrIn w o) {b:Nat} (hf:dr o b):b<w.heap.size:=ht.foot b hf

theorem Ba (o:Tr) (ao bo:OA) (L M l p:Nat) (xs ys:LN) (x:Nat) (hx:x<18446744073709551616) (c:Nat) (hc:c=zR (val xs) x (val ys) L M) (w:World) (ht:TrRoom w o 300) (hu:RowT w o (.slice ao L l) xs) (hv:RowT w o (.slice bo M p) ys) (H:Digs xs) (I:Digs ys) :
  ClZ 199 #[aP o,.slice ao L l,.int .u64 (x:Nat),.slice bo M p] w fun e w'=>∃ v',e=.returned (.tuple #[v',.int .u64 (c:Nat)]) /\
   Row .u64 w' v' (CT (val xs) x (val ys) L M)/\(L<=300/\M<=300->OwnN .u64 24 w' w.heap.size v' (max L M) (digs (val ys+val xs*x) (max L M)))/\∃ o',Did w o (CU L M) w' o':=by
 have C:=Hp;obtain ⟨po,E⟩:=aM o;have G:=GN w (.pointer po) (.slice ao L l) (.int .u64 (x:Nat)) (.slice bo M p) (.slice none 0 0) (.int .u64 0) 57 23 24 23 23 24;have he:∀ args w,(callFunc 231 args).run prog w=.ok (.enter 231 args) w:=fun _ _=>by simp [go_sem]
 obtain ⟨N,hN⟩:=aj (max L M)
 obtain ⟨X,hX⟩:=aj (val xs)
 obtain ⟨Y,hY⟩:=aj (val ys)
 obtain ⟨R,hR⟩:=aj ((Y+X*x)/18446744073709551616^N)
 rw [E];rw [<- hX,<- hY] at hc ⊢;have HC:=aa hc;have HN:=aa hN;have HR:=aa hR;have HX:=aa hX;have HY:=aa hY;clear hc hN hR hX hY;delta ClZ;go_in;go_wp2_with fail;generalize (((((w.alloc (.cells #[.pointer po] 57)).alloc (.cells #[.slice ao L l] 23)).alloc (.cells #[.int .u64 (x:Nat)] 24)).alloc (.cells #[.slice bo M p] 23)).alloc (.cells #[.slice none 0 0] 23)).alloc (.cells #[.int .u64 0] 24)=W at *;obtain ⟨k0,x1,x2,x3,x4,x5,x6,hs⟩:=G;have k1:=k0.alloc (.cells #[.int .i64 0] 35);have xe:=Box.new W (.int .i64 0) 35;have t:xs≠[]->∀ b,(Value.slice ao L l).ownBlock=some b->b≠w.heap.size+1+1+1+1:=fun h b hb e=>by have:=hu.1.lt h b hb;omega
 have h1:=A9 o ao bo L M l p xs ys x hx _ _ _ _ _ _ N HN.o _ (ht.g k1) (hu.g k1) (hv.g k1) H I (by rw [E];exact x1.alloc _) (x2.alloc _) (x4.alloc _) (x5.alloc (.cells #[.int .i64 0] 35)) (x3.alloc _) (x6.alloc _) (by omega) (by omega) (by omega) (by omega) (by omega) t X Y R HX.o HY.o HR.o;have s:(W.alloc (.cells #[.int .i64 0] 35)).heap.size=W.heap.size+1:=by simp
 refine (oo 231 _ W (fun n W'=>(n=0/\(L<=300/\M<=300)/\∃ v' o',OwnN .u64 24 W' (W.heap.size+1) v' N (digs (Y+X*x) N)/\Did w o [(1,(N:Int),0)] W' o'/\TrIn W' o'/\Box W' (w.heap.size+1+1+1+1) v' 23/\Box W' (w.heap.size+1+1+1+1+1) (.int .u64 (R:Nat)) 24)\/(n=2/\¬ (L<=300/\M<=300)/\Kept af w W'/\Box W' (w.heap.size+1+1+1+1) (.slice none 0 0) 23/\Box W' (w.heap.size+1+1+1+1+1) (.int .u64 0) 24)) he (h1.mono ?_)).mono ?_
 ·rintro e w' (⟨hl,rfl,v',w1,o',ho,hd,hk,hb,g⟩ | ⟨hl,rfl,rfl⟩)
  ·rw [s] at ho;have m:=(hd.room (k:=0) ((ht.g k1).l (by simp))).1;have P:=(x5.alloc (.cells #[.int .i64 0] 35)).did hd (ht.g k1).1 (by decide) (by decide);have Q:=(x6.alloc (.cells #[.int .i64 0] 35)).did hd (ht.g k1).1 (by decide) (by decide);have J:=hd.size;rw [s] at J;have O:=(xe.did hd (ht.g k1).1 (by decide) (by decide)).kept hk (by omega);have B:=(Did.b k1 hd).wroteSome hk (fun b hb=>by
    rcases hb with rfl | rfl | hb
    ·exact ⟨by omega,P.apart m⟩
    ·exact ⟨by omega,Q.apart m⟩
    ·exact ⟨by omega,fun f=>by have:=EO m f;omega⟩)
   exact ⟨O,.inl ⟨rfl,.inl ⟨rfl,hl,v',o',ho,B,(B.room (k:=0) (ht.l (by simp))).1,hb,g⟩⟩⟩
  ·exact ⟨xe,.inr ⟨2,rfl,.inr ⟨rfl,hl,k1,x5.alloc _,x6.alloc _⟩⟩⟩
 ·rintro e w' ⟨n,w1,rfl,⟨hq,y⟩,rfl⟩;have i:Box w1 W.heap.size (.int .i64 0) 35:=y;rcases hq with ⟨rfl,hl,v',o',ho,hd,m,hb,g⟩ | ⟨rfl,hl,hk,hb,g⟩
  ·have z:=hd.wroteNew (aF w1 W.heap.size (.int .i64 0)) (by omega) (i.apart m);have D:=(aF w1 W.heap.size (.int .i64 0)).own ho (fun b q e=>by have:=(ho.lt b q).1;omega);have a:=hb.other ⟨W.heap.size,0,none⟩ (by show _≠W.heap.size;omega) (.int .i64 0);have d:=g.other ⟨W.heap.size,0,none⟩ (by show _≠W.heap.size;omega) (.int .i64 0);have c1:=a.cell;have f1:=a.free;have c2:=d.cell;have f2:=d.free;obtain ⟨xo,xc,rfl⟩:=dK ho;have r:w.heap.size+1+1+1+1≠w.heap.size+1+1+1+1+1:=by omega
   have c3:=((a.set (.slice xo N xc)).other ⟨w.heap.size+1+1+1+1+1,0,none⟩ r (.int .u64 (R:Nat))).cell;have c4:=((d.other ⟨w.heap.size+1+1+1+1,0,none⟩ r.symm (.slice xo N xc)).set (.int .u64 (R:Nat))).cell;have kb:=(aF (w1.setCell ⟨W.heap.size,0,none⟩ (.int .i64 0)) (w.heap.size+1+1+1+1) (.slice xo N xc)).mono (T:=fun b=>b=w.heap.size+1+1+1+1\/b=w.heap.size+1+1+1+1+1) (fun b _ e=>.inl e);have A:=kb.next (aF _ (w.heap.size+1+1+1+1+1) (.int .u64 (R:Nat))) (fun b _ e=>.inr e)
   have j:=(z.room (k:=0) (ht.l (by simp))).1;have HD:=aa (z.wroteSome A (fun b hb=>by
    rcases hb with rfl | rfl
    ·exact ⟨by omega,a.apart j⟩
    ·exact ⟨by omega,d.apart j⟩))
   have HO:=aa (A.own D (fun b q e=>by have:=(ho.lt b q).1;omega));have F:HzD (OwnN .u64 24 (((w1.setCell ⟨W.heap.size,0,none⟩ (.int .i64 0)).setCell ⟨w.heap.size+1+1+1+1,0,none⟩ (.slice xo N xc)).setCell ⟨w.heap.size+1+1+1+1+1,0,none⟩ (.int .u64 (R:Nat))) w.heap.size (.slice xo N xc) N (digs (Y+X*x) N)):=dg HO.o (fun b q=>by have:=(HO.o.lt b q).1;omega);have HE:HzD (c=R):=by
    unfold HzD;rw [HC.o,HR.o,HN.o];unfold zR;rw [ai hl]
   generalize w1.setCell ⟨W.heap.size,0,none⟩ (.int .i64 0)=W2 at *;clear h1 hb g a d ho D kb A hd z m j y i hu hv ht x1 x2 x3 x4 x5 x6 xe k0 k1 t s he C;go_wp2_with fail;go_region
   all_goals
    go_wp2;refine bodyPost_ret (v:=.tuple #[.slice xo N xc,.int .u64 (R:Nat)]) (by simp [results,results199,go_sem,c3,c4]) rfl ?_;rw [HE.o];unfold CT CU;rw [ai hl,ai hl,<- HN.o];exact ⟨_,rfl,(dz HO.o (ag _ _ _)).g (ah _ _).drew,fun _=>F.o.drew,o',HD.o.g (ah _ _).drew⟩
  ·have a:=hb.other ⟨W.heap.size,0,none⟩ (by show _≠W.heap.size;omega) (.int .i64 2);have d:=g.other ⟨W.heap.size,0,none⟩ (by show _≠W.heap.size;omega) (.int .i64 2);have c1:=a.cell;have f1:=a.free;have c2:=d.cell;have f2:=d.free;have r:w.heap.size+1+1+1+1≠w.heap.size+1+1+1+1+1:=by omega
   have c3:=((a.set (.slice none 0 0)).other ⟨w.heap.size+1+1+1+1+1,0,none⟩ r (.int .u64 0)).cell;have c4:=((d.other ⟨w.heap.size+1+1+1+1,0,none⟩ r.symm (.slice none 0 0)).set (.int .u64 0)).cell;have k2:=hk.next (aF w1 W.heap.size (.int .i64 2)) (fun x hx e=>by omega)
   have k3:=(k2.next (aF _ (w.heap.size+1+1+1+1) (.slice none 0 0)) (fun x hx e=>by omega)).next (aF _ (w.heap.size+1+1+1+1+1) (.int .u64 0)) (fun x hx e=>by omega)
   have HD:=aa (Did.of_kept k3 ht.1);have HE:HzD (c=0):=by
    unfold HzD;rw [HC.o];unfold zR;rw [ar hl]
   generalize w1.setCell ⟨W.heap.size,0,none⟩ (.int .i64 2)=W2 at *;clear h1 hb g a d hk k2 k3 y i hu hv ht x1 x2 x3 x4 x5 x6 xe k0 k1 t s he C;go_wp2_with fail;go_region
   all_goals
    go_wp2;refine bodyPost_ret (v:=.tuple #[.slice none 0 0,.int .u64 0]) (by simp [results,results199,go_sem,c3,c4]) rfl ?_;rw [HE.o];unfold CT CU;rw [ar hl,ar hl];exact ⟨_,rfl,Row.nil _ _,fun h=>absurd h hl,o,HD.o.g (ah _ _).drew⟩

theorem Au {bit:Nat} {os:LN} (hl:os.length=n) (hd:Digs os) (hX:X<18446744073709551616^n) (hY:Y<18446744073709551616^n) (h:val os+18446744073709551616^n*c=X%18446744073709551616^n+(Y*(bit%2))%18446744073709551616^n) :
  os=digs (cZ bit (X+Y) X) n/\c=cZ bit (dF (decide (2^(64*n)<=X+Y))) 0:=by
 have hv:=aE (by omega) hd;rw [hl] at hv;rw [<- B64];have a:bit%2=0\/bit%2=1:=by omega
 rw [aB hX] at h;rcases a with hb | hb
 ·rw [hb,df,iw,aV] at h;unfold cZ;rw [aK,aK];have hc:c=0:=by
   rcases cE c with h0 | h0
   ·exact h0
   ·have:18446744073709551616^n*1<=18446744073709551616^n*c:=bG _ h0;omega
  subst hc;refine ⟨cS (by omega) hd hl ?_,rfl⟩;rw [aB hX];omega
 ·rw [hb,bI,aB hY] at h;unfold cZ dF;rw [ai hb,ai hb];refine ⟨cS (by omega) hd hl ?_,?_⟩
  ·rw [<- h,eO,aB hv]
  ·have hc:c=0\/c=1\/2<=c:=by omega
   rcases hc with rfl | rfl | hc
   ·rw [ar];simp;omega
   ·rw [ai];simp;omega
   ·have:18446744073709551616^n*2<=18446744073709551616^n*c:=bG _ hc;omega

theorem eX {xs:LN} (hd:Digs xs) (hl:xs.length<=n:=by omega):val xs<18446744073709551616^n:=
 bi (aE (by omega) hd) (bj (by omega) hl)

theorem fi {k:IntKind} {ao:OA} {i:Nat} (h:NumAt k w ao (digs X n) i) (hi:i<n:=by omega):∃ b off,ao=some ⟨b,off,none⟩/\w.cell? ⟨b,off+i,none⟩=some (.int k (dig X i:Nat)):=by
 obtain ⟨b,off,e,hc⟩:=h;rw [jg _ _ _ _ hi] at hc;exact ⟨b,off,e,hc⟩

theorem yt (o:Tr) (bit:Nat) (ai:bit<18446744073709551616) (u v:Value) (xs ys:LN) (w:World) (ht:TrRoom w o 1) (hu:RowT w o u xs) (hv:RowT w o v ys) (A:Digs xs) (B:Digs ys) (hL:xs.length<=100000000) (hM:ys.length<=100000000) :
  ClZ 166 #[aP o,.int .u64 (bit:Nat),u,v] w fun e w'=>∃ v',e=.returned (.tuple #[v',.int .u64 (cZ bit (dF (decide (2^(64*max xs.length ys.length)<=val xs+val ys))) 0:Nat)]) /\
   OwnN .u64 24 w' w.heap.size v' (max xs.length ys.length) (digs (cZ bit (val xs+val ys) (val xs)) (max xs.length ys.length))/\∃ o',Did w o [(1,(max xs.length ys.length:Nat),0)] w' o':=by
 obtain ⟨i0,am,ar,au,av⟩:=info_parts Tryz.info24;obtain ⟨ao,L,q,rfl,J,_,_,_,_⟩:=hu.1.open;obtain ⟨bo,M,s,rfl,N,_,_,_,_⟩:=hv.1.open;have eL:=J.o;have eM:=N.o;have hX:HzD (val xs<18446744073709551616^max L M):=eX A;have hY:HzD (val ys<18446744073709551616^max L M):=eX B;have hC:=nV ao bo L M q s w;have H:=fun o' W g (t:TrIn W o') (r:RowT W o' (.slice ao L q) xs) hg=>rN o' _ xs (max L M) g W t r A (by omega) (by omega) hg
 have I:=fun o' W g (t:TrIn W o') (r:RowT W o' (.slice bo M s) ys) hg=>rN o' _ ys (max L M) g W t r B (by omega) (by omega) hg
 have aD:max L M<=100000000:=by omega
 rw [eL,eM] at *;have S:=fun W=>sL (bit:Int) (by omega) (by omega) W
 have HU:HzD (RowT w o (.slice ao L q) xs):=hu;have HV:HzD (RowT w o (.slice bo M s) ys):=hv;have HT:HzD (TrRoom w o 1):=ht;obtain ⟨tp,G⟩:=aj (aP o)
 rw [<- G];have ae:HzD (tp=aP o):=G;clear hu hv ht J N eL eM A B hL hM G;generalize val xs=X at *;generalize val ys=Y at *;generalize max L M=n at *;delta ClZ;go_in;go_wp2_with fail;refine hC.mono ?_;rintro e w1 ⟨g,rfl,C,al,k1⟩;have hS:=gh o n w1 (HT.o.1.g k1);rw [<- ae.o] at hS;clear hC;go_wp2_with fail;refine hS.mono ?_;rintro e w2 ⟨rfl,o2,d2⟩;have l:w2.heap[g]? = _:=(d2.kept.block g (lt_of_block C) (fun f=>by have:=HT.o.1.foot g f;omega)).trans C;have a:=Did.b k1 d2;have F:TrIn w2 o2:=(a.room (k:=0) HT.o).1;have ab:=HU.o.did a;have ac:=HV.o.did a;clear hS d2 k1 C;go_wp2_with fail
 refine (H o2 w2 g F ab l).mono ?_;rintro e w3 ⟨v1,rfl,U,k3⟩;have Q:=(k3.block g (lt_of_block l) (fun f=>f)).trans l;go_wp2_with fail;refine (I o2 w3 g (F.g k3) (ac.g k3) Q).mono ?_;rintro e w4 ⟨v2,rfl,V,k4⟩;have d:=U.1.g k4;have d4:=aa ((a.g k3).g k4);obtain ⟨a1,n1,c1,rfl,O,_,_,_,D⟩:=d.open;obtain ⟨a2,n2,c2,rfl,P,_,_,_,E⟩:=V.1.open;obtain rfl:n1=n:=by rw [<- O.o,ag]
 obtain rfl:n2=n1:=by rw [<- P.o,ag]
 have ap:HzD (w.heap.size<=w4.heap.size):=d4.o.size;clear H I F ab ac l Q U d V k3 k4 a O P al;go_wp2_with (at_make;refine wpList_make_full _ rfl _ _ 23 rfl w4.heap.size 24 i0 _ 1 underlying23 am ar au _ _ _ _ n2 rfl rfl rfl rfl (by rw [av];omega) (by unfold maxLen;omega) (leR _) ?_;intro w5 p R);rw [bD] at p;have k5:=bf R;clear R;refine (S _).mono ?_;rintro e w6 ⟨rfl,rfl⟩;clear S;go_wp2_with fail
 go_loopw [14,37] (fun c i wr=>∃ (k c':Nat) (os:LN),k<=n2/\c'<=1/\i=.int .i64 (k:Int)/\c=.int .u64 (c':Int)/\HzD (os.length=k)/\Digs os/\OwnN .u64 24 wr w4.heap.size (.slice (some ⟨w4.heap.size,0,none⟩) n2 n2) n2 (os ++ List.replicate (n2-k) 0)/\Kept af w4 wr /\
   HzD (val os+18446744073709551616^k*c'=X%18446744073709551616^k+(Y*(bit%2))%18446744073709551616^k)) (fun _ i _=>n2-(intOf i).toNat)
 case atStart=>exact ⟨0,0,[],aQ _,by omega,rfl,rfl,rfl,Digs.nil _,by rw [bZ,et];exact p,k5,by unfold HzD;simp [val,Nat.mod_one]⟩
 case round=>
  obtain ⟨k,c,os,hk,hc,rfl,rfl,HL,T,ho,m,j⟩:=hrel;by_cases hkn:k<n2
  ·have aC:(0:Int)<=(k:Int):=cN _;have an:(k:Int)<(n2:Int):=by omega
   obtain ⟨b1,ax,rfl,aA⟩:=fi ((D k hkn).g m) hkn;obtain ⟨b2,ay,rfl,aB⟩:=fi ((E k hkn).g m) hkn;have az:=jh ho HL.o hkn;have hf:=World.ownsRow.frozenAt ho k;have Z:=fun u=>(World.ownsRow.stored ho k u).1
   have hx:dig X k<18446744073709551616:=bu;have hy:dig Y k<18446744073709551616:=bu;have HS:HzD (∀ z c',z+18446744073709551616*c'=dig X k+dig Y k*(bit%2)+c->val (os ++ [z])+18446744073709551616^(k+1)*c'=X%18446744073709551616^(k+1)+(Y*(bit%2))%18446744073709551616^(k+1)):=fun z c' h=>Av HL.o j.o (by rw [zB];exact h)
   have ah:=pN (dig Y k) bit hy;have aq:dig Y k*(bit%2)<18446744073709551616:=by
    have:bit%2=0\/bit%2=1:=by omega
    rcases this with h | h <;> rw [h] <;> omega
   have ad:HzD (∀ u:Nat,OwnN .u64 24 (wr.setCell ⟨w4.heap.size,k,none⟩ (.int .u64 (u:Int))) w4.heap.size (.slice (some ⟨w4.heap.size,0,none⟩) n2 n2) n2 ((os ++ [u]) ++ List.replicate (n2-(k+1)) 0)):=fun u=>by
    have:=Z (.int .u64 (u:Int));unfold OwnN;rw [<- kM os n2 k u HL.o hkn,cG];exact this
   clear D E j Z p k5;generalize dig X k=x at *;generalize dig Y k=y at *;generalize y*(bit%2)=y' at *;go_wp2_with fail;go_region_with (go_at_call 216;refine (Eb x y' c hx aq hc _).mono ?_;rintro e w7 ⟨z,c',rfl,hz,ak,aw,rfl⟩)
   all_goals
    go_wp2_with fail;go_roundw
    case rel=>exact ⟨k+1,c',os ++ [z],by omega,ak,by go_num,rfl,by unfold HzD;rw [bk,HL.o];rfl,T.append (Digs.one hz),ad.o z,(m.setCell _ (fun h=>by simp at h) _).drew,HS.o z c' aw⟩
    case measure=>simp [intOf];omega
  ·have an:¬ (k:Int)<(n2:Int):=by omega
   have e:k=n2:=by omega
   subst e;rw [cj,fg,dY] at ho;obtain ⟨e1,e2⟩:=Au HL.o T hX.o hY.o j.o;have E1:=aa e1;have E2:=aa e2;clear e1 e2 D E j p k5;go_wp2_with fail;go_ret2;rw [<- E1.o,<- E2.o];exact ⟨_,rfl,dg ho (fun b hb=>aI ap.o (ho.lt b hb).1),o2,d4.o.g m⟩

theorem Br {bit:Nat} {os:LN} (hl:os.length=n) (hd:Digs os) (hX:X<18446744073709551616^n) (hY:Y<18446744073709551616^n) (h:val os+(Y*(bit%2))%18446744073709551616^n=X%18446744073709551616^n+18446744073709551616^n*c) :
  os=digs (cZ bit (gV X Y n) X) n/\c=cZ bit (dF (decide (X<Y))) 0:=by
 have hv:=aE (by omega) hd;rw [hl] at hv;unfold gV;rw [<- B64];have a:bit%2=0\/bit%2=1:=by omega
 have b:c=0\/c=1\/18446744073709551616^n*2<=18446744073709551616^n*c:=by
  have hc:c=0\/c=1\/2<=c:=by omega
  rcases hc with h | h | h
  ·exact .inl h
  ·exact .inr (.inl h)
  ·exact .inr (.inr (bG _ h))
 rw [aB hX] at h;rcases a with hb | hb
 ·rw [hb,df,iw,aV] at h;unfold cZ;rw [aK,aK];rcases b with rfl | rfl | hc
  ·refine ⟨cS (by omega) hd hl ?_,rfl⟩;rw [aB hX];omega
  ·omega
  ·omega
 ·rw [hb,bI,aB hY] at h;unfold cZ dF;rw [ai hb,ai hb];rcases b with rfl | rfl | hc
  ·have hn:¬ X<Y:=by omega
   rw [ar hn];refine ⟨cS (by omega) hd hl ?_,by rw [ar];simpa using hn⟩;rw [dH];omega
  ·have hn:X<Y:=by omega
   rw [ai hn];refine ⟨cS (by omega) hd hl ?_,by rw [ai];simpa using hn⟩;rw [dH];omega
  ·omega

theorem yu (o:Tr) (bit:Nat) (ai:bit<18446744073709551616) (u v:Value) (xs ys:LN) (w:World) (ht:TrRoom w o 1) (hu:RowT w o u xs) (hv:RowT w o v ys) (A:Digs xs) (B:Digs ys) (hL:xs.length<=100000000) (hM:ys.length<=100000000) :
  ClZ 223 #[aP o,.int .u64 (bit:Nat),u,v] w fun e w'=>∃ v',e=.returned (.tuple #[v',.int .u64 (cZ bit (dF (decide (val xs<val ys))) 0:Nat)]) /\
   OwnN .u64 24 w' w.heap.size v' (max xs.length ys.length) (digs (cZ bit (gV (val xs) (val ys) (max xs.length ys.length)) (val xs)) (max xs.length ys.length))/\∃ o',Did w o [(1,(max xs.length ys.length:Nat),0)] w' o':=by
 obtain ⟨i0,am,ar,au,av⟩:=info_parts Tryz.info24;obtain ⟨ao,L,q,rfl,J,_,_,_,_⟩:=hu.1.open;obtain ⟨bo,M,s,rfl,N,_,_,_,_⟩:=hv.1.open;have eL:=J.o;have eM:=N.o;have hX:HzD (val xs<18446744073709551616^max L M):=eX A;have hY:HzD (val ys<18446744073709551616^max L M):=eX B;have hC:=nV ao bo L M q s w;have H:=fun o' W g (t:TrIn W o') (r:RowT W o' (.slice ao L q) xs) hg=>rN o' _ xs (max L M) g W t r A (by omega) (by omega) hg
 have I:=fun o' W g (t:TrIn W o') (r:RowT W o' (.slice bo M s) ys) hg=>rN o' _ ys (max L M) g W t r B (by omega) (by omega) hg
 have aD:max L M<=100000000:=by omega
 rw [eL,eM] at *;have S:=fun W=>sL (bit:Int) (by omega) (by omega) W
 have HU:HzD (RowT w o (.slice ao L q) xs):=hu;have HV:HzD (RowT w o (.slice bo M s) ys):=hv;have HT:HzD (TrRoom w o 1):=ht;obtain ⟨tp,G⟩:=aj (aP o)
 rw [<- G];have ae:HzD (tp=aP o):=G;clear hu hv ht J N eL eM A B hL hM G;generalize val xs=X at *;generalize val ys=Y at *;generalize max L M=n at *;delta ClZ;go_in;go_wp2_with fail;refine hC.mono ?_;rintro e w1 ⟨g,rfl,C,al,k1⟩;have hS:=gh o n w1 (HT.o.1.g k1);rw [<- ae.o] at hS;clear hC;go_wp2_with fail;refine hS.mono ?_;rintro e w2 ⟨rfl,o2,d2⟩;have l:w2.heap[g]? = _:=(d2.kept.block g (lt_of_block C) (fun f=>by have:=HT.o.1.foot g f;omega)).trans C;have a:=Did.b k1 d2;have F:TrIn w2 o2:=(a.room (k:=0) HT.o).1;have ab:=HU.o.did a;have ac:=HV.o.did a;clear hS d2 k1 C;go_wp2_with fail
 refine (H o2 w2 g F ab l).mono ?_;rintro e w3 ⟨v1,rfl,U,k3⟩;have Q:=(k3.block g (lt_of_block l) (fun f=>f)).trans l;go_wp2_with fail;refine (I o2 w3 g (F.g k3) (ac.g k3) Q).mono ?_;rintro e w4 ⟨v2,rfl,V,k4⟩;have d:=U.1.g k4;have d4:=aa ((a.g k3).g k4);obtain ⟨a1,n1,c1,rfl,O,_,_,_,D⟩:=d.open;obtain ⟨a2,n2,c2,rfl,P,_,_,_,E⟩:=V.1.open;obtain rfl:n1=n:=by rw [<- O.o,ag]
 obtain rfl:n2=n1:=by rw [<- P.o,ag]
 have ap:HzD (w.heap.size<=w4.heap.size):=d4.o.size;clear H I F ab ac l Q U d V k3 k4 a O P al;go_wp2_with (at_make;refine wpList_make_full _ rfl _ _ 23 rfl w4.heap.size 24 i0 _ 1 underlying23 am ar au _ _ _ _ n2 rfl rfl rfl rfl (by rw [av];omega) (by unfold maxLen;omega) (leR _) ?_;intro w5 p R);rw [bD] at p;have k5:=bf R;clear R;refine (S _).mono ?_;rintro e w6 ⟨rfl,rfl⟩;clear S;go_wp2_with fail
 go_loopw [14,37] (fun c i wr=>∃ (k c':Nat) (os:LN),k<=n2/\c'<=1/\i=.int .i64 (k:Int)/\c=.int .u64 (c':Int)/\HzD (os.length=k)/\Digs os/\OwnN .u64 24 wr w4.heap.size (.slice (some ⟨w4.heap.size,0,none⟩) n2 n2) n2 (os ++ List.replicate (n2-k) 0)/\Kept af w4 wr /\
   HzD (val os+(Y*(bit%2))%18446744073709551616^k=X%18446744073709551616^k+18446744073709551616^k*c')) (fun _ i _=>n2-(intOf i).toNat)
 case atStart=>exact ⟨0,0,[],aQ _,by omega,rfl,rfl,rfl,Digs.nil _,by rw [bZ,et];exact p,k5,by unfold HzD;simp [val,Nat.mod_one]⟩
 case round=>
  obtain ⟨k,c,os,hk,hc,rfl,rfl,HL,T,ho,m,j⟩:=hrel;by_cases hkn:k<n2
  ·have aC:(0:Int)<=(k:Int):=cN _;have an:(k:Int)<(n2:Int):=by omega
   obtain ⟨b1,ax,rfl,aA⟩:=fi ((D k hkn).g m) hkn;obtain ⟨b2,ay,rfl,aB⟩:=fi ((E k hkn).g m) hkn;have az:=jh ho HL.o hkn;have hf:=World.ownsRow.frozenAt ho k;have Z:=fun u=>(World.ownsRow.stored ho k u).1
   have hx:dig X k<18446744073709551616:=bu;have hy:dig Y k<18446744073709551616:=bu;have HS:HzD (∀ z c',z+dig Y k*(bit%2)+c=dig X k+18446744073709551616*c'->val (os ++ [z])+(Y*(bit%2))%18446744073709551616^(k+1)=X%18446744073709551616^(k+1)+18446744073709551616^(k+1)*c'):=fun z c' h=>Bu HL.o j.o (by rw [zB];exact h)
   have ah:=pN (dig Y k) bit hy;have aq:dig Y k*(bit%2)<18446744073709551616:=by
    have:bit%2=0\/bit%2=1:=by omega
    rcases this with h | h <;> rw [h] <;> omega
   have ad:HzD (∀ u:Nat,OwnN .u64 24 (wr.setCell ⟨w4.heap.size,k,none⟩ (.int .u64 (u:Int))) w4.heap.size (.slice (some ⟨w4.heap.size,0,none⟩) n2 n2) n2 ((os ++ [u]) ++ List.replicate (n2-(k+1)) 0)):=fun u=>by
    have:=Z (.int .u64 (u:Int));unfold OwnN;rw [<- kM os n2 k u HL.o hkn,cG];exact this
   clear D E j Z p k5;generalize dig X k=x at *;generalize dig Y k=y at *;generalize y*(bit%2)=y' at *;go_wp2_with fail;go_region_with (go_at_call 171;refine (Ar x y' c hx aq hc _).mono ?_;rintro e w7 ⟨z,c',rfl,hz,ak,aw,rfl⟩)
   all_goals
    go_wp2_with fail;go_roundw
    case rel=>exact ⟨k+1,c',os ++ [z],by omega,ak,by go_num,rfl,by unfold HzD;rw [bk,HL.o];rfl,T.append (Digs.one hz),ad.o z,(m.setCell _ (fun h=>by simp at h) _).drew,HS.o z c' aw⟩
    case measure=>simp [intOf];omega
  ·have an:¬ (k:Int)<(n2:Int):=by omega
   have e:k=n2:=by omega
   subst e;rw [cj,fg,dY] at ho;obtain ⟨e1,e2⟩:=Br HL.o T hX.o hY.o j.o;have E1:=aa e1;have E2:=aa e2;clear e1 e2 D E j p k5;go_wp2_with fail;go_ret2;rw [<- E1.o,<- E2.o];exact ⟨_,rfl,dg ho (fun b hb=>aI ap.o (ho.lt b hb).1),o2,d4.o.g m⟩

theorem Lu (A B:Nat):cZ 1 A B=A:=by unfold cZ;rw [cf]

theorem Jm (o:Tr) (u v:Value) (xs ys:LN) (w:World) (ht:TrRoom w o 1) (hu:RowT w o u xs) (hv:RowT w o v ys) (a:Digs xs) (b:Digs ys) (hL:xs.length<=100000000) (hM:ys.length<=100000000) :
  ClZ 109 #[aP o,u,v] w fun e w'=>∃ v',e=.returned (.tuple #[v',.int .u64 (dF (decide (2^(64*max xs.length ys.length)<=val xs+val ys)):Nat)]) /\
   OwnN .u64 24 w' w.heap.size v' (max xs.length ys.length) (digs (val xs+val ys) (max xs.length ys.length))/\∃ o',Did w o [(1,(max xs.length ys.length:Nat),0)] w' o':=by
 have h:=yt o 1 (by omega) u v xs ys w ht hu hv a b hL hM;simp only [Lu] at h;clear ht hu hv;generalize aP o=tp at *;generalize dF (decide (2^(64*max xs.length ys.length)<=val xs+val ys))=c at *;delta ClZ;go_in;go_wp2_with fail;refine h.mono ?_;rintro e w' ⟨v',rfl,ho,o',hd⟩;go_wp2;go_ret2;exact ⟨_,rfl,ho,o',hd⟩

theorem Cz (o:Tr) (u v:Value) (xs ys:LN) (w:World) (ht:TrRoom w o 1) (hu:RowT w o u xs) (hv:RowT w o v ys) (a:Digs xs) (b:Digs ys) (hL:xs.length<=100000000) (hM:ys.length<=100000000:=by omega) :
  ClZ 176 #[aP o,u,v] w fun e w'=>∃ v',e=.returned (.tuple #[v',.int .u64 (dF (decide (val xs<val ys)):Nat)]) /\
   OwnN .u64 24 w' w.heap.size v' (max xs.length ys.length) (digs (gV (val xs) (val ys) (max xs.length ys.length)) (max xs.length ys.length))/\∃ o',Did w o [(1,(max xs.length ys.length:Nat),0)] w' o':=by
 have h:=yu o 1 (by omega) u v xs ys w ht hu hv a b hL hM;simp only [Lu] at h;clear ht hu hv;generalize aP o=tp at *;generalize dF (decide (val xs<val ys))=c at *;delta ClZ;go_in;go_wp2_with fail;refine h.mono ?_;rintro e w' ⟨v',rfl,ho,o',hd⟩;go_wp2;go_ret2;exact ⟨_,rfl,ho,o',hd⟩

theorem AY {B k z c' D:Nat} (hD:D<B^k) (h:D+Y%B^k=X%B^k+B^k*c) (a:z<B) (hz:z+dig Y k B+c=dig X k B+B*c') :
  D+B^k*z<B^(k+1)/\D+B^k*z+Y%B^(k+1)=X%B^(k+1)+B^(k+1)*c':=by
 rw [fw,fw,aG,bd];have e:B^k*(z+dig Y k B+c)=B^k*(dig X k B+B*c'):=by rw [hz]
 rw [aJ,aJ,aJ] at e;have h1:B^k*(z+1)<=B^k*B:=bG _ a;rw [aJ,bI] at h1;constructor <;> omega

theorem CE {D:Nat} (hX:X<18446744073709551616^n) (hY:Y<18446744073709551616^n) (hD:D<18446744073709551616^n) (h:D+Y%18446744073709551616^n=X%18446744073709551616^n+18446744073709551616^n*c):c=dF (decide (X<Y)):=by
 rw [aB hX,aB hY] at h;have hc:c=0\/c=1\/2<=c:=by omega
 unfold dF;rcases hc with rfl | rfl | hc
 ·rw [ar];simp;omega
 ·rw [ai];simp;omega
 ·have:18446744073709551616^n*2<=18446744073709551616^n*c:=bG _ hc;omega

theorem vH (a b:Nat):a ||| b=0↔a=0/\b=0:=by
 constructor
 ·intro h;have h1:a<=a ||| b:=Nat.left_le_or;have h2:b<=a ||| b:=Nat.right_le_or;omega
 ·rintro ⟨rfl,rfl⟩;rfl

theorem tW (a b:Nat):a ^^^ b=0↔a=b:=by
 constructor
 ·intro e;have e2:a ^^^ (a ^^^ b)=a ^^^ 0:=by rw [e]
  rw [<- Nat.xor_assoc,Nat.xor_self,Nat.zero_xor,Nat.xor_zero] at e2;exact e2.symm
 ·rintro rfl;exact Nat.xor_self _

theorem yf {t k:Nat} (h:t=0↔X%18446744073709551616^k=Y%18446744073709551616^k):(t ||| (dig X k ^^^ dig Y k))=0↔X%18446744073709551616^(k+1)=Y%18446744073709551616^(k+1):=by
 have hp:0<18446744073709551616^k:=aX;have hX:X%18446744073709551616^k<18446744073709551616^k:=aY _ hp;have hY:Y%18446744073709551616^k<18446744073709551616^k:=aY _ hp;rw [vH,tW,h,fw,fw];generalize 18446744073709551616^k=p at *;generalize dig X k=x at *;generalize dig Y k=y at *;constructor
 ·rintro ⟨h1,rfl⟩;rw [h1]
 ·intro e;have e1:(X%p+p*x)%p=(Y%p+p*y)%p:=by rw [e]
  rw [eO,eO,ep,ep] at e1;refine ⟨e1,?_⟩;rw [e1] at e;exact Nat.eq_of_mul_eq_mul_left hp (by omega)

theorem sr (o:Tr) (u v:Value) (xs ys:LN) (w:World) (ht:TrRoom w o 1) (hu:RowT w o u xs) (hv:RowT w o v ys) (p:Digs xs) (q:Digs ys) (hL:xs.length<=100000000) (hM:ys.length<=100000000) :
  ClZ 112 #[aP o,u,v] w fun e w'=>e=.returned (.int .u64 (dF (decide (val xs<val ys)):Nat))/\∃ o',Did w o [(1,(max xs.length ys.length:Nat),0)] w' o':=by
 obtain ⟨ao,L,l,rfl,I,_,_,_,_⟩:=hu.1.open;obtain ⟨bo,M,m,rfl,J,_,_,_,_⟩:=hv.1.open;have eL:=I.o;have eM:=J.o;have hX:HzD (val xs<18446744073709551616^max L M):=eX p;have hY:HzD (val ys<18446744073709551616^max L M):=eX q;have hC:=nV ao bo L M l m w;have G:=fun o' W g (t:TrIn W o') (r:RowT W o' (.slice ao L l) xs) hg=>rN o' _ xs (max L M) g W t r p (by omega) (by omega) hg
 have H:=fun o' W g (t:TrIn W o') (r:RowT W o' (.slice bo M m) ys) hg=>rN o' _ ys (max L M) g W t r q (by omega) (by omega) hg
 have am:max L M<=100000000:=by omega
 rw [eL,eM] at *;have HU:HzD (RowT w o (.slice ao L l) xs):=hu;have HV:HzD (RowT w o (.slice bo M m) ys):=hv;have HT:HzD (TrRoom w o 1):=ht;obtain ⟨tp,F⟩:=aj (aP o)
 rw [<- F];have U:HzD (tp=aP o):=F;clear hu hv ht I J eL eM p q hL hM F;generalize val xs=X at *;generalize val ys=Y at *;generalize max L M=n at *;delta ClZ;go_in;go_wp2_with fail;refine hC.mono ?_;rintro e w1 ⟨g,rfl,s,Z,k1⟩;have hS:=gh o n w1 (HT.o.1.g k1);rw [<- U.o] at hS;clear hC;go_wp2_with fail;refine hS.mono ?_;rintro e w2 ⟨rfl,o2,d2⟩;have d:w2.heap[g]? = _:=(d2.kept.block g (lt_of_block s) (fun f=>by have:=HT.o.1.foot g f;omega)).trans s;have a:=Did.b k1 d2;have C:TrIn w2 o2:=(a.room (k:=0) HT.o).1;have S:=HU.o.did a;have T:=HV.o.did a;clear hS d2 k1 s;go_wp2_with fail
 refine (G o2 w2 g C S d).mono ?_;rintro e w3 ⟨v1,rfl,Q,k3⟩;have P:=(k3.block g (lt_of_block d) (fun f=>f)).trans d;go_wp2_with fail;refine (H o2 w3 g (C.g k3) (T.g k3) P).mono ?_;rintro e w4 ⟨v2,rfl,R,k4⟩;have b:=Q.1.g k4;have d4:=aa ((a.g k3).g k4);obtain ⟨a1,n1,c1,rfl,N,_,_,_,A⟩:=b.open;obtain ⟨a2,n2,c2,rfl,O,_,_,_,B⟩:=R.1.open;obtain rfl:n1=n:=by rw [<- N.o,ag]
 obtain rfl:n2=n1:=by rw [<- O.o,ag]
 clear G H C S T d P Q b R k3 k4 a N O Z;go_wp2_with fail;go_loopw [9,28] (fun c i wr=>∃ (k c' D:Nat),k<=n2/\c'<=1/\i=.int .i64 (k:Int)/\c=.int .u64 (c':Int)/\Kept af w4 wr /\
   HzD (D<18446744073709551616^k/\D+Y%18446744073709551616^k=X%18446744073709551616^k+18446744073709551616^k*c')) (fun _ i _=>n2-(intOf i).toNat)
 case atStart=>exact ⟨0,0,0,aQ _,by omega,rfl,rfl,ah _ _,by unfold HzD;simp [Nat.mod_one]⟩
 case round=>
  obtain ⟨k,c,D,hk,hc,rfl,rfl,j,HD⟩:=hrel;by_cases hkn:k<n2
  ·have al:(0:Int)<=(k:Int):=cN _;have ab:(k:Int)<(n2:Int):=by omega
   obtain ⟨b1,ad,rfl,ai⟩:=fi ((A k hkn).g j) hkn;obtain ⟨b2,ae,rfl,ak⟩:=fi ((B k hkn).g j) hkn;have hx:dig X k<18446744073709551616:=bu;have hy:dig Y k<18446744073709551616:=bu;have HS:HzD (∀ z c',z<18446744073709551616->z+dig Y k+c=dig X k+18446744073709551616*c'->D+18446744073709551616^k*z<18446744073709551616^(k+1)/\D+18446744073709551616^k*z+Y%18446744073709551616^(k+1)=X%18446744073709551616^(k+1)+18446744073709551616^(k+1)*c'):=fun z c' hz h=>AY HD.o.1 HD.o.2 hz h
   clear A B HD;generalize dig X k=x at *;generalize dig Y k=y at *;go_wp2_with fail;go_region_with (go_at_call 171;refine (Ar x y c hx hy hc _).mono ?_;rintro e w7 ⟨z,c',rfl,hz,V,ac,rfl⟩)
   all_goals
    go_wp2_with fail;go_roundw
    case rel=>exact ⟨k+1,c',_,by omega,V,by go_num,rfl,j.drew,HS.o z c' hz ac⟩
    case measure=>simp [intOf];omega
  ·have ab:¬ (k:Int)<(n2:Int):=by omega
   have e:k=n2:=by omega
   subst e;have E:=aa (CE hX.o hY.o HD.o.1 HD.o.2);clear A B HD;go_wp2_with fail;go_ret;rw [<- E.o];exact ⟨rfl,o2,d4.o.g j⟩

theorem qN (o:Tr) (u v:Value) (xs ys:LN) (w:World) (ht:TrRoom w o 1) (hu:RowT w o u xs) (hv:RowT w o v ys) (p:Digs xs) (z:Digs ys) (hL:xs.length<=100000000) (hM:ys.length<=100000000) :
  ClZ 66 #[aP o,u,v] w fun e w'=>e=.returned (.int .u64 (dF (decide (val xs=val ys)):Nat))/\∃ o',Did w o [(1,(max xs.length ys.length:Nat),0)] w' o':=by
 obtain ⟨ao,L,l,rfl,I,_,_,_,_⟩:=hu.1.open;obtain ⟨bo,M,m,rfl,J,_,_,_,_⟩:=hv.1.open;have eL:=I.o;have eM:=J.o;have hX:HzD (val xs<18446744073709551616^max L M):=eX p;have hY:HzD (val ys<18446744073709551616^max L M):=eX z;have hC:=nV ao bo L M l m w;have G:=fun o' W g (t:TrIn W o') (r:RowT W o' (.slice ao L l) xs) hg=>rN o' _ xs (max L M) g W t r p (by omega) (by omega) hg
 have H:=fun o' W g (t:TrIn W o') (r:RowT W o' (.slice bo M m) ys) hg=>rN o' _ ys (max L M) g W t r z (by omega) (by omega) hg
 have ap:max L M<=100000000:=by omega
 rw [eL,eM] at *;have HU:HzD (RowT w o (.slice ao L l) xs):=hu;have HV:HzD (RowT w o (.slice bo M m) ys):=hv;have HT:HzD (TrRoom w o 1):=ht;obtain ⟨tp,F⟩:=aj (aP o)
 rw [<- F];have Z:HzD (tp=aP o):=F;clear hu hv ht I J eL eM p z hL hM F;generalize val xs=X at *;generalize val ys=Y at *;generalize max L M=n at *;delta ClZ;go_in;go_wp2_with fail;refine hC.mono ?_;rintro e w1 ⟨g,rfl,A,ab,k1⟩;have hS:=gh o n w1 (HT.o.1.g k1);rw [<- Z.o] at hS;clear hC;go_wp2_with fail;refine hS.mono ?_;rintro e w2 ⟨rfl,o2,d2⟩;have d:w2.heap[g]? = _:=(d2.kept.block g (lt_of_block A) (fun f=>by have:=HT.o.1.foot g f;omega)).trans A;have a:=Did.b k1 d2;have D:TrIn w2 o2:=(a.room (k:=0) HT.o).1;have T:=HU.o.did a;have U:=HV.o.did a;clear hS d2 k1 A;go_wp2_with fail
 refine (G o2 w2 g D T d).mono ?_;rintro e w3 ⟨v1,rfl,Q,k3⟩;have P:=(k3.block g (lt_of_block d) (fun f=>f)).trans d;go_wp2_with fail;refine (H o2 w3 g (D.g k3) (U.g k3) P).mono ?_;rintro e w4 ⟨v2,rfl,R,k4⟩;have b:=Q.1.g k4;have d4:=aa ((a.g k3).g k4);obtain ⟨a1,n1,c1,rfl,N,_,_,_,B⟩:=b.open;obtain ⟨a2,n2,c2,rfl,O,_,_,_,C⟩:=R.1.open;obtain rfl:n1=n:=by rw [<- N.o,ag]
 obtain rfl:n2=n1:=by rw [<- O.o,ag]
 clear G H D T U d P Q b R k3 k4 a N O ab;go_wp2_with fail;go_loopw [9,28] (fun c i wr=>∃ (k t:Nat),k<=n2/\t<18446744073709551616/\i=.int .i64 (k:Int)/\c=.int .u64 (t:Int)/\Kept af w4 wr /\
   HzD (t=0↔X%18446744073709551616^k=Y%18446744073709551616^k)) (fun _ i _=>n2-(intOf i).toNat)
 case atStart=>exact ⟨0,0,aQ _,by omega,rfl,rfl,ah _ _,by unfold HzD;simp [Nat.mod_one]⟩
 case round=>
  obtain ⟨k,t,hk,S,rfl,rfl,j,HE⟩:=hrel;by_cases hkn:k<n2
  ·have an:(0:Int)<=(k:Int):=cN _;have ac:(k:Int)<(n2:Int):=by omega
   obtain ⟨b1,ae,rfl,al⟩:=fi ((B k hkn).g j) hkn;obtain ⟨b2,ak,rfl,am⟩:=fi ((C k hkn).g j) hkn;have hx:dig X k<18446744073709551616:=bu;have hy:dig Y k<18446744073709551616:=bu;have HS:=aa (yf (t:=t) (X:=X) (Y:=Y) (k:=k) HE.o);clear B C HE;generalize dig X k=x at *;generalize dig Y k=y at *;have au:=u64_xor_nat x y hx hy;have V:x ^^^ y<18446744073709551616:=Nat.xor_lt_two_pow (n:=64) hx hy;generalize x ^^^ y=s at *;have aq:=u64_or_nat t s S V;have ad:t ||| s<18446744073709551616:=Nat.or_lt_two_pow (n:=64) S V;generalize t ||| s=r at *;go_wp2_with fail;go_region
   all_goals
    go_wp2_with fail;go_roundw
    case rel=>exact ⟨k+1,r,by omega,ad,by go_num,rfl,j.drew,HS.o⟩
    case measure=>simp [intOf];omega
  ·have ac:¬ (k:Int)<(n2:Int):=by omega
   have e:k=n2:=by omega
   subst e;have E:HzD (((t:Int)=0)↔X=Y):=by
    have:=HE.o;rw [aB hX.o,aB hY.o] at this;unfold HzD;rw [<- this];omega
   have hZ:=fun W=>Eg (t:Int) (by omega) (by omega) W
   have E2:HzD (zer (t:Int)=(dF (decide (X=Y)):Nat)):=by
    unfold HzD zer dF;by_cases h:X=Y
    ·rw [ai (E.o.2 h),ai (by simpa using h)];rfl
    ·rw [ar (fun q=>h (E.o.1 q)),ar (by simpa using h)];rfl
   clear B C HE;go_wp2_with fail;refine (hZ _).mono ?_;rintro e w7 ⟨rfl,rfl⟩;go_wp2_with fail;go_ret;rw [<- E2.o];exact ⟨rfl,o2,d4.o.g j⟩

theorem Gt (o:Tr) (u:Value) (xs:LN) (w:World) (ht:TrRoom w o 1) (hu:RowT w o u xs) (a:Digs xs) (hL:xs.length<=100000000) :
  ClZ 209 #[aP o,u] w fun e w'=>e=.returned (.int .u64 (dF (decide (val xs=0)):Nat))/\∃ o',Did w o [(1,(xs.length:Nat),0)] w' o':=by
 have h:=qN o u (.slice none 0 0) xs [] w ht hu ⟨Row.nil _ _,fun h=>absurd rfl h⟩ a (Digs.nil _) hL (by simp);rw [show val []=0 from rfl,fB,Nat.max_zero] at h;clear ht hu;generalize aP o=tp at *;generalize dF (decide (val xs=0))=c at *;delta ClZ;go_in;go_wp2_with fail;refine h.mono ?_;rintro e w' ⟨rfl,o',hd⟩;go_wp2;go_ret;exact ⟨rfl,o',hd⟩

def IM (a:World) (o0:Tr) (m0:List Ev) (g base N cap n many K X V c:Nat) (w':World):Prop:=
 c<=1/\∃ (zs':LN) (Q:Nat) (o':Tr),OwnN .u64 24 w' base (.slice (some ⟨g,0,none⟩) N cap) N zs'/\zs'.length=N/\Digs zs' /\
  val zs'+18446744073709551616^N*c=X+V*Q/\Q<18446744073709551616^many/\((V*K+1)%18446744073709551616=0->0<n->val zs'%18446744073709551616^many=0)/\Did a o0 (m0 ++ List.replicate many (1,(n:Int),0)) w' o'

theorem uY (a:World) (o0 o:Tr) (m0:List Ev) (g base N p n d K m rl r:Nat) (ao bo:OA) (zs ms:LN) (w:World) (hD:Did a o0 m0 w o) (ht:TrRoom a o0 (m0.length+d)) (hg:a.heap.size<=g)
  (ho:OwnN .u64 24 w base (.slice (some ⟨g,0,none⟩) N p) N zs) (W:zs.length=N) (av:Digs zs) (hN:N=n+d) (a5:N<=100000) (hm:RowT a o0 (.slice ao n m) ms) (aq:Digs ms) (b0:Nat) (ob:Array Value) (tb:TypeId) (al:w.heap[b0]? = some (.cells ob tb (0,0))) (aR:tb≠231) (aT:tb≠200) (aK:b0≠g) :
  ClZ 185 #[aP o,.agg (mzA ao n m K bo rl r),.slice (some ⟨g,0,none⟩) N p,.int .i64 (d:Nat)] w fun e w'=>
   ∃ c:Nat,e=.returned (.int .u64 (c:Nat))/\IM a o0 m0 g base N p n d K (val zs) (val ms) c w'/\w'.heap[b0]? = some (.cells ob tb (0,0)):=by
 have hX:=aa (rfl:val zs=val zs);obtain ⟨_,_,_,e1,ai,_,_,_,_⟩:=hm.1.open;cases e1
 have HL:=aa ai.o;have HM:=aa hm;have ac:=aa aq;have HT:=aa ht;have HN:=aa hN;have HG:=aa hg;have HV:HzD (∀ V,V=val ms->val zs+18446744073709551616^(0+n)*0=val zs+V*0):=fun V _=>by simp
 have ba:g<w.heap.size:=fX ho;obtain ⟨_,_,_,e1,_,a6,_,_,_⟩:=(Row.of_own (base:=base) (e:=24) (by rw [W];exact ho):Row .u64 w (.slice (some ⟨g,0,none⟩) N p) zs).open;cases e1
 obtain ⟨tp,P⟩:=aj (aP o)
 rw [<- P];have az:=aa (P.trans hD.ptr);obtain ⟨X,M⟩:=aj (val zs)
 obtain ⟨V,L⟩:=aj (val ms)
 rw [<- M,<- L];have ad:=aa L;have k0:Kept af w (w.alloc (.cells (mzA ao n m K bo rl r) 71)):=(ah af w).alloc _;have au:(w.alloc (.cells (mzA ao n m K bo rl r) 71)).heap[w.heap.size]? = some (.cells (mzA ao n m K bo rl r) 71 (0,0)):=heap_alloc_new _ _;have ab:=aa (hD.g k0);have HO:=aa (k0.own ho (fun _ _ f=>f));have I:=aa au;have Y:=aa (aw al:(w.alloc (.cells (mzA ao n m K bo rl r) 71)).heap[b0]? = some (.cells ob tb (0,0)));have HZ:=aa (show zs.length=N/\Digs zs/\X=val zs from ⟨W,av,M⟩);clear hm aq ht hD hN ai P L M au ho W av hX HV hg k0 al;delta ClZ;go_in
 obtain ⟨p0,p1,p2⟩:=ax I.o;go_wp2_with fail;go_loopw [10,17] (fun ov i wr=>∃ (k c Q:Nat) (os:LN) (o1:Tr),k<=d/\c<=1/\i=.int .i64 (k:Int)/\ov=.int .u64 (c:Int)/\HzD (os.length=N)/\HzD (Digs os)/\OwnN .u64 24 wr base (.slice (some ⟨g,0,none⟩) N p) N os/\HzD (val os+18446744073709551616^(k+n)*c=X+V*Q)/\HzD (Q<18446744073709551616^k)/\HzD ((V*K+1)%18446744073709551616=0->0<n->val os%18446744073709551616^k=0) /\
   wr.heap[w.heap.size]? = some (.cells (mzA ao n m K bo rl r) 71 (0,0))/\HzD (wr.heap[b0]? = some (.cells ob tb (0,0)))/\HzD (Did a o0 (m0 ++ List.replicate k (1,(n:Int),0)) wr o1)) (fun _ i _=>d-(intOf i).toNat)
 case atStart=>
  obtain ⟨z1,z2,z3⟩:=HZ.o;exact ⟨0,0,0,zs,o,aQ _,by omega,rfl,rfl,z1,z2,HO.o,by unfold HzD;rw [<- z3];simp,by unfold HzD;simp,fun _ _=>by simp [Nat.mod_one],I.o,Y.o,by unfold HzD;rw [fg,dY];exact ab.o⟩
 case round=>
  obtain ⟨k,c,Q,os,o1,hk,hc,rfl,rfl,B,A,ho,F,HQ,v,hx,C,D⟩:=hrel;clear p0 p1 p2 I HO ab HZ Y;by_cases hkn:k<d
  ·have bb:(0:Int)<=(k:Int):=cN _;have aM:(k:Int)<(d:Int):=by omega
   have l:TrRoom wr o1 (d-k):=D.o.room (by rw [bk,bw,show m0.length+k+(d-k)=m0.length+d by omega];exact HT.o);have hS:=gh o1 (n:Int) wr l.1;rw [D.o.ptr,<- az.o] at hS;go_wp2_with fail;refine hS.mono ?_;rintro e w2 ⟨rfl,o2,d2⟩;have H:=d2.kept.own ho (fq ho l.1);have T:=(d2.kept.block _ (lt_of_block hx) (aH hx l.1)).trans hx;have Z:=aa ((d2.kept.block _ (lt_of_block C.o) (aH C.o l.1 aR aT)).trans C.o);have t:=aa (D.o.trans d2);have ap:=HM.o.did t.o;have E:=d2.room (k:=0) (l.l (by simp;omega))
   have aF:¬ dr o2 g:=fq H E.1 _ rfl;clear hS ho d2 l D hx C;obtain ⟨p0,p1,p2⟩:=ax T;obtain ⟨q,hq⟩:=aj (os.getD k 0*K%18446744073709551616)
   obtain ⟨S,hS⟩:=aj (val ((os.drop k).take n)+V*q)
   obtain ⟨R,hR⟩:=aj (S/18446744073709551616^n)
   have ar:q<18446744073709551616:=by rw [hq];exact bu
   have an:k+n<N:=by have:=HN.o;omega
   have bc:k<p:=by omega
   have bd:¬ p=k:=by omega
   have be:os.getD k 0<18446744073709551616:=A.o.getD (by omega) _;have aU:os.getD (k+n) 0<18446744073709551616:=A.o.getD (by omega) _;have aI:R<18446744073709551616:=by
    rw [hR,cW (aX),hS];have h1:=pX (j:=k) (n:=n) A.o;have h2:V<18446744073709551616^n:=by rw [ad.o,<- HL.o];exact aE (by omega) ac.o
    have h3:V*q<=18446744073709551616^n*q:=cF _ (eH h2);have h4:18446744073709551616^n*(q+1)<=18446744073709551616^n*18446744073709551616:=bG _ ar;rw [aJ,bI] at h4;rw [aD 18446744073709551616];omega
   have a8:w2.cell? ⟨g,k,none⟩=some (.int .u64 (os.getD k 0:Nat)):=by
    have aN:k<os.length:=by rw [B.o];omega
    rw [World.ownsRow.cellAt H k (by omega),bV,aA,aS aN];rfl
   have aO:((os.getD k 0:Nat):Int)*(K:Int)%18446744073709551616=(q:Int):=by rw [hq];omega
   have ak:=mS (w':=w2) (g:=g) HM.o.1 HG.o t.o.size;have HA:=fun W' (kk:Kept af w2 W')=>Fb g base N p k n (p-k) q os ms (.slice ao n m) W' (kk.own H (fun _ _ f=>f)) B.o A.o (by omega) (ap.1.g kk) HL.o ac.o ak ar R S (by rw [<- ad.o];exact hS) hR
   have ay:HzD (∀ z c2,z+18446744073709551616*c2=os.getD (k+n) 0+R+c->z<18446744073709551616->val (os.take k ++ ((digs S n ++ [z]) ++ os.drop (k+(n+1))))+18446744073709551616^(k+1+n)*c2=X+V*(Q+18446744073709551616^k*q)/\Q+18446744073709551616^k*q<18446744073709551616^(k+1)/\((V*K+1)%18446744073709551616=0->0<n->val (os.take k ++ ((digs S n ++ [z]) ++ os.drop (k+(n+1))))%18446744073709551616^(k+1)=0)/\Digs (os.take k ++ ((digs S n ++ [z]) ++ os.drop (k+(n+1))))/\(os.take k ++ ((digs S n ++ [z]) ++ os.drop (k+(n+1)))).length=N):=fun z c2 hz U=>DD A.o B.o an F.o HQ.o hq hS hR hz U v.o
   have J:HzD (∀ W' z,OwnN .u64 24 W' base (.slice (some ⟨g,0,none⟩) N p) N (os.take k ++ (digs S n ++ os.drop (k+n)))->OwnN .u64 24 (W'.setCell ⟨g,k+n,none⟩ (.int .u64 ((z:Nat):Int))) base (.slice (some ⟨g,0,none⟩) N p) N (os.take k ++ ((digs S n ++ [z]) ++ os.drop (k+(n+1))))):=fun W' z h=>by
    have:=(World.ownsRow.stored h (k+n) (.int .u64 (z:Int))).1;unfold OwnN;rw [<- kK os _ k n z (ag _ _ _) (by have:=B.o;omega),cG];exact this
   have s:∀ W',OwnN .u64 24 W' base (.slice (some ⟨g,0,none⟩) N p) N (os.take k ++ (digs S n ++ os.drop (k+n)))->W'.cell? ⟨g,k+n,none⟩=some (.int .u64 (os.getD (k+n) 0:Nat)):=fun W' h=>jX h B.o (ag _ _ _) an
   have ae:∀ W',OwnN .u64 24 W' base (.slice (some ⟨g,0,none⟩) N p) N (os.take k ++ (digs S n ++ os.drop (k+n)))->W'.frozen? ⟨g,k+n,none⟩=false:=fun W' h=>World.ownsRow.frozenAt h (k+n)
   have am:w.heap.size≠g:=by omega
   have G:=aa T;have aG:∀ W',Kept (fun b=>b=g) w2.drew W'->W'.cell? ⟨w.heap.size,0,none⟩=some (.slice ao n m)/\W'.cell? ⟨w.heap.size,1,none⟩=some (.int .u64 (K:Int)):=fun W' k=>by
    obtain ⟨a0,a1,_⟩:=ax ((k.block _ (lt_of_block G.o) am).trans G.o);exact ⟨a0,a1⟩
   clear hq hS hR F HQ v ap H ak T E;generalize os.getD k 0=x at *;generalize os.getD (k+n) 0=y at *;generalize os.take k ++ (digs S n ++ os.drop (k+n))=os' at *;have aZ:(k:Int)+(n:Int)<(N:Int):=by omega
   have a2:(k:Int)<(N:Int):=by omega
   have aW:(k:Int)+(n:Int)<=(p:Int):=by omega
   have aY:(k:Int)<=(k:Int)+(n:Int):=by omega
   have aB:(0:Int)<=(k:Int)+(n:Int):=by omega
   have aC:((k:Int)+(n:Int)).toNat=k+n:=by omega
   have a3:IntKind.i64.wrap ((k:Int)+(n:Int))=(k:Int)+(n:Int):=jN
   have a4:IntKind.u64.wrap ((x:Int)*(K:Int))=(q:Int):=by rw [IntKind.wrap_u64];exact aO
   go_wp2_with fail;have JA:=aa HA;have JC:=aa s;have JF:=aa ae;clear HA s ae aG;go_region_with (go_at_call 227;refine (JA.o _ ((ah _ _).drew)).mono ?_;rintro e w3 ⟨rfl,O,k3⟩;have a7:=JC.o _ O;have a9:=JF.o _ O)
   all_goals
    go_wp2_with fail;refine (Eb y R c aU aI hc _).mono ?_;rintro e w7 ⟨z,c2,rfl,U,aL,aV,rfl⟩;obtain ⟨s1,s2,s3,s4,s5⟩:=ay.o z c2 aV U;go_wp2_with fail;go_roundw
    case rel=>
     have k4:Kept (fun b=>b=g) w2 (w7.setCell ⟨g,k+n,none⟩ (.int .u64 (z:Int))):=(((ah _ _).drew).trans k3).setCell _ (fun _=>rfl) _;exact ⟨k+1,c2,_,_,o2,by omega,aL,by go_num,rfl,s5,s4,J.o _ z O,s1,s2,s3,(k4.block _ (lt_of_block G.o) am).trans G.o,(k4.block _ (lt_of_block Z.o) aK).trans Z.o,by unfold HzD;rw [iq,<- dX];exact t.o.wroteNew k4 HG.o aF⟩
    case measure=>simp [intOf];omega
  ·have aM:¬ (k:Int)<(d:Int):=by omega
   obtain rfl:k=d:=by omega
   have e:=F.o;rw [show k+n=N by rw [HN.o,lf]] at e;have HE:=aa e;clear e F;go_wp2_with fail;go_ret;exact ⟨c,rfl,⟨hc,os,Q,o1,ho,B.o,A.o,HE.o,HQ.o,v.o,D.o⟩,C.o⟩

theorem qG {xs:LN} (hd:Digs xs) (n:Nat):xs.take n ++ List.replicate (n-(xs.take n).length) 0=digs (val xs) n:=by
 refine cS (by omega) ((hd.take n).append (fun d h=>by rw [(ff.1 h).2];omega)) (by simp;omega) ?_;rw [eK,eY _ (fun d h=>(ff.1 h).2),df,aV,iQ (by omega) hd]

theorem A3 (v:Value) (xs:LN) (n:Nat) (w:World) (h:Row .u64 w v xs) (hd:Digs xs) (hn:n<=1000000:=by omega) :
  ClZ 122 #[v,.int .i64 (n:Nat)] w fun e w'=>e=.returned (.slice (some ⟨w.heap.size,0,none⟩) n n)/\OwnN .u64 24 w' w.heap.size (.slice (some ⟨w.heap.size,0,none⟩) n n) n (digs (val xs) n)/\Kept af w w':=by
 obtain ⟨i0,i,r,k,s⟩:=info_parts Tryz.info24;obtain ⟨ao,q,o,rfl,hL,_,_,_,_⟩:=h.open;have HD:=aa (qG hd n);have HS:HzD (∀ W,Kept af w W->0<((xs.take n).map fun z:Nat=>Value.int .u64 (z:Int)).length->∃ ad,ao=some ad/\∀ j u,((xs.take n).map fun z:Nat=>Value.int .u64 (z:Int))[j]? = some u->W.cell? (ad.add j)=some u):=fun W hk hp=>by
  obtain ⟨ad,e,hs⟩:=h.source hk (by rw [cJ,aR] at hp;rw [cJ];omega);refine ⟨ad,e,fun j u hj=>hs j u ?_⟩;rw [List.map_take,eG] at hj
  split at hj
  ·exact hj
  ·cases hj
 have HO:=aa (jE .u64 (xs.take n));have b:HzD (((xs.take n).map fun z:Nat=>Value.int .u64 (z:Int)).length=Nat.min q n):=by
  unfold HzD;rw [cJ,aR,hL.o];exact Nat.min_comm n q
 obtain ⟨CS,c⟩:=aj ((xs.take n).map (fun z:Nat=>Value.int .u64 (z:Int)))
 rw [<- c] at HS HO b;have m:HzD (CS=(xs.take n).map (fun z:Nat=>Value.int .u64 (z:Int))):=c;have t:Nat.min q n<=n:=Nat.min_le_right _ _;clear c h hd;delta ClZ;go_in
 go_wp2_with (at_make;refine wpList_make_full _ rfl _ _ 23 rfl w.heap.size 24 i0 _ 1 underlying23 i r k _ _ _ _ n rfl rfl rfl rfl (by rw [s];omega) (by unfold maxLen;omega) (leR _) ?_;intro w1 d g;rw [bD] at d;have k1:=bf g;obtain ⟨w2,p,f,k2⟩:=ew (P:=prog) 23 23 3 24 w.heap.size 0 n n (some ⟨w.heap.size,0,none⟩) ao q o _ 24 CS underlying23 (by rw [i];simp [k]) (iy d) b.o (fun hp=>⟨rfl,HS.o _ k1 hp⟩) (by have:=b.o;simp;omega) HO.o;have l:HzD _:=f;clear f d g);go_ret;have a:=l.o;rw [m.o,ig] at a;rw [HD.o] at a;have kk:=fH k1 k2 (leR _)
 exact ⟨rfl,dZ a (by rw [ag]) (by unfold maxLen;omega) (leR _),kk⟩

def mH (X V c:Nat):Nat:=if c=1\/V<=X then 1 else 0

def oj (X V c n:Nat):Nat:=cZ (mH X V c) (gV X V n) X

theorem uW (X V c:Nat) (hc:c<=1):bits .or .u64 (c:Int) (bits .xor .u64 ((dF (decide (X<V)):Nat):Int) 1)=((mH X V c:Nat):Int):=by
 unfold mH dF;have a:c=0\/c=1:=by omega
 by_cases h2:X<V
 ·rcases a with h3 | h3
  ·rw [h3,dV h2,ai rfl,aK]
   decide
  ·rw [h3,dV h2,ai rfl,ai (.inl rfl)]
   decide
 ·rcases a with h3 | h3
  ·rw [h3,cI h2,ar (by decide),ai (.inr (by omega))]
   decide
  ·rw [h3,cI h2,ar (by decide),ai (.inl rfl)]
   decide

theorem E7 (X V c:Nat):mH X V c<=1:=by unfold mH;split <;> omega

theorem CD (hX:X<18446744073709551616^n) (hV:V<18446744073709551616^n) (hc:c<=1) (h:X+18446744073709551616^n*c<2*V:=by omega):oj X V c n=(X+18446744073709551616^n*c)%V:=by
 rw [<- E8 h];unfold oj;have a:c=0\/c=1:=by omega
 have s1:∀ A B,cZ 1 A B=A:=fun A B=>rfl
 have s0:∀ A B,cZ 0 A B=B:=fun A B=>rfl
 rcases a with rfl | rfl
 ·rw [df,aV];by_cases h1:V<=X
  ·rw [show mH X V 0=1 from ai (Or.inr h1),s1,ai h1,gV,aK]
  ·rw [show mH X V 0=0 from aK,s0,ar h1]
 ·rw [bI] at h ⊢;rw [show mH X V 1=1 from ai (Or.inl rfl),s1,gV,ai (show X<V by omega),cf,B64]

theorem Gu (o:Tr) (ao bo:OA) (n a rl f c:Nat) (K:Int) (v:Value) (xs ms:LN) (w:World) (ht:TrRoom w o 2) (hx:RowT w o v xs) (g:xs.length=n) (hm:RowT w o (.slice ao n a) ms) (r:Digs xs) (q:Digs ms) (hc:c<=1) (hn:n<=100000) :
  ClZ 186 #[aP o,.agg #[.slice ao n a,.int .u64 K,.slice bo rl f],v,.int .u64 (c:Nat)] w fun e w'=>∃ v',e=.returned v' /\
   OwnN .u64 24 w' w.heap.size v' n (digs (oj (val xs) (val ms) c n) n)/\∃ o',Did w o [(1,(n:Nat),0),(1,(n:Nat),0)] w' o':=by
 obtain ⟨_,_,_,e1,t,_,_,_,_⟩:=hm.1.open;cases e1
 have eM:=t.o;obtain ⟨xo,xn,xc,rfl,s,_,_,_,_⟩:=hx.1.open;obtain rfl:xn=n:=s.o.symm.trans g;have E:=uW (val xs) (val ms) c hc;obtain ⟨T,hT⟩:=aj (mH (val xs) (val ms) c)
 have D:T<=1:=by rw [hT];exact E7 _ _ _
 have k0:Kept af w (w.alloc (.cells #[.slice ao xn a,.int .u64 K,.slice bo rl f] 71)):=(ah af w).alloc _;have i:(w.alloc (.cells #[.slice ao xn a,.int .u64 K,.slice bo rl f] 71)).heap[w.heap.size]? = some (.cells #[.slice ao xn a,.int .u64 K,.slice bo rl f] 71 (0,0)):=heap_alloc_new _ _;have j:=sr o _ _ xs ms _ ((ht.l (by omega)).g k0) (hx.g k0) (hm.g k0) r q (by rw [g];omega) (by rw [eM];omega);rw [g,eM,it] at j
 have hSb:=fun (W:World) (o1:Tr) (m1:List Ev) (d:Did w o m1 W o1) (l:m1.length=1)=>yu o1 T (by omega) _ _ xs ms W (d.room (k:=1) (by rw [l];exact ht)) (hx.did d) (hm.did d) r q (by rw [g];omega) (by rw [eM];omega)
 have h:∀ (W:World) (o1:Tr) (m1:List Ev) (d:Did w o m1 W o1) (l:m1.length=1),ClZ 223 #[aP o,.int .u64 (T:Nat),.slice xo xn xc,.slice ao xn a] W fun e w'=>∃ v' c',e=.returned (.tuple #[v',.int .u64 (c':Int)]) /\
   OwnN .u64 24 w' W.heap.size v' xn (digs (oj (val xs) (val ms) c xn) xn)/\∃ o',Did W o1 [(1,(xn:Nat),0)] w' o':=fun W o1 m1 d l=>by
  have:=hSb W o1 m1 d l;rw [d.ptr,g,eM,it,hT] at this;rw [hT];refine this.mono ?_;rintro e w' ⟨v',rfl,h1,h2⟩;exact ⟨v',_,rfl,h1,h2⟩
 rw [<- hT] at E;have B:=aa h;have HT:=aa ht.1;obtain ⟨tp,m⟩:=aj (aP o)
 rw [<- m] at j ⊢;have C:=aa m;obtain ⟨po,z⟩:=aM o;obtain rfl:tp=.pointer po:=m.trans z;generalize oj (val xs) (val ms) c xn=Y at *;generalize dF (decide (val xs<val ms))=b1 at *;have K0:=aa k0;clear hm hx ht hT hSb h t s eM g m z r q k0;obtain ⟨p0,p1,p2⟩:=ax i;delta ClZ;go_in;go_wp2_with fail;refine j.mono ?_;rintro e w1 ⟨rfl,o1,d1⟩;have p:=Did.b K0.o d1;have A:=(d1.kept.block _ (lt_of_block i) (aH i (HT.o.g K0.o))).trans i;obtain ⟨q0,q1,q2⟩:=ax A;have x:=B.o w1 o1 _ p rfl;rw [<- C.o] at x;clear j p0 p1 p2 i A;go_wp2_with fail
 refine x.mono ?_;rintro e w2 ⟨v2,c2,rfl,y,o2,d2⟩;go_wp2_with fail;go_ret;refine ⟨_,rfl,dg y (fun b hb=>?_),o2,p.trans d2⟩;have:=(y.lt b hb).1;have:=p.size;omega

theorem Dd {base g N b L:Nat} (h:OwnN .u64 24 w base (.slice (some ⟨g,0,none⟩) N b) N zs) (d:zs.length=N) (hn:n+L=N) (hc:L<=c) (hm:c<=maxLen):Row .u64 w (.slice (some ⟨g,n,none⟩) L c) (zs.drop n):=by
 have a:(zs.drop n).length=L:=by rw [cV];omega
 refine ⟨some ⟨g,n,none⟩,c,by rw [a],by omega,hm,(fun e=>by cases e),fun i hi=>⟨g,n,rfl,?_⟩⟩;rw [a] at hi;rw [World.ownsRow.cellAt h (n+i) (by omega),bV,aA,fd,aS (by omega)];rfl

def Reduced (a:World) (o0:Tr) (m0:List Ev) (n K X V:Nat) (w':World) (v':Value):Prop:=
 ∃ (Y:Nat) (o':Tr),OwnN .u64 24 w' a.heap.size v' n (digs Y n)/\((V*K+1)%18446744073709551616=0->0<n->X<V*18446744073709551616^n->Y<V/\18446744073709551616^n*Y%V=X%V)/\Did a o0 (m0 ++ List.replicate (n+2) (1,(n:Int),0)) w' o'

theorem xh {K Q:Nat} (b:Digs zs) (f:zs.length=n+n) (hc:c<=1) (hV:V<18446744073709551616^n) (he:val zs+18446744073709551616^(n+n)*c=X+V*Q) (hQ:Q<18446744073709551616^n) (a:(V*K+1)%18446744073709551616=0->0<n->val zs%18446744073709551616^n=0) (hg:(V*K+1)%18446744073709551616=0) (hn:0<n) (hX:X<V*18446744073709551616^n) :
  oj (val (zs.drop n)) V c n<V/\18446744073709551616^n*oj (val (zs.drop n)) V c n%V=X%V:=by
 have d:0<V:=by
  rcases cE V with h | h
  ·rw [h] at hX;omega
  ·exact h
 have hd:=kN (by omega) b n;have hA:val zs=18446744073709551616^n*val (zs.drop n):=by
  have e:=iY (val zs) (18446744073709551616^n);rw [a hg hn,dU,<- hd] at e;exact e.symm
 have hT:val (zs.drop n)<18446744073709551616^n:=by
  have:=aE (by omega) (b.drop n)
  rwa [cV,f,gF] at this
 rw [aL] at he;obtain ⟨h1,h2⟩:=FA hA he hQ hX;rw [CD hT hV hc h1];refine ⟨aY _ d,?_⟩;rw [<- h2];generalize val (zs.drop n)+18446744073709551616^n*c=Z;rw [cH,ep,<- cH]

theorem qS (a:World) (o0 o:Tr) (m0:List Ev) (g base N j n K d rl h:Nat) (ao bo:OA) (zs ms:LN) (w:World) (hD:Did a o0 m0 w o) (ht:TrRoom a o0 (m0.length+(n+2))) (hg:a.heap.size<=g)
  (ho:OwnN .u64 24 w base (.slice (some ⟨g,0,none⟩) N j) N zs) (B:zs.length=N) (M:Digs zs) (hN:N=n+n) (R:N<=100000) (hm:RowT a o0 (.slice ao n d) ms) (r:Digs ms) :
  ClZ 124 #[aP o,.agg (mzA ao n d K bo rl h),.slice (some ⟨g,0,none⟩) N j] w fun e w'=>
   ∃ v',e=.returned v'/\Reduced a o0 m0 n K (val zs) (val ms) w' v':=by
 obtain ⟨_,_,_,e1,E,_,_,_,_⟩:=hm.1.open;cases e1
 have eM:=E.o;have hV:val ms<18446744073709551616^n:=by rw [<- eM];exact aE (by omega) r
 obtain ⟨_,_,_,e1,_,U,T,_,_⟩:=(Row.of_own (base:=base) (e:=24) (by rw [B];exact ho):Row .u64 w (.slice (some ⟨g,0,none⟩) N j) zs).open;cases e1
 have k0:Kept af w (w.alloc (.cells (mzA ao n d K bo rl h) 71)):=(ah af w).alloc _;have A:(w.alloc (.cells (mzA ao n d K bo rl h) 71)).heap[w.heap.size]? = some (.cells (mzA ao n d K bo rl h) 71 (0,0)):=heap_alloc_new _ _;have p:=uY a o0 o m0 g base N j n n K d rl h ao bo zs ms _ (hD.g k0) (ht.l (by omega)) hg (k0.own ho (fun _ _ f=>f)) B M hN R hm r w.heap.size _ _ A (by decide) (by decide) (by have:=fX ho;omega);obtain ⟨tp,z⟩:=aj (aP o)
 rw [<- z] at p ⊢;have P:=aa (z.trans hD.ptr);have HM:=aa hm;have O:=aa r;have HT:=aa ht;have HV:=aa hV;have HN:=aa hN;have HE:=aa eM;obtain ⟨X,hX⟩:=aj (val zs)
 obtain ⟨V,q⟩:=aj (val ms)
 rw [<- hX,<- q] at p;rw [<- hX,<- q];have D:=aa q;clear hm r ht hg hV hN eM E hX q M B ho k0 hD z;obtain ⟨p0,p1,p2⟩:=ax A;clear A;delta ClZ;go_in;go_wp2_with fail;refine p.mono ?_;rintro e w1 ⟨c,rfl,⟨hc,l,Q,o1,x,v,t,J,F,i,D1⟩,H⟩;obtain ⟨q0,q1,q2⟩:=ax H;clear p p0 p1 p2;have gn:(n:Int)<=(N:Int):=by have:=HN.o;omega
 have S:n<=N:=by omega
 have gc:(if j=n then some (⟨g,0,none⟩:Addr) else some ⟨g,n,none⟩)=some ⟨g,n,none⟩:=by
  split
  ·have:=HN.o;obtain rfl:n=0:=by omega
   rfl
  ·rfl
 have gl:N-n=n:=by have:=HN.o;omega
 have m:Row .u64 w1 (.slice (some ⟨g,n,none⟩) n (j-n)) (l.drop n):=Dd x v (by have:=HN.o;omega) (by omega) (by unfold maxLen;omega);have I:(l.drop n).length=n:=by rw [cV];omega
 have y:=D1.room (k:=2) (by rw [bk,bw];exact HT.o.l (by omega));have G:RowT w1 o1 (.slice (some ⟨g,n,none⟩) n (j-n)) (l.drop n):=⟨m,fun _ b hb=>by cases hb;exact fq x y.1 _ rfl⟩
 have hL:=fun W (k:Kept af w1 W)=>Gu o1 ao bo n d rl h c K _ _ ms W (y.g k) (G.g k) I ((HM.o.did D1).g k) (t.drop n) O.o hc (by have:=HN.o;omega)
 rw [D1.ptr,<- P.o,<- D.o] at hL;have s:HzD ((V*K+1)%18446744073709551616=0->0<n->X<V*18446744073709551616^n->oj (val (l.drop n)) V c n<V/\18446744073709551616^n*oj (val (l.drop n)) V c n%V=X%V):=fun hg hn hX=>xh t (v.trans HN.o) hc (by rw [D.o];exact HV.o) (by rw [<- HN.o];exact J) F i hg hn hX
 have C:=aa D1;have HS:=aa hL;clear J F i D1 t x v m G I y hL H;generalize oj (val (l.drop n)) V c n=Y at *;go_wp2_with fail;go_region_with (go_at_call 186;refine (HS.o _ ((ah _ _).drew)).mono ?_;rintro e w2 ⟨v2,rfl,L,o2,d2⟩)
 all_goals
  go_wp2_with fail;go_ret;have d3:=C.o.trans (Did.b ((ah _ _).drew) d2);rw [dX,show ([(1,(n:Int),0),(1,(n:Int),0)]:List Ev)=List.replicate 2 (1,(n:Int),0) from rfl,nD] at d3;refine ⟨_,rfl,Y,o2,dg L (fun b hb=>?_),s.o,d3⟩;have h1:=(L.lt b hb).1;have h2:=C.o.size;have h3:w1.drew.heap.size=w1.heap.size:=rfl;omega

theorem yy (o:Tr) (n K a rl c xc yc:Nat) (ao bo xo yo:OA) (xs ys ms:LN) (w:World) (ht:TrRoom w o 1000) (hx:RowT w o (.slice xo n xc) xs) (hy:RowT w o (.slice yo n yc) ys) (hm:RowT w o (.slice ao n a) ms)
  (q:Digs xs) (r:Digs ys) (x:Digs ms) (hn:n<=130) :
  ClZ 121 #[aP o,.agg (mzA ao n a K bo rl c),.slice xo n xc,.slice yo n yc] w fun e w'=>
   ∃ v',e=.returned v'/\Reduced w o (List.replicate n (1,(n:Int),0)) n K (val xs*val ys) (val ms) w' v':=by
 obtain ⟨_,_,_,e1,t,_,_,_,_⟩:=hx.1.open;cases e1
 obtain ⟨_,_,_,e1,v,_,_,_,_⟩:=hy.1.open;cases e1
 have z:val xs*val ys<18446744073709551616^(n+n):=by
  have h1:=aE (by omega) q;have h2:=aE (by omega) r;rw [t.o] at h1;rw [v.o] at h2;rw [aL];exact mw h1 (eH h2) (aX)
 obtain ⟨W0,l⟩:=aj (w.alloc (.cells (mzA ao n a K bo rl c) 71))
 have k0:Kept af w W0:=by rw [l];exact (ah af w).alloc _
 have j:W0.heap[w.heap.size]? = some (.cells (mzA ao n a K bo rl c) 71 (0,0)):=by rw [l];exact heap_alloc_new _ _
 obtain ⟨tp,p⟩:=aj (aP o)
 have s:∀ W m o1,Did W0 o m W o1->W.cell? ⟨w.heap.size,0,none⟩=some (.slice ao n a)/\W.cell? ⟨w.heap.size,1,none⟩=some (.int .u64 (K:Nat))/\W.cell? ⟨w.heap.size,2,none⟩=some (.slice bo rl c):=fun W m o1 d=>ax ((d.kept.block _ (lt_of_block j) (aH j (ht.g k0).1 (by decide) (by decide))).trans j)
 have f:∀ W,Kept af W0 W->ClZ 110 #[tp,.slice xo n xc,.slice yo n yc] W fun e w'=>∃ g,e=.returned (.slice (some ⟨g,0,none⟩) (n+n) (n+n))/\W0.heap.size<=g/\OwnN .u64 24 w' g (.slice (some ⟨g,0,none⟩) (n+n) (n+n)) (n+n) (digs (val xs*val ys) (n+n))/\∃ o1,Did W0 o (List.replicate n (1,(n:Int),0)) w' o1:=fun W k=>by
  rw [p];refine (Dh o xo yo n n xc yc xs ys W ((ht.l (by omega)).g (k0.trans k)) (hx.g (k0.trans k)) (hy.g (k0.trans k)) q r).mono ?_;rintro e w' ⟨v',rfl,_,_,h3,o1,d1⟩;obtain ⟨g,hg,rfl,ho⟩:=h3 ⟨by omega,by omega⟩;unfold kF at d1;rw [ai ⟨by omega,by omega⟩] at d1;exact ⟨g,rfl,aI k.size hg,ho,o1,Did.b k d1⟩
 have i:∀ W g o1,W0.heap.size<=g->OwnN .u64 24 W g (.slice (some ⟨g,0,none⟩) (n+n) (n+n)) (n+n) (digs (val xs*val ys) (n+n))->Did W0 o (List.replicate n (1,(n:Int),0)) W o1 ->
   ClZ 124 #[tp,.agg (mzA ao n a K bo rl c),.slice (some ⟨g,0,none⟩) (n+n) (n+n)] W fun e w'=>∃ v',e=.returned v'/\Reduced W0 o (List.replicate n (1,(n:Int),0)) n K (val xs*val ys) (val ms) w' v':=fun W g o1 hg ho d=>by
  have:=qS W0 o o1 _ g g (n+n) (n+n) n K a rl c ao bo _ ms W d ((ht.l (by rw [bw];omega)).g k0) hg ho (ag _ _ _) (ak (by omega) _ _) rfl (by omega) (hm.g k0) x;rw [d.ptr,<- p,ay,aB z] at this;exact this
 rw [<- p];have HB:HzD (∀ W' v',Reduced W0 o (List.replicate n (1,(n:Int),0)) n K (val xs*val ys) (val ms) W' v'->Reduced w o (List.replicate n (1,(n:Int),0)) n K (val xs*val ys) (val ms) W' v'):=fun W' v' h=>by
  obtain ⟨Y,o',h1,h2,h3⟩:=h;exact ⟨Y,o',dg h1 (fun b hb=>aI k0.size (h1.lt b hb).1),h2,Did.b k0 h3⟩
 obtain ⟨p0,p1,p2⟩:=ax j;have JM:=aa f;have JR:=aa i;have JC:=aa s;generalize val xs*val ys=XY at *;generalize val ms=V at *;have JK:HzD (∀ W' v',Reduced W0 o (List.replicate n (1,(n:Int),0)) n K XY V W' v'->∃ m o1,Did W0 o m W' o1):=fun W' v' h=>by
  obtain ⟨Y,o',_,_,h3⟩:=h;exact ⟨_,_,h3⟩
 have A:=aa l;clear l f i s hx hy hm ht q r x t v z p k0 j;delta ClZ;go_in;go_wp2_with fail;rw [<- A.o];go_region_held3 (fun w'=>w'.cell? ⟨w.heap.size,0,none⟩=some (.slice ao n a)/\w'.cell? ⟨w.heap.size,1,none⟩=some (.int .u64 (K:Int))/\w'.cell? ⟨w.heap.size,2,none⟩=some (.slice bo rl c))
  (((try dsimp only);(repeat' apply And.intro) <;> first | (go_keep;done) | assumption))
  (first
  | (go_at_call 110;refine (JM.o _ ?_).mono ?_;(exact (ah _ _).drew);rintro e w2 ⟨g,rfl,hg,B,o2,d2⟩;obtain ⟨q0,q1,q2⟩:=JC.o _ _ _ d2)
  | (go_at_call 124;refine (JR.o _ _ o2 hg B d2).mono ?_;rintro e w3 ⟨v3,rfl,y⟩;obtain ⟨m3,o3,d3⟩:=JK.o _ _ y;obtain ⟨r0,r1,r2⟩:=JC.o _ _ _ d3))
 all_goals
  go_wp2_with fail;go_ret;exact ⟨_,rfl,HB.o _ _ y⟩

def tx (l n X V:Nat):Nat:=if l=n/\X<V then 1 else 0

theorem Fg (o:Tr) (ao bo xo:OA) (n l a rl b xc:Nat) (K:Int) (ms xs:LN) (w:World) (ht:TrRoom w o 1) (hm:RowT w o (.slice ao n a) ms) (hx:RowT w o (.slice xo l xc) xs) (s:Digs ms) (i:Digs xs) (hn:n<=100000) (P:Nat) (hP:P=tx l n (val xs) (val ms)) :
  ClZ 184 #[aP o,.agg #[.slice ao n a,.int .u64 K,.slice bo rl b],.slice xo l xc] w fun e w'=>e=.returned (.int .u64 (P:Int))/\∃ o',Did w o [(1,(n:Int),0)] w' o':=by
 obtain ⟨_,_,_,e1,f,_,_,_,_⟩:=hm.1.open;cases e1
 obtain ⟨_,_,_,e1,r,_,_,_,_⟩:=hx.1.open;cases e1
 obtain ⟨W,hW⟩:=aj (w.alloc (.cells #[.slice ao n a,.int .u64 K,.slice bo rl b] 71))
 have k0:Kept af w W:=by rw [hW];exact (ah af w).alloc _
 have c:W.heap[w.heap.size]? = some (.cells #[.slice ao n a,.int .u64 K,.slice bo rl b] 71 (0,0)):=by rw [hW];exact heap_alloc_new _ _
 obtain ⟨tp,p⟩:=aj (aP o)
 have JF:HzD (∀ W',Kept af W W'->ClZ 122 #[.slice xo l xc,.int .i64 (n:Int)] W' fun e w'=>e=.returned (.slice (some ⟨W'.heap.size,0,none⟩) n n)/\Row .u64 w' (.slice (some ⟨W'.heap.size,0,none⟩) n n) (digs (val xs) n)/\RowT w' o (.slice (some ⟨W'.heap.size,0,none⟩) n n) (digs (val xs) n)/\Kept af W w'):=fun W' k=>by
  refine (A3 (.slice xo l xc) xs n W' (hx.1.g (k0.trans k)) i).mono ?_;rintro e w' ⟨rfl,ho,k'⟩;exact ⟨rfl,dz ho (ag _ _ _),ib ho (ag _ _ _) (ht.g ((k0.trans k).trans k')).1,k.trans k'⟩
 obtain ⟨Q,hQ⟩:=aj (dF (decide (val xs%18446744073709551616^n<val ms)))
 have JL:HzD (∀ W' g,Kept af W W'->RowT W' o (.slice (some ⟨g,0,none⟩) n n) (digs (val xs) n)->ClZ 112 #[tp,.slice (some ⟨g,0,none⟩) n n,.slice ao n a] W' fun e w'=>e=.returned (.int .u64 (Q:Int))/\∃ o',Did W o [(1,(n:Int),0)] w' o'):=fun W' g k hr=>by
  have:=sr o _ _ _ ms W' (ht.g (k0.trans k)) hr (hm.g (k0.trans k)) (ak (by omega) _ _) s (by rw [ag];omega) (by rw [f.o];omega);rw [ag,f.o,it,ay,<- hQ,<- p] at this;refine this.mono ?_;rintro e w' ⟨rfl,o',d⟩;exact ⟨rfl,o',Did.b k d⟩
 have JC:HzD (∀ W' m o',Did W o m W' o'->W'.cell? ⟨w.heap.size,0,none⟩=some (.slice ao n a)):=fun W' m o' d=>(ax ((d.kept.block _ (lt_of_block c) (aH c (ht.g k0).1 (by decide) (by decide))).trans c)).1
 have HQ:HzD (l=n->Q=P):=fun h=>by
  rw [hQ,hP,aB (by rw [<- h,<- r.o];exact aE (by omega) i)];unfold dF tx;by_cases h2:val xs<val ms
  ·rw [dV h2,ai rfl,ai ⟨h,h2⟩]
  ·rw [cI h2,ar (by decide),ar (fun h=>h2 h.2)]
 have HP:HzD (¬ l=n->P=0):=fun h=>by
  rw [hP];exact ar (fun h'=>h h'.1)
 obtain ⟨p0,p1,p2⟩:=ax c;have HW:=aa hW;have q:=aa k0;rw [<- p];clear hW k0 c p hm hx s i ht f r hQ hP;by_cases h:l=n
 ·have v:=HQ.o h;subst h;subst v;delta ClZ;go_in;go_wp2_with fail;rw [<- HW.o];go_region_held3 (fun w'=>w'.cell? ⟨w.heap.size,0,none⟩=some (.slice ao l a))
   (((try dsimp only);first | (go_keep;done) | assumption))
   (first
   | (go_at_call 122;refine (JF.o _ ?_).mono ?_;(exact (ah _ _).drew);rintro e w2 ⟨rfl,x,j,k2⟩;have q0:=k2.cellN p0)
   | (go_at_call 112;refine (JL.o _ _ k2 j).mono ?_;rintro e w3 ⟨rfl,o3,d3⟩;have r0:=JC.o _ _ _ d3))
  all_goals
   go_wp2_with fail;go_ret;exact ⟨rfl,o3,Did.b q.o d3⟩
 ·have t:=HP.o h;subst t;have h':¬ (l:Int)=(n:Int):=by omega
  delta ClZ;go_in;go_wp2_with fail;rw [<- HW.o];go_region_held3 (fun w'=>w'.cell? ⟨w.heap.size,0,none⟩=some (.slice ao n a))
   (((try dsimp only);first | (go_keep;done) | assumption))
   (first
   | (go_at_call 122;refine (JF.o _ ?_).mono ?_;(exact (ah _ _).drew);rintro e w2 ⟨rfl,x,j,k2⟩;have q0:=k2.cellN p0)
   | (go_at_call 112;refine (JL.o _ _ k2 j).mono ?_;rintro e w3 ⟨rfl,o3,d3⟩;have r0:=JC.o _ _ _ d3))
  all_goals
   go_wp2_with fail;go_ret;exact ⟨rfl,o3,Did.b q.o d3⟩

theorem Dl (k:Nat) (h:k<=64):(2:Int)^k ∣ 18446744073709551616:=by
 have:(18446744073709551616:Int)=2^k*2^(64-k):=by rw [<- Int.pow_add,show k+(64-k)=64 by omega];rfl
 exact ⟨_,this⟩

theorem AU (a:Int) (h:a%2=1):(2:Int)^3 ∣ 1-a*a:=by
 obtain ⟨b,rfl⟩:∃ b,a=2*b+1:=⟨a/2,by omega⟩
 have e:(1:Int)-(2*b+1)*(2*b+1)=-4*(b*(b+1)):=by
  simp only [Int.mul_add,Int.add_mul,Int.mul_one,kT,Int.neg_mul];rw [show (2*b*(2*b):Int)=4*(b*b) by rw [iE,Int.mul_left_comm b 2 b];omega];omega
 have hp:∃ c,b*(b+1)=2*c:=by
  rcases Int.emod_two_eq b with h2 | h2
  ·obtain ⟨c,rfl⟩:∃ c,b=2*c:=⟨b/2,by omega⟩
   exact ⟨c*(2*c+1),by rw [iE]⟩
  ·obtain ⟨c,rfl⟩:∃ c,b=2*c+1:=⟨b/2,by omega⟩
   exact ⟨(2*c+1)*(c+1),by rw [show 2*c+1+1=2*(c+1) by omega,<- iE,Int.mul_comm (2*c+1) 2,iE]⟩
 obtain ⟨c,hc⟩:=hp;rw [e,hc];exact ⟨-c,by omega⟩

theorem Ct (a x y:Int) (k:Nat) (h:(2:Int)^k ∣ 1-a*x) (hy:(18446744073709551616:Int) ∣ y-x*(2-a*x)) (m:Nat) (hm:m<=2*k) (b:m<=64) :
  (2:Int)^m ∣ 1-a*y:=by
 have e:1-a*y=(1-a*x)*(1-a*x)-a*(y-x*(2-a*x)):=by
  simp only [Int.mul_sub,Int.sub_mul,Int.mul_one,kT];have h1:a*(x*2)=a*x*2:=by rw [iE]
  have h2:a*(x*(a*x))=a*x*(a*x):=by rw [iE]
  omega
 rw [e];refine Int.dvd_sub ?_ ?_
 ·have h1:(2:Int)^(k+k) ∣ (1-a*x)*(1-a*x):=by rw [Int.pow_add];exact Int.mul_dvd_mul h h
  refine Int.dvd_trans ?_ h1;exact ⟨2^(k+k-m),by rw [<- Int.pow_add];congr 1;omega⟩
 ·exact Int.dvd_trans (Int.dvd_trans (Dl m b) hy) (Int.dvd_mul_left _ _)

theorem BC (a x:Int):(18446744073709551616:Int) ∣ (x*((2-a*x%18446744073709551616)%18446744073709551616))%18446744073709551616-x*(2-a*x):=by
 obtain ⟨t,ht⟩:∃ t,(2-a*x%18446744073709551616)%18446744073709551616=2-a*x+18446744073709551616*t:=⟨((2-a*x%18446744073709551616)%18446744073709551616-(2-a*x))/18446744073709551616,by omega⟩
 rw [ht,Int.mul_add,Int.mul_left_comm x 18446744073709551616 t];generalize x*(2-a*x)=p;generalize x*t=q;omega

def uR (a x:Int):Prop:=0<=x/\x<18446744073709551616/\(a%2=1->(18446744073709551616:Int) ∣ 1-a*x)/\(a%2=0->x=0)

def eS (V:Nat):Nat:=if 130<am V then 2 else if V<2 then 1 else if V%2=0 then 60 else 0

def rM (V K:Nat):Prop:=K<18446744073709551616/\(eS V=0->(V*K+1)%18446744073709551616=0)/\(eS V≠0->K=0)

def jF (V:Nat):LN:=if eS V=0 then digs V (am V) else []

def j4 (V:Nat):LN:=if eS V=0 then digs (2^(128*am V)%V) (am V) else []

theorem eu (h:eS V=0):am V<=130/\2<=V/\V%2=1:=by
 unfold eS at h;by_cases h1:130<am V
 ·rw [ai h1] at h;omega
 ·rw [ar h1] at h;by_cases h2:V<2
  ·rw [ai h2] at h;omega
  ·rw [ar h2] at h;by_cases h3:V%2=0
   ·rw [ai h3] at h;omega
   ·omega

def jZ (a:Value) (K:Nat) (b:Value):Array Value:=#[a,.int .u64 (K:Nat),b]

theorem Fj (h:eS V≠0):jF V=[]/\j4 V=[]/\rM V 0:=by
 refine ⟨ar h,ar h,by omega,fun e=>absurd e h,fun _=>rfl⟩

def okMod (ms:LN) (K:Nat) (rs:LN):Prop:=
 eS (val ms)=0/\jF (val ms)=ms/\rM (val ms) K/\j4 (val ms)=rs

end Go.Proofs.YtpkmoamgpjcdeaaGreatDoor
