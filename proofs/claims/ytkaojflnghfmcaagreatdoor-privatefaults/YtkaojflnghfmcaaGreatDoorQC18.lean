/- Put together of: Pow4 Iva1. -/
import Derived.Test.YtkaojflnghfmcaaGreatDoorQC16
import Derived.Test.YtkaojflnghfmcaaGreatDoorQC17

namespace Go.Proofs.YtkaojflnghfmcaaGreatDoor
open _root_.Go.Proofs.Tryz
set_option maxRecDepth 100000
set_option maxHeartbeats 4000000
open Go.RowKit

theorem DV (o:Tr) (ao bo xo eo:Option Addr) (n l K a i N1 xc L j f:Nat) (p:Array Value) (ms rs xs:List Nat) (E rm:Nat) (dE:List Ev) (G:Nat->Nat->Nat->World->Value->Prop) (w:World) (aq:dE.length<=rm)
  (ht:TrRoom w o (4000+rm)) (hm:RowT w o (.slice ao n a) ms) (hr:RowT w o (.slice bo l i) rs) (hx:RowT w o (.slice xo N1 xc) xs) (ah:Digs ms) (ak:Digs rs) (ag:Digs xs) (hK:K<18446744073709551616) (ai:n<=300)
  (hf:∀ args w,(callFunc f args).run prog w=.ok (.enter f args) w)
  (ae:∀ wc,Kept af w wc->∀ W m o' H I C l' K' J N B z P X,Did w o m W o'->TrRoom W o' rm->Mod8 W o' H I n l' K' J N z P->MonAt W (.slice C n B) n (val z) X->Fresh wc (.slice C n B)->wc.heap.size<=W.heap.size->L<=300->Calls prog f (#[.agg #[.slice H n J,.int .u64 (K':Nat),.slice I l' N],.slice C n B] ++ p) W fun e w'=>∃ zo zn zc,e=.returned (.slice zo zn zc)/\G wc.heap.size (val z) X w' (.slice zo zn zc)/\∃ o2,Did W o' dE w' o2)
  (hG:∀ b0 V X W W' v,G b0 V X W v->Kept (fun b=>b<b0) W W'->G b0 V X W' v)
  (hE:E=0↔okMod ms K rs/\(N1=n/\val xs<val ms)) (U:E<=1) :
  Calls prog 239 #[aL o,.agg #[.slice ao n a,.int .u64 (K:Nat),.slice bo l i],.slice xo N1 xc,.slice eo L j,.func (.func f) #[] p] w fun e w'=>∃ (zo:Option Addr) (zn zc c:Nat),e=.returned (.tuple #[.slice zo zn zc,.int .i64 (c:Int)]) /\
   ((E=0/\L<=300/\c=0/\(∃ b0,w.heap.size<=b0/\G b0 (val ms) (val xs) w' (.slice zo zn zc))/\∃ o',Did w o (jk n ++ dE) w' o') \/
   (((E=1/\c=1)\/(E=0/\300<L/\c=2))/\Value.slice zo zn zc=.slice none 0 0/\∃ m o',Did w o m w' o')):=by
 have ar:=im;have he:∀ args w,(callFunc 257 args).run prog w=.ok (.enter 257 args) w:=fun _ _=>by simp [go_sem]
 obtain ⟨po,O⟩:=aK o;obtain ⟨W,hW⟩:∃ W,W=(((((w.alloc (.cells #[.pointer po] 53)).alloc (.cells #[.slice ao n a,.int .u64 (K:Nat),.slice bo l i] 70)).alloc (.cells #[.slice xo N1 xc] 23)).alloc (.cells #[.slice eo L j] 23)).alloc (.cells #[.func (.func f) #[] p] 209)).alloc (.cells #[.slice none 0 0] 23):=⟨_,rfl⟩
 have k0:Kept af w W:=by rw [hW];exact ((((((aj af w).alloc _).alloc _).alloc _).alloc _).alloc _).alloc _
 have al:W.heap.size=w.heap.size+1+1+1+1+1+1:=by rw [hW];simp
 have ac:Box W w.heap.size (.pointer po) 53:=by rw [hW];exact (((((Box.new w _ _).alloc _).alloc _).alloc _).alloc _).alloc _
 have Z:W.heap[w.heap.size+1]? = some (.cells #[.slice ao n a,.int .u64 (K:Nat),.slice bo l i] 70 (0,0)):=by
  rw [hW];refine au (au (au (au ?_)));have:=heap_alloc_new (w.alloc (.cells #[.pointer po] 53)) (.cells #[.slice ao n a,.int .u64 (K:Nat),.slice bo l i] 70)
  rwa [show (w.alloc (.cells #[.pointer po] 53)).heap.size=w.heap.size+1 by simp] at this
 have R:Box W (w.heap.size+1+1) (.slice xo N1 xc) 23:=by
  rw [hW];refine Box.alloc (Box.alloc (Box.alloc ?_ _) _) _;have:=Box.new ((w.alloc (.cells #[.pointer po] 53)).alloc (.cells #[.slice ao n a,.int .u64 (K:Nat),.slice bo l i] 70)) (.slice xo N1 xc) 23
  rwa [show ((w.alloc (.cells #[.pointer po] 53)).alloc (.cells #[.slice ao n a,.int .u64 (K:Nat),.slice bo l i] 70)).heap.size=w.heap.size+1+1 by simp] at this
 have T:Box W (w.heap.size+1+1+1) (.slice eo L j) 23:=by
  rw [hW];refine Box.alloc (Box.alloc ?_ _) _;have:=Box.new (((w.alloc (.cells #[.pointer po] 53)).alloc (.cells #[.slice ao n a,.int .u64 (K:Nat),.slice bo l i] 70)).alloc (.cells #[.slice xo N1 xc] 23)) (.slice eo L j) 23
  rwa [show (((w.alloc (.cells #[.pointer po] 53)).alloc (.cells #[.slice ao n a,.int .u64 (K:Nat),.slice bo l i] 70)).alloc (.cells #[.slice xo N1 xc] 23)).heap.size=w.heap.size+1+1+1 by simp] at this
 have Y:Box W (w.heap.size+1+1+1+1) (.func (.func f) #[] p) 209:=by
  rw [hW];refine Box.alloc ?_ _;have:=Box.new ((((w.alloc (.cells #[.pointer po] 53)).alloc (.cells #[.slice ao n a,.int .u64 (K:Nat),.slice bo l i] 70)).alloc (.cells #[.slice xo N1 xc] 23)).alloc (.cells #[.slice eo L j] 23)) (.func (.func f) #[] p) 209
  rwa [show ((((w.alloc (.cells #[.pointer po] 53)).alloc (.cells #[.slice ao n a,.int .u64 (K:Nat),.slice bo l i] 70)).alloc (.cells #[.slice xo N1 xc] 23)).alloc (.cells #[.slice eo L j] 23)).heap.size=w.heap.size+1+1+1+1 by simp] at this
 have ab:Box W (w.heap.size+1+1+1+1+1) (.slice none 0 0) 23:=by
  rw [hW];refine ?_;have:=Box.new (((((w.alloc (.cells #[.pointer po] 53)).alloc (.cells #[.slice ao n a,.int .u64 (K:Nat),.slice bo l i] 70)).alloc (.cells #[.slice xo N1 xc] 23)).alloc (.cells #[.slice eo L j] 23)).alloc (.cells #[.func (.func f) #[] p] 209)) (.slice none 0 0) 23
  rwa [show (((((w.alloc (.cells #[.pointer po] 53)).alloc (.cells #[.slice ao n a,.int .u64 (K:Nat),.slice bo l i] 70)).alloc (.cells #[.slice xo N1 xc] 23)).alloc (.cells #[.slice eo L j] 23)).alloc (.cells #[.func (.func f) #[] p] 209)).heap.size=w.heap.size+1+1+1+1+1 by simp] at this
 have k1:=k0.alloc (.cells #[.int .i64 0] 32);have xe:=Box.new W (.int .i64 0) 32;have t:(W.alloc (.cells #[.int .i64 0] 32)).heap.size=W.heap.size+1:=by simp
 have h1:=BR o ao bo xo eo n l K a i N1 xc L j f p ms rs xs w.heap.size (w.heap.size+1) (w.heap.size+1+1) (w.heap.size+1+1+1) (w.heap.size+1+1+1+1) (w.heap.size+1+1+1+1+1) W.heap.size E rm dE (G (W.heap.size+1)) w _ aq ht k1 hm hr hx ah ak ag hK ai ⟨by omega,by omega⟩ ⟨by omega,by omega,by omega⟩ (by rw [O];exact ac.alloc _) (au Z) (R.alloc _) (T.alloc _) (Y.alloc _) (ab.alloc _) xe hf
  (fun W' m o' H I C l' K' J N B z P X d r M A F k hL=>by
   have:=ae _ k1 W' m o' H I C l' K' J N B z P X d r M A F k.size hL
   rwa [t] at this)
  (fun V X W1 W2 v g k=>hG _ V X W1 W2 v g (by rwa [t] at k)) hE U
 have S:=BS 257 #[.pointer (some ⟨w.heap.size,0,none⟩),.pointer (some ⟨w.heap.size+1,0,none⟩),.pointer (some ⟨w.heap.size+1+1,0,none⟩),.pointer (some ⟨w.heap.size+1+1+1,0,none⟩),.pointer (some ⟨w.heap.size+1+1+1+1,0,none⟩),.pointer (some ⟨w.heap.size+1+1+1+1+1,0,none⟩)] W
  (fun c W'=>∃ (zo:Option Addr) (zn zc k:Nat) (m:List Ev) (o':Tr),c=(k:Int)/\Left8 w (W.alloc (.cells #[.int .i64 0] 32)) W' o o' W.heap.size (w.heap.size+1+1+1+1+1) rm (.slice zo zn zc) 23 m/\((E=0/\L<=300/\k=0/\m=jk n ++ dE/\G (W.heap.size+1) (val ms) (val xs) W' (.slice zo zn zc))\/(((E=1/\k=1)\/(E=0/\300<L/\k=2))/\Value.slice zo zn zc=.slice none 0 0))) he (h1.mono (by
  rintro e w' (⟨e0,hL,rfl,zo,zn,zc,o',hl,hg⟩ | ⟨c,hc,rfl,m,o',hl⟩)
  ·exact ⟨hl.err,.inl ⟨rfl,zo,zn,zc,0,_,o',rfl,hl,.inl ⟨e0,hL,rfl,rfl,hg⟩⟩⟩
  ·exact ⟨hl.err,.inr ⟨_,rfl,none,0,0,c,m,o',rfl,hl,.inr ⟨hc,rfl⟩⟩⟩))
 have HW:=aa hW;have D:=aa al;have HT:=aa ht;have Q:=aa hG;rw [O];clear h1 hm hr hx ah ak ag hK ai ae hE U hW k0 k1 Z ab R T Y ac xe he al t ht O hf hG;go_enter func239,ntmps239;go_wp2_with (rw [<- HW.out]);refine S.mono ?_;rintro e w' ⟨c,w1,rfl,⟨⟨zo,zn,zc,k,m,o1,rfl,hl,s⟩,ad⟩,rfl⟩;have y:Box w1 W.heap.size (.int .i64 0) 32:=ad;have k3:=aD w1 W.heap.size (.int .i64 (k:Int));have ap:w.heap.size+1+1+1+1+1≠W.heap.size:=by have:=D.out;omega
 have am:TrIn w1 o1:=(hl.did.room (k:=0) (HT.out.less (by have:=hl.len;omega))).1;have x:=hl.out.other ⟨W.heap.size,0,none⟩ ap (.int .i64 (k:Int));have d3:=hl.did.wroteNew k3 (by have:=D.out;omega) (y.apart am (by decide) (by decide));have an:TrIn (w1.setCell ⟨W.heap.size,0,none⟩ (.int .i64 (k:Int))) o1:=(d3.room (k:=0) (HT.out.less (by have:=hl.len;omega))).1;have q:=s.imp (fun h=>(⟨h.1,h.2.1,h.2.2.1,h.2.2.2.1,Q.out _ _ _ _ _ _ h.2.2.2.2 (k3.mono (fun b _ e=>by omega))⟩:E=0/\L<=300/\k=0/\m=jk n ++ dE/\G (W.heap.size+1) (val ms) (val xs) (w1.setCell ⟨W.heap.size,0,none⟩ (.int .i64 (k:Int))) (.slice zo zn zc))) id
 generalize w1.setCell ⟨W.heap.size,0,none⟩ (.int .i64 (k:Int))=w2 at *;have c0:=x.cell;have f0:=x.free;have c1:=(x.set (.slice zo zn zc)).cell;have k4:=aD w2 (w.heap.size+1+1+1+1+1) (.slice zo zn zc);have HD:=aa (d3.wroteNew k4 (by omega) (x.apart an (by decide) (by decide)));have HC:=aa (q.imp (fun h=>(⟨h.1,h.2.1,h.2.2.1,h.2.2.2.1,Q.out _ _ _ _ _ _ h.2.2.2.2 (k4.mono (fun b _ e=>by have:=D.out;omega))⟩:E=0/\L<=300/\k=0/\m=jk n ++ dE/\G (W.heap.size+1) (val ms) (val xs) (w2.setCell ⟨w.heap.size+1+1+1+1+1,0,none⟩ (.slice zo zn zc)) (.slice zo zn zc))) id);clear S hl s q ad y k3 d3 am an x k4;go_wp2_with fail
 refine bodyPost_ret (v:=.tuple #[.slice zo zn zc,.int .i64 (k:Int)]) (by simp [results,results239,go_sem,c1]) rfl ⟨zo,zn,zc,k,rfl,?_⟩;rcases HC.out with ⟨h1,h2,h3,h4,h5⟩ | ⟨h1,h2⟩
 ·refine .inl ⟨h1,h2,h3,⟨_,?_,h5⟩,o1,?_⟩
  ·have:=D.out;omega
  ·rw [<- h4];exact HD.out
 ·exact .inr ⟨h1,h2,m,o1,HD.out⟩

def nt (n L:Nat):List Ev:=jz n 14 ++ (iU n L (16*L) ++ l8 n)

theorem pd {n L:Nat} (h:n<=130) (hL:L<=300):(nt n L).length<=60000000:=by
 have h1:=jA h 14;have h2:=kD h L (16*L);have h3:=(gU h).2.2;unfold nt;rw [aZ,aZ];omega

theorem Ic (o:Tr) (ao bo xo eo:Option Addr) (n l K a f xc L h X bT bE:Nat) (ms rs ys:List Nat) (w:World) (ht:TrRoom w o 61000000) (hM:Mod8 w o ao bo n l K a f ms rs) (hx:MonAt w (.slice xo n xc) n (val ms) X)
  (he:RowT w o (.slice eo L h) ys) (y:Digs ys) (hL:L<=300) (hT:Box w bT (aL o) 53) (hB:Box w bE (.slice eo L h) 23) :
  Calls prog 240 #[.agg #[.slice ao n a,.int .u64 (K:Nat),.slice bo l f],.slice xo n xc,.pointer (some ⟨bT,0,none⟩),.pointer (some ⟨bE,0,none⟩)] w fun e w'=>∃ zo zc,e=.returned (.slice zo n zc)/\(Row .u64 w' (.slice zo n zc) (digs (X^val ys%val ms) n)/\U64s w' (.slice zo n zc))/\Fresh w (.slice zo n zc)/\∃ o',Did w o (nt n L) w' o':=by
 obtain ⟨⟨f0,f1⟩,f2,f3,f4,f5⟩:=hM.facts;obtain ⟨po,p⟩:=aK o;obtain ⟨V,hV⟩:∃ V,V=val ms:=⟨_,rfl⟩
 obtain ⟨RL,r⟩:∃ RL,RL=digs (X^val ys%val ms) n:=⟨_,rfl⟩
 rw [<- r];obtain ⟨W,hW⟩:∃ W,W=w.alloc (.cells #[.slice ao n a,.int .u64 (K:Nat),.slice bo l f] 70):=⟨_,rfl⟩
 have k0:Kept af w W:=by rw [hW];exact (aj af w).alloc _
 have q:W.heap[w.heap.size]? = some (.cells #[.slice ao n a,.int .u64 (K:Nat),.slice bo l f] 70 (0,0)):=by rw [hW];exact heap_alloc_new _ _
 have j:=(ht.grew k0).1;have JC:Hid (∀ W' m o',Did W o m W' o'->W'.cell? ⟨bT,0,none⟩=some (.pointer po)/\W'.cell? ⟨bE,0,none⟩=some (.slice eo L h)/\W'.cell? ⟨w.heap.size,0,none⟩=some (.slice ao n a)/\W'.cell? ⟨w.heap.size,1,none⟩=some (.int .u64 (K:Nat))/\W'.cell? ⟨w.heap.size,2,none⟩=some (.slice bo l f)):=fun W' m o' d=>by
  rw [<- p];exact ⟨((hT.grew k0).did d j (by decide) (by decide)).cell,((hB.grew k0).did d j (by decide) (by decide)).cell,aw ((d.kept.block _ (lt_of_block q) (aI q j (by decide) (by decide))).trans q)⟩
 have JP:Hid (∀ W',Kept af W W'->Calls prog 242 #[.pointer po,.agg #[.slice ao n a,.int .u64 (K:Nat),.slice bo l f],.slice xo n xc] W' fun e w'=>∃ g c,e=.returned (.slice (some ⟨g,0,none⟩) 16 c)/\(∃ A C,Tab8 W' w' (.slice xo n xc) (.slice (some ⟨g,0,none⟩) 16 c) n 16 A C (val ms) X)/\∃ o',Did W o (jz n 14) w' o'):=fun W' k=>by
  have:=DW o ao bo xo n l K a f xc X ms rs W' ((ht.grew (k0.trans k)).less (by omega)) (hM.grew (k0.trans k)) (hx.grew (k0.trans k));rw [p] at this;refine this.mono ?_;rintro e w' ⟨g,c,rfl,hA,o',d⟩;exact ⟨g,c,rfl,hA,o',Did.after k d⟩
 have JR:Hid (∀ wT W' o' g c A C,Did W o (jz n 14) W' o'->Tab8 wT W' (.slice xo n xc) (.slice (some ⟨g,0,none⟩) 16 c) n 16 A C (val ms) X->Calls prog 241 #[.pointer po,.agg #[.slice ao n a,.int .u64 (K:Nat),.slice bo l f],.slice (some ⟨g,0,none⟩) 16 c,.slice eo L h] W' fun e w'=>∃ zo zc,e=.returned (.slice zo n zc)/\(Row .u64 w' (.slice zo n zc) RL/\U64s w' (.slice zo n zc))/\Fresh W' (.slice zo n zc)/\∃ o2,Did W' o' (iU n L (16*L) ++ l8 n) w' o2):=fun wT W' o' g c A C d s=>by
  have:=DX o' ao bo eo n l K a f g c L h X A C ms rs ys (.slice xo n xc) wT W' (d.room ((ht.grew k0).less (by have:=jA f1 14;omega))) ((hM.grew k0).did d) s ((he.grew k0).did d) y hL;rw [d.ptr,p,<- r] at this;exact this
 obtain ⟨c0,c1,c2,c3,c4⟩:=JC.out _ _ _ (Did.of_kept (aj af W) j);have HW:=aa hW;have t:=aa k0;have F:=aa j;clear ht hM hx he y hT hB p hV r hW k0 q j f0 f2 f3 f4 f5;go_enter func240,ntmps240;go_wp2_with (rw [<- HW.out]);go_region_held3 (fun w'=>w'.cell? ⟨bT,0,none⟩=some (.pointer po)/\w'.cell? ⟨bE,0,none⟩=some (.slice eo L h)/\w'.cell? ⟨w.heap.size,0,none⟩=some (.slice ao n a)/\w'.cell? ⟨w.heap.size,1,none⟩=some (.int .u64 (K:Int))/\w'.cell? ⟨w.heap.size,2,none⟩=some (.slice bo l f))
  (((try dsimp only);(repeat' apply And.intro) <;> first | (go_keep;done) | assumption))
  (first
  | (go_at_call 242;refine (JP.out _ ?_).mono ?_;(exact (aj _ _).drew);rintro e w2 ⟨g2,E,rfl,⟨A2,C2,i⟩,o2,d2⟩;obtain ⟨q0,q1,q3,q4,q5⟩:=JC.out _ _ _ d2)
  | (go_at_call 241;refine (JR.out _ _ o2 g2 E A2 C2 d2 i).mono ?_;rintro e w4 ⟨zo,zc,rfl,x,v,o4,d4⟩;obtain ⟨t0,t1,t3,t4,t5⟩:=JC.out _ _ _ (d2.trans d4)))
 all_goals
  have z:=aa (Did.after t.out (d2.trans d4));have B:Hid (Fresh w (.slice zo n zc)):=fun b hb=>by have h1:=v b hb;have h2:=d2.size;have h3:=t.out.size;omega
  have D:=aa x;clear v x d2 d4 i c0 c1 c2 c3 c4 q0 q1 q3 q4 q5 t0 t1 t3 t4 t5;go_wp2_with fail;go_ret;exact ⟨_,_,rfl,D.out,B.out,o4,z.out⟩

def EC (R:Nat->Nat->List Nat) (n b0 V X:Nat) (W:World) (v:Value):Prop:=(∃ zo zc,v=.slice zo n zc)/\Row .u64 W v (R V X)/\U64s W v/\∀ b,v.ownBlock=some b->b0<=b

theorem IP (o:Tr) (ao bo xo eo:Option Addr) (n l K a f N1 xc L i:Nat) (ms rs xs ys:List Nat) (E:Nat) (w:World)
  (ht:TrRoom w o 70000000) (hm:RowT w o (.slice ao n a) ms) (hr:RowT w o (.slice bo l f) rs) (hx:RowT w o (.slice xo N1 xc) xs) (hy:RowT w o (.slice eo L i) ys) (s:Digs ms) (x:Digs rs) (D:Digs xs) (G:Digs ys) (hK:K<18446744073709551616) (H:n<=300)
  (hE:E=0↔okMod ms K rs/\(N1=n/\val xs<val ms)) (B:E<=1) :
  Calls prog 201 #[aL o,.agg #[.slice ao n a,.int .u64 (K:Nat),.slice bo l f],.slice xo N1 xc,.slice eo L i] w fun e w'=>∃ (zo:Option Addr) (zn zc c:Nat),e=.returned (.tuple #[.slice zo zn zc,.int .i64 (c:Int)]) /\
   ((E=0/\L<=300/\c=0/\(Row .u64 w' (.slice zo zn zc) (digs (val xs^val ys%val ms) n)/\U64s w' (.slice zo zn zc))/\∃ o',Did w o (jk n ++ nt n L) w' o') \/
   (((E=1/\c=1)\/(E=0/\300<L/\c=2))/\Value.slice zo zn zc=.slice none 0 0/\∃ m o',Did w o m w' o')):=by
 have U:=im;have he:∀ args w,(callFunc 240 args).run prog w=.ok (.enter 240 args) w:=fun _ _=>by simp [go_sem]
 obtain ⟨po,t⟩:=aK o;obtain ⟨W,hW⟩:∃ W,W=((w.alloc (.cells #[.pointer po] 53)).alloc (.cells #[.slice ao n a,.int .u64 (K:Nat),.slice bo l f] 70)).alloc (.cells #[.slice eo L i] 23):=⟨_,rfl⟩
 have k0:Kept af w W:=by rw [hW];exact (((aj af w).alloc _).alloc _).alloc _
 have q:Box W w.heap.size (.pointer po) 53:=by rw [hW];exact ((Box.new w _ _).alloc _).alloc _
 have C:W.heap[w.heap.size+1]? = some (.cells #[.slice ao n a,.int .u64 (K:Nat),.slice bo l f] 70 (0,0)):=by
  rw [hW];refine au ?_;have:=heap_alloc_new (w.alloc (.cells #[.pointer po] 53)) (.cells #[.slice ao n a,.int .u64 (K:Nat),.slice bo l f] 70)
  rwa [show (w.alloc (.cells #[.pointer po] 53)).heap.size=w.heap.size+1 by simp] at this
 have p:Box W (w.heap.size+1+1) (.slice eo L i) 23:=by
  rw [hW];have:=Box.new ((w.alloc (.cells #[.pointer po] 53)).alloc (.cells #[.slice ao n a,.int .u64 (K:Nat),.slice bo l f] 70)) (.slice eo L i) 23
  rwa [show ((w.alloc (.cells #[.pointer po] 53)).alloc (.cells #[.slice ao n a,.int .u64 (K:Nat),.slice bo l f] 70)).heap.size=w.heap.size+1+1 by simp] at this
 have y:=(ht.grew k0).1;have j:=DV o ao bo xo eo n l K a f N1 xc L i 240 #[.pointer (some ⟨w.heap.size,0,none⟩),.pointer (some ⟨w.heap.size+1+1,0,none⟩)] ms rs xs E 61000000 (if n<=130/\L<=300 then nt n L else []) (EC (fun V X=>digs (X^val ys%V) n) n) W (by
   by_cases h:n<=130/\L<=300
   ·rw [ah h];have:=pd h.1 h.2;omega
   ·rw [ai h];simp)
  ((ht.grew k0).less (by omega)) (hm.grew k0) (hr.grew k0) (hx.grew k0) s x D hK H he
  (fun wc kc W' m o' I J T l' K' O Q S P R X d r M A F N hL=>by
   have hn:=M.facts.1.2;rw [ah ⟨hn,hL⟩];refine (Ic o' I J T eo n l' K' O Q S L i X w.heap.size (w.heap.size+1+1) P R ys W' r M A ((hy.grew k0).did d) G hL (by rw [d.ptr,t];exact q.did d y (by decide) (by decide)) (p.did d y (by decide) (by decide))).mono ?_;rintro e w' ⟨zo,zc,rfl,h1,h2,h3⟩;exact ⟨zo,n,zc,rfl,⟨⟨zo,zc,rfl⟩,h1.1,h1.2,fun b hb=>aR N (h2 b hb)⟩,h3⟩)
  (fun b0 V X W1 W2 v g k=>⟨g.1,g.2.1.kept k (fun b hb e=>by have:=g.2.2.2 b hb;omega),g.2.2.1.kept k (fun b hb e=>by have:=g.2.2.2 b hb;omega),g.2.2.2⟩) hE B
 have HN:Hid (E=0->n<=130):=fun h=>by
  obtain ⟨h1,_⟩:=hE.1 h;exact (Mod8.facts (⟨hm,hr,s,x,hK,h1⟩:Mod8 w o ao bo n l K a f ms rs)).1.2
 have HW:=aa hW;have z:=aa k0;have c0:=q.cell;have c1:=p.cell;obtain ⟨c2,c3,c4⟩:=aw C;rw [t] at j ⊢;clear ht hm hr hx hy s x D G hK H hE B t k0 q C p hW he y;go_enter func201,ntmps201;go_wp2_with fail;rw [<- HW.out];refine j.mono ?_;rintro e w1 ⟨zo,zn,zc,c,rfl,h1⟩;have H1:=aa h1;clear j h1 c0 c1 c2 c3 c4;go_wp2_with fail;go_ret2;refine ⟨zo,zn,zc,c,rfl,?_⟩;rcases H1.out with ⟨e0,hL,rfl,⟨b0,_,hA⟩,o',d⟩ | ⟨h2,h3,m,o',d⟩
 ·rw [ah ⟨HN.out e0,hL⟩] at d;exact .inl ⟨e0,hL,rfl,⟨hA.2.1,hA.2.2.1⟩,o',Did.after z.out d⟩
 ·exact .inr ⟨h2,h3,m,o',Did.after z.out d⟩

def nrm:List (Int × Int):=[(-30,-22),(-23,-34),(-5,-62),(9,-76),(14,-79),(29,-85),(32,-74),(35,-56),(41,-12),(41,0),(30,22),(23,34),(5,62),(-9,76),(-14,79),(-29,85),(-32,74),(-35,56),(-41,12),(-41,0)]

def crs (a b:Int × Int):Int:=a.1*b.2-a.2*b.1

def dom (t:Int × Int) (B:Int):Bool:=(nrm.zip (nrm.drop 1 ++ nrm.take 1)).any fun p=>decide (0<crs p.1 p.2) && decide (0<=crs t p.2) && decide (0<=crs p.1 t) && decide (crs t p.2+crs p.1 t<=crs p.1 p.2*B)

def InK (T F G:Int):Prop:=∀ n ∈ nrm,n.1*F+n.2*G<=T

theorem kN {t:Int × Int} {B T F G:Int} (hT:0<=T) (h:dom t B=true) (hk:InK T F G):t.1*F+t.2*G<=B*T:=by
 unfold dom at h;rw [List.any_eq_true] at h;obtain ⟨⟨n1,n2⟩,hm,hp⟩:=h;simp only [Bool.and_eq_true,decide_eq_true_eq] at hp;obtain ⟨⟨⟨h1,h2⟩,h3⟩,h4⟩:=hp;have m1:n1 ∈ nrm:=(List.of_mem_zip hm).1;have m2:n2 ∈ nrm:=by
  have:=(List.of_mem_zip hm).2;rw [List.mem_append] at this;rcases this with h | h
  ·exact List.mem_of_mem_drop h
  ·exact List.mem_of_mem_take h
 have e:crs n1 n2*(t.1*F+t.2*G)=crs t n2*(n1.1*F+n1.2*G)+crs n1 t*(n2.1*F+n2.2*G):=by
  unfold crs
  grind
 have a1:=ic (hk n1 m1) h2;have a2:=ic (hk n2 m2) h3;have a3:=lc h4 hT;rw [Int.add_mul] at a3;have:crs n1 n2*(t.1*F+t.2*G)<=crs n1 n2*(B*T):=by
  rw [e,<- ib];omega
 exact ot this h1

theorem qt:dom (41,0) 1=true/\dom (-41,0) 1=true/\dom (0,67) 1=true/\dom (0,-67) 1=true:=by decide +kernel

def FK (e:Nat) (q:Int) (n:Int × Int):Int × Int:=(17^e*(-(2^(e-1))*n.2),17^e*(n.1*2^(e+1)+n.2*q))

theorem zg:∀ e ∈ [1,2,3,4,5,6,7],∀ n ∈ nrm,dom (FK e 1 n) (42^e)=true/\dom (FK e (2^(e+1)-1) n) (42^e)=true:=by decide +kernel

theorem yM:∀ n ∈ nrm,(-85<=n.2/\n.2<=85)/\(n.1+n.2<=114/\n.1-n.2<=114/\-n.1+n.2<=114/\-n.1-n.2<=114):=by decide +kernel

theorem AK {x y X Y:Int} (h1:-X<=x) (h2:x<=X) (h3:-Y<=y) (h4:y<=Y):x*y<=X*Y:=by
 have e1:x.natAbs<=X.toNat:=by omega
 have e2:y.natAbs<=Y.toNat:=by omega
 have h:=fh e1 e2;rw [<- Int.natAbs_mul] at h;have hX:(X.toNat:Int)=X:=by omega
 have hY:(Y.toNat:Int)=Y:=by omega
 have:((x*y).natAbs:Int)<=((X.toNat*Y.toNat:Nat):Int):=by exact_mod_cast h
 rw [Int.natCast_mul,hX,hY] at this;have:=Int.le_natAbs (a:=x*y);omega

theorem Cs (k:Nat):(24391:Int)*17^(8+k)<=5494*21^(8+k):=by
 induction k with
 | zero=>decide
 | succ k ih=>
  rw [<- iG,lh,lh];have:(0:Int)<17^(8+k):=ie (by omega);have:(0:Int)<21^(8+k):=ie (by omega);omega

theorem Fd {e:Nat} {q T F G:Int} (he:1<=e) (j:1<=q) (i:q<=2^(e+1)-1) (hT:0<=T) (hk:InK T F G) {n:Int × Int} (hn:n ∈ nrm):17^e*(-(2^(e-1))*n.2*F+(n.1*2^(e+1)+n.2*q)*G)<=42^e*T:=by
 by_cases h7:e<=7
 ·have hm:e ∈ [1,2,3,4,5,6,7]:=by
   have:e=1\/e=2\/e=3\/e=4\/e=5\/e=6\/e=7:=by omega
   simpa using this
  obtain ⟨d1,d2⟩:=zg e hm n hn;have a1:=kN hT d1 hk;have a2:=kN hT d2 hk;unfold FK at a1 a2;dsimp only at a1 a2;generalize (2:Int)^(e+1)=Q at *;generalize (2:Int)^(e-1)=P at *;generalize (17:Int)^e=A at *;generalize (42:Int)^e*T=Z at *;obtain ⟨a,b⟩:=n;dsimp only at *;rcases Int.lt_or_le 2 Q with h | h
  ·have b1:=ic a1 (show 0<=Q-1-q by omega);have b2:=ic a2 (show 0<=q-1 by omega);have e1:(Q-2)*(A*(-P*b*F+(a*Q+b*q)*G))=(Q-1-q)*(A*(-P*b)*F+A*(a*Q+b*1)*G)+(q-1)*(A*(-P*b)*F+A*(a*Q+b*(Q-1))*G):=by grind
   have e2:(Q-2)*Z=(Q-1-q)*Z+(q-1)*Z:=by grind
   refine ot (a:=Q-2) ?_ (by omega);rw [e1,e2];exact Int.add_le_add b1 b2
  ·obtain rfl:q=1:=by omega
   have e1:A*(-P*b*F+(a*Q+b*1)*G)=A*(-P*b)*F+A*(a*Q+b*1)*G:=by grind
   rw [e1];exact a1
 ·obtain ⟨k,rfl⟩:∃ k,e=8+k:=⟨e-8,by omega⟩
  have c1:=kN hT qt.1 hk;have c2:=kN hT qt.2.1 hk;have c3:=kN hT qt.2.2.1 hk;have c4:=kN hT qt.2.2.2 hk;dsimp only at c1 c2 c3 c4;obtain ⟨⟨n1,n2⟩,n3,n4,n5,n6⟩:=yM n hn;obtain ⟨a,b⟩:=n;dsimp only at n1 n2 n3 n4 n5 n6 ⊢;have hl:=Cs k;have d:(42:Int)^(8+k)=2*(2^(8+k-1))*21^(8+k):=by
   rw [show (42:Int)=2*21 by rfl,Int.mul_pow,<- Int.pow_succ',show 8+k-1+1=8+k by omega]
  have eQ:(2:Int)^(8+k+1)=4*2^(8+k-1):=by
   rw [show 8+k+1=(8+k-1)+2 by omega,Int.pow_add];omega
  rw [eQ] at i ⊢;rw [d];have hP:(0:Int)<2^(8+k-1):=ie (by omega);have hA:(0:Int)<17^(8+k):=ie (by omega);generalize (2:Int)^(8+k-1)=P at *;generalize (17:Int)^(8+k)=A at *;generalize (21:Int)^(8+k)=C at *;have d1:-b*(41*F)<=85*T:=AK (by omega) (by omega) (by omega) (by omega)
  -- the second coefficient
  have f:a*(4*P)+b*q<=456*P:=by
   rcases Int.le_total 0 b with h | h
   ·have:=ic (show q<=4*P by omega) h;have h2:=lc n3 (show 0<=4*P by omega);rw [Int.add_mul] at h2;omega
   ·have:=ic (show 0<=q by omega) (show 0<=-b by omega);have h2:=lc (show a<=114 by omega) (show 0<=4*P by omega);rw [Int.mul_zero,Int.neg_mul] at this;omega
  have g:-(456*P)<=a*(4*P)+b*q:=by
   rcases Int.le_total 0 b with h | h
   ·have:=ic (show 0<=q by omega) h;have h2:=lc (show -114<=a by omega) (show 0<=4*P by omega);rw [Int.mul_zero] at this;omega
   ·have:=ic (show q<=4*P by omega) (show 0<=-b by omega);have h2:=lc n6 (show 0<=4*P by omega);rw [Int.sub_mul,Int.neg_mul] at h2;rw [Int.neg_mul,Int.neg_mul] at this;omega
  have d2:(a*(4*P)+b*q)*(67*G)<=456*P*T:=AK g f (by omega) (by omega);generalize a*(4*P)+b*q=c at *
  -- 41*67 times what is asked
  have d3:2747*(-P*b*F+c*G)<=24391*(P*T):=by
   have h1:=ic d1 (show 0<=67*P by omega);have e1:2747*(-P*b*F+c*G)=67*P*(-b*(41*F))+41*(c*(67*G)):=by grind
   have e2:67*P*(85*T)=5695*(P*T):=by grind
   have e3:41*(456*P*T)=18696*(P*T):=by grind
   rw [e1];omega
  have h1:=ic d3 (show 0<=A by omega);have h2:=lc hl (show 0<=P*T from lf (by omega) hT);refine ot (a:=2747) ?_ (by omega);have e1:2747*(A*(-P*b*F+c*G))=A*(2747*(-P*b*F+c*G)):=by grind
  have e2:A*(24391*(P*T))=24391*A*(P*T):=by grind
  have e3:5494*C*(P*T)=2747*(2*P*C*T):=by grind
  rw [e1];omega

theorem Bt {e:Nat} {q T F G f g:Int} (he:1<=e) (i:1<=q) (j:q<=2^(e+1)-1) (hT:0<=T) (hk:InK T F G) (h1:G=2^(e-1)*f) (h2:2^(e+1)*g=q*f-F):InK (21^e*T) (34^e*f) (34^e*g):=by
 intro n hn;have c:=Fd he i j hT hk hn;obtain ⟨k,rfl⟩:∃ k,e=k+1:=⟨e-1,by omega⟩
 have h:(42:Int)^(k+1)=2*2^k*21^(k+1):=by
  rw [show (42:Int)=2*21 by rfl,Int.mul_pow,Int.pow_succ']
 have d:(34:Int)^(k+1)=2*2^k*17^(k+1):=by
  rw [show (34:Int)=2*17 by rfl,Int.mul_pow,Int.pow_succ']
 have eQ:(2:Int)^(k+1+1)=4*2^k:=by
  rw [lh,lh];omega
 rw [ij] at h1 c;rw [eQ] at h2 c;rw [h] at c;rw [d];have hP:(0:Int)<2^k:=ie (by omega);generalize (2:Int)^k=P at *;generalize (17:Int)^(k+1)=A at *;generalize (21:Int)^(k+1)=C at *;obtain ⟨a,b⟩:=n;dsimp only at c ⊢;have e1:A*(-P*b*F+(a*(4*P)+b*q)*G)=2*P*(a*(2*P*A*f)+b*(2*P*A*g)):=by
  have:F=q*f-4*P*g:=by omega
  rw [h1,this]
  grind
 rw [e1,show 2*P*C*T=2*P*(C*T) by grind] at c;exact ot c (by omega)

def dst (s:Int × Int × Int):Int × Int × Int:=if 0<s.1/\s.2.2%2=1 then (1-s.1,s.2.2,(s.2.2-s.2.1)/2) else (1+s.1,s.2.1,(s.2.2+s.2.2%2*s.2.1)/2)

def iK (s:Int × Int × Int):Nat->Int × Int × Int
 | 0=>s
 | t+1=>dst (iK s t)

def Cb (B:Int) (t:Nat) (s:Int × Int × Int):Prop:=
 ∃ (w:Nat) (F G:Int),InK (21^w*B) (34^w*F) (34^w*G)/\s.2.1%2=1/\F%2=1 /\
  ((∃ k:Nat,s.1=1+k/\t=2*w+k/\F=s.2.1/\G=2^k*s.2.2) \/
   (∃ (k i:Nat) (q:Int),i<=k/\s.1=(i:Int)-k/\t=2*w+k+1+i/\G=2^k*s.2.1/\2^(i+1)*s.2.2=q*s.2.1-F/\1<=q/\q<=2^(i+1)-1))

theorem yj {B:Int} (hB:0<=B) {t:Nat} {s:Int × Int × Int} (h:Cb B t s):Cb B (t+1) (dst s):=by
 obtain ⟨d,f,g⟩:=s;obtain ⟨w,F,G,hk,hf,hF,hc⟩:=h;dsimp only at hf hc;rcases hc with ⟨k,rfl,rfl,rfl,rfl⟩ | ⟨k,i,q,hik,rfl,rfl,rfl,hg,hq1,hq2⟩
 ·by_cases hgo:g%2=1
  ·have e:dst (1+(k:Int),F,g)=(1-(1+(k:Int)),g,(g-F)/2):=by
    unfold dst;rw [ah ⟨by dsimp only;omega,hgo⟩]
   rw [e];refine ⟨w,F,2^k*g,hk,hgo,hF,.inr ⟨k,0,1,by omega,?_,by omega,rfl,?_,by omega,by decide⟩⟩
   ·dsimp only;omega
   ·dsimp only;rw [show (2:Int)^(0+1)=2 from rfl];omega
  ·have j:g%2=0:=by omega
   have e:dst (1+(k:Int),F,g)=(1+(1+(k:Int)),F,g/2):=by
    unfold dst;rw [ai (fun h=>hgo h.2)];dsimp only;rw [j,Int.zero_mul,Int.add_zero]
   rw [e];refine ⟨w,F,2^k*g,hk,hf,hF,.inl ⟨k+1,?_,by omega,rfl,?_⟩⟩
   ·dsimp only;omega
   ·dsimp only;have:g=2*(g/2):=by omega
    rw [lh,ib,<- this]
 ·obtain ⟨r,hr⟩:∃ r,r=g%2:=⟨_,rfl⟩
  have a:r=0\/r=1:=by omega
  have e:dst ((i:Int)-k,f,g)=(1+((i:Int)-k),f,(g+r*f)/2):=by
   unfold dst;rw [ai (fun h=>by have:=h.1;dsimp only at this;omega),hr]
  rw [e];have h2:2*((g+r*f)/2)=g+r*f:=by
   rcases a with rfl | rfl
   ·omega
   ·omega
  generalize (g+r*f)/2=g' at *;have hP:(0:Int)<2^(i+1):=ie (by omega);have c:(2:Int)^(i+1+1)=2*2^(i+1):=by rw [lh];omega
  have hn:2^(i+1+1)*g'=(q+2^(i+1)*r)*f-F:=by
   rw [c,show (2:Int)*2^(i+1)*g'=2^(i+1)*(2*g') by grind,h2,Int.mul_add,hg]
   grind
  have hq:1<=q+2^(i+1)*r/\q+2^(i+1)*r<=2^(i+1+1)-1:=by
   rw [c];rcases a with rfl | rfl
   ·rw [Int.mul_zero];omega
   ·rw [Int.mul_one];omega
  by_cases hlt:i<k
  ·refine ⟨w,F,2^k*f,hk,hf,hF,.inr ⟨k,i+1,q+2^(i+1)*r,by omega,?_,by omega,rfl,hn,hq.1,hq.2⟩⟩;dsimp only;omega
  ·obtain rfl:i=k:=by omega
   have b:=Bt (e:=i+1) (q:=q+2^(i+1)*r) (T:=21^w*B) (F:=34^w*F) (G:=34^w*(2^i*f)) (f:=34^w*f) (g:=34^w*g') (by omega) hq.1 hq.2 (lf (Int.le_of_lt (ie (by omega))) hB) hk (by rw [ij];grind) (by
    rw [show (2:Int)^(i+1+1)*(34^w*g')=34^w*(2^(i+1+1)*g') by grind,hn]
    grind)
   rw [<- ib,<- ib,<- ib,<- Int.pow_add,<- Int.pow_add] at b;refine ⟨i+1+w,f,g',b,hf,hf,.inl ⟨0,?_,by omega,rfl,?_⟩⟩
   ·dsimp only;omega
   ·dsimp only;rw [Int.pow_zero,jY]

theorem tY {M a:Int} {D:Nat} (hM:M%2=1) (h0:0<=a) (h1:a<=M) (h2:M<=2^D):Cb (67*2^D) 0 (1,M,a):=by
 refine ⟨0,M,a,?_,hM,hM,.inl ⟨0,by dsimp only;omega,by omega,rfl,?_⟩⟩
 ·rw [Int.pow_zero,Int.pow_zero,jY,jY,jY];generalize (2:Int)^D=X at *;intro n hn;simp only [nrm,fC,List.not_mem_nil,or_false] at hn;rcases hn with rfl | rfl | rfl | rfl | rfl | rfl | rfl | rfl | rfl | rfl | rfl | rfl | rfl | rfl | rfl | rfl | rfl | rfl | rfl | rfl <;> dsimp only <;> omega
 ·dsimp only;rw [Int.pow_zero,jY]

theorem su {M a:Int} {D:Nat} (hM:M%2=1) (h0:0<=a) (h1:a<=M) (h2:M<=2^D):∀ t,Cb (67*2^D) t (iK (1,M,a) t)
 | 0=>tY hM h0 h1 h2
 | t+1=>yj (lf (by omega) (Int.le_of_lt (ie (by omega)))) (su hM h0 h1 h2 t)

theorem vK {D w k h:Nat} (h1:34^w*2^k<=21^w*2^D) (hw:w<=h) (hk:h<=w+k):34^h<=2^D*21^h:=by
  obtain ⟨j,rfl⟩:∃ j,h=w+j:=⟨h-w,by omega⟩
  have h2:2^j<=2^k:=aY (by omega) (by omega)
  have h3:34^j<=42^j:=Nat.pow_le_pow_left (by omega) j
  rw [show (42:Nat)=2*21 from rfl,Nat.mul_pow] at h3
  calc 34^(w+j)=34^w*34^j:=aN _ _ _
    _<=34^w*(2^j*21^j):=bi _ h3
    _=34^w*2^j*21^j:=by rw [bf]
    _<=34^w*2^k*21^j:=bI _ (bi _ h2)
    _<=21^w*2^D*21^j:=bI _ h1
    _=2^D*21^(w+j):=by rw [aN];grind

theorem sI {w k D:Nat} {F G:Int} (hk:InK (21^w*(67*2^D)) (34^w*F) (34^w*(2^k*G))) (hG:G≠0):(34:Nat)^w*2^k<=21^w*2^D:=by
 have hT:(0:Int)<=21^w*(67*2^D):=lf (Int.le_of_lt (ie (by omega))) (lf (by omega) (Int.le_of_lt (ie (by omega))));have c3:=kN hT qt.2.2.1 hk;have c4:=kN hT qt.2.2.2 hk;dsimp only at c3 c4;have e1:((34^w*2^k:Nat):Int)=34^w*2^k:=by simp
 have e2:((21^w*2^D:Nat):Int)=21^w*2^D:=by simp
 have hX:(0:Int)<34^w*2^k:=Int.mul_pos (ie (by omega)) (ie (by omega));rw [<- ib (34^w)] at c3 c4;rw [show (21:Int)^w*(67*2^D)=67*(21^w*2^D) by grind] at c3 c4;have a:(34:Int)^w*2^k<=21^w*2^D:=by
  generalize (34:Int)^w*2^k=X at *;generalize (21:Int)^w*2^D=Y at *;generalize (34:Int)^w*F=Z at *;rcases Int.lt_or_le G 0 with h | h
  ·have:=ic (show G<=-1 by omega) (show 0<=X by omega);rw [show X * -1=-X by omega] at this;omega
  ·have:=ic (show 1<=G by omega) (show 0<=X by omega);rw [Int.mul_one] at this;omega
 omega

theorem yu {M a:Int} {D N:Nat} (hM:M%2=1) (h0:0<=a) (h1:a<=M) (h2:M<=2^D) (hN:2^D*21^(N/2)<34^(N/2)):(iK (1,M,a) N).2.2=0:=by
 obtain ⟨w,F,G,hk,hf,hF,hc⟩:=su hM h0 h1 h2 N;rcases hc with ⟨k,_,ht,_,rfl⟩ | ⟨k,i,q,hik,_,ht,rfl,_,_,_⟩
 ·by_cases hg:(iK (1,M,a) N).2.2=0
  ·exact hg
  ·have:=vK (sI hk hg) (show w<=N/2 by omega) (by omega);omega
 ·have:=vK (sI hk (by intro e;rw [e] at hf;omega)) (show w<=N/2 by omega) (by omega);omega

theorem vM {f x:Int} (hf:f%2=1):Int.gcd f (2*x)=Int.gcd f x:=by
 unfold Int.gcd;rw [Int.natAbs_mul];refine Nat.Coprime.gcd_mul_left_cancel_right _ ?_;show Nat.gcd 2 f.natAbs=1
 rw [Nat.gcd_rec,show f.natAbs%2=1 by omega];rfl

theorem Al {s:Int × Int × Int} (hf:s.2.1%2=1):(dst s).2.1%2=1/\Int.gcd (dst s).2.1 (dst s).2.2=Int.gcd s.2.1 s.2.2:=by
 obtain ⟨d,f,g⟩:=s;dsimp only at hf;unfold dst;dsimp only
 split
 ·rename_i h
  dsimp only;refine ⟨h.2,?_⟩;rw [<- vM h.2,show 2*((g-f)/2)=g-f by omega,Int.gcd_self_sub_right,Int.gcd_comm]
 ·rename_i h
  dsimp only;refine ⟨hf,?_⟩;have a:g%2=0\/g%2=1:=by omega
  have e:2*((g+g%2*f)/2)=g+g%2*f:=by
   rcases a with h0 | h0
   ·rw [h0];omega
   ·rw [h0];omega
  rw [<- vM hf,e,Int.gcd_add_mul_right_right]

theorem rk {s:Int × Int × Int} (hf:s.2.1%2=1):∀ t,(iK s t).2.1%2=1/\Int.gcd (iK s t).2.1 (iK s t).2.2=Int.gcd s.2.1 s.2.2
 | 0=>⟨hf,rfl⟩
 | t+1=>by
  obtain ⟨h1,h2⟩:=rk hf t;obtain ⟨h3,h4⟩:=Al h1;exact ⟨h3,h4.trans h2⟩

def stp (n:Nat):Nat:=(49*(64*n)+57)/17

theorem FW:∀ n,n<=130->1<=n->2^(64*n)*21^(stp n/2)<34^(stp n/2):=by decide +kernel

theorem Af {M a n:Nat} (hn:1<=n) (c:n<=130) (hM:M%2=1) (h1:a<=M) (h2:M<2^(64*n)) :
  (iK (1,(M:Int),(a:Int)) (stp n)).2.2=0/\(iK (1,(M:Int),(a:Int)) (stp n)).2.1.natAbs=Nat.gcd M a:=by
 have b:(M:Int)%2=1:=by omega
 have hz:=yu (M:=(M:Int)) (a:=(a:Int)) (D:=64*n) (N:=stp n) b (by omega) (by omega) (by
  have:((2^(64*n):Nat):Int)=2^(64*n):=by simp
  rw [<- this];omega) (FW n c hn)
 have hg:=(rk (s:=(1,(M:Int),(a:Int))) b (stp n)).2;rw [hz,Int.gcd_zero_right] at hg;exact ⟨hz,hg⟩

def tcN (B:Nat) (x:Int):Nat:=(if x<0 then (B:Int)+x else x).toNat

theorem Ib {B Q:Nat} {x:Int} (h0:-(Q:Int)<x) (h1:x<Q) (hB:4*Q<=B):tcN B x<B:=by
 unfold tcN
 split <;> omega

theorem BK (B x:Nat):tcN B (x:Int)=x:=by
 unfold tcN;rw [ai (by omega)];omega

theorem F8 {B Q:Nat} {g f:Int} (hg:-(Q:Int)<g/\g<Q) (hf:-(Q:Int)<f/\f<Q) (hB:4*Q<=B):(if tcN B g<tcN B f then tcN B g+B-tcN B f else tcN B g-tcN B f)=tcN B (g-f):=by
 unfold tcN
 split <;> split <;> split <;> split <;> omega

theorem FY {B Q:Nat} {g f:Int} (hg:-(Q:Int)<g/\g<Q) (hf:-(Q:Int)<f/\f<Q) (hB:4*Q<=B):(tcN B g+tcN B f)%B=tcN B (g+f):=by
 have h:tcN B g+tcN B f=tcN B (g+f)\/tcN B g+tcN B f=tcN B (g+f)+B:=by
  unfold tcN
  split <;> split <;> split <;> omega
 have hl:tcN B (g+f)<B:=by
  unfold tcN
  split <;> omega
 rcases h with h | h
 ·rw [h,ax hl]
 ·rw [h,my,ax hl]

theorem F7 {B Q:Nat} {g:Int} (hg:-(Q:Int)<g/\g<Q) (hB:4*Q<=B) (h2:B%2=0):((tcN B g%2:Nat):Int)=g%2:=by
 unfold tcN
 split <;> omega

def sgN (x:Int):Nat:=if x<0 then 1 else 0

theorem xL {B H Q:Nat} {x:Int} (hx:-(2*Q:Int)<=x/\x<2*Q) (hB:B=2*H) (hQ:2*Q<=H) (hH:0<H):tcN B x/H=sgN x:=by
 unfold tcN sgN
 split
 ·rw [Nat.div_eq_iff hH];omega
 ·rw [bj (by omega)]

theorem DN {B H Q:Nat} {x:Int} (hx:-(2*Q:Int)<=x/\x<2*Q) (hB:B=2*H) (hQ:2*Q<=H):(tcN B x+sgN x%2*B)/2=tcN B (x/2):=by
 unfold tcN sgN;by_cases h:x<0
 ·rw [ah h,ah h,ah (by omega)];omega
 ·rw [ai h,ai h,ai (by omega)];omega

theorem FZ {B Q:Nat} {f:Int} (hf:-(Q:Int)<f/\f<Q) (hB:4*Q<=B):(if 0<tcN B f then 0+B-tcN B f else 0-tcN B f)=tcN B (-f):=by
 unfold tcN
 split <;> split <;> split <;> omega

def swN (d g:Int):Nat:=if 0<d/\g%2=1 then 1 else 0

theorem ug (d f g:Int):dst (d,f,g)=((if swN d g=1 then 1-d else 1+d),(if swN d g=1 then g else f),(g+((g%2)-2*(swN d g:Int))*f)/2):=by
 unfold dst swN;by_cases h:0<d/\g%2=1
 ·rw [ah h,ah h,ah rfl,ah rfl,h.2];rw [show g+((1:Int)-2*((1:Nat):Int))*f=g-f by omega]
 ·rw [ai h,ai h,ai (by omega),ai (by omega)];rw [show g%2-2*((0:Nat):Int)=g%2 by omega]

def StIn (Q:Nat) (t:Nat) (s:Int × Int × Int):Prop:=(-(t:Int)<=s.1/\s.1<=t+1)/\(-(Q:Int)<s.2.1/\s.2.1<Q)/\(-(Q:Int)<s.2.2/\s.2.2<Q)

theorem StIn.step {Q t:Nat} {s:Int × Int × Int} (h:StIn Q t s):StIn Q (t+1) (dst s):=by
 obtain ⟨d,f,g⟩:=s;unfold StIn dst at *;dsimp only at h ⊢
 split
 ·dsimp only;omega
 ·dsimp only;have h2:g%2=0\/g%2=1:=by omega
  rcases h2 with h2 | h2 <;> rw [h2] <;> omega

theorem StIn.all {Q:Nat} {s:Int × Int × Int} (h:StIn Q 0 s):∀ t,StIn Q t (iK s t)
 | 0=>h
 | t+1=>(StIn.all h t).step

def CoOk (M a U V:Nat) (s:Int × Int × Int):Prop:=U<M/\V<M/\(M:Int) ∣ (U:Int)*a-s.2.1/\(M:Int) ∣ (V:Int)*a-s.2.2

theorem Ag {M:Nat} {x:Int} (hM:M%2=1) (h:(M:Int) ∣ 2*x):(M:Int) ∣ x:=by
 obtain ⟨z,hz⟩:=h;obtain ⟨q,hq⟩:∃ q:Int,(M:Int)=2*q+1:=⟨(M/2:Nat),by omega⟩
 refine ⟨x-q*z,?_⟩;rw [Int.mul_sub,show (M:Int)*(q*z)=q*(M*z) by grind,<- hz,hq]
 grind

theorem CoOk.step {M a U V U' V':Nat} {d f g:Int} (h:CoOk M a U V (d,f,g)) (hM:M%2=1) (hf:f%2=1) (hU:U'=if swN d g=1 then V else U) (hV:V'<M) (h2:(M:Int) ∣ 2*(V':Int)-(V+((g%2)-2*(swN d g:Int))*U)):CoOk M a U' V' (dst (d,f,g)):=by
 obtain ⟨h1,h3,h4,h5⟩:=h;dsimp only at h4 h5;rw [ug];refine ⟨?_,hV,?_,?_⟩
 ·rw [hU];split <;> assumption
 ·dsimp only;rw [hU]
  split <;> assumption
 ·dsimp only;obtain ⟨c,hc⟩:∃ c,c=g%2-2*(swN d g:Int):=⟨_,rfl⟩
  rw [<- hc] at h2 ⊢;have he:(g+c*f)%2=0:=by
   have j:g%2=0\/g%2=1:=by omega
   have hs:swN d g=0\/swN d g=1:=by unfold swN;split <;> omega
   have i:(c=0/\g%2=0)\/(c=1/\g%2=1)\/(c=-1/\g%2=1):=by
    unfold swN at hc hs;by_cases hh:0<d/\g%2=1
    ·rw [ah hh] at hc;omega
    ·rw [ai hh] at hc;omega
   rcases i with ⟨rfl,_⟩ | ⟨rfl,_⟩ | ⟨rfl,_⟩ <;> omega
  obtain ⟨G,hG⟩:∃ G,G=(g+c*f)/2:=⟨_,rfl⟩
  rw [<- hG];have b:2*G=g+c*f:=by omega
  apply Ag hM;have e:2*((V':Int)*a-G)=(2*(V':Int)-(V+c*U))*a+((V:Int)*a-g)+c*((U:Int)*a-f):=by
   have:2*((V':Int)*a-G)=2*(V':Int)*a-2*G:=by grind
   rw [this,b]
   grind
  rw [e];exact Int.dvd_add (Int.dvd_add (Int.dvd_mul_of_dvd_left h2) h5) (Int.dvd_mul_of_dvd_right h4)

theorem ES {n Q M U V sw od x L b D W ov S E o3 V':Nat} (hQ:Q=2^(64*n)) (hM:M<Q) (h2:M%2=1) (hU:U<M) (hV:V<M) (g:(sw=1/\od=1/\x=0)\/(sw=0/\od=1/\x=1)\/(sw=0/\od=0/\x=0))
  (hL:L=cC sw (fK V U n) V) (hb:b=cC sw (cY (decide (V<U))) 0) (hD:D=cC b (L+M) L%Q) (hW:W=cC x (D+U) D%Q) (ho:ov=cC x (cY (decide (Q<=D+U))) 0)
  (hS:S=mT W M ov n) (hE:E=cC (S%2) (S+M) S%Q) (h3:o3=cC (S%2) (cY (decide (Q<=S+M))) 0) (a:V'=(E+o3%2*Q)/2) :
  V'<M/\(M:Int) ∣ 2*(V':Int)-(V+((od:Int)-2*(sw:Int))*U):=by
 have fD:D=if sw=1 then gd V U M else V:=by
  unfold cC fK cY at *;unfold gd;rw [<- hQ] at hL;rcases g with ⟨rfl,_,_⟩ | ⟨rfl,_,_⟩ | ⟨rfl,_,_⟩
  ·rw [ah rfl] at hL hb ⊢;by_cases h:V<U
   ·rw [ah h] at hL;rw [dL h,ah rfl] at hb;rw [hb,ah rfl,hL,show V+Q-U+M=(V+M-U)+Q by omega,my,ax (by omega)] at hD;rw [ai (by omega),hD]
   ·rw [ai h] at hL;rw [cP h,ai (by decide)] at hb;rw [hb,ai (by decide),hL,ax (by omega)] at hD;rw [ah (by omega),hD]
  ·rw [ai (by decide)] at hL hb ⊢;rw [hb,ai (by decide),hL,ax (by omega)] at hD;exact hD
  ·rw [ai (by decide)] at hL hb ⊢;rw [hb,ai (by decide),hL,ax (by omega)] at hD;exact hD
 have lD:D<M:=by
  rw [fD];unfold gd
  split
  ·split <;> omega
  ·exact hV
 have hx:x=0\/x=1:=by omega
 have fS:S<M/\(S=D+x*U\/S+M=D+x*U):=by
  have d:lO W M ov=0->S=W:=fun h=>by rw [hS];unfold mT cC;rw [h];rfl
  have f:lO W M ov=1->S=if W<M then W+Q-M else W-M:=fun h=>by rw [hS];unfold mT cC fK;rw [h,<- hQ];rfl
  have t0:¬ (ov=1\/M<=W)->lO W M ov=0:=fun h=>ai h
  have t1:(ov=1\/M<=W)->lO W M ov=1:=fun h=>ah h
  unfold cC at hW ho;unfold cY at ho;rcases hx with rfl | rfl
  ·rw [ai (by decide)] at hW ho;rw [ax (by omega)] at hW;have:=d (t0 (by omega));omega
  ·rw [ah rfl] at hW ho;by_cases h:Q<=D+U
   ·rw [dL h,ah rfl] at ho;have l:W=D+U-Q:=by
     rw [hW,show D+U=(D+U-Q)+Q by omega,my,ax (by omega)];omega
    have:=f (t1 (.inl ho));rw [ah (by omega)] at this;omega
   ·rw [cP h,ai (by decide)] at ho;rw [ax (by omega)] at hW;by_cases hh:M<=D+U
    ·have:=f (t1 (.inr (by omega)));rw [ai (by omega)] at this;omega
    ·have:=d (t0 (by omega));omega
 have fV:V'=Ao S M:=by
  unfold Ao cC cY at *;by_cases hs:S%2=1
  ·rw [hs,ah rfl] at hE h3;rw [ah hs];by_cases h:Q<=S+M
   ·rw [dL h,ah rfl] at h3;have i:E=S+M-Q:=by
     rw [hE,show S+M=(S+M-Q)+Q by omega,my,ax (by omega)];omega
    rw [a,i,h3];omega
   ·rw [cP h,ai (by decide)] at h3;rw [ax (by omega)] at hE;rw [a,hE,h3];omega
  ·have j:S%2=0:=by omega
   rw [j,ai (by decide)] at hE h3;rw [ai hs];rw [ax (by omega)] at hE;rw [a,hE,h3];omega
 have f2:V'<M/\(2*V'=S\/2*V'=S+M):=by
  rw [fV];unfold Ao
  split <;> omega
 refine ⟨f2.1,?_⟩;have f3:∃ k:Int,(D:Int)+x*U=V+((od:Int)-2*(sw:Int))*U+k*M:=by
  rw [fD];unfold gd;rcases g with ⟨rfl,rfl,rfl⟩ | ⟨rfl,rfl,rfl⟩ | ⟨rfl,rfl,rfl⟩
  ·rw [ah rfl];by_cases h:U<=V
   ·rw [ah h];exact ⟨0,by omega⟩
   ·rw [ai h];exact ⟨1,by omega⟩
  ·rw [ai (by decide)];exact ⟨0,by omega⟩
  ·rw [ai (by decide)];exact ⟨0,by omega⟩
 obtain ⟨k,hk⟩:=f3;have m:((x*U:Nat):Int)=x*U:=by simp
 generalize (od:Int)-2*(sw:Int)=c at *;generalize c*(U:Int)=cU at *;generalize (x:Int)*(U:Int)=xI at *;generalize x*U=xU at *;rcases f2.2 with e | e
 ·rcases fS.2 with e2 | e2
  ·exact ⟨k,by rw [Int.mul_comm (M:Int)];omega⟩
  ·exact ⟨k-1,by rw [Int.mul_comm (M:Int),Int.sub_mul];omega⟩
 ·rcases fS.2 with e2 | e2
  ·exact ⟨k+1,by rw [Int.mul_comm (M:Int),Int.add_mul];omega⟩
  ·exact ⟨k,by rw [Int.mul_comm (M:Int)];omega⟩

theorem CG {M a U:Nat} {d F G:Int} {V:Nat} (h:CoOk M a U V (d,F,G)) (hM:2<=M) (hF:F.natAbs=1):(if F<0 then gd 0 U M else U)<M/\a*(if F<0 then gd 0 U M else U)%M=1:=by
 obtain ⟨h1,_,h3,_⟩:=h;dsimp only at h3;obtain ⟨k,hk⟩:=h3;by_cases hn:F<0
 ·obtain rfl:F=-1:=by omega
  rw [ah hn];unfold gd;by_cases h0:U<=0
  ·obtain rfl:U=0:=by omega
   exfalso
   rw [show ((0:Nat):Int)*(a:Int)-(-1)=1 by omega] at hk;have:(M:Int) ∣ 1:=⟨k,hk⟩
   have:=Int.le_of_dvd (by omega) this;omega
  ·rw [ai h0];refine ⟨by omega,?_⟩;have e:((a*(0+M-U):Nat):Int)=1+M*(a-k):=by
    rw [show 0+M-U=M-U by omega,Int.natCast_mul,Int.natCast_sub (by omega),Int.mul_sub,Int.mul_sub,<- hk]
    grind
   have e2:((a*(0+M-U)%M:Nat):Int)=1:=by
    rw [Int.natCast_emod,e,Int.add_mul_emod_self_left,Int.emod_eq_of_lt (by omega) (by omega)]
   omega
 ·obtain rfl:F=1:=by omega
  rw [ai hn];refine ⟨h1,?_⟩;have e:((a*U:Nat):Int)=1+M*k:=by
   rw [Int.natCast_mul,<- hk]
   grind
  have e2:((a*U%M:Nat):Int)=1:=by
   rw [Int.natCast_emod,e,Int.add_mul_emod_self_left,Int.emod_eq_of_lt (by omega) (by omega)]
  omega

end Go.Proofs.YtkaojflnghfmcaaGreatDoor
