/- Put together of: Mir7 Mir8 Siv1 Seq4 Arr0 Siv2. -/
import Derived.Test.YtcemlfokmjjiaaaGreatDoorPf20
import Derived.WalkMore
import Derived.Scope

namespace Go.Proofs.YtcemlfokmjjiaaaGreatDoor
set_option maxRecDepth 100000
set_option maxHeartbeats 4000000
open Go.RowKit

theorem Bases.keptS {S:Nat→Prop} {w w':World} {base:Nat} {a:Value} {L:Nat} {b:List (List Nat)} (h:Bases w base a L b) (k:Kept S w w') (hb:∀ x,base≤x→¬ S x) (c:∀ v zs,Row .u64 w v zs→zs≠[]→∀ x,v.ownBlock=some x→¬ S x):Bases w' base a L b:=by
 obtain ⟨h1,A,C,h2,h3⟩:=h;refine ⟨h1,A,C,k.own h2 (fun x hx=>hb x (World.ownsRow.lt h2 x hx).1),fun j hj=>⟨?_,(h3 j hj).2⟩⟩;exact (h3 j hj).1.kept' k (fun d x hx=>c _ _ (h3 j hj).1 d x hx)

def yV (xs:List Nat) (k:Nat) (r:Bool × List (List Nat) × Nat × List Nat) (pb:Bool) (acc:List (List Nat)) (ds:List Nat):Prop:=
 (pb=true∧∃ g,ds.length<g∧jv xs k g acc.length ds acc=r)∨(pb=false∧(false,acc,0,ds)=r)

theorem RndNext.st {xs:List Nat} {X k i:Nat} {a:List (List Nat)} {r:Bool × List (List Nat) × Nat × List Nat} {x ds:List Nat} (h:RndNext xs X k i a r x ds) (hi:a.length=i):yV xs k r (fq X (val x)) (a ++ [x]) ds:=by
 obtain ⟨_,f,h1,h2⟩:=h;cases hb:fq X (val x) with
 | true=>
  rw [hb,if_pos rfl] at h2;exact .inl ⟨rfl,f,h1,by rw [List.length_append,hi];exact h2⟩
 | false=>
  rw [hb,if_neg (by decide)] at h2;exact .inr ⟨rfl,h2⟩

def uy (w:World) (p:Option Addr) (B L bI bR:Nat) (r1:Bool) (r2:List (List Nat)) (r3:Nat) (r4:List Nat) (e:Ending) (w':World):Prop:=
 (r3=0∧e=.returned (.tuple #[])∧∃ v w1,Bases w1 w.heap.size v L r2∧Lsc w1 p B r4∧Kept (ofP p) w w1∧w'=(w1.setCell ⟨bI,0,none⟩ (.bool r1)).setCell ⟨bR,0,none⟩ v) ∨
 (r3≠0∧e=.panicked [refusal (r3:Nat)]∧r1=false∧r2=[]∧Lsc w' p B r4∧Kept (ofP p) w w')

theorem tk (co p:Option Addr) (L cap B bN bK bS bI bR:Nat) (k:Int) (xs cs:List Nat) (r1:Bool) (r2:List (List Nat)) (r3:Nat) (r4:List Nat) (c:f8 xs k cs=(r1,r2,r3,r4)) (a9:-9223372036854775808≤k) (bh:k≤9223372036854775807) (w:World)
  (hu:Row .u64 w (.slice co L cap) xs) (hd:Digs xs) (hL:L≤1000000) (hs:Lsc w p B cs) (aR:Digs cs 256) (lN:B≤bN) (lK:B≤bK) (lS:B≤bS) (lI:B≤bI) (lR:B≤bR) (aV:bI≠bR)
  (ah:Box w bN (.slice co L cap) 32) (aG:Box w bK (.int .i64 k) 3) (aS:Box w bS (.pointer p) 26) (aT:Box w bI (.bool false) 4) (a0:Box w bR (.slice none 0 0) 86) :
  Calls Tryz.prog 123 #[.pointer (some ⟨bN,0,none⟩),.pointer (some ⟨bK,0,none⟩),.pointer (some ⟨bS,0,none⟩),.pointer (some ⟨bI,0,none⟩),.pointer (some ⟨bR,0,none⟩)] w fun e w'=>uy w p B L bI bR r1 r2 r3 r4 e w':=by
 obtain ⟨i0,bg,bc,bo,bl⟩:=info_parts Tryz.infoN32;obtain ⟨X,hX⟩:∃ X,X=val xs:=⟨_,rfl⟩
 unfold f8 at c;rw [← hX] at c;obtain ⟨O,hO⟩:∃ O,O=jJ X:=⟨_,rfl⟩
 rw [← hO] at c;have ar:Hid (∀ x,ofP p x→x<B):=fun x hx=>(hs.inP hx).1
 have G:∀ b,B≤b→¬ ofP p b:=fun b hb e=>by have:=ar.out b e;omega
 have o:=ky co L cap xs O (by rw [hO,hX]) w hu hd hL;have JB:Hid (∀ W,Kept (ofP p) w W→W.cell? ⟨bN,0,none⟩=some (.slice co L cap)∧W.cell? ⟨bK,0,none⟩=some (.int .i64 k)∧W.cell? ⟨bS,0,none⟩=some (.pointer p)):=fun W kk=>⟨(ah.kept kk (G _ lN)).cell,(aG.kept kk (G _ lK)).cell,(aS.kept kk (G _ lS)).cell⟩
 have JO:Hid (∀ W,Kept (ofP p) w W→Box W bI (.bool false) 4∧Box W bR (.slice none 0 0) 86):=fun W kk=>⟨aT.kept kk (G _ lI),a0.kept kk (G _ lR)⟩
 have ac:Hid (B≤w.heap.size):=Nat.le_of_lt (Nat.lt_of_le_of_lt lN ah.lt);have bn:=aa aV;have HS:=aa hs;have HU:=aa hu;have HO:=aa hO;have HX:=aa hX;have a6:=aa aR;obtain ⟨b0,b1,b2⟩:=JB.out _ (ai _ w);obtain ⟨_,_,_,e1,aO,_⟩:=hu.open;cases e1
 have aJ:=aa aO.out;have q:=e8 1 w;have l:=eX 1 w;clear G hs hu hO hX aR lN lK lS lI lR aV ah aG aS aT a0 aO;by_cases hO0:O=0
 ·subst hO0;have aM:jJ X=0:=HO.out.symm;rw [if_neg (by omega)] at c;have a:Calls Tryz.prog 124 #[.slice co L cap] w fun e w'=>e=.returned (.tuple #[])∧w'=w:=by
   refine o.mono ?_;rintro e w' ⟨⟨_,rfl⟩ | ⟨h,_⟩,rfl⟩
   ·exact ⟨rfl,rfl⟩
   ·exact absurd rfl h
  clear o;by_cases hkb:k<0∨100<k
  ·rw [if_pos hkb] at c;simp only [Prod.mk.injEq] at c;obtain ⟨rfl,rfl,rfl,rfl⟩:=c;clear l;by_cases hkn:k<0
   ·clear hkb;go_enter Tryz.func123,Tryz.ntmps123;go_wp2_with fail;refine a.mono ?_;rintro e w1 ⟨rfl,rfl⟩;go_wp2_with fail;refine q.mono ?_;rintro e w2 ⟨rfl,rfl⟩;exact ⟨rfl,.inr ⟨by omega,rfl,rfl,rfl,HS.out,ai _ _⟩⟩
   ·have bt:100<k:=by omega
    have q1:decide (k<0)=false:=aC hkn;clear hkb;go_enter Tryz.func123,Tryz.ntmps123;go_wp2_with fail;refine a.mono ?_;rintro e w1 ⟨rfl,rfl⟩;go_wp2_with fail;refine q.mono ?_;rintro e w2 ⟨rfl,rfl⟩;exact ⟨rfl,.inr ⟨by omega,rfl,rfl,rfl,HS.out,ai _ _⟩⟩
  ·rw [if_neg hkb] at c;obtain ⟨n,rfl⟩:∃ n:Nat,k=(n:Int):=⟨k.toNat,by omega⟩
   rw [Int.toNat_natCast] at c;have hn:n≤100:=by omega
   have q1:¬ (n:Int)<0:=by omega
   have q2:¬ (n:Int) > 100:=by omega
   have aY:¬ (100:Int)<(n:Int):=by omega
   have d1:decide ((n:Int)<0)=false:=aC q1;have d2:decide ((n:Int) > 100)=false:=aC q2;have ba:decide ((100:Int)<(n:Int))=false:=aC aY;have aI:=AE co L cap xs X HX.out aM w HU.out hd hL;have aZ:=aa c;clear hkb a9 bh c q aM;go_enter Tryz.func123,Tryz.ntmps123;go_wp2_with fail;refine a.mono ?_;rintro e w1 ⟨rfl,rfl⟩;clear a;go_wp2_with fail;try rw [d1]
   refine l.mono ?_;rintro e w2 ⟨rfl,rfl⟩;clear l q1 q2 aY d1 d2 ba;go_wp2_with fail;refine aI.mono ?_;rintro e w3 ⟨no,ro,lo,oo,m,mc,rc,lc,oc,K,s,rfl,hN,k3⟩;obtain ⟨W3,S⟩:∃ W3,W3=w3.alloc (.cells (fC no ro lo oo m mc rc lc oc K s) 150):=⟨_,rfl⟩
   have k4:Kept af w3 W3:=by rw [S];exact (ai af w3).alloc _
   have az:W3.heap[w3.heap.size]? = some (.cells (fC no ro lo oo m mc rc lc oc K s) 150 (0,0)):=by rw [S];exact heap_alloc_new _ _
   have F:=aa (k3.trans k4);have be:Hid (B≤w3.heap.size):=Nat.le_trans ac.out k3.size;have JC:Hid (∀ W',Kept (ofP p) W3 W'→W'.cell? ⟨w3.heap.size,0,none⟩=some (.slice no m mc)∧W'.cell? ⟨w3.heap.size,1,none⟩=some (.int .u64 (K:Nat))∧W'.cell? ⟨w3.heap.size,2,none⟩=some (.slice ro m rc)∧W'.cell? ⟨w3.heap.size,3,none⟩=some (.slice lo m lc)∧W'.cell? ⟨w3.heap.size,4,none⟩=some (.slice oo m oc)∧W'.cell? ⟨w3.heap.size,5,none⟩=some (.int .i64 (s:Nat))):=fun W' kk=>fA ((kk.block _ (lt_of_block az) (fun e=>by have:=ar.out _ e;have:=be.out;omega)).trans az)
   have T:=aa (HS.out.grew F.out);have bm:=aa (hN.grew k4);have aQ:=aa (HU.out.grew F.out);have aU:Hid (∀ W',Kept (ofP p) W3 W'→Num17 W' X no ro lo oo m mc rc lc oc K s):=fun W' kk=>bm.out.scr T.out kk
   have bk:Hid (∀ W',Kept (ofP p) W3 W'→Row .u64 W' (.slice co L cap) xs):=fun W' kk=>aQ.out.kept' kk (fun ak=>T.out.apart aQ.out ak)
   have aX:=aa S;have bs:=hN.big;have a3:0<L:=by
    rcases Nat.eq_zero_or_pos L with e | e
    ·have h1:=aJ.out;rw [e] at h1;have h2:=List.length_eq_zero_iff.1 h1;have h3:=HX.out;rw [h2] at h3;have h4:val []=0:=rfl;omega
    ·exact e
   unfold fC at aX ⊢;clear aI hN k3 k4 az S b0 b1 b2 HS HU;go_wp2_with (rw [← aX.out]);go_loopw [6,7] (fun pv tv wr=>∃ (pb:Bool) (i:Nat) (qo:Option Addr) (tc:Nat) (d:List (List Nat)) (ds:List Nat),pv=.bool pb∧tv=.slice qo i tc∧i≤n∧Hid (d.length=i)∧Hid (yV xs n (r1,r2,r3,r4) pb d ds)∧Hid (Bases wr W3.heap.size (.slice qo i tc) L d)∧Hid (Lsc wr p B ds)∧Hid (Digs ds 256)∧Hid (Kept (ofP p) W3 wr)) (fun _ _ wr=>eJ p wr)
   case atStart=>exact ⟨true,0,none,0,[],cs,rfl,rfl,Nat.zero_le _,rfl,.inl ⟨rfl,cs.length+1,by omega,aZ.out⟩,Bases.nil _ _ _,T.out,a6.out,ai _ _⟩
   case round=>
    clear T aZ;obtain ⟨pb,i,qo,tc,d,ds,rfl,rfl,bu,C,bi,aA,ad,a1,I⟩:=hrel;have KW:=F.out.any.trans I.out;obtain ⟨c0,c1,c2⟩:=JB.out _ KW;have U:=aa KW;clear KW;have f:Hid ((r1,r2,r3,r4)=(pb,d,0,ds)→uy w2 p B L bI bR r1 r2 r3 r4 (.returned (.tuple #[])) ((wr.setCell ⟨bI,0,none⟩ (.bool pb)).setCell ⟨bR,0,none⟩ (.slice qo i tc))):=fun e=>by
     simp only [Prod.mk.injEq] at e;obtain ⟨rfl,rfl,rfl,rfl⟩:=e;exact .inl ⟨rfl,rfl,_,wr,aA.out.base F.out.size,ad.out,U.out,rfl⟩
    have D:=JO.out _ U.out;have cI:=D.1.cell;have fI:=D.1.free;have al:=D.2.other ⟨bI,0,none⟩ (fun e=>bn.out e.symm) (.bool pb);have cR:=al.cell;have fR:=al.free;have bf:=D.2.cell;have br:=D.2.free;clear D al;rcases bi.out with ⟨hpb,g,hg,heq⟩ | ⟨hpb,heq⟩
    ·subst hpb;by_cases hik:i<n
     ·have a4:(i:Int)<(n:Int):=by omega
      have aD:=zk no ro lo oo co p m mc rc lc oc K s X L cap B n i g xs ds d (r1,r2,r3,r4) HX.out hik hg (by rw [← C.out];exact heq) wr (aU.out _ I.out) (bk.out _ I.out) hd hL ad.out (Nat.le_trans ac.out U.out.size) a1.out;obtain ⟨p0,p1,p2,p3,p4,p5⟩:=JC.out _ I.out;unfold fC at aD;have ay:=aa ad.out.left;have ag:=aa (fun v zs (h:Row .u64 wr v zs) ak=>ad.out.apart h ak);have bb:Hid (∀ y,(Value.slice qo i tc).ownBlock=some y→W3.heap.size≤y∧y<wr.heap.size):=fun y hy=>by
       obtain ⟨_,_,_,a7⟩:=aA.out;exact World.ownsRow.lt a7.1 y hy
      clear heq hg cI fI cR fR bf br f;go_wp2_with fail;refine aD.mono ?_;rintro e w5 (⟨v,x,aW,rfl,⟨aB,aP⟩,aw,ab,aK,M,k5⟩ | ⟨E,aW,rfl,bj,heq,ab,k5⟩)
      ·have au:x.length=L:=aw.1.1.trans aJ.out;obtain ⟨uo,uc,rfl⟩:=rT aB au;have av:=aa aw;have bq:=aa ab;have bp:=aa aK;have aF:=aa M;have V:=I.out.trans k5;have a8:=aA.out.keptS k5 (fun y hy e=>by have:=ar.out y e;have:=F.out.size;have:=ac.out;omega) ag.out;have ax:=k5.size;have RU:=aB;have J:∀ y,(Value.slice uo L uc).ownBlock=some y→wr.heap.size≤y:=aP;obtain ⟨aL,GA,GC,hG⟩:=a8;have aj:=hG.grew ((ai af w5).alloc (.cells #[.slice uo L uc] 32));have A:=World.ownsRow.lt hG.1;have ae:=aj.1;have an:=aa (RU.grew ((ai af w5).alloc (.cells #[.slice uo L uc] 32)));have aE:x≠[]:=fun e=>by subst e;simp at au;omega
       rw [C.out] at ae;have R:=aa V;have bv:Hid (wr.heap.size≤w5.heap.size∧W3.heap.size≤w5.heap.size):=⟨ax,V.size⟩
       have a5:W3.heap.size≤w5.heap.size:=V.size;clear aD aB aP aw ab aK M k5 RU V p0 p1 p2 p3 p4 p5;go_wp2_with (at_builtin;refine wpList_append_lies _ rfl _ _ 86 rfl W3.heap.size 32 i0 _ 1 24 Tryz.underlying86 bg bc bo bl rfl (by omega) _ _ _ rfl ae ⟨w5.heap.size,0,none⟩ 1 1 [.slice uo L uc] rfl rfl (dK w5 _ _) (by simp [Value.oneCell']) (by omega) (by unfold maxLen;omega) (by omega) (by simp;omega) (w5.heap.size+1) (by simp) ?_;intro gg c' Q P hg aN bd;have ao:Hid (Kept (ofP p) W3 Q):=(R.out.alloc _).grown hg (fun y hy hlt=>by have:=(A y hy).1;omega);obtain ⟨p0,p1,p2,p3,p4,p5⟩:=JC.out _ ao.out)
       have Z:(w5.alloc (.cells #[.slice uo L uc] 32)).grownBy Q (Value.slice qo i tc).ownBlock:=hg;have z:(Value.slice qo i tc).ownBlock=some gg∨gg=(w5.alloc (.cells #[.slice uo L uc] 32)).heap.size:=(show (Value.slice qo i tc).ownBlock=some gg∨gg=w5.heap.size+1 from aN).imp id (fun h=>by simpa using h);have r:Q.ownsRow W3.heap.size 32 1 (.slice (some ⟨gg,0,none⟩) (d.length+1) c') (d.length+1) (((List.range d.length).map fun j=>.slice (GA j) L (GC j)) ++ [.slice uo L uc]):=by rw [C.out];exact P
       have aq:∀ y,(Value.slice uo L uc).ownBlock=some y→(Value.slice qo i tc).ownBlock≠some y:=fun y hy e=>by have:=J y hy;have:=(bb.out y e).2;omega
       have t:=aa (Bases.push a3 aL aj au an.out aq r Z z);have N:Kept (fun y=>(Value.slice qo i tc).ownBlock=some y) (w5.alloc (.cells #[.slice uo L uc] 32)) Q:=(ai _ _).grown Z (fun y e _=>e);have H:=aa ((bq.out.grew ((ai af w5).alloc (.cells #[.slice uo L uc] 32))).kept N (fun y hy e=>by have:=(A y e).1;have:=F.out.size;have:=ac.out;omega));have aH:=(fU (n:=i+1) (cap:=c') an.out aE aq Z z).1;have ap:=yC no ro lo oo uo m mc rc lc oc K s X L uc (val x) x (fq X (val x)) rfl (by have:=av.out.1.2.2.2;omega) (nU _ _) Q (aU.out _ ao.out) aH av.out.1.2.1;unfold fC at ap
       have am:=aa (av.out.st C.out);rw [C.out] at t;generalize fq X (val x)=pb2 at *;clear hg aN P Z z r aq N aH aj hG A ae an R J aL bd c0 c1 c2;refine ap.mono ?_;rintro e a2 ⟨rfl,Y⟩;have BF:=aa (t.out.grew Y);have SF:=aa (H.out.grew Y);have KF:=aa (ao.out.trans Y.any);have HM:Hid (eJ p a2<eJ p wr):=by unfold Hid;rw [SF.out.left,ay.out];exact aF.out
       clear ap Y p0 p1 p2 p3 p4 p5;go_wp2_with fail;go_roundw
       case rel=>exact ⟨pb2,i+1,some ⟨gg,0,none⟩,c',d ++ [x],aW,rfl,rfl,by omega,by unfold Hid;rw [List.length_append,C.out];rfl,am,BF,SF,bp,KF⟩
       case measure=>exact HM.out
      ·simp only [Prod.mk.injEq] at heq;obtain ⟨rfl,rfl,rfl,rfl⟩:=heq;exact ⟨rfl,.inr ⟨bj,rfl,rfl,rfl,ab,U.out.trans k5⟩⟩
     ·have a4:¬ (i:Int)<(n:Int):=by omega
      have he:(r1,r2,r3,r4)=(true,d,0,ds):=by
       obtain ⟨g',rfl⟩:∃ g',g=g'+1:=⟨g-1,by omega⟩
       rw [C.out] at heq;unfold jv at heq;rw [if_pos (by omega)] at heq;exact heq.symm
      have HF:=aa (f.out he);clear f he heq hg;go_wp2_with fail;go_end0
      exact HF.out
    ·subst hpb;have HF:=aa (f.out heq.symm);clear f heq;go_wp2_with fail;go_end0
     exact HF.out
 ·rw [if_pos hO0] at c;simp only [Prod.mk.injEq] at c;obtain ⟨rfl,rfl,rfl,rfl⟩:=c;have a:Calls Tryz.prog 124 #[.slice co L cap] w fun e w'=>e=.panicked [refusal (O:Nat)]∧w'=w:=by
   refine o.mono ?_;rintro e w' ⟨⟨h,_⟩ | ⟨_,rfl⟩,rfl⟩
   ·exact absurd h hO0
   ·exact ⟨rfl,rfl⟩
  clear o q l;go_enter Tryz.func123,Tryz.ntmps123;go_wp2_with fail;refine a.mono ?_;rintro e w1 ⟨rfl,rfl⟩;exact ⟨rfl,.inr ⟨hO0,rfl,rfl,rfl,HS.out,ai _ _⟩⟩

theorem Bases.box {w:World} {base b L:Nat} {a u:Value} {t:TypeId} {c:List (List Nat)} (h:Bases w base a L c) (hb:Box w b u t) (hu:∀ z,u≠.int .u64 z) (hlt:b<base) (x:Value):Bases (w.setCell ⟨b,0,none⟩ x) base a L c:=
 h.keptS (ar w b x) (fun y hy e=>by have e':y=b:=e;omega) (fun v zs hr d y hy e=>by
  have e':y=b:=e;subst e';exact ja hb (fun q hq z=>by simp at hq;rw [hq];exact hu z) hr d hy)

theorem Lsc.box {w:World} {p:Option Addr} {B b:Nat} {bs:List Nat} (h:Lsc w p B bs) (hB:B≤b) (x:Value):Lsc (w.setCell ⟨b,0,none⟩ x) p B bs:=h.kept (ar w b x) (fun y hy e=>by have e':y=b:=e;omega)

theorem vZ (co p:Option Addr) (L cap B:Nat) (k:Int) (xs cs:List Nat) (r1:Bool) (r2:List (List Nat)) (r3:Nat) (r4:List Nat) (E:f8 xs k cs=(r1,r2,r3,r4)) (H:-9223372036854775808≤k) (F:k≤9223372036854775807) (w:World)
  (hu:Row .u64 w (.slice co L cap) xs) (hd:Digs xs) (hL:L≤1000000) (hs:Lsc w p B cs) (hB:B≤w.heap.size) (A:Digs cs 256) :
  Calls Tryz.prog 82 #[.pointer p,.slice co L cap,.int .i64 k] w fun e w'=>∃ v',e=.returned (.tuple #[.bool r1,v',.int .i64 (r3:Int)])∧Bases w' w.heap.size v' L r2∧Lsc w' p B r4∧Kept (ofP p) w w':=by
 have R:=eR;have he:∀ args w,(callFunc 123 args).run Tryz.prog w=.ok (.enter 123 args) w:=fun _ _=>by simp [go_sem]
 obtain ⟨W,hW⟩:∃ W,W=((((w.alloc (.cells #[.pointer p] 26)).alloc (.cells #[.slice co L cap] 32)).alloc (.cells #[.int .i64 k] 3)).alloc (.cells #[.bool false] 4)).alloc (.cells #[.slice none 0 0] 86):=⟨_,rfl⟩
 obtain ⟨k0,x0,x1,x2,x3,x4,s⟩:=sM w (.pointer p) (.slice co L cap) (.int .i64 k) (.bool false) (.slice none 0 0) 26 32 3 4 86;rw [← hW] at k0 x0 x1 x2 x3 x4 s;have k1:=k0.alloc (.cells #[.int .i64 0] 33);have xe:=Box.new W (.int .i64 0) 33;have l:(W.alloc (.cells #[.int .i64 0] 33)).heap.size=W.heap.size+1:=by simp
 have f:∀ b,B≤b→¬ ofP p b:=fun b hb e=>by have:=(hs.inP e).1;omega
 have h1:=tk co p L cap B (w.heap.size+1) (w.heap.size+1+1) w.heap.size (w.heap.size+1+1+1) (w.heap.size+1+1+1+1) k xs cs r1 r2 r3 r4 E H F _ (hu.grew k1) hd hL (hs.grew k1) A (by omega) (by omega) (by omega) (by omega) (by omega) (by omega) (x1.alloc _) (x2.alloc _) (x0.alloc _) (x3.alloc _) (x4.alloc _);have D:=uN 123 #[.pointer (some ⟨w.heap.size+1,0,none⟩),.pointer (some ⟨w.heap.size+1+1,0,none⟩),.pointer (some ⟨w.heap.size,0,none⟩),.pointer (some ⟨w.heap.size+1+1+1,0,none⟩),.pointer (some ⟨w.heap.size+1+1+1+1,0,none⟩)] W
  (fun c W'=>c=(r3:Nat)∧Kept (ofP p) w W'∧Lsc W' p B r4∧∃ v,Bases W' (W.heap.size+1) v L r2∧Box W' (w.heap.size+1+1+1) (.bool r1) 4∧Box W' (w.heap.size+1+1+1+1) v 86) he (h1.mono (by
  rintro e w' (⟨h2,rfl,v,w1,n,h,kk,rfl⟩ | ⟨h2,rfl,rfl,rfl,h,kk⟩)
  ·rw [l] at n;have y:Box w1 W.heap.size (.int .i64 0) 33:=xe.kept kk (f _ (by omega));have o:=(x3.alloc (.cells #[.int .i64 0] 33)).kept kk (f _ (by omega));have t:=(x4.alloc (.cells #[.int .i64 0] 33)).kept kk (f _ (by omega));have a:=n.box o (fun z e=>by cases e) (by omega) (.bool r1);have d:=o.set (.bool r1);have g:=t.other ⟨w.heap.size+1+1+1,0,none⟩ (by show w.heap.size+1+1+1+1≠w.heap.size+1+1+1;omega) (.bool r1);have O:=y.other ⟨w.heap.size+1+1+1,0,none⟩ (by show W.heap.size≠w.heap.size+1+1+1;omega) (.bool r1);have r:=a.box g (fun z e=>by cases e) (by omega) v
   have q:=d.other ⟨w.heap.size+1+1+1+1,0,none⟩ (by show w.heap.size+1+1+1≠w.heap.size+1+1+1+1;omega) v;have j:=g.set v;have P:=O.other ⟨w.heap.size+1+1+1+1,0,none⟩ (by show W.heap.size≠w.heap.size+1+1+1+1;omega) v;refine ⟨P,.inl ⟨rfl,by rw [h2];rfl,?_,(h.box (by omega) _).box (by omega) _,v,r,q,j⟩⟩;exact ((k1.any.trans kk).next (ar w1 (w.heap.size+1+1+1) (.bool r1)) (fun x hx e=>by omega)).next (ar _ (w.heap.size+1+1+1+1) v) (fun x hx e=>by omega)
  ·have y:Box w' W.heap.size (.int .i64 0) 33:=xe.kept kk (f _ (by omega));have o:=(x3.alloc (.cells #[.int .i64 0] 33)).kept kk (f _ (by omega));have t:=(x4.alloc (.cells #[.int .i64 0] 33)).kept kk (f _ (by omega));exact ⟨y,.inr ⟨_,rfl,rfl,k1.any.trans kk,h,.slice none 0 0,Bases.nil _ _ _,o,t⟩⟩))
 have HW:=aa hW;have M:=aa s;have HB:=aa hB;clear h1 hu hd hL hs hB A E H F hW k0 k1 x0 x1 x2 x3 x4 xe he s l f;go_enter Tryz.func82,Tryz.ntmps82;go_wp2_with (rw [← HW.out]);refine D.mono ?_;rintro e w' ⟨c,w1,rfl,⟨⟨rfl,k2,h,v,n,hI,hR⟩,C⟩,rfl⟩;have m:Box w1 W.heap.size (.int .i64 0) 33:=C;have J:W.heap.size=w.heap.size+1+1+1+1+1:=M.out;have k4:=k2.next (ar w1 W.heap.size (.int .i64 (r3:Nat))) (fun x hx e=>by omega)
 have a:=n.box m (fun z e=>by cases e) (by omega) (.int .i64 (r3:Nat));have i:=h.box (b:=W.heap.size) (by have:=HB.out;omega) (.int .i64 (r3:Nat));have d:=hI.other ⟨W.heap.size,0,none⟩ (by show w.heap.size+1+1+1≠W.heap.size;omega) (.int .i64 (r3:Nat));have g:=hR.other ⟨W.heap.size,0,none⟩ (by show w.heap.size+1+1+1+1≠W.heap.size;omega) (.int .i64 (r3:Nat));generalize w1.setCell ⟨W.heap.size,0,none⟩ (.int .i64 (r3:Nat))=w2 at *;obtain ⟨vo,vc,rfl⟩:=a.slice;have c1:=d.cell;have f1:=d.free;have c2:=g.cell;have f2:=g.free;have q:=d.set (.bool r1);have j:=g.other ⟨w.heap.size+1+1+1,0,none⟩ (by show w.heap.size+1+1+1+1≠w.heap.size+1+1+1;omega) (.bool r1)
 have G:=q.other ⟨w.heap.size+1+1+1+1,0,none⟩ (by show w.heap.size+1+1+1≠w.heap.size+1+1+1+1;omega) (.slice vo r2.length vc);have I:=j.set (.slice vo r2.length vc);have c3:=G.cell;have c4:=I.cell;have Q:=aa (((a.box d (fun z e=>by cases e) (by omega) (.bool r1)).box j (fun z e=>by cases e) (by omega) (.slice vo r2.length vc)).base (show w.heap.size≤W.heap.size+1 by omega));have N:=aa ((i.box (b:=w.heap.size+1+1+1) (by have:=HB.out;omega) (.bool r1)).box (b:=w.heap.size+1+1+1+1) (by have:=HB.out;omega) (.slice vo r2.length vc))
 have HK:=aa ((k4.next (ar w2 (w.heap.size+1+1+1) (.bool r1)) (fun x hx e=>by omega)).next (ar _ (w.heap.size+1+1+1+1) (.slice vo r2.length vc)) (fun x hx e=>by omega));clear D n a h i hI hR d g q j G I k2 k4 C m J;generalize hr2l:r2.length=ln at *;clear hr2l;go_wp2_with fail;go_region
 all_goals
  go_wp2;exact bodyPost_ret (v:=.tuple #[.bool r1,.slice vo ln vc,.int .i64 (r3:Nat)]) (by simp [results,Tryz.results82,go_sem,c3,c4]) rfl ⟨_,rfl,Q.out.grew (ai _ _).drew,N.out.grew (ai _ _).drew,HK.out.trans (ai af _).drew.any⟩

def lH (m p j:Nat):Prop:=j≤m∧∃ q,bg q∧q<p∧q*q≤j∧j%q=0

def StkL (m p:Nat) (zs:List Nat):Prop:=zs.length=10001∧∀ j,zs.getD j 0=1↔lH m p j

def StkM (m p t:Nat) (zs:List Nat):Prop:=zs.length=10001∧∀ j,zs.getD j 0=1↔(lH m p j∨(j≤m∧p*p≤j∧j<t∧j%p=0))

theorem uR (m:Nat):StkL m 2 (List.replicate 10001 0):=by
 refine ⟨List.length_replicate,fun j=>⟨fun h=>?_,fun h=>?_⟩⟩
 ·rw [List.getD_eq_getElem?_getD,List.getElem?_replicate] at h
  split at h
  ·cases h
  ·cases h
 ·obtain ⟨_,q,hq,h2,_⟩:=h;exact absurd hq.1 (by omega)

theorem qC {n:Nat} (hn:2≤n):∃ d,2≤d∧d≤n∧n%d=0∧∀ e,2≤e→e<d→n%e≠0:=by
 have a:∀ k,(∀ e,2≤e→e<n+1-k→n%e≠0)∨∃ d,2≤d∧d≤n∧n%d=0∧∀ e,2≤e→e<d→n%e≠0:=by
  intro k;have:∀ b,(∀ e,2≤e→e<b→n%e≠0)∨∃ d,2≤d∧d<b∧n%d=0∧∀ e,2≤e→e<d→n%e≠0:=by
   intro b
   induction b with
   | zero=>exact .inl (fun e _ h=>by omega)
   | succ b ih=>
    rcases ih with h | ⟨d,h1,h2,h3,h4⟩
    ·by_cases hb:2≤b∧n%b=0
     ·exact .inr ⟨b,hb.1,by omega,hb.2,h⟩
     ·refine .inl (fun e h1 h2=>?_);by_cases eb:e=b
      ·subst eb;exact fun h3=>hb ⟨h1,h3⟩
      ·exact h e h1 (by omega)
    ·exact .inr ⟨d,h1,by omega,h3,h4⟩
  rcases this (n+1) with h | ⟨d,h1,h2,h3,h4⟩
  ·exact absurd (Nat.mod_self n) (h n hn (by omega))
  ·exact .inr ⟨d,h1,by omega,h3,h4⟩
 rcases a 0 with h | h
 ·exact absurd (Nat.mod_self n) (h n hn (by omega))
 ·exact h

theorem jm {n d:Nat} (hd:2≤d) (h:n%d=0) (hl:∀ e,2≤e→e<d→n%e≠0):bg d:=by
 refine ⟨hd,fun e h1 h2 h3=>hl e h1 h2 ?_⟩;exact Nat.mod_eq_zero_of_dvd (Nat.dvd_trans (Nat.dvd_of_mod_eq_zero h3) (Nat.dvd_of_mod_eq_zero h))

theorem kZ {m p:Nat} (h2:2≤p) (hm:p≤m):¬ lH m p p↔bg p:=by
 constructor
 ·intro h;obtain ⟨d,h3,h4,h5,h6⟩:=qC h2;by_cases hdp:d=p
  ·subst hdp;exact jm h3 h5 h6
  ·exfalso
   refine h ⟨hm,d,jm h3 h5 h6,by omega,?_,h5⟩;obtain ⟨c,hc⟩:=Nat.dvd_of_mod_eq_zero h5;have b:d≤c:=by
    rcases Nat.lt_or_ge c d with h7 | h7
    ·exfalso
     have a:2≤c:=by
      rcases Nat.lt_or_ge c 2 with h8 | h8
      ·have e:c=0∨c=1:=by omega
       rcases e with rfl | rfl
       ·omega
       ·omega
      ·exact h8
     refine h6 c a h7 ?_;rw [hc,Nat.mul_comm];exact Nat.mul_mod_right c d
    ·exact h7
   rw [hc];exact Nat.mul_le_mul_left d b
 ·rintro hp ⟨_,q,hq,h3,_,h5⟩;exact hp.2 q hq.1 h3 h5

theorem StkL.skip {m p:Nat} {zs:List Nat} (h:StkL m p zs) (hp:¬ bg p):StkL m (p+1) zs:=by
 refine ⟨h.1,fun j=>(h.2 j).trans ⟨?_,?_⟩⟩
 ·rintro ⟨h1,q,h2,h3,h4,h5⟩;exact ⟨h1,q,h2,by omega,h4,h5⟩
 ·rintro ⟨h1,q,h2,h3,h4,h5⟩;refine ⟨h1,q,h2,?_,h4,h5⟩;have:q≠p:=fun e=>hp (e ▸ h2)
  omega

theorem StkL.into {m p:Nat} {zs:List Nat} (h:StkL m p zs):StkM m p (p*p) zs:=
 ⟨h.1,fun j=>(h.2 j).trans ⟨.inl,fun e=>by
  rcases e with e | ⟨_,h2,h3,_⟩
  ·exact e
  ·omega⟩⟩

theorem StkM.set {m p t:Nat} {zs:List Nat} (h:StkM m p t zs) (hm:m≤10000) (ht:t≤m) (hp:p*p≤t) (hd:t%p=0) (h0:0<p):StkM m p (t+p) (zs.set t 1):=by
 refine ⟨by rw [List.length_set];exact h.1,fun j=>?_⟩;by_cases hj:j=t
 ·subst hj;rw [List.getD_eq_getElem?_getD,List.getElem?_set_self (by rw [h.1];omega)];exact ⟨fun _=>.inr ⟨ht,hp,by omega,hd⟩,fun _=>rfl⟩
 ·have e1:(zs.set t 1).getD j 0=zs.getD j 0:=by
   rw [List.getD_eq_getElem?_getD,List.getD_eq_getElem?_getD,List.getElem?_set_ne (fun e=>hj e.symm)]
  rw [e1,h.2 j];constructor
  ·rintro (e | ⟨h1,h2,h3,h4⟩)
   ·exact .inl e
   ·exact .inr ⟨h1,h2,by omega,h4⟩
  ·rintro (e | ⟨h1,h2,h3,h4⟩)
   ·exact .inl e
   ·refine .inr ⟨h1,h2,?_,h4⟩;rcases Nat.lt_or_ge j t with h5 | h5
    ·exact h5
    ·exfalso
     obtain ⟨r,rfl⟩:∃ r,j=t+r:=⟨j-t,by omega⟩
     rw [Nat.add_mod,hd,Nat.zero_add,Nat.mod_mod,al (by omega)] at h4;omega

theorem StkM.out {m p t:Nat} {zs:List Nat} (h:StkM m p t zs) (ht:m<t) (hp:bg p):StkL m (p+1) zs:=by
 refine ⟨h.1,fun j=>(h.2 j).trans ⟨?_,?_⟩⟩
 ·rintro (⟨h1,q,h2,h3,h4,h5⟩ | ⟨h1,h2,_,h4⟩)
  ·exact ⟨h1,q,h2,by omega,h4,h5⟩
  ·exact ⟨h1,p,hp,by omega,h2,h4⟩
 ·rintro ⟨h1,q,h2,h3,h4,h5⟩;by_cases e:q=p
  ·subst e;exact .inr ⟨h1,h4,by omega,h5⟩
  ·exact .inl ⟨h1,q,h2,by omega,h4,h5⟩

theorem kw {p:Nat} (h:1≤p) (hp:bg p):aV (p-1) ++ [p]=aV p:=by
 obtain ⟨q,rfl⟩:∃ q,p=q+1:=⟨p-1,by omega⟩
 rw [Nat.add_sub_cancel,ik,if_pos hp]

theorem kB {p:Nat} (h:1≤p) (hp:¬ bg p):aV (p-1)=aV p:=by
 obtain ⟨q,rfl⟩:∃ q,p=q+1:=⟨p-1,by omega⟩
 rw [Nat.add_sub_cancel,ik,if_neg hp,List.append_nil]

def ua:List Value→Nat→Bool
 | [],n=>n == 0
 | v :: l,n=>match v with
  | .int .u8 0=>(match n with | 0=>false | m+1=>ua l m)
  | _=>false

theorem kV:∀ (l:List Value) (n:Nat),ua l n=true→l=List.replicate n (.int .u8 0)
 | [],n,h=>by
  have:n=0:=by simpa [ua] using h
  subst this;rfl
 | v :: l,n,h=>by
  unfold ua at h
  split at h
  ·cases n with
   | zero=>cases h
   | succ m=>rw [List.replicate_succ,← kV l m h]
  ·cases h

theorem Tryz.zeros16:(match (Tryz.prog.info? 214).bind (fun i=>i.zero) with | some (.agg cs)=>ua cs.toList 10001 | _=>false)=true:=by kernel_rfl

theorem AD:∃ cs:Array Value,cs=((List.replicate 10001 0).map fun z:Nat=>Value.int .u8 (z:Int)).toArray∧∀ w,Sem.run Tryz.prog (zeroValue 214) w=.ok (.agg cs) w:=by
 have h:=Tryz.zeros16;cases hi:Tryz.prog.info? 214 with
 | none=>rw [hi] at h;cases h
 | some i=>
  rw [hi] at h;simp only [Option.bind_some] at h
  split at h
  ·rename_i cs hz
   refine ⟨cs,?_,fun w=>?_⟩
   ·have e:=kV _ _ h;rw [List.map_replicate];show cs=(List.replicate 10001 (Value.int .u8 0)).toArray
    rw [← e]
   ·simp only [zeroValue,typeInfo];simp [go_sem,hi,hz]
  ·cases h

open Go.RowKit Go.Shelf

def xp {β:Type} (T:Nat→Prop) (J:β→World→Prop):Prop:=∀ s A C,J s A→Kept T A C→J s C

theorem Books.but {d:Nat} {r:Loop} {A C:World} {Sb:Nat→Prop} (h:Books d r A) (k:Kept Sb A C) (h0:¬ Sb d) (h1:¬ Sb (d+1)):Books d r C:=by
 have hl:=h.lt;exact ⟨(k.block _ hl h1).trans h.1,(k.block _ (by omega) h0).trans h.2⟩

def Bu {α:Type} (n:Nat) (P:Program) (g:Nat) (lb:Array Value) (encs:α→Array Value) (X:List α→α→World→Prop) (Sb T:Nat→Prop) (S:List α→World→Prop) (w:World):Prop:=
 ∀ (l:Nat) (J Jx:List α→World→Prop) (W:World),Kept af w W→l=w.heap.size+1→W.heap.size=w.heap.size+2 →
  xp T J →
  (∀ pre x A,J pre A→X pre x A→YieldAt Fence.wide (n-1) P l (encs x) A fun e C=>
   (e=.returned (.bool true)∧J (pre ++ [x]) C∧Kept (fun b=>Sb b∨b=l∨b+1=l) A C)∨(e=.returned (.bool false)∧Jx (pre ++ [x]) C)) →
  J [] W →
  CallsIn Fence.wide n P g (#[.func (.yield l) #[] #[]] ++ lb) W fun e C=>(∃ v,e=.returned v)∧((∃ s,S s C∧J s C)∨∃ s,Jx s C)

theorem j8 {α:Type} {P:Program} {n:Nat} {g:Operand} {ps:Array Tmp} {assign body:Code} {Q:Exit→Act→World→Prop} {a:Act} {w:World} (h1:1≤n) {gf:Nat} {lb:Array Value}
  (hg:a.eval g=.func (.func gf) #[] lb) (eg:∀ args w,(callFunc gf args).run P w=.ok (.enter gf args) w)
  {y:α→Array Value} {X:List α→α→World→Prop} {Sb T:Nat→Prop} {S:List α→World→Prop} (L:Bu (n-1) P gf lb y X Sb T S w) (ad:∀ x,(y x).size=ps.size) (hSb:¬ Sb w.heap.size∧¬ Sb (w.heap.size+1)) (hT:¬ T w.heap.size∧¬ T (w.heap.size+1))
  (hX:∀ m x A l o o',X m x A→A.heap[l]? = some o→o.isCells=false→X m x (A.putObj l o'))
  (I:List α→World→Prop) (Ix:Code→List α→World→Prop) (hI:xp T I) (H:m9 w.heap.size I) (N:∀ c,m9 w.heap.size (Ix c)) (hS:m9 w.heap.size S) (h0:I [] w) (a₁:α→Act)
  (q:∀ (l:Nat) (x:α) (W:World) (K:Act→World→Prop),K (a₁ x) W→assign.wpIn (Fence.wide.inRound l) (n-1-1) P (Exit.then K (fun _ _ _=>False)) { tmps:=(ps.zip (y x)).foldl (fun t (p,v)=>t.setIfInBounds p v) a.tmps,defers:=[] } W)
  (hbody:∀ (l:Nat) (m:List α) (x:α) (W:World),I m W→X m x W→body.wpIn (Fence.wide.inRound l) (n-1-1) P (zd Sb I Ix (m ++ [x]) W) (a₁ x) W)
  (hdone:∀ (D:Nat) (s:List α) (W:World),w.heap.size≤D→S s W→I s W→W.heap[D]? = some (.deferred (some []))→Q .normal { a with defers:={ target:=.collected D,args:=#[] } :: a.defers } W)
  (hstop:∀ (D:Nat) (c:Code) (s:List α) (W:World),w.heap.size≤D→Ix c s W→W.heap[D]? = some (.deferred (some []))→c.wpIn Fence.wide n P Q { a with defers:={ target:=.collected D,args:=#[] } :: a.defers } W) :
  (Code.rangeFunc g ps assign body).wpIn Fence.wide n P Q a w:=by
 refine wpIn_rangeFunc fun fn ab=>?_
 obtain ⟨f,d⟩:∃ f:LoopState→Option Code→Loop,f=fun st pe=>{ state:=st,pending:=pe,fn,tmps:=a.tmps,params:=ps,assign,body,defers:=w.heap.size }:=⟨_,rfl⟩
 obtain ⟨W1,E⟩:∃ W1,W1=(w.alloc (.deferred (some []))).alloc (.loop (f .ready none)):=⟨_,rfl⟩
 have V:W1.heap.size=w.heap.size+2:=by rw [E];simp
 have O:Kept af w W1:=by rw [E];exact ((ai _ w).alloc _).alloc _
 have ae:Books w.heap.size (f .ready none) W1:=by
  rw [E];refine ⟨?_,(Below.heap_alloc _ _ _ (by simp)).trans (World.alloc_heap_new w _)⟩;have:=World.alloc_heap_new (w.alloc (.deferred (some []))) (.loop (f .ready none))
  rwa [World.size_alloc] at this
 refine ⟨w.heap.size+1,[{ target:=.collected w.heap.size,args:=#[] }],W1,{ target:=.fn (.func gf) lb,args:=#[.func (.yield (w.heap.size+1)) #[] #[]] },W1,gf,#[.func (.yield (w.heap.size+1)) #[] #[]] ++ lb,W1,?_,?_,fun _ _=>trivial,?_,fun _=>h1,?_⟩
 ·rw [E,d];exact run_enterLoop_outer _ _ _ _ _
 ·simp only [resolve,hg];simp [go_sem]
 ·simp [invoke,go_sem,eg]
 ·have z:∀ (j:Option Code) (A:World),Books w.heap.size (f .busy none) A→∃ C,(Instr.endRound (w.heap.size+1) j).run P A=.ok (.bool j.isNone) C∧Books w.heap.size (f (if j.isNone then .ready else .done) j) C∧Below w.heap.size A C∧Kept (fun b=>b=w.heap.size+1) A C∧∃ o',C=A.putObj (w.heap.size+1) o':=fun j A hb=>by
   refine ⟨_,run_endRound (P:=P) j hb.1,?_,gV _ (by omega),dF _ _ _,_,rfl⟩;have:=hb.put { f .busy none with state:=if j.isNone then .ready else .done,pending:=j };rw [d] at this ⊢;exact this
  have G:∀ {β:Type} {J:β→World→Prop} {r:Loop},xp T J→xp T (fun s A=>J s A∧Books w.heap.size r A):=fun hJ s A C h k=>
   ⟨hJ s A C h.1 k,h.2.but k hT.1 hT.2⟩
  refine (L (w.heap.size+1) (fun s A=>I s A∧Books w.heap.size (f .ready none) A) (fun s A=>∃ c,Ix c s A∧Books w.heap.size (f .done (some c)) A) W1 O rfl V (G hI) ?_ ⟨hI _ _ _ h0 O.any,ae⟩).mono ?_
  ·rintro m x A ⟨hi,hb⟩ hx;have hy:=run_yield (P:=P) (args:=y x) hb.1 (by rw [d];exact ad x);rw [d] at hy;refine ⟨fn,_,assign,body,hy,roundIn_of_wpIn ab (q _ x A _ ⟨_,run_beginRound hb.1 (by rw [d]),?_⟩)⟩;have Z:=hb.put { f .ready none with state:=.busy };have ag:=hX m x A _ _ (.loop { f .ready none with state:=.busy }) hx hb.1 rfl;have aa:=H _ _ _ _ (.loop { f .ready none with state:=.busy }) hi (by omega) hb.1 rfl;have R:=dF A (w.heap.size+1) (.loop { f .ready none with state:=.busy });have B:∀ C,Kept Sb (A.putObj (w.heap.size+1) (.loop { f .ready none with state:=.busy })) C→Books w.heap.size (f .busy none) C:=fun C k=>by
    have:=Z.but k hSb.1 hSb.2;rw [d] at this ⊢;exact this
   refine wpIn_mono (hbody _ m x _ aa ag) ?_;generalize A.putObj (w.heap.size+1) (.loop { f .ready none with state:=.busy })=A2 at *;have F:∀ (c:Code) (C:World),Kept Sb A2 C→Ix c (m ++ [x]) C→∃ v C',(Instr.endRound (w.heap.size+1) (some c)).run P C=.ok v C'∧((Ending.returned v=.returned (.bool true)∧(I (m ++ [x]) C'∧Books w.heap.size (f .ready none) C')∧Kept (fun b=>Sb b∨b=w.heap.size+1∨b+1=w.heap.size+1) A C')∨(Ending.returned v=.returned (.bool false)∧∃ c,Ix c (m ++ [x]) C'∧Books w.heap.size (f .done (some c)) C')):=fun c C k hc=>by
    obtain ⟨C',hr,M,_,_,o',rfl⟩:=z (some c) C (B C k);exact ⟨_,_,hr,.inr ⟨rfl,c,N c _ _ _ _ o' hc (by omega) (B C k).1 rfl,M⟩⟩
   rintro e a3 C hp;cases e with
   | normal=>
    obtain ⟨k,Y⟩:=hp;obtain ⟨C',hr,M,ah,U,o',rfl⟩:=z none C (B C k);exact ⟨_,_,hr,.inl ⟨rfl,⟨H _ _ _ _ o' Y (by omega) (B C k).1 rfl,M⟩,((R.mono (fun _ _ e=>.inr (.inl e))).next k (fun _ _ e=>.inl e)).next U (fun _ _ e=>.inr (.inl e))⟩⟩
   | ret=>exact F _ C hp.1 hp.2
   | exit i=>exact F _ C hp.1 hp.2
   | goto t=>exact F _ C hp.1 hp.2
   | panic c=>exact hp.elim
   | outgrown=>exact hp.elim
  ·rintro e C ⟨⟨v,rfl⟩,(⟨s,ac,hi,hb⟩ | ⟨s,c,hi,hb⟩)⟩
   ·refine ⟨_,_,run_endLoop (P:=P) hb.1 (by rw [d];simp),?_⟩;rw [d] at hb ⊢;exact hdone _ s _ (leR _) (hS _ _ _ _ _ ac (by omega) hb.1 rfl) (H _ _ _ _ _ hi (by omega) hb.1 rfl) ((World.putObj_heap_other (by omega)).trans hb.2)
   ·refine ⟨_,_,run_endLoop (P:=P) hb.1 (by rw [d];simp),?_⟩;rw [d] at hb ⊢;exact hstop _ c s _ (leR _) (N c _ _ _ _ _ hi (by omega) hb.1 rfl) ((World.putObj_heap_other (by omega)).trans hb.2)

def Arr (k:IntKind) (t:TypeId) (w:World) (b:Nat) (zs:List Nat):Prop:=w.heap[b]? = some (.cells (zs.map fun z=>Value.int k (z:Nat)).toArray t (0,0))

theorem Arr.cell {k:IntKind} {t:TypeId} {w:World} {b:Nat} {zs:List Nat} (h:Arr k t w b zs) (i:Nat) (hi:i<zs.length):w.cell? ⟨b,i,none⟩=some (.int k (zs.getD i 0:Nat)):=by
 rw [cell_of_row w b i _ _ _ h];simp [List.getElem?_eq_getElem hi]

theorem Arr.free {k:IntKind} {t:TypeId} {w:World} {b:Nat} {zs:List Nat} (h:Arr k t w b zs) (i:Nat):w.frozen? ⟨b,i,none⟩=false:=by
 unfold Arr at h;simp [World.frozen?,h]

theorem Arr.set {k:IntKind} {t:TypeId} {w:World} {b:Nat} {zs:List Nat} (h:Arr k t w b zs) (i z:Nat):Arr k t (w.setCell ⟨b,i,none⟩ (.int k (z:Nat))) b (zs.set i z):=by
 have:=heap_setCell_same w b i _ t (.int k (z:Nat)) h;unfold Arr;rw [this,List.map_set];simp

theorem Arr.kept {S:Nat→Prop} {k:IntKind} {t:TypeId} {w w':World} {b:Nat} {zs:List Nat} (h:Arr k t w b zs) (kk:Kept S w w') (hs:¬ S b):Arr k t w' b zs:=(kk.block b (lt_of_block h) hs).trans h

attribute [local go_sem] Oper.semAt_some

def Ba (m B:Nat) (pre:List Nat) (p:Nat) (A:World):Prop:=pre=aV (p-1)∧bg p∧p≤m∧B+3≤A.heap.size

theorem tM (n:Int):gP n=(min n 10000).toNat:=by unfold gP;split <;> omega

theorem xi (n:Int) (w:World) :
  Calls Tryz.prog 161 #[.int .i64 n] w fun e w'=>e=.returned (.func (.func 206) #[] #[.pointer (some ⟨w.heap.size,0,none⟩)])∧Boxed w' w.heap.size 3 (.int .i64 (min n 10000))∧Kept af w w'∧w'.heap.size=w.heap.size+1:=by
 go_enter Tryz.func161,Tryz.ntmps161;go_wp2;go_ret;exact ⟨rfl,Boxed.new w 3 (.int .i64 (min n 10000)),(ai af w).alloc _,by simp⟩

structure BtwS (wr:World) (G bl m p:Nat) (N:Int):Prop where
 arr:∃ zs,StkL m p zs∧Arr .u8 214 wr G zs
 lb:Boxed wr bl 3 (.int .i64 N)
 size:G+1≤wr.heap.size

theorem BtwS.kept {S:Nat→Prop} {wr w':World} {G bl m p:Nat} {N:Int} (b:BtwS wr G bl m p N) (k:Kept S wr w') (h0:¬ S G) (h1:¬ S bl):BtwS w' G bl m p N:=by
 obtain ⟨⟨zs,h2,h3⟩,h4,h5⟩:=b;exact ⟨⟨zs,h2,h3.kept k h0⟩,aH h4 k h1,Nat.le_trans h5 k.size⟩

theorem BtwS.skip {wr:World} {G bl m p:Nat} {N:Int} (b:BtwS wr G bl m p N) (hp:¬ bg p):BtwS wr G bl m (p+1) N:=by
 obtain ⟨⟨zs,h2,h3⟩,h4,h5⟩:=b;exact ⟨⟨zs,h2.skip hp,h3⟩,h4,h5⟩

structure BtwT (wr:World) (G bl m p t:Nat) (N:Int):Prop where
 arr:∃ zs,StkM m p t zs∧Arr .u8 214 wr G zs
 lb:Boxed wr bl 3 (.int .i64 N)
 size:G+1≤wr.heap.size

theorem BtwS.into {wr:World} {G bl m p:Nat} {N:Int} (b:BtwS wr G bl m p N):BtwT wr G bl m p (p*p) N:=by
 obtain ⟨⟨zs,h2,h3⟩,h4,h5⟩:=b;exact ⟨⟨zs,h2.into,h3⟩,h4,h5⟩

theorem BtwT.out {wr:World} {G bl m p t:Nat} {N:Int} (b:BtwT wr G bl m p t N) (ht:m<t) (hp:bg p):BtwS wr G bl m (p+1) N:=by
 obtain ⟨⟨zs,h2,h3⟩,h4,h5⟩:=b;exact ⟨⟨zs,h2.out ht hp,h3⟩,h4,h5⟩

theorem BtwT.put {wr:World} {G bl m p t:Nat} {N:Int} (b:BtwT wr G bl m p t N) (a:bl≠G) (hm:m≤10000) (ht:t≤m) (hp:p*p≤t) (hd:t%p=0) (h0:0<p) :
  BtwT (wr.setCell ⟨G,t,none⟩ (.int .u8 1)) G bl m p (t+p) N∧Kept (fun x=>x=G) wr (wr.setCell ⟨G,t,none⟩ (.int .u8 1)):=by
 obtain ⟨⟨zs,h2,h3⟩,h4,h5⟩:=b;have k:Kept (fun x=>x=G) wr (wr.setCell ⟨G,t,none⟩ (.int .u8 1)):=(ai (fun x=>x=G) _).setCell ⟨G,t,none⟩ (fun _=>rfl) _;exact ⟨⟨⟨zs.set t 1,h2.set hm ht hp hd h0,h3.set t 1⟩,aH h4 k a,Nat.le_trans h5 k.size⟩,k⟩

theorem sH (n:Nat) (hn:1≤n) (bl:Nat) (N:Int) (w:World) (Sb:Nat→Prop) (hb:Boxed w bl 3 (.int .i64 (min N 10000))) (B:¬ Sb bl) (r:¬ Sb (w.heap.size+2)) :
  Bu n Tryz.prog 206 #[.pointer (some ⟨bl,0,none⟩)] (fun p:Nat=>#[.int .i64 (p:Int)]) (Ba (gP N) w.heap.size) Sb (fun x=>x=w.heap.size+2) (fun s _=>s=aV (gP N)) w:=by
 rintro l J Jx W D L U hJ hY h0;obtain ⟨cs,g,ag⟩:=AD;have al:¬ cs=#[]:=by
  rw [g];intro e;have:=congrArg Array.size e;simp at this
 obtain ⟨m,hm⟩:∃ m,m=gP N:=⟨_,rfl⟩
 have ac:m≤10000:=by rw [hm];exact mu N
 have HM:Hid (∀ p:Nat,2≤p→((p:Int)≤min N 10000↔p≤m)):=fun p hp=>by rw [hm,tM];omega
 rw [← hm] at hY ⊢;generalize min N 10000=I at *;obtain ⟨G,hG⟩:∃ G,G=w.heap.size+2:=⟨_,rfl⟩
 have ab:W.heap.size=G:=by omega
 have k:=hb.lt;have Z:bl≠G:=by omega
 have F:=bC hb D;have kA:Kept af W (W.alloc (.cells cs 214)):=(ai af W).alloc _;have HA:Hid (Arr .u8 214 (W.alloc (.cells cs 214)) G (List.replicate 10001 0)):=by
  unfold Hid Arr;rw [← g,← ab];exact heap_alloc_new W _
 have H0:Hid (BtwS (W.alloc (.cells cs 214)) G bl m 2 I):=⟨⟨_,uR m,HA.out⟩,bC F kA,by simp;omega⟩
 have E:Hid (J [] (W.alloc (.cells cs 214))):=hJ _ _ _ h0 kA.any;have HJ:=aa hJ;have HG:Hid (G=w.heap.size+2∧l=w.heap.size+1∧bl<w.heap.size):=⟨hG,L,k⟩
 have S:=aa B;have V:=aa r;clear hb D h0 L U F kA HA hJ hG k B r g hm;refine callsIn_of_wp Tryz.func206 rfl trivial ?_ rfl;simp only [Tryz.ntmps206,List.size_toArray,List.length_cons,List.length_nil,Nat.reduceAdd,Nat.reduceSub,Array.replicate_succ,Array.replicate_zero,List.push_toArray,List.append_toArray,List.nil_append,List.cons_append];refine wpIn_wide.2 ?_;go_step3
 go_wp2_with fail;go_step3
 go_wp2_with fail;generalize W.alloc (.cells cs 214)=W1 at *;refine (wpIn_wide (n:=n)).1 ?_
 gi_loopw [4] (fun iv wr=>∃ p:Nat,2≤p∧p≤10001∧(p≤m+1∨p=2)∧iv=.int .i64 (p:Int)∧Hid (J (aV (p-1)) wr)∧Hid (BtwS wr G bl m p I)) (fun iv _=>10002-(intOf iv).toNat)
 case atStart=>exact ⟨2,by omega,by omega,.inr rfl,rfl,E.out,H0.out⟩
 case round=>
  clear E H0;obtain ⟨p,a,O,X,rfl,d,hB⟩:=hrel;have C:=hB.out.lb.cell;by_cases hin:p≤m
  ·have g1:=(HM.out p a).2 hin;obtain ⟨zs,b,hA⟩:=hB.out.arr;have cp:=hA.cell p (by rw [b.1];omega);have c:=b.2 p;obtain ⟨z,hz⟩:∃ z,z=zs.getD p 0:=⟨_,rfl⟩
   rw [← hz] at cp c;have ae:(0:Int)≤(p:Int):=by omega
   have aj:(p:Int)<10001:=by omega
   clear hz hA b;by_cases hP:bg p
   ·have H:¬ (z:Int)=1:=fun e=>(kZ a hin).2 hP (c.1 (by omega))
    have HP:=aa hP;have hx:Ba m w.heap.size (aV (p-1)) p wr:=⟨rfl,hP,hin,by have:=hB.out.size;have:=HG.out;omega⟩
    obtain ⟨fn,tmps,assign,body,hy,hR⟩:=hY _ p wr d.out hx;clear hx c hP
    gi_wp2_with fail
    refine hR.mono ?_;rintro e w5 (⟨rfl,j,k5⟩ | ⟨rfl,i⟩)
    ·have B5:=aa (hB.out.kept k5 (by
      have:=HG.out;rintro (e | e | e)
      ·exact V.out (by have h9:G=w.heap.size+2:=HG.out.1;rw [← h9];exact e)
      ·omega
      ·omega) (by
      have:=HG.out;rintro (e | e | e)
      ·exact S.out e
      ·omega
      ·omega)).into
     rw [kw (by omega) HP.out] at j;have A:=aa j;have Y:p*p≤10001*10001:=Nat.mul_le_mul O O;obtain ⟨q,hq⟩:∃ q,q=p*p:=⟨_,rfl⟩
     have hw:IntKind.i64.wrap ((p:Int)*(p:Int))=(q:Int):=by
      have e:(p:Int)*(p:Int)=((p*p:Nat):Int):=by simp
      rw [e,← hq,IntKind.wrap_i64];omega
     have HQ:=aa hq;rw [← hq] at Y;have v:Hid (q%p=0):=by unfold Hid;rw [hq];exact Nat.mul_mod_right p p
     have B6:Hid (BtwT w5 G bl m p q I):=by unfold Hid;rw [hq];exact B5.out
     clear hR hy j k5 hB d C cp hq B5
     gi_wp2_with fail
     refine wpIn_wide.2 ?_;go_loopw [5] (fun mv y=>∃ t:Nat,q≤t∧t≤100030000∧mv=.int .i64 (t:Int)∧Hid (t%p=0)∧Hid (J (aV p) y)∧Hid (BtwT y G bl m p t I)) (fun mv _=>10001-(intOf mv).toNat)
     case atStart=>exact ⟨q,leR _,by omega,rfl,v.out,A.out,B6.out⟩
     case round=>
      clear B6 A v;obtain ⟨t,ad,ht,rfl,o,M,f⟩:=hrel;have C:=f.out.lb.cell;by_cases htm:t≤m
      ·have g2:¬ (t:Int) > I:=fun e=>by
        have:=(HM.out t (by have h3:2*p≤p*p:=Nat.mul_le_mul_right p a;have:=HQ.out;omega)).2 htm;omega
       have P:¬ I<(t:Int):=g2;have ah:(0:Int)≤(t:Int):=by omega
       have ak:(t:Int)<10001:=by omega
       obtain ⟨zs,b,hA⟩:=f.out.arr;have ct:=hA.cell t (by rw [b.1];omega);have ft:=hA.free t;obtain ⟨b7,k7⟩:=f.out.put Z ac htm (by rw [← HQ.out];exact ad) o.out (by omega);have B7:=aa b7;have Q:=aa (HJ.out _ _ _ M.out (k7.mono (fun x _ e=>by have:=HG.out;have e':x=G:=e;omega)));have T:Hid ((t+p)%p=0):=by unfold Hid;rw [Nat.add_mod_right];exact o.out
       clear b hA b7 k7;go_wp2_with fail;go_roundw
       case rel=>exact ⟨t+p,by omega,by omega,by go_num,T.out,Q.out,B7.out⟩
       case measure=>simp [intOf];omega
      ·have g2:(t:Int) > I:=by
        rcases Int.lt_or_le I (t:Int) with e | e
        ·exact e
        ·exact absurd ((HM.out t (by have h3:2*p≤p*p:=Nat.mul_le_mul_right p a;have:=HQ.out;omega)).1 e) htm
       have P:I<(t:Int):=g2;have B8:=aa (f.out.out (by omega) HP.out);go_wp2_with fail
       gi_wp2_with fail
       go_roundw
       case rel=>exact ⟨p+1,by omega,by omega,.inl (by omega),by go_num,by rw [Nat.add_sub_cancel];exact M,B8⟩
       case measure=>simp [intOf];omega
    ·gi_wp2_with fail
     try rw [Exit.noGoto_ret]
     refine bodyPost_ret (results_none rfl _ _ _) rfl ?_;exact ⟨⟨_,rfl⟩,.inr ⟨_,i⟩⟩
   ·have H:z=1:=by
     rw [c];by_cases hs:lH m p p
     ·exact hs
     ·exact absurd ((kZ a hin).1 hs) hP
    subst H;have B8:=aa (hB.out.skip hP);have R:Hid (J (aV (p+1-1)) wr):=by unfold Hid;rw [Nat.add_sub_cancel,← kB (by omega) hP];exact d.out
    clear hP c
    gi_wp2_with fail
    go_roundw
    case rel=>exact ⟨p+1,by omega,by omega,.inl (by omega),by go_num,R,B8⟩
    case measure=>simp [intOf];omega
  ·have g1:¬ (p:Int)≤I:=fun e=>hin ((HM.out p a).1 e)
   have HE:Hid (aV (p-1)=aV m):=by
    unfold Hid;rcases X with h | h
    ·rw [show p-1=m by omega]
    ·subst h;rw [iG (show 2-1≤1 by omega),iG (show m≤1 by omega)]
   gi_wp2_with fail
   try rw [Exit.noGoto_normal]
   refine bodyPost_end (results_none rfl _ _ _) rfl ?_;exact ⟨⟨_,rfl⟩,.inl (by rw [← HE.out];exact d.out)⟩

end Go.Proofs.YtcemlfokmjjiaaaGreatDoor
