/- Put together of: Mir7 Mir8 Siv1 Seq4 Arr0 Siv2. -/
import Derived.Test.YtcemlfokmjjiaaaGreatDoorPm23
import Derived.WalkMore
import Derived.Scope

namespace Go.Proofs.YtcemlfokmjjiaaaGreatDoor
set_option maxRecDepth 100000
set_option maxHeartbeats 4000000
open Go.RowKit

theorem Bases.keptS {S:Nat→Prop} {w w':World} {base:Nat} {b:Value} {L:Nat} {a:List (List Nat)} (h:Bases w base b L a) (k:Kept S w w') (hb:∀ x,base≤x→¬ S x) (d:∀ v zs,Row .u64 w v zs→zs≠[]→∀ x,v.ownBlock=some x→¬ S x):Bases w' base b L a:=by
 obtain ⟨h1,A,C,h2,h3⟩:=h;refine ⟨h1,A,C,k.own h2 (fun x hx=>hb x (World.ownsRow.lt h2 x hx).1),fun j hj=>⟨?_,(h3 j hj).2⟩⟩;exact (h3 j hj).1.kept' k (fun c x hx=>d _ _ (h3 j hj).1 c x hx)

def zD (xs:List Nat) (k:Nat) (r:Bool × List (List Nat) × Nat × List Nat) (pb:Bool) (acc:List (List Nat)) (ds:List Nat):Prop:=
 (pb=true∧∃ g,ds.length<g∧iZ xs k g acc.length ds acc=r)∨(pb=false∧(false,acc,0,ds)=r)

theorem RndNext.st {xs:List Nat} {X k i:Nat} {a:List (List Nat)} {r:Bool × List (List Nat) × Nat × List Nat} {x ds:List Nat} (h:RndNext xs X k i a r x ds) (hi:a.length=i):zD xs k r (eJ X (val x)) (a ++ [x]) ds:=by
 obtain ⟨_,f,h1,h2⟩:=h;cases hb:eJ X (val x) with
 | true=>
  rw [hb,if_pos rfl] at h2;exact .inl ⟨rfl,f,h1,by rw [List.length_append,hi];exact h2⟩
 | false=>
  rw [hb,if_neg (by decide)] at h2;exact .inr ⟨rfl,h2⟩

def tF (w:World) (p:Option Addr) (B L bI bR:Nat) (r1:Bool) (r2:List (List Nat)) (r3:Nat) (r4:List Nat) (e:Ending) (w':World):Prop:=
 (r3=0∧e=.returned (.tuple #[])∧∃ v w1,Bases w1 w.heap.size v L r2∧Lsc w1 p B r4∧Kept (ofP p) w w1∧w'=(w1.setCell ⟨bI,0,none⟩ (.bool r1)).setCell ⟨bR,0,none⟩ v) ∨
 (r3≠0∧e=.panicked [refusal (r3:Nat)]∧r1=false∧r2=[]∧Lsc w' p B r4∧Kept (ofP p) w w')

theorem vH (co p:Option Addr) (L cap B bN bK bS bI bR:Nat) (k:Int) (xs cs:List Nat) (r1:Bool) (r2:List (List Nat)) (r3:Nat) (r4:List Nat) (c:eE xs k cs=(r1,r2,r3,r4)) (a9:-9223372036854775808≤k) (bq:k≤9223372036854775807) (w:World)
  (hu:Row .u64 w (.slice co L cap) xs) (hd:Digs xs) (hL:L≤1000000) (hs:Lsc w p B cs) (aK:Digs cs 256) (lN:B≤bN) (lK:B≤bK) (lS:B≤bS) (lI:B≤bI) (lR:B≤bR) (aO:bI≠bR)
  (ao:Box w bN (.slice co L cap) 32) (aL:Box w bK (.int .i64 k) 3) (aQ:Box w bS (.pointer p) 26) (aT:Box w bI (.bool false) 4) (aI:Box w bR (.slice none 0 0) 86) :
  Calls Tryz.prog 123 #[.pointer (some ⟨bN,0,none⟩),.pointer (some ⟨bK,0,none⟩),.pointer (some ⟨bS,0,none⟩),.pointer (some ⟨bI,0,none⟩),.pointer (some ⟨bR,0,none⟩)] w fun e w'=>tF w p B L bI bR r1 r2 r3 r4 e w':=by
 obtain ⟨i0,bi,a2,bc,bl⟩:=info_parts Tryz.infoN32;obtain ⟨X,hX⟩:∃ X,X=val xs:=⟨_,rfl⟩
 unfold eE at c;rw [← hX] at c;obtain ⟨O,hO⟩:∃ O,O=gQ X:=⟨_,rfl⟩
 rw [← hO] at c;have al:Hid (∀ x,ofP p x→x<B):=fun x hx=>(hs.inP hx).1
 have D:∀ b,B≤b→¬ ofP p b:=fun b hb e=>by have:=al.out b e;omega
 have o:=kH co L cap xs O (by rw [hO,hX]) w hu hd hL;have JB:Hid (∀ W,Kept (ofP p) w W→W.cell? ⟨bN,0,none⟩=some (.slice co L cap)∧W.cell? ⟨bK,0,none⟩=some (.int .i64 k)∧W.cell? ⟨bS,0,none⟩=some (.pointer p)):=fun W kk=>⟨(ao.kept kk (D _ lN)).cell,(aL.kept kk (D _ lK)).cell,(aQ.kept kk (D _ lS)).cell⟩
 have JO:Hid (∀ W,Kept (ofP p) w W→Box W bI (.bool false) 4∧Box W bR (.slice none 0 0) 86):=fun W kk=>⟨aT.kept kk (D _ lI),aI.kept kk (D _ lR)⟩
 have S:Hid (B≤w.heap.size):=Nat.le_of_lt (Nat.lt_of_le_of_lt lN ao.lt);have bm:=aa aO;have HS:=aa hs;have HU:=aa hu;have HO:=aa hO;have HX:=aa hX;have bh:=aa aK;obtain ⟨b0,b1,b2⟩:=JB.out _ (ah _ w);obtain ⟨_,_,_,e1,aV,_⟩:=hu.open;cases e1
 have aY:=aa aV.out;have q:=fs 1 w;have l:=fg 1 w;clear D hs hu hO hX aK lN lK lS lI lR aO ao aL aQ aT aI aV;by_cases hO0:O=0
 ·subst hO0;have aN:gQ X=0:=HO.out.symm;rw [if_neg (by omega)] at c;have a:Calls Tryz.prog 124 #[.slice co L cap] w fun e w'=>e=.returned (.tuple #[])∧w'=w:=by
   refine o.mono ?_;rintro e w' ⟨⟨_,rfl⟩ | ⟨h,_⟩,rfl⟩
   ·exact ⟨rfl,rfl⟩
   ·exact absurd rfl h
  clear o;by_cases hkb:k<0∨100<k
  ·rw [if_pos hkb] at c;simp only [Prod.mk.injEq] at c;obtain ⟨rfl,rfl,rfl,rfl⟩:=c;clear l;by_cases hkn:k<0
   ·clear hkb;go_enter Tryz.func123,Tryz.ntmps123;go_wp2_with fail;refine a.mono ?_;rintro e w1 ⟨rfl,rfl⟩;go_wp2_with fail;refine q.mono ?_;rintro e w2 ⟨rfl,rfl⟩;exact ⟨rfl,.inr ⟨by omega,rfl,rfl,rfl,HS.out,ah _ _⟩⟩
   ·have bv:100<k:=by omega
    have q1:decide (k<0)=false:=aD hkn;clear hkb;go_enter Tryz.func123,Tryz.ntmps123;go_wp2_with fail;refine a.mono ?_;rintro e w1 ⟨rfl,rfl⟩;go_wp2_with fail;refine q.mono ?_;rintro e w2 ⟨rfl,rfl⟩;exact ⟨rfl,.inr ⟨by omega,rfl,rfl,rfl,HS.out,ah _ _⟩⟩
  ·rw [if_neg hkb] at c;obtain ⟨n,rfl⟩:∃ n:Nat,k=(n:Int):=⟨k.toNat,by omega⟩
   rw [Int.toNat_natCast] at c;have hn:n≤100:=by omega
   have q1:¬ (n:Int)<0:=by omega
   have q2:¬ (n:Int) > 100:=by omega
   have aH:¬ (100:Int)<(n:Int):=by omega
   have d1:decide ((n:Int)<0)=false:=aD q1;have d2:decide ((n:Int) > 100)=false:=aD q2;have bd:decide ((100:Int)<(n:Int))=false:=aD aH;have aJ:=Ak co L cap xs X HX.out aN w HU.out hd hL;have aX:=aa c;clear hkb a9 bq c q aN;go_enter Tryz.func123,Tryz.ntmps123;go_wp2_with fail;refine a.mono ?_;rintro e w1 ⟨rfl,rfl⟩;clear a;go_wp2_with fail;try rw [d1]
   refine l.mono ?_;rintro e w2 ⟨rfl,rfl⟩;clear l q1 q2 aH d1 d2 bd;go_wp2_with fail;refine aJ.mono ?_;rintro e w3 ⟨no,ro,lo,oo,m,mc,rc,lc,oc,K,s,rfl,hN,k3⟩;obtain ⟨W3,ac⟩:∃ W3,W3=w3.alloc (.cells (fH no ro lo oo m mc rc lc oc K s) 150):=⟨_,rfl⟩
   have k4:Kept af w3 W3:=by rw [ac];exact (ah af w3).alloc _
   have av:W3.heap[w3.heap.size]? = some (.cells (fH no ro lo oo m mc rc lc oc K s) 150 (0,0)):=by rw [ac];exact heap_alloc_new _ _
   have F:=aa (k3.trans k4);have a1:Hid (B≤w3.heap.size):=Nat.le_trans S.out k3.size;have JC:Hid (∀ W',Kept (ofP p) W3 W'→W'.cell? ⟨w3.heap.size,0,none⟩=some (.slice no m mc)∧W'.cell? ⟨w3.heap.size,1,none⟩=some (.int .u64 (K:Nat))∧W'.cell? ⟨w3.heap.size,2,none⟩=some (.slice ro m rc)∧W'.cell? ⟨w3.heap.size,3,none⟩=some (.slice lo m lc)∧W'.cell? ⟨w3.heap.size,4,none⟩=some (.slice oo m oc)∧W'.cell? ⟨w3.heap.size,5,none⟩=some (.int .i64 (s:Nat))):=fun W' kk=>fL ((kk.block _ (lt_of_block av) (fun e=>by have:=al.out _ e;have:=a1.out;omega)).trans av)
   have V:=aa (HS.out.grew F.out);have bf:=aa (hN.grew k4);have aR:=aa (HU.out.grew F.out);have aU:Hid (∀ W',Kept (ofP p) W3 W'→Num17 W' X no ro lo oo m mc rc lc oc K s):=fun W' kk=>bf.out.scr V.out kk
   have a8:Hid (∀ W',Kept (ofP p) W3 W'→Row .u64 W' (.slice co L cap) xs):=fun W' kk=>aR.out.kept' kk (fun aE=>V.out.apart aR.out aE)
   have aP:=aa ac;have bs:=hN.big;have bn:0<L:=by
    rcases Nat.eq_zero_or_pos L with e | e
    ·have h1:=aY.out;rw [e] at h1;have h2:=List.length_eq_zero_iff.1 h1;have h3:=HX.out;rw [h2] at h3;have h4:val []=0:=rfl;omega
    ·exact e
   unfold fH at aP ⊢;clear aJ hN k3 k4 av ac b0 b1 b2 HS HU;go_wp2_with (rw [← aP.out]);go_loopw [6,7] (fun pv tv wr=>∃ (pb:Bool) (i:Nat) (qo:Option Addr) (tc:Nat) (f:List (List Nat)) (ds:List Nat),pv=.bool pb∧tv=.slice qo i tc∧i≤n∧Hid (f.length=i)∧Hid (zD xs n (r1,r2,r3,r4) pb f ds)∧Hid (Bases wr W3.heap.size (.slice qo i tc) L f)∧Hid (Lsc wr p B ds)∧Hid (Digs ds 256)∧Hid (Kept (ofP p) W3 wr)) (fun _ _ wr=>eY p wr)
   case atStart=>exact ⟨true,0,none,0,[],cs,rfl,rfl,Nat.zero_le _,rfl,.inl ⟨rfl,cs.length+1,by omega,aX.out⟩,Bases.nil _ _ _,V.out,bh.out,ah _ _⟩
   case round=>
    clear V aX;obtain ⟨pb,i,qo,tc,f,ds,rfl,rfl,bt,z,a3,ag,T,bo,Q⟩:=hrel;have KW:=F.out.any.trans Q.out;obtain ⟨c0,c1,c2⟩:=JB.out _ KW;have Y:=aa KW;clear KW;have d:Hid ((r1,r2,r3,r4)=(pb,f,0,ds)→tF w2 p B L bI bR r1 r2 r3 r4 (.returned (.tuple #[])) ((wr.setCell ⟨bI,0,none⟩ (.bool pb)).setCell ⟨bR,0,none⟩ (.slice qo i tc))):=fun e=>by
     simp only [Prod.mk.injEq] at e;obtain ⟨rfl,rfl,rfl,rfl⟩:=e;exact .inl ⟨rfl,rfl,_,wr,ag.out.base F.out.size,T.out,Y.out,rfl⟩
    have G:=JO.out _ Y.out;have cI:=G.1.cell;have fI:=G.1.free;have aF:=G.2.other ⟨bI,0,none⟩ (fun e=>bm.out e.symm) (.bool pb);have cR:=aF.cell;have fR:=aF.free;have a5:=G.2.cell;have bk:=G.2.free;clear G aF;rcases a3.out with ⟨hpb,g,hg,heq⟩ | ⟨hpb,heq⟩
    ·subst hpb;by_cases hik:i<n
     ·have a4:(i:Int)<(n:Int):=by omega
      have aC:=At no ro lo oo co p m mc rc lc oc K s X L cap B n i g xs ds f (r1,r2,r3,r4) HX.out hik hg (by rw [← z.out];exact heq) wr (aU.out _ Q.out) (a8.out _ Q.out) hd hL T.out (Nat.le_trans S.out Y.out.size) bo.out;obtain ⟨p0,p1,p2,p3,p4,p5⟩:=JC.out _ Q.out;unfold fH at aC;have ak:=aa T.out.left;have ay:=aa (fun v zs (h:Row .u64 wr v zs) aE=>T.out.apart h aE);have bp:Hid (∀ y,(Value.slice qo i tc).ownBlock=some y→W3.heap.size≤y∧y<wr.heap.size):=fun y hy=>by
       obtain ⟨_,_,_,ba⟩:=ag.out;exact World.ownsRow.lt ba.1 y hy
      clear heq hg cI fI cR fR a5 bk d;go_wp2_with fail;refine aC.mono ?_;rintro e w5 (⟨v,x,a0,rfl,⟨aj,aG⟩,aB,ad,aS,R,k5⟩ | ⟨E,a0,rfl,bb,heq,ad,k5⟩)
      ·have aq:x.length=L:=aB.1.1.trans aY.out;obtain ⟨uo,uc,rfl⟩:=lv aj aq;have ai:=aa aB;have be:=aa ad;have br:=aa aS;have ap:=aa R;have U:=Q.out.trans k5;have bg:=ag.out.keptS k5 (fun y hy e=>by have:=al.out y e;have:=F.out.size;have:=S.out;omega) ay.out;have am:=k5.size;have RU:=aj;have H:∀ y,(Value.slice uo L uc).ownBlock=some y→wr.heap.size≤y:=aG;obtain ⟨aM,GA,GC,hG⟩:=bg;have an:=hG.grew ((ah af w5).alloc (.cells #[.slice uo L uc] 32));have C:=World.ownsRow.lt hG.1;have ae:=an.1;have ax:=aa (RU.grew ((ah af w5).alloc (.cells #[.slice uo L uc] 32)));have aA:x≠[]:=fun e=>by subst e;simp at aq;omega
       rw [z.out] at ae;have J:=aa U;have bu:Hid (wr.heap.size≤w5.heap.size∧W3.heap.size≤w5.heap.size):=⟨am,U.size⟩
       have bj:W3.heap.size≤w5.heap.size:=U.size;clear aC aj aG aB ad aS R k5 RU U p0 p1 p2 p3 p4 p5;go_wp2_with (at_builtin;refine wpList_append_lies _ rfl _ _ 86 rfl W3.heap.size 32 i0 _ 1 24 Tryz.underlying86 bi a2 bc bl rfl (by omega) _ _ _ rfl ae ⟨w5.heap.size,0,none⟩ 1 1 [.slice uo L uc] rfl rfl (dC w5 _ _) (by simp [Value.oneCell']) (by omega) (by unfold maxLen;omega) (by omega) (by simp;omega) (w5.heap.size+1) (by simp) ?_;intro gg c' I N hg aW a6;have ar:Hid (Kept (ofP p) W3 I):=(J.out.alloc _).grown hg (fun y hy hlt=>by have:=(C y hy).1;omega);obtain ⟨p0,p1,p2,p3,p4,p5⟩:=JC.out _ ar.out)
       have ab:(w5.alloc (.cells #[.slice uo L uc] 32)).grownBy I (Value.slice qo i tc).ownBlock:=hg;have A:(Value.slice qo i tc).ownBlock=some gg∨gg=(w5.alloc (.cells #[.slice uo L uc] 32)).heap.size:=(show (Value.slice qo i tc).ownBlock=some gg∨gg=w5.heap.size+1 from aW).imp id (fun h=>by simpa using h);have t:I.ownsRow W3.heap.size 32 1 (.slice (some ⟨gg,0,none⟩) (f.length+1) c') (f.length+1) (((List.range f.length).map fun j=>.slice (GA j) L (GC j)) ++ [.slice uo L uc]):=by rw [z.out];exact N
       have au:∀ y,(Value.slice uo L uc).ownBlock=some y→(Value.slice qo i tc).ownBlock≠some y:=fun y hy e=>by have:=H y hy;have:=(bp.out y e).2;omega
       have r:=aa (Bases.push bn aM an aq ax.out au t ab A);have M:Kept (fun y=>(Value.slice qo i tc).ownBlock=some y) (w5.alloc (.cells #[.slice uo L uc] 32)) I:=(ah _ _).grown ab (fun y e _=>e);have P:=aa ((be.out.grew ((ah af w5).alloc (.cells #[.slice uo L uc] 32))).kept M (fun y hy e=>by have:=(C y e).1;have:=F.out.size;have:=S.out;omega));have aZ:=(eZ (n:=i+1) (cap:=c') ax.out aA au ab A).1;have az:=yB no ro lo oo uo m mc rc lc oc K s X L uc (val x) x (eJ X (val x)) rfl (by have:=ai.out.1.2.2.2;omega) (jG _ _) I (aU.out _ ar.out) aZ ai.out.1.2.1;unfold fH at az
       have aw:=aa (ai.out.st z.out);rw [z.out] at r;generalize eJ X (val x)=pb2 at *;clear hg aW N ab A t au M aZ an hG C ae ax J H aM a6 c0 c1 c2;refine az.mono ?_;rintro e a7 ⟨rfl,Z⟩;have BF:=aa (r.out.grew Z);have SF:=aa (P.out.grew Z);have KF:=aa (ar.out.trans Z.any);have HM:Hid (eY p a7<eY p wr):=by unfold Hid;rw [SF.out.left,ak.out];exact ap.out
       clear az Z p0 p1 p2 p3 p4 p5;go_wp2_with fail;go_roundw
       case rel=>exact ⟨pb2,i+1,some ⟨gg,0,none⟩,c',f ++ [x],a0,rfl,rfl,by omega,by unfold Hid;rw [List.length_append,z.out];rfl,aw,BF,SF,br,KF⟩
       case measure=>exact HM.out
      ·simp only [Prod.mk.injEq] at heq;obtain ⟨rfl,rfl,rfl,rfl⟩:=heq;exact ⟨rfl,.inr ⟨bb,rfl,rfl,rfl,ad,Y.out.trans k5⟩⟩
     ·have a4:¬ (i:Int)<(n:Int):=by omega
      have he:(r1,r2,r3,r4)=(true,f,0,ds):=by
       obtain ⟨g',rfl⟩:∃ g',g=g'+1:=⟨g-1,by omega⟩
       rw [z.out] at heq;unfold iZ at heq;rw [if_pos (by omega)] at heq;exact heq.symm
      have HF:=aa (d.out he);clear d he heq hg;go_wp2_with fail;go_end0
      exact HF.out
    ·subst hpb;have HF:=aa (d.out heq.symm);clear d heq;go_wp2_with fail;go_end0
     exact HF.out
 ·rw [if_pos hO0] at c;simp only [Prod.mk.injEq] at c;obtain ⟨rfl,rfl,rfl,rfl⟩:=c;have a:Calls Tryz.prog 124 #[.slice co L cap] w fun e w'=>e=.panicked [refusal (O:Nat)]∧w'=w:=by
   refine o.mono ?_;rintro e w' ⟨⟨h,_⟩ | ⟨_,rfl⟩,rfl⟩
   ·exact absurd h hO0
   ·exact ⟨rfl,rfl⟩
  clear o q l;go_enter Tryz.func123,Tryz.ntmps123;go_wp2_with fail;refine a.mono ?_;rintro e w1 ⟨rfl,rfl⟩;exact ⟨rfl,.inr ⟨hO0,rfl,rfl,rfl,HS.out,ah _ _⟩⟩

theorem Bases.box {w:World} {base b L:Nat} {c u:Value} {t:TypeId} {a:List (List Nat)} (h:Bases w base c L a) (hb:Box w b u t) (hu:∀ z,u≠.int .u64 z) (hlt:b<base) (x:Value):Bases (w.setCell ⟨b,0,none⟩ x) base c L a:=
 h.keptS (au w b x) (fun y hy e=>by have e':y=b:=e;omega) (fun v zs hr d y hy e=>by
  have e':y=b:=e;subst e';exact jf hb (fun q hq z=>by simp at hq;rw [hq];exact hu z) hr d hy)

theorem Lsc.box {w:World} {p:Option Addr} {B b:Nat} {bs:List Nat} (h:Lsc w p B bs) (hB:B≤b) (x:Value):Lsc (w.setCell ⟨b,0,none⟩ x) p B bs:=h.kept (au w b x) (fun y hy e=>by have e':y=b:=e;omega)

theorem xq (co p:Option Addr) (L cap B:Nat) (k:Int) (xs cs:List Nat) (r1:Bool) (r2:List (List Nat)) (r3:Nat) (r4:List Nat) (G:eE xs k cs=(r1,r2,r3,r4)) (H:-9223372036854775808≤k) (I:k≤9223372036854775807) (w:World)
  (hu:Row .u64 w (.slice co L cap) xs) (hd:Digs xs) (hL:L≤1000000) (hs:Lsc w p B cs) (hB:B≤w.heap.size) (E:Digs cs 256) :
  Calls Tryz.prog 82 #[.pointer p,.slice co L cap,.int .i64 k] w fun e w'=>∃ v',e=.returned (.tuple #[.bool r1,v',.int .i64 (r3:Int)])∧Bases w' w.heap.size v' L r2∧Lsc w' p B r4∧Kept (ofP p) w w':=by
 have R:=fd;have he:∀ args w,(callFunc 123 args).run Tryz.prog w=.ok (.enter 123 args) w:=fun _ _=>by simp [go_sem]
 obtain ⟨W,hW⟩:∃ W,W=((((w.alloc (.cells #[.pointer p] 26)).alloc (.cells #[.slice co L cap] 32)).alloc (.cells #[.int .i64 k] 3)).alloc (.cells #[.bool false] 4)).alloc (.cells #[.slice none 0 0] 86):=⟨_,rfl⟩
 obtain ⟨k0,x0,x1,x2,x3,x4,y⟩:=tA w (.pointer p) (.slice co L cap) (.int .i64 k) (.bool false) (.slice none 0 0) 26 32 3 4 86;rw [← hW] at k0 x0 x1 x2 x3 x4 y;have k1:=k0.alloc (.cells #[.int .i64 0] 33);have xe:=Box.new W (.int .i64 0) 33;have n:(W.alloc (.cells #[.int .i64 0] 33)).heap.size=W.heap.size+1:=by simp
 have d:∀ b,B≤b→¬ ofP p b:=fun b hb e=>by have:=(hs.inP e).1;omega
 have h1:=vH co p L cap B (w.heap.size+1) (w.heap.size+1+1) w.heap.size (w.heap.size+1+1+1) (w.heap.size+1+1+1+1) k xs cs r1 r2 r3 r4 G H I _ (hu.grew k1) hd hL (hs.grew k1) E (by omega) (by omega) (by omega) (by omega) (by omega) (by omega) (x1.alloc _) (x2.alloc _) (x0.alloc _) (x3.alloc _) (x4.alloc _);have F:=uf 123 #[.pointer (some ⟨w.heap.size+1,0,none⟩),.pointer (some ⟨w.heap.size+1+1,0,none⟩),.pointer (some ⟨w.heap.size,0,none⟩),.pointer (some ⟨w.heap.size+1+1+1,0,none⟩),.pointer (some ⟨w.heap.size+1+1+1+1,0,none⟩)] W
  (fun c W'=>c=(r3:Nat)∧Kept (ofP p) w W'∧Lsc W' p B r4∧∃ v,Bases W' (W.heap.size+1) v L r2∧Box W' (w.heap.size+1+1+1) (.bool r1) 4∧Box W' (w.heap.size+1+1+1+1) v 86) he (h1.mono (by
  rintro e w' (⟨h2,rfl,v,w1,l,h,kk,rfl⟩ | ⟨h2,rfl,rfl,rfl,h,kk⟩)
  ·rw [n] at l;have t:Box w1 W.heap.size (.int .i64 0) 33:=xe.kept kk (d _ (by omega));have o:=(x3.alloc (.cells #[.int .i64 0] 33)).kept kk (d _ (by omega));have r:=(x4.alloc (.cells #[.int .i64 0] 33)).kept kk (d _ (by omega));have a:=l.box o (fun z e=>by cases e) (by omega) (.bool r1);have f:=o.set (.bool r1);have g:=r.other ⟨w.heap.size+1+1+1,0,none⟩ (by show w.heap.size+1+1+1+1≠w.heap.size+1+1+1;omega) (.bool r1);have N:=t.other ⟨w.heap.size+1+1+1,0,none⟩ (by show W.heap.size≠w.heap.size+1+1+1;omega) (.bool r1);have s:=a.box g (fun z e=>by cases e) (by omega) v
   have q:=f.other ⟨w.heap.size+1+1+1+1,0,none⟩ (by show w.heap.size+1+1+1≠w.heap.size+1+1+1+1;omega) v;have j:=g.set v;have P:=N.other ⟨w.heap.size+1+1+1+1,0,none⟩ (by show W.heap.size≠w.heap.size+1+1+1+1;omega) v;refine ⟨P,.inl ⟨rfl,by rw [h2];rfl,?_,(h.box (by omega) _).box (by omega) _,v,s,q,j⟩⟩;exact ((k1.any.trans kk).next (au w1 (w.heap.size+1+1+1) (.bool r1)) (fun x hx e=>by omega)).next (au _ (w.heap.size+1+1+1+1) v) (fun x hx e=>by omega)
  ·have t:Box w' W.heap.size (.int .i64 0) 33:=xe.kept kk (d _ (by omega));have o:=(x3.alloc (.cells #[.int .i64 0] 33)).kept kk (d _ (by omega));have r:=(x4.alloc (.cells #[.int .i64 0] 33)).kept kk (d _ (by omega));exact ⟨t,.inr ⟨_,rfl,rfl,k1.any.trans kk,h,.slice none 0 0,Bases.nil _ _ _,o,r⟩⟩))
 have HW:=aa hW;have O:=aa y;have HB:=aa hB;clear h1 hu hd hL hs hB E G H I hW k0 k1 x0 x1 x2 x3 x4 xe he y n d;go_enter Tryz.func82,Tryz.ntmps82;go_wp2_with (rw [← HW.out]);refine F.mono ?_;rintro e w' ⟨c,w1,rfl,⟨⟨rfl,k2,h,v,l,hI,hR⟩,C⟩,rfl⟩;have i:Box w1 W.heap.size (.int .i64 0) 33:=C;have Q:W.heap.size=w.heap.size+1+1+1+1+1:=O.out;have k4:=k2.next (au w1 W.heap.size (.int .i64 (r3:Nat))) (fun x hx e=>by omega)
 have a:=l.box i (fun z e=>by cases e) (by omega) (.int .i64 (r3:Nat));have m:=h.box (b:=W.heap.size) (by have:=HB.out;omega) (.int .i64 (r3:Nat));have f:=hI.other ⟨W.heap.size,0,none⟩ (by show w.heap.size+1+1+1≠W.heap.size;omega) (.int .i64 (r3:Nat));have g:=hR.other ⟨W.heap.size,0,none⟩ (by show w.heap.size+1+1+1+1≠W.heap.size;omega) (.int .i64 (r3:Nat));generalize w1.setCell ⟨W.heap.size,0,none⟩ (.int .i64 (r3:Nat))=w2 at *;obtain ⟨vo,vc,rfl⟩:=a.slice;have c1:=f.cell;have f1:=f.free;have c2:=g.cell;have f2:=g.free;have q:=f.set (.bool r1);have j:=g.other ⟨w.heap.size+1+1+1,0,none⟩ (by show w.heap.size+1+1+1+1≠w.heap.size+1+1+1;omega) (.bool r1)
 have A:=q.other ⟨w.heap.size+1+1+1+1,0,none⟩ (by show w.heap.size+1+1+1≠w.heap.size+1+1+1+1;omega) (.slice vo r2.length vc);have D:=j.set (.slice vo r2.length vc);have c3:=A.cell;have c4:=D.cell;have J:=aa (((a.box f (fun z e=>by cases e) (by omega) (.bool r1)).box j (fun z e=>by cases e) (by omega) (.slice vo r2.length vc)).base (show w.heap.size≤W.heap.size+1 by omega));have M:=aa ((m.box (b:=w.heap.size+1+1+1) (by have:=HB.out;omega) (.bool r1)).box (b:=w.heap.size+1+1+1+1) (by have:=HB.out;omega) (.slice vo r2.length vc))
 have HK:=aa ((k4.next (au w2 (w.heap.size+1+1+1) (.bool r1)) (fun x hx e=>by omega)).next (au _ (w.heap.size+1+1+1+1) (.slice vo r2.length vc)) (fun x hx e=>by omega));clear F l a h m hI hR f g q j A D k2 k4 C i Q;generalize hr2l:r2.length=ln at *;clear hr2l;go_wp2_with fail;go_region
 all_goals
  go_wp2;exact bodyPost_ret (v:=.tuple #[.bool r1,.slice vo ln vc,.int .i64 (r3:Nat)]) (by simp [results,Tryz.results82,go_sem,c3,c4]) rfl ⟨_,rfl,J.out.grew (ah _ _).drew,M.out.grew (ah _ _).drew,HK.out.trans (ah af _).drew.any⟩

def mC (m p j:Nat):Prop:=j≤m∧∃ q,bk q∧q<p∧q*q≤j∧j%q=0

def StkL (m p:Nat) (zs:List Nat):Prop:=zs.length=10001∧∀ j,zs.getD j 0=1↔mC m p j

def StkM (m p t:Nat) (zs:List Nat):Prop:=zs.length=10001∧∀ j,zs.getD j 0=1↔(mC m p j∨(j≤m∧p*p≤j∧j<t∧j%p=0))

theorem tK (m:Nat):StkL m 2 (List.replicate 10001 0):=by
 refine ⟨List.length_replicate,fun j=>⟨fun h=>?_,fun h=>?_⟩⟩
 ·rw [List.getD_eq_getElem?_getD,List.getElem?_replicate] at h
  split at h
  ·cases h
  ·cases h
 ·obtain ⟨_,q,hq,h2,_⟩:=h;exact absurd hq.1 (by omega)

theorem rt {n:Nat} (hn:2≤n):∃ d,2≤d∧d≤n∧n%d=0∧∀ e,2≤e→e<d→n%e≠0:=by
 have a:∀ k,(∀ e,2≤e→e<n+1-k→n%e≠0)∨∃ d,2≤d∧d≤n∧n%d=0∧∀ e,2≤e→e<d→n%e≠0:=by
  intro k;have:∀ b,(∀ e,2≤e→e<b→n%e≠0)∨∃ d,2≤d∧d<b∧n%d=0∧∀ e,2≤e→e<d→n%e≠0:=by
   intro b
   induction b with
   | zero=>exact .inl (fun e _ h=>by omega)
   | succ b ih=>
    rcases ih with h | ⟨d,h1,h2,h3,h4⟩
    ·by_cases hb:2≤b∧n%b=0
     ·exact .inr ⟨b,hb.1,by omega,hb.2,h⟩
     ·refine .inl (fun e h1 h2=>?_);by_cases eb:e=b
      ·subst eb;exact fun h3=>hb ⟨h1,h3⟩
      ·exact h e h1 (by omega)
    ·exact .inr ⟨d,h1,by omega,h3,h4⟩
  rcases this (n+1) with h | ⟨d,h1,h2,h3,h4⟩
  ·exact absurd (Nat.mod_self n) (h n hn (by omega))
  ·exact .inr ⟨d,h1,by omega,h3,h4⟩
 rcases a 0 with h | h
 ·exact absurd (Nat.mod_self n) (h n hn (by omega))
 ·exact h

theorem jC {n d:Nat} (hd:2≤d) (h:n%d=0) (hl:∀ e,2≤e→e<d→n%e≠0):bk d:=by
 refine ⟨hd,fun e h1 h2 h3=>hl e h1 h2 ?_⟩;exact Nat.mod_eq_zero_of_dvd (Nat.dvd_trans (Nat.dvd_of_mod_eq_zero h3) (Nat.dvd_of_mod_eq_zero h))

theorem lq {m p:Nat} (h2:2≤p) (hm:p≤m):¬ mC m p p↔bk p:=by
 constructor
 ·intro h;obtain ⟨d,h3,h4,h5,h6⟩:=rt h2;by_cases hdp:d=p
  ·subst hdp;exact jC h3 h5 h6
  ·exfalso
   refine h ⟨hm,d,jC h3 h5 h6,by omega,?_,h5⟩;obtain ⟨c,hc⟩:=Nat.dvd_of_mod_eq_zero h5;have e:d≤c:=by
    rcases Nat.lt_or_ge c d with h7 | h7
    ·exfalso
     have b:2≤c:=by
      rcases Nat.lt_or_ge c 2 with h8 | h8
      ·have a:c=0∨c=1:=by omega
       rcases a with rfl | rfl
       ·omega
       ·omega
      ·exact h8
     refine h6 c b h7 ?_;rw [hc,Nat.mul_comm];exact Nat.mul_mod_right c d
    ·exact h7
   rw [hc];exact Nat.mul_le_mul_left d e
 ·rintro hp ⟨_,q,hq,h3,_,h5⟩;exact hp.2 q hq.1 h3 h5

theorem StkL.skip {m p:Nat} {zs:List Nat} (h:StkL m p zs) (hp:¬ bk p):StkL m (p+1) zs:=by
 refine ⟨h.1,fun j=>(h.2 j).trans ⟨?_,?_⟩⟩
 ·rintro ⟨h1,q,h2,h3,h4,h5⟩;exact ⟨h1,q,h2,by omega,h4,h5⟩
 ·rintro ⟨h1,q,h2,h3,h4,h5⟩;refine ⟨h1,q,h2,?_,h4,h5⟩;have:q≠p:=fun e=>hp (e ▸ h2)
  omega

theorem StkL.into {m p:Nat} {zs:List Nat} (h:StkL m p zs):StkM m p (p*p) zs:=
 ⟨h.1,fun j=>(h.2 j).trans ⟨.inl,fun e=>by
  rcases e with e | ⟨_,h2,h3,_⟩
  ·exact e
  ·omega⟩⟩

theorem StkM.set {m p t:Nat} {zs:List Nat} (h:StkM m p t zs) (hm:m≤10000) (ht:t≤m) (hp:p*p≤t) (hd:t%p=0) (h0:0<p):StkM m p (t+p) (zs.set t 1):=by
 refine ⟨by rw [List.length_set];exact h.1,fun j=>?_⟩;by_cases hj:j=t
 ·subst hj;rw [List.getD_eq_getElem?_getD,List.getElem?_set_self (by rw [h.1];omega)];exact ⟨fun _=>.inr ⟨ht,hp,by omega,hd⟩,fun _=>rfl⟩
 ·have e1:(zs.set t 1).getD j 0=zs.getD j 0:=by
   rw [List.getD_eq_getElem?_getD,List.getD_eq_getElem?_getD,List.getElem?_set_ne (fun e=>hj e.symm)]
  rw [e1,h.2 j];constructor
  ·rintro (e | ⟨h1,h2,h3,h4⟩)
   ·exact .inl e
   ·exact .inr ⟨h1,h2,by omega,h4⟩
  ·rintro (e | ⟨h1,h2,h3,h4⟩)
   ·exact .inl e
   ·refine .inr ⟨h1,h2,?_,h4⟩;rcases Nat.lt_or_ge j t with h5 | h5
    ·exact h5
    ·exfalso
     obtain ⟨r,rfl⟩:∃ r,j=t+r:=⟨j-t,by omega⟩
     rw [Nat.add_mod,hd,Nat.zero_add,Nat.mod_mod,am (by omega)] at h4;omega

theorem StkM.out {m p t:Nat} {zs:List Nat} (h:StkM m p t zs) (ht:m<t) (hp:bk p):StkL m (p+1) zs:=by
 refine ⟨h.1,fun j=>(h.2 j).trans ⟨?_,?_⟩⟩
 ·rintro (⟨h1,q,h2,h3,h4,h5⟩ | ⟨h1,h2,_,h4⟩)
  ·exact ⟨h1,q,h2,by omega,h4,h5⟩
  ·exact ⟨h1,p,hp,by omega,h2,h4⟩
 ·rintro ⟨h1,q,h2,h3,h4,h5⟩;by_cases e:q=p
  ·subst e;exact .inr ⟨h1,h4,by omega,h5⟩
  ·exact .inl ⟨h1,q,h2,by omega,h4,h5⟩

theorem kL {p:Nat} (h:1≤p) (hp:bk p):aX (p-1) ++ [p]=aX p:=by
 obtain ⟨q,rfl⟩:∃ q,p=q+1:=⟨p-1,by omega⟩
 rw [Nat.add_sub_cancel,iu,if_pos hp]

theorem kI {p:Nat} (h:1≤p) (hp:¬ bk p):aX (p-1)=aX p:=by
 obtain ⟨q,rfl⟩:∃ q,p=q+1:=⟨p-1,by omega⟩
 rw [Nat.add_sub_cancel,iu,if_neg hp,List.append_nil]

def uE:List Value→Nat→Bool
 | [],n=>n == 0
 | v :: l,n=>match v with
  | .int .u8 0=>(match n with | 0=>false | m+1=>uE l m)
  | _=>false

theorem lO:∀ (l:List Value) (n:Nat),uE l n=true→l=List.replicate n (.int .u8 0)
 | [],n,h=>by
  have:n=0:=by simpa [uE] using h
  subst this;rfl
 | v :: l,n,h=>by
  unfold uE at h
  split at h
  ·cases n with
   | zero=>cases h
   | succ m=>rw [List.replicate_succ,← lO l m h]
  ·cases h

theorem Tryz.zeros16:(match (Tryz.prog.info? 214).bind (fun i=>i.zero) with | some (.agg cs)=>uE cs.toList 10001 | _=>false)=true:=by kernel_rfl

theorem zW:∃ cs:Array Value,cs=((List.replicate 10001 0).map fun z:Nat=>Value.int .u8 (z:Int)).toArray∧∀ w,Sem.run Tryz.prog (zeroValue 214) w=.ok (.agg cs) w:=by
 have h:=Tryz.zeros16;cases hi:Tryz.prog.info? 214 with
 | none=>rw [hi] at h;cases h
 | some i=>
  rw [hi] at h;simp only [Option.bind_some] at h
  split at h
  ·rename_i cs hz
   refine ⟨cs,?_,fun w=>?_⟩
   ·have e:=lO _ _ h;rw [List.map_replicate];show cs=(List.replicate 10001 (Value.int .u8 0)).toArray
    rw [← e]
   ·simp only [zeroValue,typeInfo];simp [go_sem,hi,hz]
  ·cases h

open Go.RowKit Go.Shelf

def yj {β:Type} (T:Nat→Prop) (J:β→World→Prop):Prop:=∀ s A C,J s A→Kept T A C→J s C

theorem Books.but {d:Nat} {r:Loop} {A C:World} {Sb:Nat→Prop} (h:Books d r A) (k:Kept Sb A C) (h0:¬ Sb d) (h1:¬ Sb (d+1)):Books d r C:=by
 have hl:=h.lt;exact ⟨(k.block _ hl h1).trans h.1,(k.block _ (by omega) h0).trans h.2⟩

def BP {α:Type} (n:Nat) (P:Program) (g:Nat) (lb:Array Value) (encs:α→Array Value) (X:List α→α→World→Prop) (Sb T:Nat→Prop) (S:List α→World→Prop) (w:World):Prop:=
 ∀ (l:Nat) (J Jx:List α→World→Prop) (W:World),Kept af w W→l=w.heap.size+1→W.heap.size=w.heap.size+2 →
  yj T J →
  (∀ pre x A,J pre A→X pre x A→YieldAt Fence.wide (n-1) P l (encs x) A fun e C=>
   (e=.returned (.bool true)∧J (pre ++ [x]) C∧Kept (fun b=>Sb b∨b=l∨b+1=l) A C)∨(e=.returned (.bool false)∧Jx (pre ++ [x]) C)) →
  J [] W →
  CallsIn Fence.wide n P g (#[.func (.yield l) #[] #[]] ++ lb) W fun e C=>(∃ v,e=.returned v)∧((∃ s,S s C∧J s C)∨∃ s,Jx s C)

theorem kC {α:Type} {P:Program} {n:Nat} {g:Operand} {ps:Array Tmp} {assign body:Code} {Q:Exit→Act→World→Prop} {a:Act} {w:World} (h1:1≤n) {gf:Nat} {lb:Array Value}
  (hg:a.eval g=.func (.func gf) #[] lb) (eg:∀ args w,(callFunc gf args).run P w=.ok (.enter gf args) w)
  {y:α→Array Value} {X:List α→α→World→Prop} {Sb T:Nat→Prop} {S:List α→World→Prop} (F:BP (n-1) P gf lb y X Sb T S w) (U:∀ x,(y x).size=ps.size) (hSb:¬ Sb w.heap.size∧¬ Sb (w.heap.size+1)) (hT:¬ T w.heap.size∧¬ T (w.heap.size+1))
  (hX:∀ m x A l o o',X m x A→A.heap[l]? = some o→o.isCells=false→X m x (A.putObj l o'))
  (I:List α→World→Prop) (Ix:Code→List α→World→Prop) (hI:yj T I) (L:nF w.heap.size I) (N:∀ c,nF w.heap.size (Ix c)) (hS:nF w.heap.size S) (h0:I [] w) (a₁:α→Act)
  (q:∀ (l:Nat) (x:α) (W:World) (K:Act→World→Prop),K (a₁ x) W→assign.wpIn (Fence.wide.inRound l) (n-1-1) P (Exit.then K (fun _ _ _=>False)) { tmps:=(ps.zip (y x)).foldl (fun t (p,v)=>t.setIfInBounds p v) a.tmps,defers:=[] } W)
  (hbody:∀ (l:Nat) (m:List α) (x:α) (W:World),I m W→X m x W→body.wpIn (Fence.wide.inRound l) (n-1-1) P (zA Sb I Ix (m ++ [x]) W) (a₁ x) W)
  (hdone:∀ (D:Nat) (s:List α) (W:World),w.heap.size≤D→S s W→I s W→W.heap[D]? = some (.deferred (some []))→Q .normal { a with defers:={ target:=.collected D,args:=#[] } :: a.defers } W)
  (hstop:∀ (D:Nat) (c:Code) (s:List α) (W:World),w.heap.size≤D→Ix c s W→W.heap[D]? = some (.deferred (some []))→c.wpIn Fence.wide n P Q { a with defers:={ target:=.collected D,args:=#[] } :: a.defers } W) :
  (Code.rangeFunc g ps assign body).wpIn Fence.wide n P Q a w:=by
 refine wpIn_rangeFunc fun fn ag=>?_
 obtain ⟨f,d⟩:∃ f:LoopState→Option Code→Loop,f=fun st pe=>{ state:=st,pending:=pe,fn,tmps:=a.tmps,params:=ps,assign,body,defers:=w.heap.size }:=⟨_,rfl⟩
 obtain ⟨W1,E⟩:∃ W1,W1=(w.alloc (.deferred (some []))).alloc (.loop (f .ready none)):=⟨_,rfl⟩
 have V:W1.heap.size=w.heap.size+2:=by rw [E];simp
 have O:Kept af w W1:=by rw [E];exact ((ah _ w).alloc _).alloc _
 have Z:Books w.heap.size (f .ready none) W1:=by
  rw [E];refine ⟨?_,(Below.heap_alloc _ _ _ (by simp)).trans (World.alloc_heap_new w _)⟩;have:=World.alloc_heap_new (w.alloc (.deferred (some []))) (.loop (f .ready none))
  rwa [World.size_alloc] at this
 refine ⟨w.heap.size+1,[{ target:=.collected w.heap.size,args:=#[] }],W1,{ target:=.fn (.func gf) lb,args:=#[.func (.yield (w.heap.size+1)) #[] #[]] },W1,gf,#[.func (.yield (w.heap.size+1)) #[] #[]] ++ lb,W1,?_,?_,fun _ _=>trivial,?_,fun _=>h1,?_⟩
 ·rw [E,d];exact run_enterLoop_outer _ _ _ _ _
 ·simp only [resolve,hg];simp [go_sem]
 ·simp [invoke,go_sem,eg]
 ·have z:∀ (j:Option Code) (A:World),Books w.heap.size (f .busy none) A→∃ C,(Instr.endRound (w.heap.size+1) j).run P A=.ok (.bool j.isNone) C∧Books w.heap.size (f (if j.isNone then .ready else .done) j) C∧Below w.heap.size A C∧Kept (fun b=>b=w.heap.size+1) A C∧∃ o',C=A.putObj (w.heap.size+1) o':=fun j A hb=>by
   refine ⟨_,run_endRound (P:=P) j hb.1,?_,ip _ (by omega),dS _ _ _,_,rfl⟩;have:=hb.put { f .busy none with state:=if j.isNone then .ready else .done,pending:=j };rw [d] at this ⊢;exact this
  have M:∀ {β:Type} {J:β→World→Prop} {r:Loop},yj T J→yj T (fun s A=>J s A∧Books w.heap.size r A):=fun hJ s A C h k=>
   ⟨hJ s A C h.1 k,h.2.but k hT.1 hT.2⟩
  refine (F (w.heap.size+1) (fun s A=>I s A∧Books w.heap.size (f .ready none) A) (fun s A=>∃ c,Ix c s A∧Books w.heap.size (f .done (some c)) A) W1 O rfl V (M hI) ?_ ⟨hI _ _ _ h0 O.any,Z⟩).mono ?_
  ·rintro m x A ⟨hi,hb⟩ hx;have hy:=run_yield (P:=P) (args:=y x) hb.1 (by rw [d];exact U x);rw [d] at hy;refine ⟨fn,_,assign,body,hy,roundIn_of_wpIn ag (q _ x A _ ⟨_,run_beginRound hb.1 (by rw [d]),?_⟩)⟩;have R:=hb.put { f .ready none with state:=.busy };have ae:=hX m x A _ _ (.loop { f .ready none with state:=.busy }) hx hb.1 rfl;have ad:=L _ _ _ _ (.loop { f .ready none with state:=.busy }) hi (by omega) hb.1 rfl;have ac:=dS A (w.heap.size+1) (.loop { f .ready none with state:=.busy });have B:∀ C,Kept Sb (A.putObj (w.heap.size+1) (.loop { f .ready none with state:=.busy })) C→Books w.heap.size (f .busy none) C:=fun C k=>by
    have:=R.but k hSb.1 hSb.2;rw [d] at this ⊢;exact this
   refine wpIn_mono (hbody _ m x _ ad ae) ?_;generalize A.putObj (w.heap.size+1) (.loop { f .ready none with state:=.busy })=A2 at *;have H:∀ (c:Code) (C:World),Kept Sb A2 C→Ix c (m ++ [x]) C→∃ v C',(Instr.endRound (w.heap.size+1) (some c)).run P C=.ok v C'∧((Ending.returned v=.returned (.bool true)∧(I (m ++ [x]) C'∧Books w.heap.size (f .ready none) C')∧Kept (fun b=>Sb b∨b=w.heap.size+1∨b+1=w.heap.size+1) A C')∨(Ending.returned v=.returned (.bool false)∧∃ c,Ix c (m ++ [x]) C'∧Books w.heap.size (f .done (some c)) C')):=fun c C k hc=>by
    obtain ⟨C',hr,G,_,_,o',rfl⟩:=z (some c) C (B C k);exact ⟨_,_,hr,.inr ⟨rfl,c,N c _ _ _ _ o' hc (by omega) (B C k).1 rfl,G⟩⟩
   rintro e a3 C hp;cases e with
   | normal=>
    obtain ⟨k,Y⟩:=hp;obtain ⟨C',hr,G,ai,ab,o',rfl⟩:=z none C (B C k);exact ⟨_,_,hr,.inl ⟨rfl,⟨L _ _ _ _ o' Y (by omega) (B C k).1 rfl,G⟩,((ac.mono (fun _ _ e=>.inr (.inl e))).next k (fun _ _ e=>.inl e)).next ab (fun _ _ e=>.inr (.inl e))⟩⟩
   | ret=>exact H _ C hp.1 hp.2
   | exit i=>exact H _ C hp.1 hp.2
   | goto t=>exact H _ C hp.1 hp.2
   | panic c=>exact hp.elim
   | outgrown=>exact hp.elim
  ·rintro e C ⟨⟨v,rfl⟩,(⟨s,aa,hi,hb⟩ | ⟨s,c,hi,hb⟩)⟩
   ·refine ⟨_,_,run_endLoop (P:=P) hb.1 (by rw [d];simp),?_⟩;rw [d] at hb ⊢;exact hdone _ s _ (leR _) (hS _ _ _ _ _ aa (by omega) hb.1 rfl) (L _ _ _ _ _ hi (by omega) hb.1 rfl) ((World.putObj_heap_other (by omega)).trans hb.2)
   ·refine ⟨_,_,run_endLoop (P:=P) hb.1 (by rw [d];simp),?_⟩;rw [d] at hb ⊢;exact hstop _ c s _ (leR _) (N c _ _ _ _ _ hi (by omega) hb.1 rfl) ((World.putObj_heap_other (by omega)).trans hb.2)

def Arr (k:IntKind) (t:TypeId) (w:World) (b:Nat) (zs:List Nat):Prop:=w.heap[b]? = some (.cells (zs.map fun z=>Value.int k (z:Nat)).toArray t (0,0))

theorem Arr.cell {k:IntKind} {t:TypeId} {w:World} {b:Nat} {zs:List Nat} (h:Arr k t w b zs) (i:Nat) (hi:i<zs.length):w.cell? ⟨b,i,none⟩=some (.int k (zs.getD i 0:Nat)):=by
 rw [cell_of_row w b i _ _ _ h];simp [List.getElem?_eq_getElem hi]

theorem Arr.free {k:IntKind} {t:TypeId} {w:World} {b:Nat} {zs:List Nat} (h:Arr k t w b zs) (i:Nat):w.frozen? ⟨b,i,none⟩=false:=by
 unfold Arr at h;simp [World.frozen?,h]

theorem Arr.set {k:IntKind} {t:TypeId} {w:World} {b:Nat} {zs:List Nat} (h:Arr k t w b zs) (i z:Nat):Arr k t (w.setCell ⟨b,i,none⟩ (.int k (z:Nat))) b (zs.set i z):=by
 have:=heap_setCell_same w b i _ t (.int k (z:Nat)) h;unfold Arr;rw [this,List.map_set];simp

theorem Arr.kept {S:Nat→Prop} {k:IntKind} {t:TypeId} {w w':World} {b:Nat} {zs:List Nat} (h:Arr k t w b zs) (kk:Kept S w w') (hs:¬ S b):Arr k t w' b zs:=(kk.block b (lt_of_block h) hs).trans h

attribute [local go_sem] Oper.semAt_some

def B2 (m B:Nat) (pre:List Nat) (p:Nat) (A:World):Prop:=pre=aX (p-1)∧bk p∧p≤m∧B+3≤A.heap.size

theorem tB (n:Int):gX n=(min n 10000).toNat:=by unfold gX;split <;> omega

theorem yP (n:Int) (w:World) :
  Calls Tryz.prog 161 #[.int .i64 n] w fun e w'=>e=.returned (.func (.func 206) #[] #[.pointer (some ⟨w.heap.size,0,none⟩)])∧Boxed w' w.heap.size 3 (.int .i64 (min n 10000))∧Kept af w w'∧w'.heap.size=w.heap.size+1:=by
 go_enter Tryz.func161,Tryz.ntmps161;go_wp2;go_ret;exact ⟨rfl,Boxed.new w 3 (.int .i64 (min n 10000)),(ah af w).alloc _,by simp⟩

structure BtwS (wr:World) (G bl m p:Nat) (N:Int):Prop where
 arr:∃ zs,StkL m p zs∧Arr .u8 214 wr G zs
 lb:Boxed wr bl 3 (.int .i64 N)
 size:G+1≤wr.heap.size

theorem BtwS.kept {S:Nat→Prop} {wr w':World} {G bl m p:Nat} {N:Int} (b:BtwS wr G bl m p N) (k:Kept S wr w') (h0:¬ S G) (h1:¬ S bl):BtwS w' G bl m p N:=by
 obtain ⟨⟨zs,h2,h3⟩,h4,h5⟩:=b;exact ⟨⟨zs,h2,h3.kept k h0⟩,aL h4 k h1,Nat.le_trans h5 k.size⟩

theorem BtwS.skip {wr:World} {G bl m p:Nat} {N:Int} (b:BtwS wr G bl m p N) (hp:¬ bk p):BtwS wr G bl m (p+1) N:=by
 obtain ⟨⟨zs,h2,h3⟩,h4,h5⟩:=b;exact ⟨⟨zs,h2.skip hp,h3⟩,h4,h5⟩

structure BtwT (wr:World) (G bl m p t:Nat) (N:Int):Prop where
 arr:∃ zs,StkM m p t zs∧Arr .u8 214 wr G zs
 lb:Boxed wr bl 3 (.int .i64 N)
 size:G+1≤wr.heap.size

theorem BtwS.into {wr:World} {G bl m p:Nat} {N:Int} (b:BtwS wr G bl m p N):BtwT wr G bl m p (p*p) N:=by
 obtain ⟨⟨zs,h2,h3⟩,h4,h5⟩:=b;exact ⟨⟨zs,h2.into,h3⟩,h4,h5⟩

theorem BtwT.out {wr:World} {G bl m p t:Nat} {N:Int} (b:BtwT wr G bl m p t N) (ht:m<t) (hp:bk p):BtwS wr G bl m (p+1) N:=by
 obtain ⟨⟨zs,h2,h3⟩,h4,h5⟩:=b;exact ⟨⟨zs,h2.out ht hp,h3⟩,h4,h5⟩

theorem BtwT.put {wr:World} {G bl m p t:Nat} {N:Int} (b:BtwT wr G bl m p t N) (a:bl≠G) (hm:m≤10000) (ht:t≤m) (hp:p*p≤t) (hd:t%p=0) (h0:0<p) :
  BtwT (wr.setCell ⟨G,t,none⟩ (.int .u8 1)) G bl m p (t+p) N∧Kept (fun x=>x=G) wr (wr.setCell ⟨G,t,none⟩ (.int .u8 1)):=by
 obtain ⟨⟨zs,h2,h3⟩,h4,h5⟩:=b;have k:Kept (fun x=>x=G) wr (wr.setCell ⟨G,t,none⟩ (.int .u8 1)):=(ah (fun x=>x=G) _).setCell ⟨G,t,none⟩ (fun _=>rfl) _;exact ⟨⟨⟨zs.set t 1,h2.set hm ht hp hd h0,h3.set t 1⟩,aL h4 k a,Nat.le_trans h5 k.size⟩,k⟩

theorem sM (n:Nat) (hn:1≤n) (bl:Nat) (N:Int) (w:World) (Sb:Nat→Prop) (hb:Boxed w bl 3 (.int .i64 (min N 10000))) (M:¬ Sb bl) (C:¬ Sb (w.heap.size+2)) :
  BP n Tryz.prog 206 #[.pointer (some ⟨bl,0,none⟩)] (fun p:Nat=>#[.int .i64 (p:Int)]) (B2 (gX N) w.heap.size) Sb (fun x=>x=w.heap.size+2) (fun s _=>s=aX (gX N)) w:=by
 rintro l J Jx W H r S hJ hY h0;obtain ⟨cs,j,ai⟩:=zW;have ag:¬ cs=#[]:=by
  rw [j];intro e;have:=congrArg Array.size e;simp at this
 obtain ⟨m,hm⟩:∃ m,m=gX N:=⟨_,rfl⟩
 have ac:m≤10000:=by rw [hm];exact mq N
 have HM:Hid (∀ p:Nat,2≤p→((p:Int)≤min N 10000↔p≤m)):=fun p hp=>by rw [hm,tB];omega
 rw [← hm] at hY ⊢;generalize min N 10000=I at *;obtain ⟨G,hG⟩:∃ G,G=w.heap.size+2:=⟨_,rfl⟩
 have P:W.heap.size=G:=by omega
 have L:=hb.lt;have ad:bl≠G:=by omega
 have D:=bV hb H;have kA:Kept af W (W.alloc (.cells cs 214)):=(ah af W).alloc _;have HA:Hid (Arr .u8 214 (W.alloc (.cells cs 214)) G (List.replicate 10001 0)):=by
  unfold Hid Arr;rw [← j,← P];exact heap_alloc_new W _
 have H0:Hid (BtwS (W.alloc (.cells cs 214)) G bl m 2 I):=⟨⟨_,tK m,HA.out⟩,bV D kA,by simp;omega⟩
 have v:Hid (J [] (W.alloc (.cells cs 214))):=hJ _ _ _ h0 kA.any;have HJ:=aa hJ;have HG:Hid (G=w.heap.size+2∧l=w.heap.size+1∧bl<w.heap.size):=⟨hG,r,L⟩
 have T:=aa M;have X:=aa C;clear hb H h0 r S D kA HA hJ hG L M C j hm;refine callsIn_of_wp Tryz.func206 rfl trivial ?_ rfl;simp only [Tryz.ntmps206,List.size_toArray,List.length_cons,List.length_nil,Nat.reduceAdd,Nat.reduceSub,Array.replicate_succ,Array.replicate_zero,List.push_toArray,List.append_toArray,List.nil_append,List.cons_append];refine wpIn_wide.2 ?_;go_step3
 go_wp2_with fail;go_step3
 go_wp2_with fail;generalize W.alloc (.cells cs 214)=W1 at *;refine (wpIn_wide (n:=n)).1 ?_
 gi_loopw [4] (fun iv wr=>∃ p:Nat,2≤p∧p≤10001∧(p≤m+1∨p=2)∧iv=.int .i64 (p:Int)∧Hid (J (aX (p-1)) wr)∧Hid (BtwS wr G bl m p I)) (fun iv _=>10002-(intOf iv).toNat)
 case atStart=>exact ⟨2,by omega,by omega,.inr rfl,rfl,v.out,H0.out⟩
 case round=>
  clear v H0;obtain ⟨p,a,F,U,rfl,d,hB⟩:=hrel;have A:=hB.out.lb.cell;by_cases hin:p≤m
  ·have g1:=(HM.out p a).2 hin;obtain ⟨zs,b,hA⟩:=hB.out.arr;have cp:=hA.cell p (by rw [b.1];omega);have c:=b.2 p;obtain ⟨z,hz⟩:∃ z,z=zs.getD p 0:=⟨_,rfl⟩
   rw [← hz] at cp c;have ae:(0:Int)≤(p:Int):=by omega
   have al:(p:Int)<10001:=by omega
   clear hz hA b;by_cases hP:bk p
   ·have o:¬ (z:Int)=1:=fun e=>(lq a hin).2 hP (c.1 (by omega))
    have HP:=aa hP;have hx:B2 m w.heap.size (aX (p-1)) p wr:=⟨rfl,hP,hin,by have:=hB.out.size;have:=HG.out;omega⟩
    obtain ⟨fn,tmps,assign,body,hy,hR⟩:=hY _ p wr d.out hx;clear hx c hP
    gi_wp2_with fail
    refine hR.mono ?_;rintro e w5 (⟨rfl,g,k5⟩ | ⟨rfl,i⟩)
    ·have B5:=aa (hB.out.kept k5 (by
      have:=HG.out;rintro (e | e | e)
      ·exact X.out (by have h9:G=w.heap.size+2:=HG.out.1;rw [← h9];exact e)
      ·omega
      ·omega) (by
      have:=HG.out;rintro (e | e | e)
      ·exact T.out e
      ·omega
      ·omega)).into
     rw [kL (by omega) HP.out] at g;have B:=aa g;have R:p*p≤10001*10001:=Nat.mul_le_mul F F;obtain ⟨q,hq⟩:∃ q,q=p*p:=⟨_,rfl⟩
     have hw:IntKind.i64.wrap ((p:Int)*(p:Int))=(q:Int):=by
      have e:(p:Int)*(p:Int)=((p*p:Nat):Int):=by simp
      rw [e,← hq,IntKind.wrap_i64];omega
     have HQ:=aa hq;rw [← hq] at R;have E:Hid (q%p=0):=by unfold Hid;rw [hq];exact Nat.mul_mod_right p p
     have B6:Hid (BtwT w5 G bl m p q I):=by unfold Hid;rw [hq];exact B5.out
     clear hR hy g k5 hB d A cp hq B5
     gi_wp2_with fail
     refine wpIn_wide.2 ?_;go_loopw [5] (fun mv O=>∃ t:Nat,q≤t∧t≤100030000∧mv=.int .i64 (t:Int)∧Hid (t%p=0)∧Hid (J (aX p) O)∧Hid (BtwT O G bl m p t I)) (fun mv _=>10001-(intOf mv).toNat)
     case atStart=>exact ⟨q,leR _,by omega,rfl,E.out,B.out,B6.out⟩
     case round=>
      clear B6 B E;obtain ⟨t,Q,ht,rfl,y,k,f⟩:=hrel;have A:=f.out.lb.cell;by_cases htm:t≤m
      ·have g2:¬ (t:Int) > I:=fun e=>by
        have:=(HM.out t (by have h3:2*p≤p*p:=Nat.mul_le_mul_right p a;have:=HQ.out;omega)).2 htm;omega
       have ab:¬ I<(t:Int):=g2;have ak:(0:Int)≤(t:Int):=by omega
       have aj:(t:Int)<10001:=by omega
       obtain ⟨zs,b,hA⟩:=f.out.arr;have ct:=hA.cell t (by rw [b.1];omega);have ft:=hA.free t;obtain ⟨b7,k7⟩:=f.out.put ad ac htm (by rw [← HQ.out];exact Q) y.out (by omega);have B7:=aa b7;have Y:=aa (HJ.out _ _ _ k.out (k7.mono (fun x _ e=>by have:=HG.out;have e':x=G:=e;omega)));have Z:Hid ((t+p)%p=0):=by unfold Hid;rw [Nat.add_mod_right];exact y.out
       clear b hA b7 k7;go_wp2_with fail;go_roundw
       case rel=>exact ⟨t+p,by omega,by omega,by go_num,Z.out,Y.out,B7.out⟩
       case measure=>simp [intOf];omega
      ·have g2:(t:Int) > I:=by
        rcases Int.lt_or_le I (t:Int) with e | e
        ·exact e
        ·exact absurd ((HM.out t (by have h3:2*p≤p*p:=Nat.mul_le_mul_right p a;have:=HQ.out;omega)).1 e) htm
       have ab:I<(t:Int):=g2;have B8:=aa (f.out.out (by omega) HP.out);go_wp2_with fail
       gi_wp2_with fail
       go_roundw
       case rel=>exact ⟨p+1,by omega,by omega,.inl (by omega),by go_num,by rw [Nat.add_sub_cancel];exact k,B8⟩
       case measure=>simp [intOf];omega
    ·gi_wp2_with fail
     try rw [Exit.noGoto_ret]
     refine bodyPost_ret (results_none rfl _ _ _) rfl ?_;exact ⟨⟨_,rfl⟩,.inr ⟨_,i⟩⟩
   ·have o:z=1:=by
     rw [c];by_cases hs:mC m p p
     ·exact hs
     ·exact absurd ((lq a hin).1 hs) hP
    subst o;have B8:=aa (hB.out.skip hP);have V:Hid (J (aX (p+1-1)) wr):=by unfold Hid;rw [Nat.add_sub_cancel,← kI (by omega) hP];exact d.out
    clear hP c
    gi_wp2_with fail
    go_roundw
    case rel=>exact ⟨p+1,by omega,by omega,.inl (by omega),by go_num,V,B8⟩
    case measure=>simp [intOf];omega
  ·have g1:¬ (p:Int)≤I:=fun e=>hin ((HM.out p a).1 e)
   have HE:Hid (aX (p-1)=aX m):=by
    unfold Hid;rcases U with h | h
    ·rw [show p-1=m by omega]
    ·subst h;rw [jb (show 2-1≤1 by omega),jb (show m≤1 by omega)]
   gi_wp2_with fail
   try rw [Exit.noGoto_normal]
   refine bodyPost_end (results_none rfl _ _ _) rfl ?_;exact ⟨⟨_,rfl⟩,.inl (by rw [← HE.out];exact d.out)⟩

end Go.Proofs.YtcemlfokmjjiaaaGreatDoor
