/- Put together of: Key5 Num1 Key6 Law19. -/
import Derived.Test.YtkaojflnghfmcaaGreatDoorQA4

namespace Go.Proofs.YtkaojflnghfmcaaGreatDoor
set_option maxRecDepth 100000
set_option maxHeartbeats 4000000
open Go.RowKit

def ei (w:World) (p:Nat) (x0 x1 x2 x3 x4 x5 x6 x7:Value):World:=((((((((w.setCell ⟨p,0,none⟩ x0).setCell ⟨p,1,none⟩ x1).setCell ⟨p,2,none⟩ x2).setCell ⟨p,3,none⟩ x3).setCell ⟨p,4,none⟩ x4).setCell ⟨p,5,none⟩ x5).setCell ⟨p,6,none⟩ x6).setCell ⟨p,7,none⟩ x7)

theorem dj {w w3:World} {p:Nat} {a0 a1 a2 a3 a4 a5 a6 a7:Value} {t:TypeId} (hk:Kept af w w3) (hp:w.heap.size≤p) (a:w3.heap[p]? = some (.cells #[a0,a1,a2,a3,a4,a5,a6,a7] t (0,0))) (x0 x1 x2 x3 x4 x5 x6 x7:Value) :
  (ei w3 p x0 x1 x2 x3 x4 x5 x6 x7).heap[p]? = some (.cells #[x0,x1,x2,x3,x4,x5,x6,x7] t (0,0))∧Kept af w (ei w3 p x0 x1 x2 x3 x4 x5 x6 x7)∧Kept (fun q=>q=p) w3 (ei w3 p x0 x1 x2 x3 x4 x5 x6 x7):=by
 unfold ei;refine ⟨?_,?_,?_⟩
 ·have h0:=heap_setCell_same w3 p 0 _ _ x0 a;have h1:=heap_setCell_same _ p 1 _ _ x1 h0;have h2:=heap_setCell_same _ p 2 _ _ x2 h1;have h3:=heap_setCell_same _ p 3 _ _ x3 h2;have h4:=heap_setCell_same _ p 4 _ _ x4 h3;have h5:=heap_setCell_same _ p 5 _ _ x5 h4;have h6:=heap_setCell_same _ p 6 _ _ x6 h5;have h7:=heap_setCell_same _ p 7 _ _ x7 h6;simpa using h7
 ·exact ((((((((hk.setCell ⟨p,0,none⟩ (fun h=>by simp at h;omega) _).setCell ⟨p,1,none⟩ (fun h=>by simp at h;omega) _).setCell ⟨p,2,none⟩ (fun h=>by simp at h;omega) _).setCell ⟨p,3,none⟩ (fun h=>by simp at h;omega) _).setCell ⟨p,4,none⟩ (fun h=>by simp at h;omega) _).setCell ⟨p,5,none⟩ (fun h=>by simp at h;omega) _).setCell ⟨p,6,none⟩ (fun h=>by simp at h;omega) _).setCell ⟨p,7,none⟩ (fun h=>by simp at h;omega) _)
 ·exact ((((((((ah (fun q=>q=p) w3).setCell ⟨p,0,none⟩ (fun _=>rfl) _).setCell ⟨p,1,none⟩ (fun _=>rfl) _).setCell ⟨p,2,none⟩ (fun _=>rfl) _).setCell ⟨p,3,none⟩ (fun _=>rfl) _).setCell ⟨p,4,none⟩ (fun _=>rfl) _).setCell ⟨p,5,none⟩ (fun _=>rfl) _).setCell ⟨p,6,none⟩ (fun _=>rfl) _).setCell ⟨p,7,none⟩ (fun _=>rfl) _

theorem aJ {W:World} {p:Nat} {cs:Array Value} {t:TypeId} (h:W.heap[p]? = some (.cells cs t (0,0))) (j:Nat):W.frozen? ⟨p,j,none⟩=false:=frozen_of_row W _ j _ _ h

abbrev zeroKey:Array Value:=#[.slice none 0 0,.int .u64 0,.slice none 0 0,.slice none 0 0,.slice none 0 0,.slice none 0 0,.slice none 0 0,.slice none 0 0]

theorem aM {X n:Nat} (h:au X≤64*n):aj X≤n:=(aq X n).2 (by
 have:=(aA X (64*n)).1 h;rw [Nat.pow_mul] at this;exact this)

theorem eS {X n:Nat} (h:au X≤32*n):aH X≤n:=(aS X n).2 (by
 have:=(aA X (32*n)).1 h;rw [Nat.pow_mul] at this;exact this)

theorem gZ {X n:Nat} (h:aH X≤n):aj X≤n:=(aq X n).2 (Nat.lt_of_lt_of_le ((aS X n).1 h) (Nat.pow_le_pow_left (by omega) n))

def bD (P:Nat):Prop:=3≤P∧P%2=1∧au P≤8192

def aL (P Q:Nat):List Nat:=digs (P*Q) (max (aj (P*Q)) 1)

def bY (L M P Q e:Nat):Prop:=(L≤300∧M≤300)∧bD P∧bD Q∧Nat.gcd P Q=1∧eK (aL P Q) e=0∧Nat.gcd e (cX P Q)=1

def KeyAt (w:World) (P Q e:Nat) (kv:Array Value):Prop:=
 ∃ (vn vd vp vq vdp vdq vqi:Value) (d u:Nat),kv=#[vn,.int .u64 (e:Nat),vd,vp,vq,vdp,vdq,vqi]∧Row .u64 w vn (aL P Q)∧d<cX P Q∧e*d%cX P Q=1∧Row .u64 w vd (digs d (aL P Q).length) ∧
  Row .u64 w vp (digs P (max (aj P) (aj Q)))∧Row .u64 w vq (digs Q (max (aj P) (aj Q)))∧Row .u64 w vdp (digs (d%(P-1)) (max (aj P) (aj Q)))∧Row .u64 w vdq (digs (d%(Q-1)) (max (aj P) (aj Q)))∧u<P∧Q*u%P=1∧Row .u64 w vqi (digs u (max (aj P) (aj Q)))

def fG (B:Nat) (kv:Array Value):Prop:=∀ v ∈ kv.toList,∀ x,v.ownBlock=some x→B<x

theorem bh (B:Nat):fG B zeroKey:=by
 intro v hv x hx;have a:v ∈ [Value.slice none 0 0,.int .u64 0,.slice none 0 0,.slice none 0 0,.slice none 0 0,.slice none 0 0,.slice none 0 0,.slice none 0 0]:=hv;simp only [List.mem_cons,List.not_mem_nil,or_false] at a;rcases a with rfl | rfl | rfl | rfl | rfl | rfl | rfl | rfl <;> cases hx

theorem pv {B:Nat} {v0 v2 v3 v4 v5 v6 v7:Value} {e:Int} (h0:∀ x,v0.ownBlock=some x→B<x) (h2:∀ x,v2.ownBlock=some x→B<x) (h3:∀ x,v3.ownBlock=some x→B<x) (h4:∀ x,v4.ownBlock=some x→B<x) (h5:∀ x,v5.ownBlock=some x→B<x) (h6:∀ x,v6.ownBlock=some x→B<x) (h7:∀ x,v7.ownBlock=some x→B<x):fG B #[v0,.int .u64 e,v2,v3,v4,v5,v6,v7]:=by
 intro v hv x hx;have a:v ∈ [v0,.int .u64 e,v2,v3,v4,v5,v6,v7]:=hv;simp only [List.mem_cons,List.not_mem_nil,or_false] at a;rcases a with rfl | rfl | rfl | rfl | rfl | rfl | rfl | rfl
 ·exact h0 x hx
 ·cases hx
 ·exact h2 x hx
 ·exact h3 x hx
 ·exact h4 x hx
 ·exact h5 x hx
 ·exact h6 x hx
 ·exact h7 x hx

theorem og {P Q:Nat} (hP:3≤P) (hQ:3≤Q):2≤cX P Q:=by
 unfold cX;have hg:Nat.gcd (P-1) (Q-1) ∣ P-1:=Nat.gcd_dvd_left _ _;have h1:1≤(P-1)/Nat.gcd (P-1) (Q-1):=Nat.div_pos (Nat.le_of_dvd (by omega) hg) (Nat.gcd_pos_of_pos_left _ (by omega));have:=Nat.mul_le_mul_right (Q-1) h1;omega

theorem A7 (ao bo:Option Addr) (L M bG bH:Nat) (xs ys:List Nat) (P Q e:Nat) (hP:P=val xs) (hQ:Q=val ys) (he:e<18446744073709551616) (w:World) (hu:Row .u64 w (.slice ao L bG) xs) (hv:Row .u64 w (.slice bo M bH) ys) (bP:Digs xs) (bQ:Digs ys) (eT:L≤1000000) (eU:M≤1000000) :
  Calls Tryz.prog 56 #[.slice ao L bG,.slice bo M bH,.int .u64 (e:Nat)] w fun r w'=>∃ kv E,r=.returned (.tuple #[.agg kv,.int .i64 ((E:Nat):Int)])∧((E=0∧bY L M P Q e∧KeyAt w' P Q e kv)∨(E=190∧¬ bY L M P Q e∧kv=zeroKey))∧fG w.heap.size kv∧Kept af w w':=by
 obtain ⟨_,_,_,e1,hL,-,-,-,-⟩:=hu.open;cases e1
 obtain ⟨_,_,_,e1,hM,-,-,-,-⟩:=hv.open;cases e1
 obtain ⟨W0,bm⟩:∃ W0,W0=w.alloc (.cells #[.slice none 0 0,.int .u64 0,.slice none 0 0,.slice none 0 0,.slice none 0 0,.slice none 0 0,.slice none 0 0,.slice none 0 0] 26):=⟨_,rfl⟩
 have k0:Kept af w W0:=by rw [bm];exact (ah af w).alloc _
 have br:W0.heap[w.heap.size]? = some (.cells #[.slice none 0 0,.int .u64 0,.slice none 0 0,.slice none 0 0,.slice none 0 0,.slice none 0 0,.slice none 0 0,.slice none 0 0] 26 (0,0)):=by rw [bm];exact heap_alloc_new _ _
 have N:Hid (∀ W,Kept af W0 W→W.heap[w.heap.size]? = some (.cells #[.slice none 0 0,.int .u64 0,.slice none 0 0,.slice none 0 0,.slice none 0 0,.slice none 0 0,.slice none 0 0,.slice none 0 0] 26 (0,0))):=fun W k=>(k.block _ (lt_of_block br) (fun f=>f)).trans br
 have JX:Hid (∀ W,Kept af W0 W→Calls Tryz.prog 39 #[.slice ao L bG] W fun r w'=>∃ v',r=.returned v'∧IsBig w' v' P∧(∀ b,v'.ownBlock=some b→W.heap.size≤b)∧Kept af W w'):=fun W k=>by rw [hP];exact rOf _ xs W (hu.grew (k0.trans k)) bP (by rw [hL.out];omega)
 have JY:Hid (∀ W,Kept af W0 W→Calls Tryz.prog 39 #[.slice bo M bH] W fun r w'=>∃ v',r=.returned v'∧IsBig w' v' Q∧(∀ b,v'.ownBlock=some b→W.heap.size≤b)∧Kept af W w'):=fun W k=>by rw [hQ];exact rOf _ ys W (hv.grew (k0.trans k)) bQ (by rw [hM.out];omega)
 have eV:aH P≤2*L:=by rw [hP];exact (aS _ _).2 (by rw [Nat.pow_mul,← hL.out];exact ap (by omega) bP)
 have eW:aH Q≤2*M:=by rw [hQ];exact (aS _ _).2 (by rw [Nat.pow_mul,← hM.out];exact ap (by omega) bQ)
 have bE:=aa bm;have s:Hid (w.heap.size<W0.heap.size):=lt_of_block br;have D:=aa k0;have KR:Kept af W0 W0:=ah _ _;clear hu hv bP bQ hL hM hP hQ bm k0 br;by_cases c1:300<L
 ·have HN:Hid (¬ bY L M P Q e):=fun h=>by have:=h.1.1;omega
  have g1:(300:Int)<(L:Int):=by omega
  have hh:=bE.out;subst hh;go_enter Tryz.func56,Tryz.ntmps56;go_wp2_with fail;exact bodyPost_ret (v:=.tuple #[.agg zeroKey,.int .i64 190]) (by simp [results,Tryz.results56,go_sem]) rfl ⟨_,190,rfl,.inr ⟨rfl,HN.out,rfl⟩,bh _,D.out⟩
 have g1:¬ (300:Int)<(L:Int):=by omega
 have q1:decide ((300:Int)<(L:Int))=false:=aI g1;by_cases c2:300<M
 ·have HN:Hid (¬ bY L M P Q e):=fun h=>by have:=h.1.2;omega
  have g2:(300:Int)<(M:Int):=by omega
  have hh:=bE.out;subst hh;go_enter Tryz.func56,Tryz.ntmps56;go_wp2_with fail;exact bodyPost_ret (v:=.tuple #[.agg zeroKey,.int .i64 190]) (by simp [results,Tryz.results56,go_sem]) rfl ⟨_,190,rfl,.inr ⟨rfl,HN.out,rfl⟩,bh _,D.out⟩
 have g2:¬ (300:Int)<(M:Int):=by omega
 have q2:decide ((300:Int)<(M:Int))=false:=aI g2;go_enter Tryz.func56,Tryz.ntmps56;go_wp2_with (rw [← bE.out]);have h1:=JX.out _ KR;refine h1.mono ?_;rintro r w1 ⟨v1,rfl,b1,_,K1⟩;have h2:=JY.out _ K1;clear h1;go_wp2_with fail;refine h2.mono ?_;rintro r w2 ⟨v2,rfl,b2,_,k2⟩;have K2:=K1.trans k2;have b1:=b1.grew k2;clear h2 k2;obtain ⟨a1,n1,d1,rfl,-,-⟩:=b1.length;obtain ⟨a2,n2,d2,rfl,-,-⟩:=b2.length;obtain ⟨W3,bn⟩:∃ W3,W3=w2.alloc (.cells #[.slice a1 n1 d1,.slice a2 n2 d2] 76):=⟨_,rfl⟩
 have k3:Kept af w2 W3:=by rw [bn];exact (ah af w2).alloc _
 have b0:W3.heap[w2.heap.size]? = some (.cells #[.slice a1 n1 d1,.slice a2 n2 d2] 76 (0,0)):=by rw [bn];exact heap_alloc_new _ _
 have cp:Hid (∀ W,Kept af W3 W→W.cell? ⟨w2.heap.size,0,none⟩=some (.slice a1 n1 d1)∧W.cell? ⟨w2.heap.size,0+1,none⟩=some (.slice a2 n2 d2)):=fun W k=>by
  have hh:=(k.block _ (lt_of_block b0) (fun f=>f)).trans b0;exact ⟨(cell_of_row W _ 0 _ _ _ hh).trans rfl,(cell_of_row W _ 1 _ _ _ hh).trans rfl⟩
 have dF:=aa bn;have aD:=aa (K2.trans k3);have bB:=aa (b1.grew k3);have bC:=aa (b2.grew k3);clear bn b0 k3 b1 b2 K1 K2;go_wp2_with (rw [← dF.out]);go_loopw [37] (fun iv wr=>∃ k:Nat,k≤2∧iv=.int .i64 (k:Int)∧Hid (0<k→bD P)∧Hid (1<k→bD Q)∧Hid (Kept af W3 wr)) (fun iv _=>2-(intOf iv).toNat)
 case atStart=>exact ⟨0,by omega,rfl,(fun h=>absurd h (by omega)),(fun h=>absurd h (by omega)),ah _ _⟩
 case round=>
  obtain ⟨k,hk,rfl,bS,dh,S⟩:=hrel;obtain ⟨l0,l1⟩:=cp.out _ S.out;rcases (show k=0∨k=1∨k=2 by omega) with rfl | rfl | rfl
  ·have bx:=bB.out.grew S.out;have h4:=eF 3 (by omega) wr;go_wp2_with fail;refine h4.mono ?_;rintro r w4 ⟨v4,rfl,b4,_,k4⟩;have K4:=S.out.trans k4;have bx:=bx.grew k4;have h5:=iP _ v4 P 3 w4 bx b4;clear h4 b4 l0 l1;by_cases c3:P<3
   ·have HN:Hid (¬ bY L M P Q e):=fun h=>by have:=h.2.1.1;omega
    rw [bk c3] at h5;go_wp2_with fail;refine h5.mono ?_;rintro r ce ⟨rfl,m5,rfl⟩;have K5:=aD.out.trans (K4.drewN m5);obtain ⟨w5,I⟩:∃ w5,w5=w4.drewN m5:=⟨_,rfl⟩
    rw [← I] at K5 ⊢;clear h5 I;have a:=N.out _ K5;obtain ⟨c0,c1,c2,c3,c4,c5,c6,c7⟩:=aE a;have f:=aJ a;have m:=aa (D.out.trans K5);go_wp2_with fail;obtain ⟨z1,z2,_⟩:=dj m.out (leR _) a (.slice none 0 0) (.int .u64 0) (.slice none 0 0) (.slice none 0 0) (.slice none 0 0) (.slice none 0 0) (.slice none 0 0) (.slice none 0 0);unfold ei at z1 z2
    generalize ((((((((w5.setCell ⟨w.heap.size,0,none⟩ (.slice none 0 0)).setCell ⟨w.heap.size,1,none⟩ (.int .u64 0)).setCell ⟨w.heap.size,2,none⟩ (.slice none 0 0)).setCell ⟨w.heap.size,3,none⟩ (.slice none 0 0)).setCell ⟨w.heap.size,4,none⟩ (.slice none 0 0)).setCell ⟨w.heap.size,5,none⟩ (.slice none 0 0)).setCell ⟨w.heap.size,6,none⟩ (.slice none 0 0)).setCell ⟨w.heap.size,7,none⟩ (.slice none 0 0))=Wf at *;obtain ⟨r0,r1,r2,r3,r4,r5,r6,r7⟩:=aE z1;exact bodyPost_ret (v:=.tuple #[.agg zeroKey,.int .i64 190]) (by simp [results,Tryz.results56,go_sem,r0,r1,r2,r3,r4,r5,r6,r7]) rfl ⟨_,190,rfl,.inr ⟨rfl,HN.out,rfl⟩,bh _,z2⟩
   have bM:=gD (show 3≤P by omega);have q5:decide (aK P 3<0)=false:=aI bM;generalize aK P 3=c5 at *;obtain ⟨b7,b8,ea,d9,d5,bI,d4,a4,dX,dY⟩:=lh bx (by omega);cases bI
   have dU:(0:Int)<(n1:Int):=by omega
   have aF:(d5:Int).tmod 2=((d5%2:Nat):Int):=by rw [Int.tmod_eq_emod_of_nonneg (by omega)];omega
   go_wp2_with fail;refine h5.mono ?_;rintro r ce ⟨rfl,m5,rfl⟩;have kd:=(ah af w4).drewN m5;obtain ⟨w5,I⟩:∃ w5,w5=w4.drewN m5:=⟨_,rfl⟩
   rw [← I] at kd ⊢;have K5:=K4.trans kd;have bx:=bx.grew kd;have l5:w5.cell? ⟨b7,b8,none⟩=some (.int .u32 (d5:Int)):=kd.cellN a4;clear h5 I a4 K4 k4;by_cases c6:P%2=0
   ·have HN:Hid (¬ bY L M P Q e):=fun h=>by have:=h.2.1.2.1;omega
    have a9:(d5:Int)%2=0:=by omega
    rw [show d5%2=0 by omega] at aF;have G:=aD.out.trans K5;have a:=N.out _ G;obtain ⟨c0,c1,c2,c3,c4,c5,c6,c7⟩:=aE a;have f:=aJ a;have m:=aa (D.out.trans G);go_wp2_with fail;obtain ⟨z1,z2,_⟩:=dj m.out (leR _) a (.slice none 0 0) (.int .u64 0) (.slice none 0 0) (.slice none 0 0) (.slice none 0 0) (.slice none 0 0) (.slice none 0 0) (.slice none 0 0);unfold ei at z1 z2
    generalize ((((((((w5.setCell ⟨w.heap.size,0,none⟩ (.slice none 0 0)).setCell ⟨w.heap.size,1,none⟩ (.int .u64 0)).setCell ⟨w.heap.size,2,none⟩ (.slice none 0 0)).setCell ⟨w.heap.size,3,none⟩ (.slice none 0 0)).setCell ⟨w.heap.size,4,none⟩ (.slice none 0 0)).setCell ⟨w.heap.size,5,none⟩ (.slice none 0 0)).setCell ⟨w.heap.size,6,none⟩ (.slice none 0 0)).setCell ⟨w.heap.size,7,none⟩ (.slice none 0 0))=Wf at *;obtain ⟨r0,r1,r2,r3,r4,r5,r6,r7⟩:=aE z1;exact bodyPost_ret (v:=.tuple #[.agg zeroKey,.int .i64 190]) (by simp [results,Tryz.results56,go_sem,r0,r1,r2,r3,r4,r5,r6,r7]) rfl ⟨_,190,rfl,.inr ⟨rfl,HN.out,rfl⟩,bh _,z2⟩
   have a9:(d5:Int)%2=1:=by omega
   rw [show d5%2=1 by omega] at aF;have h6:=fN _ P w5 bx;have bL:=jp bx;obtain ⟨t,ht⟩:∃ t,t=au P:=⟨_,rfl⟩
   rw [← ht] at h6 bL;have aY:=aa ht;clear ht;go_wp2_with fail;refine h6.mono ?_;rintro r w6 ⟨rfl,rfl⟩;clear h6;by_cases c7:8192<t
   ·have HN:Hid (¬ bY L M P Q e):=fun h=>by have:=h.2.1.2.2;have:=aY.out;omega
    have g7:(8192:Int)<(t:Int):=by omega
    have G:=aD.out.trans K5;have a:=N.out _ G;obtain ⟨c0,c1,c2,c3,c4,c5,c6,c7⟩:=aE a;have f:=aJ a;have m:=aa (D.out.trans G);go_wp2_with fail;obtain ⟨z1,z2,_⟩:=dj m.out (leR _) a (.slice none 0 0) (.int .u64 0) (.slice none 0 0) (.slice none 0 0) (.slice none 0 0) (.slice none 0 0) (.slice none 0 0) (.slice none 0 0);unfold ei at z1 z2
    generalize ((((((((w6.setCell ⟨w.heap.size,0,none⟩ (.slice none 0 0)).setCell ⟨w.heap.size,1,none⟩ (.int .u64 0)).setCell ⟨w.heap.size,2,none⟩ (.slice none 0 0)).setCell ⟨w.heap.size,3,none⟩ (.slice none 0 0)).setCell ⟨w.heap.size,4,none⟩ (.slice none 0 0)).setCell ⟨w.heap.size,5,none⟩ (.slice none 0 0)).setCell ⟨w.heap.size,6,none⟩ (.slice none 0 0)).setCell ⟨w.heap.size,7,none⟩ (.slice none 0 0))=Wf at *;obtain ⟨r0,r1,r2,r3,r4,r5,r6,r7⟩:=aE z1;exact bodyPost_ret (v:=.tuple #[.agg zeroKey,.int .i64 190]) (by simp [results,Tryz.results56,go_sem,r0,r1,r2,r3,r4,r5,r6,r7]) rfl ⟨_,190,rfl,.inr ⟨rfl,HN.out,rfl⟩,bh _,z2⟩
   have g7:¬ (8192:Int)<(t:Int):=by omega
   have q7:decide ((8192:Int)<(t:Int))=false:=aI g7;have bA:Hid (bD P):=⟨by omega,by omega,by have:=aY.out;omega⟩
   clear l5 bx aF a9;go_wp2_with fail;go_roundw
   case rel=>exact ⟨1,by omega,by go_num,(fun _=>bA.out),(fun h=>absurd h (by omega)),K5⟩
   case measure=>simp [intOf]
  ·have bx:=bC.out.grew S.out;have h4:=eF 3 (by omega) wr;go_wp2_with fail;refine h4.mono ?_;rintro r w4 ⟨v4,rfl,b4,_,k4⟩;have K4:=S.out.trans k4;have bx:=bx.grew k4;have h5:=iP _ v4 Q 3 w4 bx b4;clear h4 b4 l0 l1;by_cases c3:Q<3
   ·have HN:Hid (¬ bY L M P Q e):=fun h=>by have:=h.2.2.1.1;omega
    rw [bk c3] at h5;go_wp2_with fail;refine h5.mono ?_;rintro r ce ⟨rfl,m5,rfl⟩;have K5:=aD.out.trans (K4.drewN m5);obtain ⟨w5,I⟩:∃ w5,w5=w4.drewN m5:=⟨_,rfl⟩
    rw [← I] at K5 ⊢;clear h5 I;have a:=N.out _ K5;obtain ⟨c0,c1,c2,c3,c4,c5,c6,c7⟩:=aE a;have f:=aJ a;have m:=aa (D.out.trans K5);go_wp2_with fail;obtain ⟨z1,z2,_⟩:=dj m.out (leR _) a (.slice none 0 0) (.int .u64 0) (.slice none 0 0) (.slice none 0 0) (.slice none 0 0) (.slice none 0 0) (.slice none 0 0) (.slice none 0 0);unfold ei at z1 z2
    generalize ((((((((w5.setCell ⟨w.heap.size,0,none⟩ (.slice none 0 0)).setCell ⟨w.heap.size,1,none⟩ (.int .u64 0)).setCell ⟨w.heap.size,2,none⟩ (.slice none 0 0)).setCell ⟨w.heap.size,3,none⟩ (.slice none 0 0)).setCell ⟨w.heap.size,4,none⟩ (.slice none 0 0)).setCell ⟨w.heap.size,5,none⟩ (.slice none 0 0)).setCell ⟨w.heap.size,6,none⟩ (.slice none 0 0)).setCell ⟨w.heap.size,7,none⟩ (.slice none 0 0))=Wf at *;obtain ⟨r0,r1,r2,r3,r4,r5,r6,r7⟩:=aE z1;exact bodyPost_ret (v:=.tuple #[.agg zeroKey,.int .i64 190]) (by simp [results,Tryz.results56,go_sem,r0,r1,r2,r3,r4,r5,r6,r7]) rfl ⟨_,190,rfl,.inr ⟨rfl,HN.out,rfl⟩,bh _,z2⟩
   have bM:=gD (show 3≤Q by omega);have q5:decide (aK Q 3<0)=false:=aI bM;generalize aK Q 3=c5 at *;obtain ⟨b7,b8,ea,d9,d5,bI,d4,a4,dX,dY⟩:=lh bx (by omega);cases bI
   have dU:(0:Int)<(n2:Int):=by omega
   have aF:(d5:Int).tmod 2=((d5%2:Nat):Int):=by rw [Int.tmod_eq_emod_of_nonneg (by omega)];omega
   go_wp2_with fail;refine h5.mono ?_;rintro r ce ⟨rfl,m5,rfl⟩;have kd:=(ah af w4).drewN m5;obtain ⟨w5,I⟩:∃ w5,w5=w4.drewN m5:=⟨_,rfl⟩
   rw [← I] at kd ⊢;have K5:=K4.trans kd;have bx:=bx.grew kd;have l5:w5.cell? ⟨b7,b8,none⟩=some (.int .u32 (d5:Int)):=kd.cellN a4;clear h5 I a4 K4 k4;by_cases c6:Q%2=0
   ·have HN:Hid (¬ bY L M P Q e):=fun h=>by have:=h.2.2.1.2.1;omega
    have a9:(d5:Int)%2=0:=by omega
    rw [show d5%2=0 by omega] at aF;have G:=aD.out.trans K5;have a:=N.out _ G;obtain ⟨c0,c1,c2,c3,c4,c5,c6,c7⟩:=aE a;have f:=aJ a;have m:=aa (D.out.trans G);go_wp2_with fail;obtain ⟨z1,z2,_⟩:=dj m.out (leR _) a (.slice none 0 0) (.int .u64 0) (.slice none 0 0) (.slice none 0 0) (.slice none 0 0) (.slice none 0 0) (.slice none 0 0) (.slice none 0 0);unfold ei at z1 z2
    generalize ((((((((w5.setCell ⟨w.heap.size,0,none⟩ (.slice none 0 0)).setCell ⟨w.heap.size,1,none⟩ (.int .u64 0)).setCell ⟨w.heap.size,2,none⟩ (.slice none 0 0)).setCell ⟨w.heap.size,3,none⟩ (.slice none 0 0)).setCell ⟨w.heap.size,4,none⟩ (.slice none 0 0)).setCell ⟨w.heap.size,5,none⟩ (.slice none 0 0)).setCell ⟨w.heap.size,6,none⟩ (.slice none 0 0)).setCell ⟨w.heap.size,7,none⟩ (.slice none 0 0))=Wf at *;obtain ⟨r0,r1,r2,r3,r4,r5,r6,r7⟩:=aE z1;exact bodyPost_ret (v:=.tuple #[.agg zeroKey,.int .i64 190]) (by simp [results,Tryz.results56,go_sem,r0,r1,r2,r3,r4,r5,r6,r7]) rfl ⟨_,190,rfl,.inr ⟨rfl,HN.out,rfl⟩,bh _,z2⟩
   have a9:(d5:Int)%2=1:=by omega
   rw [show d5%2=1 by omega] at aF;have h6:=fN _ Q w5 bx;have bL:=jp bx;obtain ⟨t,ht⟩:∃ t,t=au Q:=⟨_,rfl⟩
   rw [← ht] at h6 bL;have aY:=aa ht;clear ht;go_wp2_with fail;refine h6.mono ?_;rintro r w6 ⟨rfl,rfl⟩;clear h6;by_cases c7:8192<t
   ·have HN:Hid (¬ bY L M P Q e):=fun h=>by have:=h.2.2.1.2.2;have:=aY.out;omega
    have g7:(8192:Int)<(t:Int):=by omega
    have G:=aD.out.trans K5;have a:=N.out _ G;obtain ⟨c0,c1,c2,c3,c4,c5,c6,c7⟩:=aE a;have f:=aJ a;have m:=aa (D.out.trans G);go_wp2_with fail;obtain ⟨z1,z2,_⟩:=dj m.out (leR _) a (.slice none 0 0) (.int .u64 0) (.slice none 0 0) (.slice none 0 0) (.slice none 0 0) (.slice none 0 0) (.slice none 0 0) (.slice none 0 0);unfold ei at z1 z2
    generalize ((((((((w6.setCell ⟨w.heap.size,0,none⟩ (.slice none 0 0)).setCell ⟨w.heap.size,1,none⟩ (.int .u64 0)).setCell ⟨w.heap.size,2,none⟩ (.slice none 0 0)).setCell ⟨w.heap.size,3,none⟩ (.slice none 0 0)).setCell ⟨w.heap.size,4,none⟩ (.slice none 0 0)).setCell ⟨w.heap.size,5,none⟩ (.slice none 0 0)).setCell ⟨w.heap.size,6,none⟩ (.slice none 0 0)).setCell ⟨w.heap.size,7,none⟩ (.slice none 0 0))=Wf at *;obtain ⟨r0,r1,r2,r3,r4,r5,r6,r7⟩:=aE z1;exact bodyPost_ret (v:=.tuple #[.agg zeroKey,.int .i64 190]) (by simp [results,Tryz.results56,go_sem,r0,r1,r2,r3,r4,r5,r6,r7]) rfl ⟨_,190,rfl,.inr ⟨rfl,HN.out,rfl⟩,bh _,z2⟩
   have g7:¬ (8192:Int)<(t:Int):=by omega
   have q7:decide ((8192:Int)<(t:Int))=false:=aI g7;have bA:Hid (bD Q):=⟨by omega,by omega,by have:=aY.out;omega⟩
   clear l5 bx aF a9;go_wp2_with fail;go_roundw
   case rel=>exact ⟨2,by omega,by go_num,(fun _=>bS.out (by omega)),(fun _=>bA.out),K5⟩
   case measure=>simp [intOf]
  ·skip
   have hP:=bS.out (by omega);have hQ:=dh.out (by omega);obtain ⟨ca,rfl⟩:∃ ca,ca=wr:=⟨_,rfl⟩
   have dG:=aD.out.trans S.out;have b1:=bB.out.grew S.out;have b2:=bC.out.grew S.out;have dZ:aH P≤256:=eS hP.2.2;have d0:aH Q≤256:=eS hQ.2.2;have eZ:aj P≤128:=aM hP.2.2;have e0:aj Q≤128:=aM hQ.2.2;have dV:=hP.1;have dW:=hQ.1;have dB:=aa hP;have dC:=aa hQ;clear l0 l1 bS dh S hP hQ cp bB bC;have cE:=A9 _ _ P Q ca b1 b2 (by omega) (by omega);go_wp2_with fail;refine cE.mono ?_;rintro e eo ⟨eb,rfl,bi,_,b3⟩;have dH:=dG.trans b3;have b1:=b1.grew b3;have b2:=b2.grew b3;clear cE;have cF:=jO eo;go_wp2_with fail;refine cF.mono ?_;rintro e bw ⟨ec,rfl,cC,_,bs⟩;have cq:=dH.trans bs
   have b1:=b1.grew bs;have b2:=b2.grew bs;have bi:=bi.grew bs;clear cF;have a3:=iP eb ec _ 1 bw bi cC;by_cases c8:Nat.gcd P Q=1
   case neg=>
    have HN:Hid (¬ bY L M P Q e):=fun h=>c8 h.2.2.2.1
    have d6:=yB c8;have hq:(aK (Nat.gcd P Q) 1 == 0)=false:=by simpa using d6
    generalize aK (Nat.gcd P Q) 1=c13 at *;go_wp2_with fail;refine a3.mono ?_;rintro r cb ⟨rfl,bd,rfl⟩;have a0:=cq.drewN bd;obtain ⟨aO,H⟩:∃ aO,aO=bw.drewN bd:=⟨_,rfl⟩
    rw [← H] at a0 ⊢;clear a3 H;have a:=N.out _ a0;obtain ⟨c0,c1,c2,c3,c4,c5,c6,c7⟩:=aE a;have f:=aJ a;have m:=aa (D.out.trans a0);go_wp2_with fail;obtain ⟨z1,z2,_⟩:=dj m.out (leR _) a (.slice none 0 0) (.int .u64 0) (.slice none 0 0) (.slice none 0 0) (.slice none 0 0) (.slice none 0 0) (.slice none 0 0) (.slice none 0 0);unfold ei at z1 z2
    generalize ((((((((aO.setCell ⟨w.heap.size,0,none⟩ (.slice none 0 0)).setCell ⟨w.heap.size,1,none⟩ (.int .u64 0)).setCell ⟨w.heap.size,2,none⟩ (.slice none 0 0)).setCell ⟨w.heap.size,3,none⟩ (.slice none 0 0)).setCell ⟨w.heap.size,4,none⟩ (.slice none 0 0)).setCell ⟨w.heap.size,5,none⟩ (.slice none 0 0)).setCell ⟨w.heap.size,6,none⟩ (.slice none 0 0)).setCell ⟨w.heap.size,7,none⟩ (.slice none 0 0))=Wf at *;obtain ⟨r0,r1,r2,r3,r4,r5,r6,r7⟩:=aE z1;exact bodyPost_ret (v:=.tuple #[.agg zeroKey,.int .i64 190]) (by simp [results,Tryz.results56,go_sem,r0,r1,r2,r3,r4,r5,r6,r7]) rfl ⟨_,190,rfl,.inr ⟨rfl,HN.out,rfl⟩,bh _,z2⟩
   rw [fI c8] at a3;have cn:=aa c8;clear c8;go_wp2_with fail;refine a3.mono ?_;rintro r cb ⟨rfl,bd,rfl⟩;have bt:=(ah af bw).drewN bd;obtain ⟨aO,H⟩:∃ aO,aO=bw.drewN bd:=⟨_,rfl⟩
   rw [← H] at bt ⊢;have a0:=cq.trans bt;have b1:=b1.grew bt;have b2:=b2.grew bt;clear a3 H bi cC;have cG:=vW _ _ P Q aO b1 b2 (by omega) (by omega);go_wp2_with fail;refine cG.mono ?_;rintro e ep ⟨ed,rfl,cD,_,b5⟩;have cr:=a0.trans b5;have b1:=b1.grew b5;have b2:=b2.grew b5;clear cG;have cH:=lW ed _ ep cD;go_wp2_with fail;refine cH.mono ?_;rintro r dx ⟨e8,rfl,rn,on,b6⟩;have cs:=cr.trans b6;have b1:=b1.grew b6;have b2:=b2.grew b6;obtain ⟨no,nl,nc,rfl,di,-,-,-,-⟩:=rn.open;have co:Hid (∀ x,(Value.slice no nl nc).ownBlock=some x→w.heap.size<x):=fun x hx=>by
    rw [on] at hx;cases hx
    have:=cr.size;have:=s.out;omega
   have aG:nl=(aL P Q).length:=by rw [aL,ag];have:=di.out;rw [ag] at this;omega
   have a5:aH (P*Q)≤512:=by have:=fZ P Q;omega
   have d7:aj (P*Q)≤512:=gZ a5;have eY:nl≤512:=by rw [aG,aL,ag];omega
   have rn:Row .u64 dx (.slice no nl nc) (aL P Q):=rn;have dA:=aa aG;clear cH cD di aG on;obtain ⟨EP,bK⟩:∃ EP,EP=eK (aL P Q) e:=⟨_,rfl⟩
   have bl:=qJ no nl nc (aL P Q) e he EP bK dx rn (ai (by omega) _ _) (by omega);have cm:=aa bK;clear bK;by_cases c9:EP=0
   case neg=>
    have HN:Hid (¬ bY L M P Q e):=fun h=>c9 (cm.out.trans h.2.2.2.2.1)
    have g9:¬ (EP:Int)=0:=by omega
    go_wp2_with fail;refine bl.mono ?_;rintro r cc ⟨rfl,aR⟩;have bf:=cs.trans aR;clear bl;have a:=N.out _ bf;obtain ⟨c0,c1,c2,c3,c4,c5,c6,c7⟩:=aE a;have f:=aJ a;have m:=aa (D.out.trans bf);go_wp2_with fail;obtain ⟨z1,z2,_⟩:=dj m.out (leR _) a (.slice none 0 0) (.int .u64 0) (.slice none 0 0) (.slice none 0 0) (.slice none 0 0) (.slice none 0 0) (.slice none 0 0) (.slice none 0 0);unfold ei at z1 z2
    generalize ((((((((cc.setCell ⟨w.heap.size,0,none⟩ (.slice none 0 0)).setCell ⟨w.heap.size,1,none⟩ (.int .u64 0)).setCell ⟨w.heap.size,2,none⟩ (.slice none 0 0)).setCell ⟨w.heap.size,3,none⟩ (.slice none 0 0)).setCell ⟨w.heap.size,4,none⟩ (.slice none 0 0)).setCell ⟨w.heap.size,5,none⟩ (.slice none 0 0)).setCell ⟨w.heap.size,6,none⟩ (.slice none 0 0)).setCell ⟨w.heap.size,7,none⟩ (.slice none 0 0))=Wf at *;obtain ⟨r0,r1,r2,r3,r4,r5,r6,r7⟩:=aE z1;exact bodyPost_ret (v:=.tuple #[.agg zeroKey,.int .i64 190]) (by simp [results,Tryz.results56,go_sem,r0,r1,r2,r3,r4,r5,r6,r7]) rfl ⟨_,190,rfl,.inr ⟨rfl,HN.out,rfl⟩,bh _,z2⟩
   subst c9;go_wp2_with fail;refine bl.mono ?_;rintro r cc ⟨rfl,aR⟩;have bf:=cs.trans aR;have b1:=b1.grew aR;have b2:=b2.grew aR;have rn:=rn.grew aR;clear bl;have cI:=lW _ P cc b1;go_wp2_with fail;refine cI.mono ?_;rintro r eq ⟨e9,rfl,rp,_,bu⟩;have dI:=bf.trans bu;have b1:=b1.grew bu;have b2:=b2.grew bu;have rn:=rn.grew bu;clear cI;have cJ:=lW _ Q eq b2;go_wp2_with fail;refine cJ.mono ?_;rintro r er ⟨fa,rfl,rq,_,ba⟩;have dJ:=dI.trans ba;have b1:=b1.grew ba;have b2:=b2.grew ba;have rn:=rn.grew ba;have rp:=rp.grew ba;clear cJ;obtain ⟨po,pl,pc,rfl,dk,-,-,-,-⟩:=rp.open;obtain ⟨qo,ql,qc,rfl,dl,-,-,-,-⟩:=rq.open
   have bU:pl=max (aj P) 1:=by have:=dk.out;rw [ag] at this;omega
   have bW:ql=max (aj Q) 1:=by have:=dl.out;rw [ag] at this;omega
   have bp:val (digs P (max (aj P) 1))=P:=by rw [al,ak ((aq P _).1 (by omega))]
   have bq:val (digs Q (max (aj Q) 1))=Q:=by rw [al,ak ((aq Q _).1 (by omega))]
   have dc:0=rR P Q pl ql:=by unfold rR;rw [if_neg (by omega),if_neg (by omega)]
   obtain ⟨cw,bO⟩:∃ cw,cw=digs (cX P Q) (max (aj (cX P Q)) 1):=⟨_,rfl⟩
   obtain ⟨pw,bV⟩:∃ pw,pw=digs P (max (aj P) 1):=⟨_,rfl⟩
   obtain ⟨qw,bX⟩:∃ qw,qw=digs Q (max (aj Q) 1):=⟨_,rfl⟩
   have a6:Digs pw:=by rw [bV];exact ai (by omega) _ _
   have a7:Digs qw:=by rw [bX];exact ai (by omega) _ _
   rw [← bV] at rp bp;rw [← bX] at rq bq;have cK:=qI po qo pl ql pc qc pw qw 0 cw (by rw [bp,bq];exact dc) (by rw [bp,bq];exact bO) er rp rq a6 a7 (by omega) (by omega);have dy:=aa bO;clear dk dl bU bW bV bX bO dc bp bq;go_wp2_with fail;refine cK.mono ?_;rintro r es ⟨fb,rfl,rl,_,bv⟩;have dK:=dJ.trans bv;have b1:=b1.grew bv;have b2:=b2.grew bv;have rn:=rn.grew bv;have bN:cX P Q≤P*Q:=by
    unfold cX;exact Nat.mul_le_mul (Nat.le_trans (Nat.div_le_self _ _) (by omega)) (by omega)
   have dd:=og dV dW;have dg:aH (cX P Q)≤512:=Nat.le_trans (bZ bN) a5;rw [dy.out] at rl;clear cK rp rq a6 a7;have cL:=eF e he es;go_wp2_with fail;refine cL.mono ?_;rintro e et ⟨ee,rfl,bj,_,bb⟩;have dL:=dK.trans bb;have b1:=b1.grew bb;have b2:=b2.grew bb;have rn:=rn.grew bb;have rl:=rl.grew bb;clear cL;obtain ⟨e4,e3,e2,rfl,d3,-,-,-,-⟩:=rl.open;have a8:(digs (cX P Q) (max (aj (cX P Q)) 1)).length≤100000000:=by
    rw [ag];have:aj (cX P Q)≤512:=gZ dg;omega
   have dp:val (digs (cX P Q) (max (aj (cX P Q)) 1))=cX P Q:=by rw [al,ak ((aq _ _).1 (by omega))]
   have cM:=rOf _ _ et rl (ai (by omega) _ _) a8;go_wp2_with fail;refine cM.mono ?_;rintro e eu ⟨ef,rfl,bF,_,aT⟩;have ct:=dL.trans aT;have b1:=b1.grew aT;have b2:=b2.grew aT;have rn:=rn.grew aT;have rl:=rl.grew aT;have bj:=bj.grew aT;clear cM;rw [dp] at bF;clear dp d3 a8 rl;have aQ:=jQ ee ef e (cX P Q) eu bj bF (by omega) (by have:=(aS e 2).2 (by omega);omega) (by omega);by_cases c10:Nat.gcd e (cX P Q)=1
   case neg=>
    have HN:Hid (¬ bY L M P Q e):=fun h=>c10 h.2.2.2.2.2
    rw [aI c10] at aQ;go_wp2_with fail;refine aQ.mono ?_;rintro r cd ⟨eg,rfl,_,bT,_,aV⟩;obtain rfl:=bT c10;have bg:=ct.trans aV;clear aQ;have a:=N.out _ bg;obtain ⟨c0,c1,c2,c3,c4,c5,c6,c7⟩:=aE a;have f:=aJ a;have m:=aa (D.out.trans bg);go_wp2_with fail;obtain ⟨z1,z2,_⟩:=dj m.out (leR _) a (.slice none 0 0) (.int .u64 0) (.slice none 0 0) (.slice none 0 0) (.slice none 0 0) (.slice none 0 0) (.slice none 0 0) (.slice none 0 0);unfold ei at z1 z2
    generalize ((((((((cd.setCell ⟨w.heap.size,0,none⟩ (.slice none 0 0)).setCell ⟨w.heap.size,1,none⟩ (.int .u64 0)).setCell ⟨w.heap.size,2,none⟩ (.slice none 0 0)).setCell ⟨w.heap.size,3,none⟩ (.slice none 0 0)).setCell ⟨w.heap.size,4,none⟩ (.slice none 0 0)).setCell ⟨w.heap.size,5,none⟩ (.slice none 0 0)).setCell ⟨w.heap.size,6,none⟩ (.slice none 0 0)).setCell ⟨w.heap.size,7,none⟩ (.slice none 0 0))=Wf at *;obtain ⟨r0,r1,r2,r3,r4,r5,r6,r7⟩:=aE z1;exact bodyPost_ret (v:=.tuple #[.agg zeroKey,.int .i64 190]) (by simp [results,Tryz.results56,go_sem,r0,r1,r2,r3,r4,r5,r6,r7]) rfl ⟨_,190,rfl,.inr ⟨rfl,HN.out,rfl⟩,bh _,z2⟩
   rw [aU c10] at aQ;go_wp2_with fail;refine aQ.mono ?_;rintro r cd ⟨eg,rfl,hT,_,_,aV⟩;obtain ⟨d,de,df,c⟩:=hT c10;obtain ⟨eR,eQ,eP,rfl,-,-⟩:=c.length;have bg:=ct.trans aV;have b1:=b1.grew aV;have b2:=b2.grew aV;have rn:=rn.grew aV;have bz:=aa c10;clear aQ hT bj bF c10;have cN:=iQ _ P cd b1;go_wp2_with fail;refine cN.mono ?_;rintro r ev ⟨rfl,rfl⟩;clear cN;have cO:=iQ _ Q ev b2;go_wp2_with fail;refine cO.mono ?_;rintro r ew ⟨rfl,rfl⟩;clear cO;have dM:=bg;obtain ⟨ww,dq⟩:∃ ww,ww=max (aj P) (aj Q):=⟨_,rfl⟩
   have dT:max ((aj P:Nat):Int) ((aj Q:Nat):Int)=(ww:Int):=by omega
   have d8:ww≤128:=by omega
   have aZ:=aa dq;have cl:=aa de;have dz:=aa df;have bJ:=jQ _ _ Q P ew b2 b1 (by omega) (by omega) (by omega);have bR:Nat.gcd Q P=1:=by rw [Nat.gcd_comm];exact cn.out
   rw [aU bR] at bJ;clear dq de df;go_wp2_with fail;refine bJ.mono ?_;rintro r ey ⟨fc,rfl,hT,_,_,bc⟩;obtain ⟨u,dm,dn,g⟩:=hT bR;obtain ⟨e7,e6,e5,rfl,-,-⟩:=g.length;have cu:=dM.trans bc;have b1:=b1.grew bc;have b2:=b2.grew bc;have c:=c.grew bc;have rn:=rn.grew bc;have dD:=aa dm;have dE:=aa dn;clear bJ hT dm dn bR;have eX:aH d≤512:=Nat.le_trans (bZ (Nat.le_of_lt cl.out)) dg;have cP:=nH _ d nl ey c (by omega);go_wp2_with fail;refine cP.mono ?_;rintro r ez ⟨fd,rfl,i,dr,aW⟩;obtain ⟨av,ac,U,rfl,-,-,-,-,-⟩:=i.open;have cf:Hid (∀ x,(Value.slice av ac U).ownBlock=some x→w.heap.size<x):=fun x hx=>by
    rw [dr] at hx;cases hx
    have:=cu.size;have:=s.out;omega
   have cv:=cu.trans aW;have b1:=b1.grew aW;have b2:=b2.grew aW;have c:=c.grew aW;have g:=g.grew aW;have rn:=rn.grew aW;clear cP dr;have cQ:=nH _ P ww ez b1 (by omega);go_wp2_with fail;refine cQ.mono ?_;rintro r eA ⟨fe,rfl,j,ds,aN⟩;obtain ⟨aw,ad,V,rfl,-,-,-,-,-⟩:=j.open;have cg:Hid (∀ x,(Value.slice aw ad V).ownBlock=some x→w.heap.size<x):=fun x hx=>by
    rw [ds] at hx;cases hx
    have:=cv.size;have:=s.out;omega
   have cx:=cv.trans aN;have b1:=b1.grew aN;have b2:=b2.grew aN;have c:=c.grew aN;have g:=g.grew aN;have rn:=rn.grew aN;have i:=i.grew aN;clear cQ ds;have cR:=nH _ Q ww eA b2 (by omega);go_wp2_with fail;refine cR.mono ?_;rintro r eB ⟨ff,rfl,l,dt,aC⟩;obtain ⟨ax,ae,X,rfl,-,-,-,-,-⟩:=l.open;have ch:Hid (∀ x,(Value.slice ax ae X).ownBlock=some x→w.heap.size<x):=fun x hx=>by
    rw [dt] at hx;cases hx
    have:=cx.size;have:=s.out;omega
   have dN:=cx.trans aC;have b1:=b1.grew aC;have b2:=b2.grew aC;have c:=c.grew aC;have g:=g.grew aC;have rn:=rn.grew aC;have i:=i.grew aC;have j:=j.grew aC;clear cR dt;have cS:=jO eB;go_wp2_with fail;refine cS.mono ?_;rintro e eC ⟨eh,rfl,n,_,T⟩;have dO:=dN.trans T;have b1:=b1.grew T;have b2:=b2.grew T;have c:=c.grew T;have g:=g.grew T;have rn:=rn.grew T;have i:=i.grew T;have j:=j.grew T;have l:=l.grew T;clear cS;have cT:=oP _ eh P 1 eC b1 n (by omega);go_wp2_with fail;refine cT.mono ?_;rintro e eD ⟨ej,rfl,p,_,R⟩;have dP:=dO.trans R;have b1:=b1.grew R;have b2:=b2.grew R
   have c:=c.grew R;have g:=g.grew R;have rn:=rn.grew R;have i:=i.grew R;have j:=j.grew R;have l:=l.grew R;have n:=n.grew R;clear cT;have cU:=nG _ ej d (P-1) eD c p (by omega) (by omega);go_wp2_with fail;refine cU.mono ?_;rintro e eE ⟨ek,rfl,z,_,J⟩;have cy:=dP.trans J;have b1:=b1.grew J;have b2:=b2.grew J;have c:=c.grew J;have g:=g.grew J;have rn:=rn.grew J;have i:=i.grew J;have j:=j.grew J;have l:=l.grew J;have n:=n.grew J;have p:=p.grew J;clear cU;have cV:=nH ek _ ww eE z (by omega);go_wp2_with fail;refine cV.mono ?_;rintro r eG ⟨fg,rfl,C,du,F⟩
   obtain ⟨ay,am,Y,rfl,-,-,-,-,-⟩:=C.open;have ci:Hid (∀ x,(Value.slice ay am Y).ownBlock=some x→w.heap.size<x):=fun x hx=>by
    rw [du] at hx;cases hx
    have:=cy.size;have:=s.out;omega
   have dQ:=cy.trans F;have b1:=b1.grew F;have b2:=b2.grew F;have c:=c.grew F;have g:=g.grew F;have rn:=rn.grew F;have i:=i.grew F;have j:=j.grew F;have l:=l.grew F;have n:=n.grew F;have p:=p.grew F;have z:=z.grew F;clear cV du;have cW:=jO eG;go_wp2_with fail;refine cW.mono ?_;rintro e eH ⟨el,rfl,O,_,B⟩;have dR:=dQ.trans B;have b1:=b1.grew B;have b2:=b2.grew B;have c:=c.grew B;have g:=g.grew B;have rn:=rn.grew B;have i:=i.grew B;have j:=j.grew B;have l:=l.grew B;have n:=n.grew B;have p:=p.grew B;have z:=z.grew B;have C:=C.grew B;clear cW
   have cY:=oP _ el Q 1 eH b2 O (by omega);go_wp2_with fail;refine cY.mono ?_;rintro e eI ⟨em,rfl,aB,_,A⟩;have dS:=dR.trans A;have b1:=b1.grew A;have b2:=b2.grew A;have c:=c.grew A;have g:=g.grew A;have rn:=rn.grew A;have i:=i.grew A;have j:=j.grew A;have l:=l.grew A;have n:=n.grew A;have p:=p.grew A;have z:=z.grew A;have C:=C.grew A;have O:=O.grew A;clear cY;have cZ:=nG _ em d (Q-1) eI c aB (by omega) (by omega);go_wp2_with fail;refine cZ.mono ?_;rintro e eJ ⟨en,rfl,aP,_,y⟩;have cz:=dS.trans y;have b1:=b1.grew y;have b2:=b2.grew y;have c:=c.grew y;have g:=g.grew y
   have rn:=rn.grew y;have i:=i.grew y;have j:=j.grew y;have l:=l.grew y;have n:=n.grew y;have p:=p.grew y;have z:=z.grew y;have C:=C.grew y;have O:=O.grew y;have aB:=aB.grew y;clear cZ;have da:=nH en _ ww eJ aP (by omega);go_wp2_with fail;refine da.mono ?_;rintro r eL ⟨fh,rfl,be,dv,q⟩;obtain ⟨az,an,Z,rfl,-,-,-,-,-⟩:=be.open;have cj:Hid (∀ x,(Value.slice az an Z).ownBlock=some x→w.heap.size<x):=fun x hx=>by
    rw [dv] at hx;cases hx
    have:=cz.size;have:=s.out;omega
   have cA:=cz.trans q;have b1:=b1.grew q;have b2:=b2.grew q;have c:=c.grew q;have g:=g.grew q;have rn:=rn.grew q;have i:=i.grew q;have j:=j.grew q;have l:=l.grew q;have n:=n.grew q;have p:=p.grew q;have z:=z.grew q;have C:=C.grew q;have O:=O.grew q;have aB:=aB.grew q;have aP:=aP.grew q;clear da dv;have db:=nH _ u ww eL g (by omega);go_wp2_with fail;refine db.mono ?_;rintro r eM ⟨fi,rfl,b9,dw,o⟩;obtain ⟨aA,ar,ab,rfl,-,-,-,-,-⟩:=b9.open;have ck:Hid (∀ x,(Value.slice aA ar ab).ownBlock=some x→w.heap.size<x):=fun x hx=>by
    rw [dw] at hx;cases hx
    have:=cA.size;have:=s.out;omega
   have cB:=cA.trans o;have b1:=b1.grew o;have b2:=b2.grew o;have c:=c.grew o;have g:=g.grew o;have rn:=rn.grew o;have i:=i.grew o;have j:=j.grew o;have l:=l.grew o;have n:=n.grew o;have p:=p.grew o;have z:=z.grew o;have C:=C.grew o;have O:=O.grew o;have aB:=aB.grew o;have aP:=aP.grew o;have be:=be.grew o;clear db dw;have aX:=aa (⟨rn,i,j,l,C,be,b9⟩:_∧_∧_∧_∧_∧_∧_);clear b1 b2 c g n p z O aB aP rn i j l C be b9;have a:=N.out _ cB;obtain ⟨c0,eN,eO,c3,c4,c5,c6,c7⟩:=aE a;have f:=aJ a;have m:=aa (D.out.trans cB);go_wp2_with fail
   obtain ⟨z1,z2,z3⟩:=dj m.out (leR _) a (.slice no nl nc) (.int .u64 (e:Nat)) (.slice av ac U) (.slice aw ad V) (.slice ax ae X) (.slice ay am Y) (.slice az an Z) (.slice aA ar ab);unfold ei at z1 z2 z3
   generalize ((((((((eM.setCell ⟨w.heap.size,0,none⟩ (.slice no nl nc)).setCell ⟨w.heap.size,1,none⟩ (.int .u64 (e:Nat))).setCell ⟨w.heap.size,2,none⟩ (.slice av ac U)).setCell ⟨w.heap.size,3,none⟩ (.slice aw ad V)).setCell ⟨w.heap.size,4,none⟩ (.slice ax ae X)).setCell ⟨w.heap.size,5,none⟩ (.slice ay am Y)).setCell ⟨w.heap.size,6,none⟩ (.slice az an Z)).setCell ⟨w.heap.size,7,none⟩ (.slice aA ar ab))=Wf at *;obtain ⟨r0,r1,r2,r3,r4,r5,r6,r7⟩:=aE z1;obtain ⟨y0,y1,y2,y3,y4,y5,y6⟩:=aX.out
   exact bodyPost_ret (v:=.tuple #[.agg #[.slice no nl nc,.int .u64 (e:Nat),.slice av ac U,.slice aw ad V,.slice ax ae X,.slice ay am Y,.slice az an Z,.slice aA ar ab],.int .i64 0]) (by simp [results,Tryz.results56,go_sem,r0,r1,r2,r3,r4,r5,r6,r7]) rfl ⟨_,0,rfl,.inl ⟨rfl,⟨⟨by omega,by omega⟩,dB.out,dC.out,cn.out,cm.out.symm,bz.out⟩,_,_,_,_,_,_,_,d,u,rfl,y0.kept z3 (fun x hx ex=>by have:=co.out x hx;omega),cl.out,dz.out,(by rw [← dA.out];exact y1.kept z3 (fun x hx ex=>by have:=cf.out x hx;omega)),(by rw [← aZ.out];exact y2.kept z3 (fun x hx ex=>by have:=cg.out x hx;omega)),(by rw [← aZ.out];exact y3.kept z3 (fun x hx ex=>by have:=ch.out x hx;omega)),(by rw [← aZ.out];exact y4.kept z3 (fun x hx ex=>by have:=ci.out x hx;omega)),(by rw [← aZ.out];exact y5.kept z3 (fun x hx ex=>by have:=cj.out x hx;omega)),dD.out,dE.out,(by rw [← aZ.out];exact y6.kept z3 (fun x hx ex=>by have:=ck.out x hx;omega))⟩,pv co.out cf.out cg.out ch.out ci.out cj.out ck.out,z2⟩

theorem mB {p a b c:Nat} (hc:Nat.Coprime p c) (h:c*a%p=c*b%p):a%p=b%p:=by
 rcases Nat.le_total a b with hab | hab
 ·have h1:(c*b-c*a)%p=0:=Nat.sub_mod_eq_zero_of_mod_eq h.symm;rw [← Nat.mul_sub] at h1;have h2:=hc.dvd_of_dvd_mul_left (Nat.dvd_of_mod_eq_zero h1);obtain ⟨k,hk⟩:=h2;rw [show b=a+p*k by omega];simp
 ·have h1:(c*a-c*b)%p=0:=Nat.sub_mod_eq_zero_of_mod_eq h;rw [← Nat.mul_sub] at h1;have h2:=hc.dvd_of_dvd_mul_left (Nat.dvd_of_mod_eq_zero h1);obtain ⟨k,hk⟩:=h2;rw [show a=b+p*k by omega];simp

def ji (P Q e d u:Nat) (ns ds ps qs dps dqs qis:List Nat):Prop:=
 d<cX P Q∧e*d%cX P Q=1∧u<P∧Q*u%P=1∧ns=aL P Q∧ds=digs d (aL P Q).length∧ps=digs P (max (aj P) (aj Q))∧qs=digs Q (max (aj P) (aj Q))∧dps=digs (d%(P-1)) (max (aj P) (aj Q))∧dqs=digs (d%(Q-1)) (max (aj P) (aj Q))∧qis=digs u (max (aj P) (aj Q))

def KeyGood (ns ds ps qs dps dqs qis:List Nat) (e:Nat):Prop:=
 bY ps.length qs.length (val ps) (val qs) e∧∃ d u,ji (val ps) (val qs) e d u ns ds ps qs dps dqs qis

theorem jh {m a x y:Nat} (hc:Nat.Coprime m a) (hx:x<m) (hy:y<m) (h1:a*x%m=1) (h2:a*y%m=1):x=y:=by
 have:=mB hc (h1.trans h2.symm)
 rwa [ak hx,ak hy] at this

theorem tk (M I B D j n q:Option Addr) (L J H G y A z C i g m l p o e:Nat) (x v s t a b c:List Nat) (he:e<18446744073709551616) (E:Nat) (hE:(E=0∧KeyGood x v s t a b c e)∨(E=190∧¬ KeyGood x v s t a b c e)) (w:World) (hn:Row .u64 w (.slice M L J) x) (hd:Row .u64 w (.slice I H G) v) (hp:Row .u64 w (.slice B y A) s) (hq:Row .u64 w (.slice D z C) t) (aM:Row .u64 w (.slice j i g) a) (aN:Row .u64 w (.slice n m l) b) (aO:Row .u64 w (.slice q p o) c) (gp:Digs s) (gq:Digs t) (aV:y≤1000000) (aW:z≤1000000) :
  Calls Tryz.prog 25 #[.agg #[.slice M L J,.int .u64 (e:Nat),.slice I H G,.slice B y A,.slice D z C,.slice j i g,.slice n m l,.slice q p o]] w fun r w'=>r=.returned (.int .i64 (E:Nat))∧Kept af w w':=by
 obtain ⟨_,_,_,e1,aH,-,-,-,-⟩:=hp.open;cases e1
 obtain ⟨_,_,_,e1,aI,-,-,-,-⟩:=hq.open;cases e1
 obtain ⟨W1,ab⟩:∃ W1,W1=w.alloc (.cells #[.slice M L J,.int .u64 (e:Nat),.slice I H G,.slice B y A,.slice D z C,.slice j i g,.slice n m l,.slice q p o] 26):=⟨_,rfl⟩
 have k1:Kept af w W1:=by rw [ab];exact (ah af w).alloc _
 have ad:W1.heap[w.heap.size]? = some (.cells #[.slice M L J,.int .u64 (e:Nat),.slice I H G,.slice B y A,.slice D z C,.slice j i g,.slice n m l,.slice q p o] 26 (0,0)):=by rw [ab];exact heap_alloc_new _ _
 have aT:Hid (∀ W,Kept af W1 W→W.heap[w.heap.size]? = some (.cells #[.slice M L J,.int .u64 (e:Nat),.slice I H G,.slice B y A,.slice D z C,.slice j i g,.slice n m l,.slice q p o] 26 (0,0))):=fun W k=>(k.block _ (lt_of_block ad) (fun f=>f)).trans ad
 have aJ:=A7 B D y z A C s t _ _ e rfl rfl he W1 (hp.grew k1) (hq.grew k1) gp gq aV aW;have HE:=aa hE;have ae:Hid (∀ W,Kept af w W→Row .u64 W (.slice M L J) x∧Row .u64 W (.slice I H G) v∧Row .u64 W (.slice B y A) s∧Row .u64 W (.slice D z C) t∧Row .u64 W (.slice j i g) a∧Row .u64 W (.slice n m l) b∧Row .u64 W (.slice q p o) c):=fun W k=>⟨hn.grew k,hd.grew k,hp.grew k,hq.grew k,aM.grew k,aN.grew k,aO.grew k⟩
 have aD:=aa aH;have aF:=aa aI;obtain ⟨c0,c1,c2,c3,c4,c5,c6,c7⟩:=aE ad;have aU:=aa ab;have aC:=aa k1;clear ab k1 ad hE hn hd hp hq aM aN aO gp gq aH aI;go_enter Tryz.func25,Tryz.ntmps25;go_wp2_with (rw [← aU.out]);refine aJ.mono ?_;rintro r w2 ⟨kv,E2,rfl,Z,_,k2⟩;clear aJ c0 c1 c2 c3 c4 c5 c6 c7;rcases Z with ⟨rfl,hok,hat⟩ | ⟨rfl,hno,rfl⟩
 ·obtain ⟨vn,vd,vp,vq,aX,aY,aZ,d,u,rfl,rn,av,aw,rd,rp,rq,az,aA,ax,ay,aB⟩:=hat;obtain ⟨am,al,ak,rfl,-,-,-,-,-⟩:=rn.open;obtain ⟨aj,ai,ag,rfl,-,-,-,-,-⟩:=rd.open;obtain ⟨ap,ao,an,rfl,-,-,-,-,-⟩:=rp.open;obtain ⟨au,ar,aq,rfl,-,-,-,-,-⟩:=rq.open;obtain ⟨P,O,N,rfl,-,-,-,-,-⟩:=az.open;obtain ⟨T,S,Q,rfl,-,-,-,-,-⟩:=aA.open;obtain ⟨X,V,U,rfl,-,-,-,-,-⟩:=aB.open;obtain ⟨W3,ac⟩:∃ W3,W3=w2.alloc (.cells #[.slice am al ak,.int .u64 (e:Nat),.slice aj ai ag,.slice ap ao an,.slice au ar aq,.slice P O N,.slice T S Q,.slice X V U] 26):=⟨_,rfl⟩
  have k3:Kept af w2 W3:=by rw [ac];exact (ah af w2).alloc _
  have aP:W3.heap[w2.heap.size]? = some (.cells #[.slice am al ak,.int .u64 (e:Nat),.slice aj ai ag,.slice ap ao an,.slice au ar aq,.slice P O N,.slice T S Q,.slice X V U] 26 (0,0)):=by rw [ac];exact heap_alloc_new _ _
  obtain ⟨d0,d1,d2,d3,d4,d5,d6,d7⟩:=aE aP;have aL:=aT.out _ (k2.trans k3);obtain ⟨c0,c1,c2,c3,c4,c5,c6,c7⟩:=aE aL;have Y:=aa (aC.out.trans (k2.trans k3));obtain ⟨tn,td,tp,tq,aQ,aR,aS⟩:=ae.out _ Y.out;have F:KeyGood x v s t a b c e↔ji (val s) (val t) e d u x v s t a b c:=by
   unfold KeyGood;rw [aD.out.out,aF.out.out];refine ⟨fun h=>?_,fun h=>⟨hok,d,u,h⟩⟩;obtain ⟨_,d',u',h'⟩:=h;have hd:d'=d:=jh (Nat.Coprime.symm hok.2.2.2.2.2) h'.1 av h'.2.1 aw;have hu:u'=u:=jh hok.2.2.2.1 h'.2.2.1 ax h'.2.2.2.1 ay;subst hd hu;exact h'
  obtain ⟨R,hR⟩:∃ R:Bool,R=true↔KeyGood x v s t a b c e:=by
   by_cases h:KeyGood x v s t a b c e
   ·exact ⟨true,by simp [h]⟩
   ·exact ⟨false,by simp [h]⟩
  have aK:=vT am aj ap au P T X M I B D j n q al ak ai ag ao an ar aq O N S Q V U L J H G y A z C i g m l p o e e _ _ _ _ _ _ _ x v s t a b c R (by
   rw [hR,F];unfold ji;exact ⟨fun h=>⟨rfl,h.2.2.2.2.1.symm,h.2.2.2.2.2.1.symm,h.2.2.2.2.2.2.1.symm,h.2.2.2.2.2.2.2.1.symm,h.2.2.2.2.2.2.2.2.1.symm,h.2.2.2.2.2.2.2.2.2.1.symm,h.2.2.2.2.2.2.2.2.2.2.symm⟩,fun h=>⟨av,aw,ax,ay,h.2.1.symm,h.2.2.1.symm,h.2.2.2.1.symm,h.2.2.2.2.1.symm,h.2.2.2.2.2.1.symm,h.2.2.2.2.2.2.1.symm,h.2.2.2.2.2.2.2.symm⟩⟩) W3 (rn.grew k3) (rd.grew k3) (rp.grew k3) (rq.grew k3) (az.grew k3) (aA.grew k3) (aB.grew k3) tn td tp tq aQ aR aS
  have aG:=aa ac;clear ac aP aL k2 k3 tn td tp tq aQ aR aS rn rd rp rq az aA aB hok F av aw ax ay;cases R
  ·have HT:Hid (E=190):=by
    rcases HE.out with ⟨_,h⟩ | ⟨h,_⟩
    ·exact absurd (hR.2 h) (by decide)
    ·exact h
   clear hR;go_wp2_with (rw [← aG.out]);refine aK.mono ?_;rintro r w4 ⟨rfl,k4⟩;go_wp2_with fail;go_ret;exact ⟨by rw [HT.out];rfl,Y.out.trans k4⟩
  ·have HT:Hid (E=0):=by
    rcases HE.out with ⟨h,_⟩ | ⟨_,h⟩
    ·exact h
    ·exact absurd (hR.1 rfl) h
   clear hR;go_wp2_with (rw [← aG.out]);refine aK.mono ?_;rintro r w4 ⟨rfl,k4⟩;go_wp2_with fail;go_ret;exact ⟨by rw [HT.out];rfl,Y.out.trans k4⟩
 ·have HT:Hid (E=190):=by
   rcases HE.out with ⟨_,h⟩ | ⟨h,_⟩
   ·refine absurd ?_ hno;have:=h.1;rw [aD.out.out,aF.out.out] at this;exact this
   ·exact h
  have Y:=aa (aC.out.trans k2);clear hno k2;go_wp2_with fail;go_ret;exact ⟨by rw [HT.out];rfl,Y.out.alloc _⟩

def Bp (w:World) (ao:Option Addr) (n:Nat) (A:Nat→Option Addr) (L C:Nat→Nat):Prop:=
 ∀ i,i<n→∃ b off,ao=some ⟨b,off,none⟩∧w.cell? ⟨b,off+i,none⟩=some (.slice (A i) (L i) (C i))

def fewL (L:Nat):Prop:=L≤20∨L=301∨L=131

theorem fewL.le {L:Nat} (h:fewL L):L≤301:=by unfold fewL at h;omega

theorem yF (ao:Option Addr) (n q:Nat) (A:Nat→Option Addr) (L C:Nat→Nat) (w:World) (hn:n≤1000000000000) (R:Bool) (hR:R=true↔∀ i,i<n→fewL (L i)) (hc:Bp w ao n A L C) :
  Calls Tryz.prog 59 #[.slice ao n q] w fun r w'=>r=.returned (.bool R)∧w'=w:=by
 have HR:=aa hR;have HC:=aa hc;clear hR hc;go_enter Tryz.func59,Tryz.ntmps59;go_wp2_with fail;go_loop [7] (fun i=>∃ k:Nat,k≤n∧i=.int .i64 (k:Int)∧Hid (∀ j,j<k→fewL (L j))) (fun i=>((n:Int)-intOf i).toNat)
 case atStart=>exact ⟨0,Nat.zero_le _,rfl,fun j hj=>by omega⟩
 case round=>
  obtain ⟨k,hk,rfl,f⟩:=hrel;by_cases hkn:k<n
  ·have t:(k:Int)<(n:Int):=by omega
   obtain ⟨b,off,rfl,l⟩:=HC.out k hkn;obtain ⟨ao,s⟩:∃ ao,ao=A k:=⟨_,rfl⟩
   obtain ⟨a,d⟩:∃ a,a=L k:=⟨_,rfl⟩
   obtain ⟨cp,g⟩:∃ q,q=C k:=⟨_,rfl⟩
   rw [← s,← d,← g] at l;have o:=aa d;have p:Hid (fewL a→∀ j,j<k+1→fewL (L j)):=fun h j hj=>by
    by_cases e:j=k
    ·subst e;rw [← d];exact h
    ·exact f.out j (by omega)
   clear s d g;by_cases h4:a≤20
   ·have m:¬ (a:Int) > 20:=by omega
    have c:¬ (20:Int)<(a:Int):=by omega
    go_wp2_with fail;go_round
    case rel=>exact ⟨k+1,by omega,by go_num,p.out (.inl h4)⟩
    case measure=>simp [intOf];omega
   ·have m:(a:Int) > 20:=by omega
    have c:(20:Int)<(a:Int):=by omega
    by_cases h5:a=301
    ·subst h5;clear h4 m c;go_wp2_with fail;go_round
     case rel=>exact ⟨k+1,by omega,by go_num,p.out (.inr (.inl rfl))⟩
     case measure=>simp [intOf];omega
    ·by_cases h6:a=131
     ·subst h6;clear h4 m c h5;go_wp2_with fail;go_round
      case rel=>exact ⟨k+1,by omega,by go_num,p.out (.inr (.inr rfl))⟩
      case measure=>simp [intOf];omega
     ·have x:¬ (a:Int)=301:=by omega
      have y:¬ (a:Int)=131:=by omega
      have d5:((a:Int) != 301)=true:=by simp;omega
      have d6:((a:Int) != 131)=true:=by simp;omega
      have d4:decide ((a:Int) > 20)=true:=aU m;have v:decide ((20:Int)<(a:Int))=true:=aU c;have HF:Hid (R=false):=by
       cases e:R with
       | false=>rfl
       | true=>
        have:=HR.out.1 e k hkn;rw [← o.out] at this;unfold fewL at this;omega
      go_wp2_with fail;go_ret;refine ⟨?_,rfl⟩;rw [HF.out];rfl
  ·have t:¬ (k:Int)<(n:Int):=by omega
   have e:k=n:=by omega
   subst e;have HT:Hid (R=true):=HR.out.2 f.out;go_wp2_with fail;go_ret;refine ⟨?_,rfl⟩;rw [HT.out];rfl

theorem Bc (W:World) (z:Nat):Row .u64 (W.alloc (.cells #[.int .u64 (z:Nat)] 24)) (.slice (some ⟨W.heap.size,0,none⟩) 1 1) [z]:=
 Row.of_own (base:=W.heap.size) (e:=24) (World.ownsRow_lit W #[.int .u64 (z:Nat)] 1 (leR _) (by unfold maxLen;omega) rfl)

theorem yf:¬ KeyGood [] [] [] [] [] [] [] 0:=fun h=>by
 have h1:3≤val []:=h.1.2.1.1;have h2:val []=0:=rfl;omega

end Go.Proofs.YtkaojflnghfmcaaGreatDoor
