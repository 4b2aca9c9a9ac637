/- Put together of: Key5 Num1 Key6 Prm3 Str1. -/
import Derived.Test.YtcemlfokmjjiaaaGreatDoorPf5

namespace Go.Proofs.YtcemlfokmjjiaaaGreatDoor
set_option maxRecDepth 100000
set_option maxHeartbeats 4000000
open Go.RowKit

def dh (w:World) (p:Nat) (x0 x1 x2 x3 x4 x5 x6 x7:Value):World:=((((((((w.setCell ⟨p,0,none⟩ x0).setCell ⟨p,1,none⟩ x1).setCell ⟨p,2,none⟩ x2).setCell ⟨p,3,none⟩ x3).setCell ⟨p,4,none⟩ x4).setCell ⟨p,5,none⟩ x5).setCell ⟨p,6,none⟩ x6).setCell ⟨p,7,none⟩ x7)

theorem dm {w w3:World} {p:Nat} {a0 a1 a2 a3 a4 a5 a6 a7:Value} {t:TypeId} (hk:Kept af w w3) (hp:w.heap.size≤p) (a:w3.heap[p]? = some (.cells #[a0,a1,a2,a3,a4,a5,a6,a7] t (0,0))) (x0 x1 x2 x3 x4 x5 x6 x7:Value) :
  (dh w3 p x0 x1 x2 x3 x4 x5 x6 x7).heap[p]? = some (.cells #[x0,x1,x2,x3,x4,x5,x6,x7] t (0,0))∧Kept af w (dh w3 p x0 x1 x2 x3 x4 x5 x6 x7)∧Kept (fun q=>q=p) w3 (dh w3 p x0 x1 x2 x3 x4 x5 x6 x7):=by
 unfold dh;refine ⟨?_,?_,?_⟩
 ·have h0:=heap_setCell_same w3 p 0 _ _ x0 a;have h1:=heap_setCell_same _ p 1 _ _ x1 h0;have h2:=heap_setCell_same _ p 2 _ _ x2 h1;have h3:=heap_setCell_same _ p 3 _ _ x3 h2;have h4:=heap_setCell_same _ p 4 _ _ x4 h3;have h5:=heap_setCell_same _ p 5 _ _ x5 h4;have h6:=heap_setCell_same _ p 6 _ _ x6 h5;have h7:=heap_setCell_same _ p 7 _ _ x7 h6;simpa using h7
 ·exact ((((((((hk.setCell ⟨p,0,none⟩ (fun h=>by simp at h;omega) _).setCell ⟨p,1,none⟩ (fun h=>by simp at h;omega) _).setCell ⟨p,2,none⟩ (fun h=>by simp at h;omega) _).setCell ⟨p,3,none⟩ (fun h=>by simp at h;omega) _).setCell ⟨p,4,none⟩ (fun h=>by simp at h;omega) _).setCell ⟨p,5,none⟩ (fun h=>by simp at h;omega) _).setCell ⟨p,6,none⟩ (fun h=>by simp at h;omega) _).setCell ⟨p,7,none⟩ (fun h=>by simp at h;omega) _)
 ·exact ((((((((ai (fun q=>q=p) w3).setCell ⟨p,0,none⟩ (fun _=>rfl) _).setCell ⟨p,1,none⟩ (fun _=>rfl) _).setCell ⟨p,2,none⟩ (fun _=>rfl) _).setCell ⟨p,3,none⟩ (fun _=>rfl) _).setCell ⟨p,4,none⟩ (fun _=>rfl) _).setCell ⟨p,5,none⟩ (fun _=>rfl) _).setCell ⟨p,6,none⟩ (fun _=>rfl) _).setCell ⟨p,7,none⟩ (fun _=>rfl) _

theorem aM {W:World} {p:Nat} {cs:Array Value} {t:TypeId} (h:W.heap[p]? = some (.cells cs t (0,0))) (j:Nat):W.frozen? ⟨p,j,none⟩=false:=frozen_of_row W _ j _ _ h

abbrev zeroKey:Array Value:=#[.slice none 0 0,.int .u64 0,.slice none 0 0,.slice none 0 0,.slice none 0 0,.slice none 0 0,.slice none 0 0,.slice none 0 0]

theorem aJ {X n:Nat} (h:au X≤64*n):aj X≤n:=(am X n).2 (by
 have:=(aA X (64*n)).1 h;rw [Nat.pow_mul] at this;exact this)

theorem eN {X n:Nat} (h:au X≤32*n):aF X≤n:=(aN X n).2 (by
 have:=(aA X (32*n)).1 h;rw [Nat.pow_mul] at this;exact this)

theorem fz {X n:Nat} (h:aF X≤n):aj X≤n:=(am X n).2 (Nat.lt_of_lt_of_le ((aN X n).1 h) (Nat.pow_le_pow_left (by omega) n))

def bY (P:Nat):Prop:=3≤P∧P%2=1∧au P≤8192

def aO (P Q:Nat):List Nat:=digs (P*Q) (max (aj (P*Q)) 1)

def bw (L M P Q e:Nat):Prop:=(L≤300∧M≤300)∧bY P∧bY Q∧Nat.gcd P Q=1∧fm (aO P Q) e=0∧Nat.gcd e (bZ P Q)=1

def KeyAt (w:World) (P Q e:Nat) (kv:Array Value):Prop:=
 ∃ (vn vd vp vq vdp vdq vqi:Value) (d u:Nat),kv=#[vn,.int .u64 (e:Nat),vd,vp,vq,vdp,vdq,vqi]∧Row .u64 w vn (aO P Q)∧d<bZ P Q∧e*d%bZ P Q=1∧Row .u64 w vd (digs d (aO P Q).length) ∧
  Row .u64 w vp (digs P (max (aj P) (aj Q)))∧Row .u64 w vq (digs Q (max (aj P) (aj Q)))∧Row .u64 w vdp (digs (d%(P-1)) (max (aj P) (aj Q)))∧Row .u64 w vdq (digs (d%(Q-1)) (max (aj P) (aj Q)))∧u<P∧Q*u%P=1∧Row .u64 w vqi (digs u (max (aj P) (aj Q)))

def fB (B:Nat) (kv:Array Value):Prop:=∀ v ∈ kv.toList,∀ x,v.ownBlock=some x→B<x

theorem aX (B:Nat):fB B zeroKey:=by
 intro v hv x hx;have a:v ∈ [Value.slice none 0 0,.int .u64 0,.slice none 0 0,.slice none 0 0,.slice none 0 0,.slice none 0 0,.slice none 0 0,.slice none 0 0]:=hv;simp only [List.mem_cons,List.not_mem_nil,or_false] at a;rcases a with rfl | rfl | rfl | rfl | rfl | rfl | rfl | rfl <;> cases hx

theorem pH {B:Nat} {v0 v2 v3 v4 v5 v6 v7:Value} {e:Int} (h0:∀ x,v0.ownBlock=some x→B<x) (h2:∀ x,v2.ownBlock=some x→B<x) (h3:∀ x,v3.ownBlock=some x→B<x) (h4:∀ x,v4.ownBlock=some x→B<x) (h5:∀ x,v5.ownBlock=some x→B<x) (h6:∀ x,v6.ownBlock=some x→B<x) (h7:∀ x,v7.ownBlock=some x→B<x):fB B #[v0,.int .u64 e,v2,v3,v4,v5,v6,v7]:=by
 intro v hv x hx;have a:v ∈ [v0,.int .u64 e,v2,v3,v4,v5,v6,v7]:=hv;simp only [List.mem_cons,List.not_mem_nil,or_false] at a;rcases a with rfl | rfl | rfl | rfl | rfl | rfl | rfl | rfl
 ·exact h0 x hx
 ·cases hx
 ·exact h2 x hx
 ·exact h3 x hx
 ·exact h4 x hx
 ·exact h5 x hx
 ·exact h6 x hx
 ·exact h7 x hx

theorem pq {P Q:Nat} (hP:3≤P) (hQ:3≤Q):2≤bZ P Q:=by
 unfold bZ;have hg:Nat.gcd (P-1) (Q-1) ∣ P-1:=Nat.gcd_dvd_left _ _;have h1:1≤(P-1)/Nat.gcd (P-1) (Q-1):=Nat.div_pos (Nat.le_of_dvd (by omega) hg) (Nat.gcd_pos_of_pos_left _ (by omega));have:=Nat.mul_le_mul_right (Q-1) h1;omega

theorem Bv (ao bo:Option Addr) (L M cap cb:Nat) (xs ys:List Nat) (P Q e:Nat) (hP:P=val xs) (hQ:Q=val ys) (he:e<18446744073709551616) (w:World) (hu:Row .u64 w (.slice ao L cap) xs) (hv:Row .u64 w (.slice bo M cb) ys) (bF:Digs xs) (b0:Digs ys) (fa:L≤1000000) (e6:M≤1000000) :
  Calls Tryz.prog 27 #[.slice ao L cap,.slice bo M cb,.int .u64 (e:Nat)] w fun r w'=>∃ kv E,r=.returned (.tuple #[.agg kv,.int .i64 ((E:Nat):Int)])∧((E=0∧bw L M P Q e∧KeyAt w' P Q e kv)∨(E=190∧¬ bw L M P Q e∧kv=zeroKey))∧fB w.heap.size kv∧Kept af w w':=by
 obtain ⟨_,_,_,e1,hL,-,-,-,-⟩:=hu.open;cases e1
 obtain ⟨_,_,_,e1,hM,-,-,-,-⟩:=hv.open;cases e1
 obtain ⟨W0,bt⟩:∃ W0,W0=w.alloc (.cells #[.slice none 0 0,.int .u64 0,.slice none 0 0,.slice none 0 0,.slice none 0 0,.slice none 0 0,.slice none 0 0,.slice none 0 0] 42):=⟨_,rfl⟩
 have k0:Kept af w W0:=by rw [bt];exact (ai af w).alloc _
 have bz:W0.heap[w.heap.size]? = some (.cells #[.slice none 0 0,.int .u64 0,.slice none 0 0,.slice none 0 0,.slice none 0 0,.slice none 0 0,.slice none 0 0,.slice none 0 0] 42 (0,0)):=by rw [bt];exact heap_alloc_new _ _
 have N:Hid (∀ W,Kept af W0 W→W.heap[w.heap.size]? = some (.cells #[.slice none 0 0,.int .u64 0,.slice none 0 0,.slice none 0 0,.slice none 0 0,.slice none 0 0,.slice none 0 0,.slice none 0 0] 42 (0,0))):=fun W k=>(k.block _ (lt_of_block bz) (fun f=>f)).trans bz
 have JX:Hid (∀ W,Kept af W0 W→Calls Tryz.prog 17 #[.slice ao L cap] W fun r w'=>∃ v',r=.returned v'∧IsBig w' v' P∧(∀ b,v'.ownBlock=some b→W.heap.size≤b)∧Kept af W w'):=fun W k=>by rw [hP];exact rOf _ xs W (hu.grew (k0.trans k)) bF (by rw [hL.out];omega)
 have JY:Hid (∀ W,Kept af W0 W→Calls Tryz.prog 17 #[.slice bo M cb] W fun r w'=>∃ v',r=.returned v'∧IsBig w' v' Q∧(∀ b,v'.ownBlock=some b→W.heap.size≤b)∧Kept af W w'):=fun W k=>by rw [hQ];exact rOf _ ys W (hv.grew (k0.trans k)) b0 (by rw [hM.out];omega)
 have eW:aF P≤2*L:=by rw [hP];exact (aN _ _).2 (by rw [Nat.pow_mul,← hL.out];exact aq (by omega) bF)
 have fb:aF Q≤2*M:=by rw [hQ];exact (aN _ _).2 (by rw [Nat.pow_mul,← hM.out];exact aq (by omega) b0)
 have bK:=aa bt;have s:Hid (w.heap.size<W0.heap.size):=lt_of_block bz;have D:=aa k0;have KR:Kept af W0 W0:=ai _ _;clear hu hv bF b0 hL hM hP hQ bt k0 bz;by_cases c1:300<L
 ·have HN:Hid (¬ bw L M P Q e):=fun h=>by have:=h.1.1;omega
  have g1:(300:Int)<(L:Int):=by omega
  have hh:=bK.out;subst hh;go_enter Tryz.func27,Tryz.ntmps27;go_wp2_with fail;exact bodyPost_ret (v:=.tuple #[.agg zeroKey,.int .i64 190]) (by simp [results,Tryz.results27,go_sem]) rfl ⟨_,190,rfl,.inr ⟨rfl,HN.out,rfl⟩,aX _,D.out⟩
 have g1:¬ (300:Int)<(L:Int):=by omega
 have q1:decide ((300:Int)<(L:Int))=false:=aC g1;by_cases c2:300<M
 ·have HN:Hid (¬ bw L M P Q e):=fun h=>by have:=h.1.2;omega
  have g2:(300:Int)<(M:Int):=by omega
  have hh:=bK.out;subst hh;go_enter Tryz.func27,Tryz.ntmps27;go_wp2_with fail;exact bodyPost_ret (v:=.tuple #[.agg zeroKey,.int .i64 190]) (by simp [results,Tryz.results27,go_sem]) rfl ⟨_,190,rfl,.inr ⟨rfl,HN.out,rfl⟩,aX _,D.out⟩
 have g2:¬ (300:Int)<(M:Int):=by omega
 have q2:decide ((300:Int)<(M:Int))=false:=aC g2;go_enter Tryz.func27,Tryz.ntmps27;go_wp2_with (rw [← bK.out]);have h1:=JX.out _ KR;refine h1.mono ?_;rintro r w1 ⟨v1,rfl,b1,_,K1⟩;have h2:=JY.out _ K1;clear h1;go_wp2_with fail;refine h2.mono ?_;rintro r w2 ⟨v2,rfl,b2,_,k2⟩;have K2:=K1.trans k2;have b1:=b1.grew k2;clear h2 k2;obtain ⟨a1,n1,d1,rfl,-,-⟩:=b1.length;obtain ⟨a2,n2,d2,rfl,-,-⟩:=b2.length;obtain ⟨W3,bg⟩:∃ W3,W3=w2.alloc (.cells #[.slice a1 n1 d1,.slice a2 n2 d2] 50):=⟨_,rfl⟩
 have k3:Kept af w2 W3:=by rw [bg];exact (ai af w2).alloc _
 have bW:W3.heap[w2.heap.size]? = some (.cells #[.slice a1 n1 d1,.slice a2 n2 d2] 50 (0,0)):=by rw [bg];exact heap_alloc_new _ _
 have cg:Hid (∀ W,Kept af W3 W→W.cell? ⟨w2.heap.size,0,none⟩=some (.slice a1 n1 d1)∧W.cell? ⟨w2.heap.size,0+1,none⟩=some (.slice a2 n2 d2)):=fun W k=>by
  have hh:=(k.block _ (lt_of_block bW) (fun f=>f)).trans bW;exact ⟨(cell_of_row W _ 0 _ _ _ hh).trans rfl,(cell_of_row W _ 1 _ _ _ hh).trans rfl⟩
 have ez:=aa bg;have aI:=aa (K2.trans k3);have bP:=aa (b1.grew k3);have bD:=aa (b2.grew k3);clear bg bW k3 b1 b2 K1 K2;go_wp2_with (rw [← ez.out]);go_loopw [37] (fun iv wr=>∃ k:Nat,k≤2∧iv=.int .i64 (k:Int)∧Hid (0<k→bY P)∧Hid (1<k→bY Q)∧Hid (Kept af W3 wr)) (fun iv _=>2-(intOf iv).toNat)
 case atStart=>exact ⟨0,by omega,rfl,(fun h=>absurd h (by omega)),(fun h=>absurd h (by omega)),ai _ _⟩
 case round=>
  obtain ⟨k,hk,rfl,b6,cR,az⟩:=hrel;obtain ⟨l0,l1⟩:=cg.out _ az.out;rcases (show k=0∨k=1∨k=2 by omega) with rfl | rfl | rfl
  ·have bx:=bP.out.grew az.out;have h4:=er 3 (by omega) wr;go_wp2_with fail;refine h4.mono ?_;rintro r w4 ⟨v4,rfl,b4,_,k4⟩;have K4:=az.out.trans k4;have bx:=bx.grew k4;have h5:=ju _ v4 P 3 w4 bx b4;clear h4 b4 l0 l1;by_cases c3:P<3
   ·have HN:Hid (¬ bw L M P Q e):=fun h=>by have:=h.2.1.1;omega
    rw [cj c3] at h5;go_wp2_with fail;refine h5.mono ?_;rintro r bN ⟨rfl,m5,rfl⟩;have K5:=aI.out.trans (K4.drewN m5);obtain ⟨w5,G⟩:∃ w5,w5=w4.drewN m5:=⟨_,rfl⟩
    rw [← G] at K5 ⊢;clear h5 G;have a:=N.out _ K5;obtain ⟨c0,c1,c2,c3,c4,c5,c6,c7⟩:=aL a;have f:=aM a;have m:=aa (D.out.trans K5);go_wp2_with fail;obtain ⟨z1,z2,_⟩:=dm m.out (leR _) a (.slice none 0 0) (.int .u64 0) (.slice none 0 0) (.slice none 0 0) (.slice none 0 0) (.slice none 0 0) (.slice none 0 0) (.slice none 0 0);unfold dh at z1 z2
    generalize ((((((((w5.setCell ⟨w.heap.size,0,none⟩ (.slice none 0 0)).setCell ⟨w.heap.size,1,none⟩ (.int .u64 0)).setCell ⟨w.heap.size,2,none⟩ (.slice none 0 0)).setCell ⟨w.heap.size,3,none⟩ (.slice none 0 0)).setCell ⟨w.heap.size,4,none⟩ (.slice none 0 0)).setCell ⟨w.heap.size,5,none⟩ (.slice none 0 0)).setCell ⟨w.heap.size,6,none⟩ (.slice none 0 0)).setCell ⟨w.heap.size,7,none⟩ (.slice none 0 0))=Wf at *;obtain ⟨r0,r1,r2,r3,r4,r5,r6,r7⟩:=aL z1;exact bodyPost_ret (v:=.tuple #[.agg zeroKey,.int .i64 190]) (by simp [results,Tryz.results27,go_sem,r0,r1,r2,r3,r4,r5,r6,r7]) rfl ⟨_,190,rfl,.inr ⟨rfl,HN.out,rfl⟩,aX _,z2⟩
   have bE:=gY (show 3≤P by omega);have q5:decide (aK P 3<0)=false:=aC bE;generalize aK P 3=c5 at *;obtain ⟨ca,bU,d0,eB,d5,bX,eF,a7,dG,dZ⟩:=oC bx (by omega);cases bX
   have dP:(0:Int)<(n1:Int):=by omega
   have aP:(d5:Int).tmod 2=((d5%2:Nat):Int):=by rw [Int.tmod_eq_emod_of_nonneg (by omega)];omega
   go_wp2_with fail;refine h5.mono ?_;rintro r bN ⟨rfl,m5,rfl⟩;have kd:=(ai af w4).drewN m5;obtain ⟨w5,G⟩:∃ w5,w5=w4.drewN m5:=⟨_,rfl⟩
   rw [← G] at kd ⊢;have K5:=K4.trans kd;have bx:=bx.grew kd;have l5:w5.cell? ⟨ca,bU,none⟩=some (.int .u32 (d5:Int)):=kd.cellN a7;clear h5 G a7 K4 k4;by_cases c6:P%2=0
   ·have HN:Hid (¬ bw L M P Q e):=fun h=>by have:=h.2.1.2.1;omega
    have a5:(d5:Int)%2=0:=by omega
    rw [show d5%2=0 by omega] at aP;have J:=aI.out.trans K5;have a:=N.out _ J;obtain ⟨c0,c1,c2,c3,c4,c5,c6,c7⟩:=aL a;have f:=aM a;have m:=aa (D.out.trans J);go_wp2_with fail;obtain ⟨z1,z2,_⟩:=dm m.out (leR _) a (.slice none 0 0) (.int .u64 0) (.slice none 0 0) (.slice none 0 0) (.slice none 0 0) (.slice none 0 0) (.slice none 0 0) (.slice none 0 0);unfold dh at z1 z2
    generalize ((((((((w5.setCell ⟨w.heap.size,0,none⟩ (.slice none 0 0)).setCell ⟨w.heap.size,1,none⟩ (.int .u64 0)).setCell ⟨w.heap.size,2,none⟩ (.slice none 0 0)).setCell ⟨w.heap.size,3,none⟩ (.slice none 0 0)).setCell ⟨w.heap.size,4,none⟩ (.slice none 0 0)).setCell ⟨w.heap.size,5,none⟩ (.slice none 0 0)).setCell ⟨w.heap.size,6,none⟩ (.slice none 0 0)).setCell ⟨w.heap.size,7,none⟩ (.slice none 0 0))=Wf at *;obtain ⟨r0,r1,r2,r3,r4,r5,r6,r7⟩:=aL z1;exact bodyPost_ret (v:=.tuple #[.agg zeroKey,.int .i64 190]) (by simp [results,Tryz.results27,go_sem,r0,r1,r2,r3,r4,r5,r6,r7]) rfl ⟨_,190,rfl,.inr ⟨rfl,HN.out,rfl⟩,aX _,z2⟩
   have a5:(d5:Int)%2=1:=by omega
   rw [show d5%2=1 by omega] at aP;have h6:=iH _ P w5 bx;have bB:=pf bx;obtain ⟨t,ht⟩:∃ t,t=au P:=⟨_,rfl⟩
   rw [← ht] at h6 bB;have aY:=aa ht;clear ht;go_wp2_with fail;refine h6.mono ?_;rintro r w6 ⟨rfl,rfl⟩;clear h6;by_cases c7:8192<t
   ·have HN:Hid (¬ bw L M P Q e):=fun h=>by have:=h.2.1.2.2;have:=aY.out;omega
    have g7:(8192:Int)<(t:Int):=by omega
    have J:=aI.out.trans K5;have a:=N.out _ J;obtain ⟨c0,c1,c2,c3,c4,c5,c6,c7⟩:=aL a;have f:=aM a;have m:=aa (D.out.trans J);go_wp2_with fail;obtain ⟨z1,z2,_⟩:=dm m.out (leR _) a (.slice none 0 0) (.int .u64 0) (.slice none 0 0) (.slice none 0 0) (.slice none 0 0) (.slice none 0 0) (.slice none 0 0) (.slice none 0 0);unfold dh at z1 z2
    generalize ((((((((w6.setCell ⟨w.heap.size,0,none⟩ (.slice none 0 0)).setCell ⟨w.heap.size,1,none⟩ (.int .u64 0)).setCell ⟨w.heap.size,2,none⟩ (.slice none 0 0)).setCell ⟨w.heap.size,3,none⟩ (.slice none 0 0)).setCell ⟨w.heap.size,4,none⟩ (.slice none 0 0)).setCell ⟨w.heap.size,5,none⟩ (.slice none 0 0)).setCell ⟨w.heap.size,6,none⟩ (.slice none 0 0)).setCell ⟨w.heap.size,7,none⟩ (.slice none 0 0))=Wf at *;obtain ⟨r0,r1,r2,r3,r4,r5,r6,r7⟩:=aL z1;exact bodyPost_ret (v:=.tuple #[.agg zeroKey,.int .i64 190]) (by simp [results,Tryz.results27,go_sem,r0,r1,r2,r3,r4,r5,r6,r7]) rfl ⟨_,190,rfl,.inr ⟨rfl,HN.out,rfl⟩,aX _,z2⟩
   have g7:¬ (8192:Int)<(t:Int):=by omega
   have q7:decide ((8192:Int)<(t:Int))=false:=aC g7;have b5:Hid (bY P):=⟨by omega,by omega,by have:=aY.out;omega⟩
   clear l5 bx aP a5;go_wp2_with fail;go_roundw
   case rel=>exact ⟨1,by omega,by go_num,(fun _=>b5.out),(fun h=>absurd h (by omega)),K5⟩
   case measure=>simp [intOf]
  ·have bx:=bD.out.grew az.out;have h4:=er 3 (by omega) wr;go_wp2_with fail;refine h4.mono ?_;rintro r w4 ⟨v4,rfl,b4,_,k4⟩;have K4:=az.out.trans k4;have bx:=bx.grew k4;have h5:=ju _ v4 Q 3 w4 bx b4;clear h4 b4 l0 l1;by_cases c3:Q<3
   ·have HN:Hid (¬ bw L M P Q e):=fun h=>by have:=h.2.2.1.1;omega
    rw [cj c3] at h5;go_wp2_with fail;refine h5.mono ?_;rintro r bN ⟨rfl,m5,rfl⟩;have K5:=aI.out.trans (K4.drewN m5);obtain ⟨w5,G⟩:∃ w5,w5=w4.drewN m5:=⟨_,rfl⟩
    rw [← G] at K5 ⊢;clear h5 G;have a:=N.out _ K5;obtain ⟨c0,c1,c2,c3,c4,c5,c6,c7⟩:=aL a;have f:=aM a;have m:=aa (D.out.trans K5);go_wp2_with fail;obtain ⟨z1,z2,_⟩:=dm m.out (leR _) a (.slice none 0 0) (.int .u64 0) (.slice none 0 0) (.slice none 0 0) (.slice none 0 0) (.slice none 0 0) (.slice none 0 0) (.slice none 0 0);unfold dh at z1 z2
    generalize ((((((((w5.setCell ⟨w.heap.size,0,none⟩ (.slice none 0 0)).setCell ⟨w.heap.size,1,none⟩ (.int .u64 0)).setCell ⟨w.heap.size,2,none⟩ (.slice none 0 0)).setCell ⟨w.heap.size,3,none⟩ (.slice none 0 0)).setCell ⟨w.heap.size,4,none⟩ (.slice none 0 0)).setCell ⟨w.heap.size,5,none⟩ (.slice none 0 0)).setCell ⟨w.heap.size,6,none⟩ (.slice none 0 0)).setCell ⟨w.heap.size,7,none⟩ (.slice none 0 0))=Wf at *;obtain ⟨r0,r1,r2,r3,r4,r5,r6,r7⟩:=aL z1;exact bodyPost_ret (v:=.tuple #[.agg zeroKey,.int .i64 190]) (by simp [results,Tryz.results27,go_sem,r0,r1,r2,r3,r4,r5,r6,r7]) rfl ⟨_,190,rfl,.inr ⟨rfl,HN.out,rfl⟩,aX _,z2⟩
   have bE:=gY (show 3≤Q by omega);have q5:decide (aK Q 3<0)=false:=aC bE;generalize aK Q 3=c5 at *;obtain ⟨ca,bU,d0,eB,d5,bX,eF,a7,dG,dZ⟩:=oC bx (by omega);cases bX
   have dP:(0:Int)<(n2:Int):=by omega
   have aP:(d5:Int).tmod 2=((d5%2:Nat):Int):=by rw [Int.tmod_eq_emod_of_nonneg (by omega)];omega
   go_wp2_with fail;refine h5.mono ?_;rintro r bN ⟨rfl,m5,rfl⟩;have kd:=(ai af w4).drewN m5;obtain ⟨w5,G⟩:∃ w5,w5=w4.drewN m5:=⟨_,rfl⟩
   rw [← G] at kd ⊢;have K5:=K4.trans kd;have bx:=bx.grew kd;have l5:w5.cell? ⟨ca,bU,none⟩=some (.int .u32 (d5:Int)):=kd.cellN a7;clear h5 G a7 K4 k4;by_cases c6:Q%2=0
   ·have HN:Hid (¬ bw L M P Q e):=fun h=>by have:=h.2.2.1.2.1;omega
    have a5:(d5:Int)%2=0:=by omega
    rw [show d5%2=0 by omega] at aP;have J:=aI.out.trans K5;have a:=N.out _ J;obtain ⟨c0,c1,c2,c3,c4,c5,c6,c7⟩:=aL a;have f:=aM a;have m:=aa (D.out.trans J);go_wp2_with fail;obtain ⟨z1,z2,_⟩:=dm m.out (leR _) a (.slice none 0 0) (.int .u64 0) (.slice none 0 0) (.slice none 0 0) (.slice none 0 0) (.slice none 0 0) (.slice none 0 0) (.slice none 0 0);unfold dh at z1 z2
    generalize ((((((((w5.setCell ⟨w.heap.size,0,none⟩ (.slice none 0 0)).setCell ⟨w.heap.size,1,none⟩ (.int .u64 0)).setCell ⟨w.heap.size,2,none⟩ (.slice none 0 0)).setCell ⟨w.heap.size,3,none⟩ (.slice none 0 0)).setCell ⟨w.heap.size,4,none⟩ (.slice none 0 0)).setCell ⟨w.heap.size,5,none⟩ (.slice none 0 0)).setCell ⟨w.heap.size,6,none⟩ (.slice none 0 0)).setCell ⟨w.heap.size,7,none⟩ (.slice none 0 0))=Wf at *;obtain ⟨r0,r1,r2,r3,r4,r5,r6,r7⟩:=aL z1;exact bodyPost_ret (v:=.tuple #[.agg zeroKey,.int .i64 190]) (by simp [results,Tryz.results27,go_sem,r0,r1,r2,r3,r4,r5,r6,r7]) rfl ⟨_,190,rfl,.inr ⟨rfl,HN.out,rfl⟩,aX _,z2⟩
   have a5:(d5:Int)%2=1:=by omega
   rw [show d5%2=1 by omega] at aP;have h6:=iH _ Q w5 bx;have bB:=pf bx;obtain ⟨t,ht⟩:∃ t,t=au Q:=⟨_,rfl⟩
   rw [← ht] at h6 bB;have aY:=aa ht;clear ht;go_wp2_with fail;refine h6.mono ?_;rintro r w6 ⟨rfl,rfl⟩;clear h6;by_cases c7:8192<t
   ·have HN:Hid (¬ bw L M P Q e):=fun h=>by have:=h.2.2.1.2.2;have:=aY.out;omega
    have g7:(8192:Int)<(t:Int):=by omega
    have J:=aI.out.trans K5;have a:=N.out _ J;obtain ⟨c0,c1,c2,c3,c4,c5,c6,c7⟩:=aL a;have f:=aM a;have m:=aa (D.out.trans J);go_wp2_with fail;obtain ⟨z1,z2,_⟩:=dm m.out (leR _) a (.slice none 0 0) (.int .u64 0) (.slice none 0 0) (.slice none 0 0) (.slice none 0 0) (.slice none 0 0) (.slice none 0 0) (.slice none 0 0);unfold dh at z1 z2
    generalize ((((((((w6.setCell ⟨w.heap.size,0,none⟩ (.slice none 0 0)).setCell ⟨w.heap.size,1,none⟩ (.int .u64 0)).setCell ⟨w.heap.size,2,none⟩ (.slice none 0 0)).setCell ⟨w.heap.size,3,none⟩ (.slice none 0 0)).setCell ⟨w.heap.size,4,none⟩ (.slice none 0 0)).setCell ⟨w.heap.size,5,none⟩ (.slice none 0 0)).setCell ⟨w.heap.size,6,none⟩ (.slice none 0 0)).setCell ⟨w.heap.size,7,none⟩ (.slice none 0 0))=Wf at *;obtain ⟨r0,r1,r2,r3,r4,r5,r6,r7⟩:=aL z1;exact bodyPost_ret (v:=.tuple #[.agg zeroKey,.int .i64 190]) (by simp [results,Tryz.results27,go_sem,r0,r1,r2,r3,r4,r5,r6,r7]) rfl ⟨_,190,rfl,.inr ⟨rfl,HN.out,rfl⟩,aX _,z2⟩
   have g7:¬ (8192:Int)<(t:Int):=by omega
   have q7:decide ((8192:Int)<(t:Int))=false:=aC g7;have b5:Hid (bY Q):=⟨by omega,by omega,by have:=aY.out;omega⟩
   clear l5 bx aP a5;go_wp2_with fail;go_roundw
   case rel=>exact ⟨2,by omega,by go_num,(fun _=>b6.out (by omega)),(fun _=>b5.out),K5⟩
   case measure=>simp [intOf]
  ·skip
   have hP:=b6.out (by omega);have hQ:=cR.out (by omega);obtain ⟨b7,rfl⟩:∃ b7,b7=wr:=⟨_,rfl⟩
   have eu:=aI.out.trans az.out;have b1:=bP.out.grew az.out;have b2:=bD.out.grew az.out;have dQ:aF P≤256:=eN hP.2.2;have es:aF Q≤256:=eN hQ.2.2;have eV:aj P≤128:=aJ hP.2.2;have e4:aj Q≤128:=aJ hQ.2.2;have eJ:=hP.1;have dy:=hQ.1;have ek:=aa hP;have eG:=aa hQ;clear l0 l1 b6 cR az hP hQ cg bP bD;have dp:=AP _ _ P Q b7 b1 b2 (by omega) (by omega);go_wp2_with fail;refine dp.mono ?_;rintro e ea ⟨d3,rfl,bs,_,bG⟩;have eK:=eu.trans bG;have b1:=b1.grew bG;have b2:=b2.grew bG;clear dp;have cX:=it ea;go_wp2_with fail;refine cX.mono ?_;rintro e bl ⟨en,rfl,cO,_,bp⟩;have cs:=eK.trans bp
   have b1:=b1.grew bp;have b2:=b2.grew bp;have bs:=bs.grew bp;clear cX;have aZ:=ju d3 en _ 1 bl bs cO;by_cases c8:Nat.gcd P Q=1
   case neg=>
    have HN:Hid (¬ bw L M P Q e):=fun h=>c8 h.2.2.2.1
    have eq:=lU c8;have hq:(aK (Nat.gcd P Q) 1 == 0)=false:=by simpa using eq
    generalize aK (Nat.gcd P Q) 1=c13 at *;go_wp2_with fail;refine aZ.mono ?_;rintro r bC ⟨rfl,bf,rfl⟩;have a0:=cs.drewN bf;obtain ⟨aH,I⟩:∃ aH,aH=bl.drewN bf:=⟨_,rfl⟩
    rw [← I] at a0 ⊢;clear aZ I;have a:=N.out _ a0;obtain ⟨c0,c1,c2,c3,c4,c5,c6,c7⟩:=aL a;have f:=aM a;have m:=aa (D.out.trans a0);go_wp2_with fail;obtain ⟨z1,z2,_⟩:=dm m.out (leR _) a (.slice none 0 0) (.int .u64 0) (.slice none 0 0) (.slice none 0 0) (.slice none 0 0) (.slice none 0 0) (.slice none 0 0) (.slice none 0 0);unfold dh at z1 z2
    generalize ((((((((aH.setCell ⟨w.heap.size,0,none⟩ (.slice none 0 0)).setCell ⟨w.heap.size,1,none⟩ (.int .u64 0)).setCell ⟨w.heap.size,2,none⟩ (.slice none 0 0)).setCell ⟨w.heap.size,3,none⟩ (.slice none 0 0)).setCell ⟨w.heap.size,4,none⟩ (.slice none 0 0)).setCell ⟨w.heap.size,5,none⟩ (.slice none 0 0)).setCell ⟨w.heap.size,6,none⟩ (.slice none 0 0)).setCell ⟨w.heap.size,7,none⟩ (.slice none 0 0))=Wf at *;obtain ⟨r0,r1,r2,r3,r4,r5,r6,r7⟩:=aL z1;exact bodyPost_ret (v:=.tuple #[.agg zeroKey,.int .i64 190]) (by simp [results,Tryz.results27,go_sem,r0,r1,r2,r3,r4,r5,r6,r7]) rfl ⟨_,190,rfl,.inr ⟨rfl,HN.out,rfl⟩,aX _,z2⟩
   rw [eC c8] at aZ;have cU:=aa c8;clear c8;go_wp2_with fail;refine aZ.mono ?_;rintro r bC ⟨rfl,bf,rfl⟩;have bh:=(ai af bl).drewN bf;obtain ⟨aH,I⟩:∃ aH,aH=bl.drewN bf:=⟨_,rfl⟩
   rw [← I] at bh ⊢;have a0:=cs.trans bh;have b1:=b1.grew bh;have b2:=b2.grew bh;clear aZ I bs cO;have dj:=yi _ _ P Q aH b1 b2 (by omega) (by omega);go_wp2_with fail;refine dj.mono ?_;rintro e ew ⟨dM,rfl,cx,_,cd⟩;have cQ:=a0.trans cd;have b1:=b1.grew cd;have b2:=b2.grew cd;clear dj;have cV:=mq dM _ ew cx;go_wp2_with fail;refine cV.mono ?_;rintro r dk ⟨fg,rfl,rn,on,bJ⟩;have da:=cQ.trans bJ;have b1:=b1.grew bJ;have b2:=b2.grew bJ;obtain ⟨no,nl,nc,rfl,dn,-,-,-,-⟩:=rn.open;have cA:Hid (∀ x,(Value.slice no nl nc).ownBlock=some x→w.heap.size<x):=fun x hx=>by
    rw [on] at hx;cases hx
    have:=cQ.size;have:=s.out;omega
   have aE:nl=(aO P Q).length:=by rw [aO,ag];have:=dn.out;rw [ag] at this;omega
   have a9:aF (P*Q)≤512:=by have:=iR P Q;omega
   have eI:aj (P*Q)≤512:=fz a9;have eU:nl≤512:=by rw [aE,aO,ag];omega
   have rn:Row .u64 dk (.slice no nl nc) (aO P Q):=rn;have ev:=aa aE;clear cV cx dn aE on;obtain ⟨EP,bV⟩:∃ EP,EP=fm (aO P Q) e:=⟨_,rfl⟩
   have bn:=rX no nl nc (aO P Q) e he EP bV dk rn (ah (by omega) _ _) (by omega);have ch:=aa bV;clear bV;by_cases c9:EP=0
   case neg=>
    have HN:Hid (¬ bw L M P Q e):=fun h=>c9 (ch.out.trans h.2.2.2.2.1)
    have g9:¬ (EP:Int)=0:=by omega
    go_wp2_with fail;refine bn.mono ?_;rintro r b9 ⟨rfl,aS⟩;have bq:=da.trans aS;clear bn;have a:=N.out _ bq;obtain ⟨c0,c1,c2,c3,c4,c5,c6,c7⟩:=aL a;have f:=aM a;have m:=aa (D.out.trans bq);go_wp2_with fail;obtain ⟨z1,z2,_⟩:=dm m.out (leR _) a (.slice none 0 0) (.int .u64 0) (.slice none 0 0) (.slice none 0 0) (.slice none 0 0) (.slice none 0 0) (.slice none 0 0) (.slice none 0 0);unfold dh at z1 z2
    generalize ((((((((b9.setCell ⟨w.heap.size,0,none⟩ (.slice none 0 0)).setCell ⟨w.heap.size,1,none⟩ (.int .u64 0)).setCell ⟨w.heap.size,2,none⟩ (.slice none 0 0)).setCell ⟨w.heap.size,3,none⟩ (.slice none 0 0)).setCell ⟨w.heap.size,4,none⟩ (.slice none 0 0)).setCell ⟨w.heap.size,5,none⟩ (.slice none 0 0)).setCell ⟨w.heap.size,6,none⟩ (.slice none 0 0)).setCell ⟨w.heap.size,7,none⟩ (.slice none 0 0))=Wf at *;obtain ⟨r0,r1,r2,r3,r4,r5,r6,r7⟩:=aL z1;exact bodyPost_ret (v:=.tuple #[.agg zeroKey,.int .i64 190]) (by simp [results,Tryz.results27,go_sem,r0,r1,r2,r3,r4,r5,r6,r7]) rfl ⟨_,190,rfl,.inr ⟨rfl,HN.out,rfl⟩,aX _,z2⟩
   subst c9;go_wp2_with fail;refine bn.mono ?_;rintro r b9 ⟨rfl,aS⟩;have bq:=da.trans aS;have b1:=b1.grew aS;have b2:=b2.grew aS;have rn:=rn.grew aS;clear bn;have dt:=mq _ P b9 b1;go_wp2_with fail;refine dt.mono ?_;rintro r dF ⟨eX,rfl,rp,_,bi⟩;have dW:=bq.trans bi;have b1:=b1.grew bi;have b2:=b2.grew bi;have rn:=rn.grew bi;clear dt;have dg:=mq _ Q dF b2;go_wp2_with fail;refine dg.mono ?_;rintro r eE ⟨e0,rfl,rq,_,a8⟩;have dS:=dW.trans a8;have b1:=b1.grew a8;have b2:=b2.grew a8;have rn:=rn.grew a8;have rp:=rp.grew a8;clear dg;obtain ⟨po,pl,pc,rfl,cD,-,-,-,-⟩:=rp.open;obtain ⟨qo,ql,qc,rfl,cW,-,-,-,-⟩:=rq.open
   have b3:pl=max (aj P) 1:=by have:=cD.out;rw [ag] at this;omega
   have bQ:ql=max (aj Q) 1:=by have:=cW.out;rw [ag] at this;omega
   have bv:val (digs P (max (aj P) 1))=P:=by rw [ak,al ((am P _).1 (by omega))]
   have bk:val (digs Q (max (aj Q) 1))=Q:=by rw [ak,al ((am Q _).1 (by omega))]
   have cp:0=vk P Q pl ql:=by unfold vk;rw [if_neg (by omega),if_neg (by omega)]
   obtain ⟨cw,bL⟩:∃ cw,cw=digs (bZ P Q) (max (aj (bZ P Q)) 1):=⟨_,rfl⟩
   obtain ⟨pw,bO⟩:∃ pw,pw=digs P (max (aj P) 1):=⟨_,rfl⟩
   obtain ⟨qw,bH⟩:∃ qw,qw=digs Q (max (aj Q) 1):=⟨_,rfl⟩
   have a4:Digs pw:=by rw [bO];exact ah (by omega) _ _
   have a6:Digs qw:=by rw [bH];exact ah (by omega) _ _
   rw [← bO] at rp bv;rw [← bH] at rq bk;have dc:=rt po qo pl ql pc qc pw qw 0 cw (by rw [bv,bk];exact cp) (by rw [bv,bk];exact bL) eE rp rq a4 a6 (by omega) (by omega);have dE:=aa bL;clear cD cW b3 bQ bO bH bL cp bv bk;go_wp2_with fail;refine dc.mono ?_;rintro r eH ⟨eO,rfl,rl,_,bj⟩;have eg:=dS.trans bj;have b1:=b1.grew bj;have b2:=b2.grew bj;have rn:=rn.grew bj;have cc:bZ P Q≤P*Q:=by
    unfold bZ;exact Nat.mul_le_mul (Nat.le_trans (Nat.div_le_self _ _) (by omega)) (by omega)
   have cG:=pq eJ dy;have cH:aF (bZ P Q)≤512:=Nat.le_trans (bu cc) a9;rw [dE.out] at rl;clear dc rp rq a4 a6;have co:=er e he eH;go_wp2_with fail;refine co.mono ?_;rintro e dI ⟨dB,rfl,bm,_,ba⟩;have dY:=eg.trans ba;have b1:=b1.grew ba;have b2:=b2.grew ba;have rn:=rn.grew ba;have rl:=rl.grew ba;clear co;obtain ⟨e2,eS,fd,rfl,eD,-,-,-,-⟩:=rl.open;have bb:(digs (bZ P Q) (max (aj (bZ P Q)) 1)).length≤100000000:=by
    rw [ag];have:aj (bZ P Q)≤512:=fz cH;omega
   have cY:val (digs (bZ P Q) (max (aj (bZ P Q)) 1))=bZ P Q:=by rw [ak,al ((am _ _).1 (by omega))]
   have dr:=rOf _ _ dI rl (ah (by omega) _ _) bb;go_wp2_with fail;refine dr.mono ?_;rintro e ep ⟨em,rfl,bI,_,aW⟩;have cK:=dY.trans aW;have b1:=b1.grew aW;have b2:=b2.grew aW;have rn:=rn.grew aW;have rl:=rl.grew aW;have bm:=bm.grew aW;clear dr;rw [cY] at bI;clear cY eD bb rl;have aR:=mV dB em e (bZ P Q) ep bm bI (by omega) (by have:=(aN e 2).2 (by omega);omega) (by omega);by_cases c10:Nat.gcd e (bZ P Q)=1
   case neg=>
    have HN:Hid (¬ bw L M P Q e):=fun h=>c10 h.2.2.2.2.2
    rw [aC c10] at aR;go_wp2_with fail;refine aR.mono ?_;rintro r bA ⟨d4,rfl,_,bM,_,aV⟩;obtain rfl:=bM c10;have br:=cK.trans aV;clear aR;have a:=N.out _ br;obtain ⟨c0,c1,c2,c3,c4,c5,c6,c7⟩:=aL a;have f:=aM a;have m:=aa (D.out.trans br);go_wp2_with fail;obtain ⟨z1,z2,_⟩:=dm m.out (leR _) a (.slice none 0 0) (.int .u64 0) (.slice none 0 0) (.slice none 0 0) (.slice none 0 0) (.slice none 0 0) (.slice none 0 0) (.slice none 0 0);unfold dh at z1 z2
    generalize ((((((((bA.setCell ⟨w.heap.size,0,none⟩ (.slice none 0 0)).setCell ⟨w.heap.size,1,none⟩ (.int .u64 0)).setCell ⟨w.heap.size,2,none⟩ (.slice none 0 0)).setCell ⟨w.heap.size,3,none⟩ (.slice none 0 0)).setCell ⟨w.heap.size,4,none⟩ (.slice none 0 0)).setCell ⟨w.heap.size,5,none⟩ (.slice none 0 0)).setCell ⟨w.heap.size,6,none⟩ (.slice none 0 0)).setCell ⟨w.heap.size,7,none⟩ (.slice none 0 0))=Wf at *;obtain ⟨r0,r1,r2,r3,r4,r5,r6,r7⟩:=aL z1;exact bodyPost_ret (v:=.tuple #[.agg zeroKey,.int .i64 190]) (by simp [results,Tryz.results27,go_sem,r0,r1,r2,r3,r4,r5,r6,r7]) rfl ⟨_,190,rfl,.inr ⟨rfl,HN.out,rfl⟩,aX _,z2⟩
   rw [aT c10] at aR;go_wp2_with fail;refine aR.mono ?_;rintro r bA ⟨d4,rfl,hT,_,_,aV⟩;obtain ⟨d,dv,di,c⟩:=hT c10;obtain ⟨e8,eP,fh,rfl,-,-⟩:=c.length;have br:=cK.trans aV;have b1:=b1.grew aV;have b2:=b2.grew aV;have rn:=rn.grew aV;have bR:=aa c10;clear aR hT bm bI c10;have cN:=jb _ P bA b1;go_wp2_with fail;refine cN.mono ?_;rintro r ee ⟨rfl,rfl⟩;clear cN;have cr:=jb _ Q ee b2;go_wp2_with fail;refine cr.mono ?_;rintro r dX ⟨rfl,rfl⟩;clear cr;have dz:=br;obtain ⟨ww,cf⟩:∃ ww,ww=max (aj P) (aj Q):=⟨_,rfl⟩
   have eA:max ((aj P:Nat):Int) ((aj Q:Nat):Int)=(ww:Int):=by omega
   have el:ww≤128:=by omega
   have bd:=aa cf;have cL:=aa dv;have eL:=aa di;have b8:=mV _ _ Q P dX b2 b1 (by omega) (by omega) (by omega);have bT:Nat.gcd Q P=1:=by rw [Nat.gcd_comm];exact cU.out
   rw [aT bT] at b8;clear cf dv di;go_wp2_with fail;refine b8.mono ?_;rintro r dU ⟨eZ,rfl,hT,_,_,be⟩;obtain ⟨u,de,df,g⟩:=hT bT;obtain ⟨ff,eM,fc,rfl,-,-⟩:=g.length;have cC:=dz.trans be;have b1:=b1.grew be;have b2:=b2.grew be;have c:=c.grew be;have rn:=rn.grew be;have eo:=aa de;have dO:=aa df;clear b8 hT de df bT;have e7:aF d≤512:=Nat.le_trans (bu (Nat.le_of_lt cL.out)) cH;have dx:=pj _ d nl dU c (by omega);go_wp2_with fail;refine dx.mono ?_;rintro r eb ⟨fe,rfl,i,ci,aQ⟩;obtain ⟨V,T,ax,rfl,-,-,-,-,-⟩:=i.open;have cv:Hid (∀ x,(Value.slice V T ax).ownBlock=some x→w.heap.size<x):=fun x hx=>by
    rw [ci] at hx;cases hx
    have:=cC.size;have:=s.out;omega
   have cm:=cC.trans aQ;have b1:=b1.grew aQ;have b2:=b2.grew aQ;have c:=c.grew aQ;have g:=g.grew aQ;have rn:=rn.grew aQ;clear dx ci;have dd:=pj _ P ww eb b1 (by omega);go_wp2_with fail;refine dd.mono ?_;rintro r dJ ⟨eR,rfl,j,ck,aG⟩;obtain ⟨ae,Z,an,rfl,-,-,-,-,-⟩:=j.open;have cZ:Hid (∀ x,(Value.slice ae Z an).ownBlock=some x→w.heap.size<x):=fun x hx=>by
    rw [ck] at hx;cases hx
    have:=cm.size;have:=s.out;omega
   have cP:=cm.trans aG;have b1:=b1.grew aG;have b2:=b2.grew aG;have c:=c.grew aG;have g:=g.grew aG;have rn:=rn.grew aG;have i:=i.grew aG;clear dd ck;have cE:=pj _ Q ww dJ b2 (by omega);go_wp2_with fail;refine cE.mono ?_;rintro r dH ⟨eQ,rfl,l,cq,aD⟩;obtain ⟨X,S,aA,rfl,-,-,-,-,-⟩:=l.open;have cJ:Hid (∀ x,(Value.slice X S aA).ownBlock=some x→w.heap.size<x):=fun x hx=>by
    rw [cq] at hx;cases hx
    have:=cP.size;have:=s.out;omega
   have dC:=cP.trans aD;have b1:=b1.grew aD;have b2:=b2.grew aD;have c:=c.grew aD;have g:=g.grew aD;have rn:=rn.grew aD;have i:=i.grew aD;have j:=j.grew aD;clear cE cq;have dq:=it dH;go_wp2_with fail;refine dq.mono ?_;rintro e ed ⟨ey,rfl,n,_,ar⟩;have dL:=dC.trans ar;have b1:=b1.grew ar;have b2:=b2.grew ar;have c:=c.grew ar;have g:=g.grew ar;have rn:=rn.grew ar;have i:=i.grew ar;have j:=j.grew ar;have l:=l.grew ar;clear dq;have cu:=mB _ ey P 1 ed b1 n (by omega);go_wp2_with fail;refine cu.mono ?_;rintro e et ⟨ef,rfl,q,_,O⟩;have d8:=dL.trans O;have b1:=b1.grew O;have b2:=b2.grew O
   have c:=c.grew O;have g:=g.grew O;have rn:=rn.grew O;have i:=i.grew O;have j:=j.grew O;have l:=l.grew O;have n:=n.grew O;clear cu;have dl:=oU _ ef d (P-1) et c q (by omega) (by omega);go_wp2_with fail;refine dl.mono ?_;rintro e ec ⟨d7,rfl,z,_,H⟩;have ct:=d8.trans H;have b1:=b1.grew H;have b2:=b2.grew H;have c:=c.grew H;have g:=g.grew H;have rn:=rn.grew H;have i:=i.grew H;have j:=j.grew H;have l:=l.grew H;have n:=n.grew H;have q:=q.grew H;clear dl;have cT:=pj d7 _ ww ec z (by omega);go_wp2_with fail;refine cT.mono ?_;rintro r ei ⟨eT,rfl,C,cM,F⟩
   obtain ⟨ab,ap,ay,rfl,-,-,-,-,-⟩:=C.open;have ce:Hid (∀ x,(Value.slice ab ap ay).ownBlock=some x→w.heap.size<x):=fun x hx=>by
    rw [cM] at hx;cases hx
    have:=ct.size;have:=s.out;omega
   have dK:=ct.trans F;have b1:=b1.grew F;have b2:=b2.grew F;have c:=c.grew F;have g:=g.grew F;have rn:=rn.grew F;have i:=i.grew F;have j:=j.grew F;have l:=l.grew F;have n:=n.grew F;have q:=q.grew F;have z:=z.grew F;clear cT cM;have cB:=it ei;go_wp2_with fail;refine cB.mono ?_;rintro e dD ⟨ej,rfl,R,_,B⟩;have d9:=dK.trans B;have b1:=b1.grew B;have b2:=b2.grew B;have c:=c.grew B;have g:=g.grew B;have rn:=rn.grew B;have i:=i.grew B;have j:=j.grew B;have l:=l.grew B;have n:=n.grew B;have q:=q.grew B;have z:=z.grew B;have C:=C.grew B;clear cB
   have cF:=mB _ ej Q 1 dD b2 R (by omega);go_wp2_with fail;refine cF.mono ?_;rintro e dN ⟨dA,rfl,aB,_,A⟩;have eh:=d9.trans A;have b1:=b1.grew A;have b2:=b2.grew A;have c:=c.grew A;have g:=g.grew A;have rn:=rn.grew A;have i:=i.grew A;have j:=j.grew A;have l:=l.grew A;have n:=n.grew A;have q:=q.grew A;have z:=z.grew A;have C:=C.grew A;have R:=R.grew A;clear cF;have cn:=oU _ dA d (Q-1) dN c aB (by omega) (by omega);go_wp2_with fail;refine cn.mono ?_;rintro e dV ⟨dT,rfl,aU,_,y⟩;have ds:=eh.trans y;have b1:=b1.grew y;have b2:=b2.grew y;have c:=c.grew y;have g:=g.grew y
   have rn:=rn.grew y;have i:=i.grew y;have j:=j.grew y;have l:=l.grew y;have n:=n.grew y;have q:=q.grew y;have z:=z.grew y;have C:=C.grew y;have R:=R.grew y;have aB:=aB.grew y;clear cn;have dw:=pj dT _ ww dV aU (by omega);go_wp2_with fail;refine dw.mono ?_;rintro r d6 ⟨e3,rfl,bc,cy,p⟩;obtain ⟨Y,ac,U,rfl,-,-,-,-,-⟩:=bc.open;have cI:Hid (∀ x,(Value.slice Y ac U).ownBlock=some x→w.heap.size<x):=fun x hx=>by
    rw [cy] at hx;cases hx
    have:=ds.size;have:=s.out;omega
   have cl:=ds.trans p;have b1:=b1.grew p;have b2:=b2.grew p;have c:=c.grew p;have g:=g.grew p;have rn:=rn.grew p;have i:=i.grew p;have j:=j.grew p;have l:=l.grew p;have n:=n.grew p;have q:=q.grew p;have z:=z.grew p;have C:=C.grew p;have R:=R.grew p;have aB:=aB.grew p;have aU:=aU.grew p;clear dw cy;have cS:=pj _ u ww d6 g (by omega);go_wp2_with fail;refine cS.mono ?_;rintro r dR ⟨e5,rfl,bS,cz,o⟩;obtain ⟨ad,aw,av,rfl,-,-,-,-,-⟩:=bS.open;have du:Hid (∀ x,(Value.slice ad aw av).ownBlock=some x→w.heap.size<x):=fun x hx=>by
    rw [cz] at hx;cases hx
    have:=cl.size;have:=s.out;omega
   have db:=cl.trans o;have b1:=b1.grew o;have b2:=b2.grew o;have c:=c.grew o;have g:=g.grew o;have rn:=rn.grew o;have i:=i.grew o;have j:=j.grew o;have l:=l.grew o;have n:=n.grew o;have q:=q.grew o;have z:=z.grew o;have C:=C.grew o;have R:=R.grew o;have aB:=aB.grew o;have aU:=aU.grew o;have bc:=bc.grew o;clear cS cz;have a3:=aa (⟨rn,i,j,l,C,bc,bS⟩:_∧_∧_∧_∧_∧_∧_);clear b1 b2 c g n q z R aB aU rn i j l C bc bS;have a:=N.out _ db;obtain ⟨c0,e9,eY,c3,c4,c5,c6,c7⟩:=aL a;have f:=aM a;have m:=aa (D.out.trans db);go_wp2_with fail
   obtain ⟨z1,z2,z3⟩:=dm m.out (leR _) a (.slice no nl nc) (.int .u64 (e:Nat)) (.slice V T ax) (.slice ae Z an) (.slice X S aA) (.slice ab ap ay) (.slice Y ac U) (.slice ad aw av);unfold dh at z1 z2 z3
   generalize ((((((((dR.setCell ⟨w.heap.size,0,none⟩ (.slice no nl nc)).setCell ⟨w.heap.size,1,none⟩ (.int .u64 (e:Nat))).setCell ⟨w.heap.size,2,none⟩ (.slice V T ax)).setCell ⟨w.heap.size,3,none⟩ (.slice ae Z an)).setCell ⟨w.heap.size,4,none⟩ (.slice X S aA)).setCell ⟨w.heap.size,5,none⟩ (.slice ab ap ay)).setCell ⟨w.heap.size,6,none⟩ (.slice Y ac U)).setCell ⟨w.heap.size,7,none⟩ (.slice ad aw av))=Wf at *;obtain ⟨r0,r1,r2,r3,r4,r5,r6,r7⟩:=aL z1;obtain ⟨y0,y1,y2,y3,y4,y5,y6⟩:=a3.out
   exact bodyPost_ret (v:=.tuple #[.agg #[.slice no nl nc,.int .u64 (e:Nat),.slice V T ax,.slice ae Z an,.slice X S aA,.slice ab ap ay,.slice Y ac U,.slice ad aw av],.int .i64 0]) (by simp [results,Tryz.results27,go_sem,r0,r1,r2,r3,r4,r5,r6,r7]) rfl ⟨_,0,rfl,.inl ⟨rfl,⟨⟨by omega,by omega⟩,ek.out,eG.out,cU.out,ch.out.symm,bR.out⟩,_,_,_,_,_,_,_,d,u,rfl,y0.kept z3 (fun x hx ex=>by have:=cA.out x hx;omega),cL.out,eL.out,(by rw [← ev.out];exact y1.kept z3 (fun x hx ex=>by have:=cv.out x hx;omega)),(by rw [← bd.out];exact y2.kept z3 (fun x hx ex=>by have:=cZ.out x hx;omega)),(by rw [← bd.out];exact y3.kept z3 (fun x hx ex=>by have:=cJ.out x hx;omega)),(by rw [← bd.out];exact y4.kept z3 (fun x hx ex=>by have:=ce.out x hx;omega)),(by rw [← bd.out];exact y5.kept z3 (fun x hx ex=>by have:=cI.out x hx;omega)),eo.out,dO.out,(by rw [← bd.out];exact y6.kept z3 (fun x hx ex=>by have:=du.out x hx;omega))⟩,pH cA.out cv.out cZ.out cJ.out ce.out cI.out du.out,z2⟩

theorem mE {p a b c:Nat} (hc:Nat.Coprime p c) (h:c*a%p=c*b%p):a%p=b%p:=by
 rcases Nat.le_total a b with hab | hab
 ·have h1:(c*b-c*a)%p=0:=Nat.sub_mod_eq_zero_of_mod_eq h.symm;rw [← Nat.mul_sub] at h1;have h2:=hc.dvd_of_dvd_mul_left (Nat.dvd_of_mod_eq_zero h1);obtain ⟨k,hk⟩:=h2;rw [show b=a+p*k by omega];simp
 ·have h1:(c*a-c*b)%p=0:=Nat.sub_mod_eq_zero_of_mod_eq h;rw [← Nat.mul_sub] at h1;have h2:=hc.dvd_of_dvd_mul_left (Nat.dvd_of_mod_eq_zero h1);obtain ⟨k,hk⟩:=h2;rw [show a=b+p*k by omega];simp

def ib (P Q e d u:Nat) (ns ds ps qs dps dqs qis:List Nat):Prop:=
 d<bZ P Q∧e*d%bZ P Q=1∧u<P∧Q*u%P=1∧ns=aO P Q∧ds=digs d (aO P Q).length∧ps=digs P (max (aj P) (aj Q))∧qs=digs Q (max (aj P) (aj Q))∧dps=digs (d%(P-1)) (max (aj P) (aj Q))∧dqs=digs (d%(Q-1)) (max (aj P) (aj Q))∧qis=digs u (max (aj P) (aj Q))

def eO (ns ds ps qs dps dqs qis:List Nat) (e:Nat):Prop:=
 bw ps.length qs.length (val ps) (val qs) e∧∃ d u,ib (val ps) (val qs) e d u ns ds ps qs dps dqs qis

theorem jz {m a x y:Nat} (hc:Nat.Coprime m a) (hx:x<m) (hy:y<m) (h1:a*x%m=1) (h2:a*y%m=1):x=y:=by
 have:=mE hc (h1.trans h2.symm)
 rwa [al hx,al hy] at this

theorem sV (G S A B q g n:Option Addr) (P O L V z F v C j m p l o i e:Nat) (y x s t a b c:List Nat) (he:e<18446744073709551616) (E:Nat) (hE:(E=0∧eO y x s t a b c e)∨(E=190∧¬ eO y x s t a b c e)) (w:World) (hn:Row .u64 w (.slice G P O) y) (hd:Row .u64 w (.slice S L V) x) (hp:Row .u64 w (.slice A z F) s) (hq:Row .u64 w (.slice B v C) t) (aE:Row .u64 w (.slice q j m) a) (aR:Row .u64 w (.slice g p l) b) (aC:Row .u64 w (.slice n o i) c) (gp:Digs s) (gq:Digs t) (aW:z≤1000000) (aT:v≤1000000) :
  Calls Tryz.prog 18 #[.agg #[.slice G P O,.int .u64 (e:Nat),.slice S L V,.slice A z F,.slice B v C,.slice q j m,.slice g p l,.slice n o i]] w fun r w'=>r=.returned (.int .i64 (E:Nat))∧Kept af w w':=by
 obtain ⟨_,_,_,e1,aF,-,-,-,-⟩:=hp.open;cases e1
 obtain ⟨_,_,_,e1,aM,-,-,-,-⟩:=hq.open;cases e1
 obtain ⟨W1,ad⟩:∃ W1,W1=w.alloc (.cells #[.slice G P O,.int .u64 (e:Nat),.slice S L V,.slice A z F,.slice B v C,.slice q j m,.slice g p l,.slice n o i] 42):=⟨_,rfl⟩
 have k1:Kept af w W1:=by rw [ad];exact (ai af w).alloc _
 have ac:W1.heap[w.heap.size]? = some (.cells #[.slice G P O,.int .u64 (e:Nat),.slice S L V,.slice A z F,.slice B v C,.slice q j m,.slice g p l,.slice n o i] 42 (0,0)):=by rw [ad];exact heap_alloc_new _ _
 have aU:Hid (∀ W,Kept af W1 W→W.heap[w.heap.size]? = some (.cells #[.slice G P O,.int .u64 (e:Nat),.slice S L V,.slice A z F,.slice B v C,.slice q j m,.slice g p l,.slice n o i] 42 (0,0))):=fun W k=>(k.block _ (lt_of_block ac) (fun f=>f)).trans ac
 have aS:=Bv A B z v F C s t _ _ e rfl rfl he W1 (hp.grew k1) (hq.grew k1) gp gq aW aT;have HE:=aa hE;have an:Hid (∀ W,Kept af w W→Row .u64 W (.slice G P O) y∧Row .u64 W (.slice S L V) x∧Row .u64 W (.slice A z F) s∧Row .u64 W (.slice B v C) t∧Row .u64 W (.slice q j m) a∧Row .u64 W (.slice g p l) b∧Row .u64 W (.slice n o i) c):=fun W k=>⟨hn.grew k,hd.grew k,hp.grew k,hq.grew k,aE.grew k,aR.grew k,aC.grew k⟩
 have aG:=aa aF;have aD:=aa aM;obtain ⟨c0,c1,c2,c3,c4,c5,c6,c7⟩:=aL ac;have aV:=aa ad;have aP:=aa k1;clear ad k1 ac hE hn hd hp hq aE aR aC gp gq aF aM;go_enter Tryz.func18,Tryz.ntmps18;go_wp2_with (rw [← aV.out]);refine aS.mono ?_;rintro r w2 ⟨kv,E2,rfl,Y,_,k2⟩;clear aS c0 c1 c2 c3 c4 c5 c6 c7;rcases Y with ⟨rfl,hok,hat⟩ | ⟨rfl,hno,rfl⟩
 ·obtain ⟨vn,vd,vp,vq,aZ,aY,aX,d,u,rfl,rn,aB,au,rd,rp,rq,ak,ax,ao,aq,aw⟩:=hat;obtain ⟨av,ah,ag,rfl,-,-,-,-,-⟩:=rn.open;obtain ⟨aA,aj,am,rfl,-,-,-,-,-⟩:=rd.open;obtain ⟨al,ae,ay,rfl,-,-,-,-,-⟩:=rp.open;obtain ⟨ar,az,ap,rfl,-,-,-,-,-⟩:=rq.open;obtain ⟨Q,J,I,rfl,-,-,-,-,-⟩:=ak.open;obtain ⟨X,U,H,rfl,-,-,-,-,-⟩:=ax.open;obtain ⟨N,M,T,rfl,-,-,-,-,-⟩:=aw.open;obtain ⟨W3,ab⟩:∃ W3,W3=w2.alloc (.cells #[.slice av ah ag,.int .u64 (e:Nat),.slice aA aj am,.slice al ae ay,.slice ar az ap,.slice Q J I,.slice X U H,.slice N M T] 42):=⟨_,rfl⟩
  have k3:Kept af w2 W3:=by rw [ab];exact (ai af w2).alloc _
  have aK:W3.heap[w2.heap.size]? = some (.cells #[.slice av ah ag,.int .u64 (e:Nat),.slice aA aj am,.slice al ae ay,.slice ar az ap,.slice Q J I,.slice X U H,.slice N M T] 42 (0,0)):=by rw [ab];exact heap_alloc_new _ _
  obtain ⟨d0,d1,d2,d3,d4,d5,d6,d7⟩:=aL aK;have aQ:=aU.out _ (k2.trans k3);obtain ⟨c0,c1,c2,c3,c4,c5,c6,c7⟩:=aL aQ;have Z:=aa (aP.out.trans (k2.trans k3));obtain ⟨tn,td,tp,tq,aH,aJ,aI⟩:=an.out _ Z.out;have D:eO y x s t a b c e↔ib (val s) (val t) e d u y x s t a b c:=by
   unfold eO;rw [aG.out.out,aD.out.out];refine ⟨fun h=>?_,fun h=>⟨hok,d,u,h⟩⟩;obtain ⟨_,d',u',h'⟩:=h;have hd:d'=d:=jz (Nat.Coprime.symm hok.2.2.2.2.2) h'.1 aB h'.2.1 au;have hu:u'=u:=jz hok.2.2.2.1 h'.2.2.1 ao h'.2.2.2.1 aq;subst hd hu;exact h'
  obtain ⟨R,hR⟩:∃ R:Bool,R=true↔eO y x s t a b c e:=by
   by_cases h:eO y x s t a b c e
   ·exact ⟨true,by simp [h]⟩
   ·exact ⟨false,by simp [h]⟩
  have aN:=pI av aA al ar Q X N G S A B q g n ah ag aj am ae ay az ap J I U H M T P O L V z F v C j m p l o i e e _ _ _ _ _ _ _ y x s t a b c R (by
   rw [hR,D];unfold ib;exact ⟨fun h=>⟨rfl,h.2.2.2.2.1.symm,h.2.2.2.2.2.1.symm,h.2.2.2.2.2.2.1.symm,h.2.2.2.2.2.2.2.1.symm,h.2.2.2.2.2.2.2.2.1.symm,h.2.2.2.2.2.2.2.2.2.1.symm,h.2.2.2.2.2.2.2.2.2.2.symm⟩,fun h=>⟨aB,au,ao,aq,h.2.1.symm,h.2.2.1.symm,h.2.2.2.1.symm,h.2.2.2.2.1.symm,h.2.2.2.2.2.1.symm,h.2.2.2.2.2.2.1.symm,h.2.2.2.2.2.2.2.symm⟩⟩) W3 (rn.grew k3) (rd.grew k3) (rp.grew k3) (rq.grew k3) (ak.grew k3) (ax.grew k3) (aw.grew k3) tn td tp tq aH aJ aI
  have aO:=aa ab;clear ab aK aQ k2 k3 tn td tp tq aH aJ aI rn rd rp rq ak ax aw hok D aB au ao aq;cases R
  ·have HT:Hid (E=190):=by
    rcases HE.out with ⟨_,h⟩ | ⟨h,_⟩
    ·exact absurd (hR.2 h) (by decide)
    ·exact h
   clear hR;go_wp2_with (rw [← aO.out]);refine aN.mono ?_;rintro r w4 ⟨rfl,k4⟩;go_wp2_with fail;go_ret;exact ⟨by rw [HT.out];rfl,Z.out.trans k4⟩
  ·have HT:Hid (E=0):=by
    rcases HE.out with ⟨h,_⟩ | ⟨_,h⟩
    ·exact h
    ·exact absurd (hR.1 rfl) h
   clear hR;go_wp2_with (rw [← aO.out]);refine aN.mono ?_;rintro r w4 ⟨rfl,k4⟩;go_wp2_with fail;go_ret;exact ⟨by rw [HT.out];rfl,Z.out.trans k4⟩
 ·have HT:Hid (E=190):=by
   rcases HE.out with ⟨_,h⟩ | ⟨h,_⟩
   ·refine absurd ?_ hno;have:=h.1;rw [aG.out.out,aD.out.out] at this;exact this
   ·exact h
  have Z:=aa (aP.out.trans k2);clear hno k2;go_wp2_with fail;go_ret;exact ⟨by rw [HT.out];rfl,Z.out.alloc _⟩

def IsTz (M s:Nat):Prop:=M/2^s%2=1∧∀ j,j<s→M/2^j%2=0

theorem IsTz.uniq {M s t:Nat} (h:IsTz M s) (g:IsTz M t):s=t:=by
 rcases Nat.lt_trichotomy s t with h1 | h1 | h1
 ·have:=g.2 s h1;have:=h.1;omega
 ·exact h1
 ·have:=h.2 t h1;have:=g.1;omega

theorem yR:∀ (n M:Nat),0<M→M<2^n→∃ s,IsTz M s∧s<n
 | 0,M,h,g=>by simp at g;omega
 | n+1,M,h,g=>by
  by_cases h1:M%2=1
  ·exact ⟨0,⟨by simpa using h1,fun j hj=>by omega⟩,by omega⟩
  ·have hd:0<M/2:=by omega
   obtain ⟨s,⟨hs,a⟩,hn⟩:=yR n (M/2) hd (by rw [Nat.pow_succ] at g;omega);refine ⟨s+1,⟨?_,fun j hj=>?_⟩,by omega⟩
   ·rw [Nat.pow_succ,Nat.mul_comm,← Nat.div_div_eq_div_mul];exact hs
   ·cases j with
    | zero=>simp;omega
    | succ j=>
     rw [Nat.pow_succ,Nat.mul_comm,← Nat.div_div_eq_div_mul];exact a j (by omega)

def jy (N A:Nat):Prop:=∃ s,IsTz (N-1) s∧(A^((N-1)/2^s)%N=1∨∃ i,i<s∧(A^((N-1)/2^s))^2^i%N=N-1)

theorem xx {X:Nat} (h:jJ X=0):3<X∧X%2=1∧∃ n,n≤130∧X<18446744073709551616^n:=by
 unfold jJ at h
 split at h
 ·omega
 ·rename_i h1
  split at h
  ·omega
  ·exact ⟨by omega,by omega,aj X,by omega,(am X _).1 (leR _)⟩

theorem Ay (X B i:Nat):(B^2^i%X)*(B^2^i%X)%X=B^2^(i+1)%X:=by
 rw [← Nat.mul_mod,← Nat.pow_add]
 congr 2
 rw [Nat.pow_succ];omega

def tzN:Nat→Nat→Nat
 | 0,_=>0
 | f+1,M=>if M%2=1 then 0 else tzN f (M/2)+1

theorem oW:∀ (f M:Nat),0<M→M<2^f→IsTz M (tzN f M)
 | 0,M,h,g=>by simp at g;omega
 | f+1,M,h,g=>by
  unfold tzN;by_cases h1:M%2=1
  ·rw [if_pos h1];exact ⟨by simpa using h1,fun j hj=>by omega⟩
  ·rw [if_neg h1];obtain ⟨hs,a⟩:=oW f (M/2) (by omega) (by rw [Nat.pow_succ] at g;omega);refine ⟨?_,fun j hj=>?_⟩
   ·rw [Nat.pow_succ,Nat.mul_comm,← Nat.div_div_eq_div_mul];exact hs
   ·cases j with
    | zero=>simp;omega
    | succ j=>
     rw [Nat.pow_succ,Nat.mul_comm,← Nat.div_div_eq_div_mul];exact a j (by omega)

def fq (N A:Nat):Bool:=decide (0<N-1) && (decide (A^((N-1)/2^tzN (N-1) (N-1))%N=1) || (List.range (tzN (N-1) (N-1))).any fun i=>decide ((A^((N-1)/2^tzN (N-1) (N-1)))^2^i%N=N-1))

theorem nU (N A:Nat):fq N A=true↔jy N A:=by
 unfold fq jy;rw [Bool.and_eq_true,decide_eq_true_iff,Bool.or_eq_true,decide_eq_true_iff,List.any_eq_true];constructor
 ·rintro ⟨h0,h⟩;refine ⟨_,oW (N-1) (N-1) h0 Nat.lt_two_pow_self,?_⟩;rcases h with h | ⟨i,hi,h⟩
  ·exact .inl h
  ·exact .inr ⟨i,List.mem_range.1 hi,of_decide_eq_true h⟩
 ·rintro ⟨s,hs,h⟩;have h0:0<N-1:=by
   rcases Nat.eq_zero_or_pos (N-1) with e | e
   ·have:=hs.1;rw [e] at this;simp at this
   ·exact e
  obtain rfl:=hs.uniq (oW (N-1) (N-1) h0 Nat.lt_two_pow_self);refine ⟨h0,?_⟩;rcases h with h | ⟨i,hi,h⟩
  ·exact .inl h
  ·exact .inr ⟨i,List.mem_range.2 hi,aT h⟩

end Go.Proofs.YtcemlfokmjjiaaaGreatDoor
