/- Put together of: Key5 Num1 Key6. -/
import Derived.Test.YtcemlfokmjjiaaaGreatDoorPm6

namespace Go.Proofs.YtcemlfokmjjiaaaGreatDoor
set_option maxRecDepth 100000
set_option maxHeartbeats 4000000
open Go.RowKit

def cV (w:World) (p:Nat) (x0 x1 x2 x3 x4 x5 x6 x7:Value):World:=((((((((w.setCell ⟨p,0,none⟩ x0).setCell ⟨p,1,none⟩ x1).setCell ⟨p,2,none⟩ x2).setCell ⟨p,3,none⟩ x3).setCell ⟨p,4,none⟩ x4).setCell ⟨p,5,none⟩ x5).setCell ⟨p,6,none⟩ x6).setCell ⟨p,7,none⟩ x7)

theorem dI {w w3:World} {p:Nat} {a0 a1 a2 a3 a4 a5 a6 a7:Value} {t:TypeId} (hk:Kept af w w3) (hp:w.heap.size≤p) (a:w3.heap[p]? = some (.cells #[a0,a1,a2,a3,a4,a5,a6,a7] t (0,0))) (x0 x1 x2 x3 x4 x5 x6 x7:Value) :
  (cV w3 p x0 x1 x2 x3 x4 x5 x6 x7).heap[p]? = some (.cells #[x0,x1,x2,x3,x4,x5,x6,x7] t (0,0))∧Kept af w (cV w3 p x0 x1 x2 x3 x4 x5 x6 x7)∧Kept (fun q=>q=p) w3 (cV w3 p x0 x1 x2 x3 x4 x5 x6 x7):=by
 unfold cV;refine ⟨?_,?_,?_⟩
 ·have h0:=heap_setCell_same w3 p 0 _ _ x0 a;have h1:=heap_setCell_same _ p 1 _ _ x1 h0;have h2:=heap_setCell_same _ p 2 _ _ x2 h1;have h3:=heap_setCell_same _ p 3 _ _ x3 h2;have h4:=heap_setCell_same _ p 4 _ _ x4 h3;have h5:=heap_setCell_same _ p 5 _ _ x5 h4;have h6:=heap_setCell_same _ p 6 _ _ x6 h5;have h7:=heap_setCell_same _ p 7 _ _ x7 h6;simpa using h7
 ·exact ((((((((hk.setCell ⟨p,0,none⟩ (fun h=>by simp at h;omega) _).setCell ⟨p,1,none⟩ (fun h=>by simp at h;omega) _).setCell ⟨p,2,none⟩ (fun h=>by simp at h;omega) _).setCell ⟨p,3,none⟩ (fun h=>by simp at h;omega) _).setCell ⟨p,4,none⟩ (fun h=>by simp at h;omega) _).setCell ⟨p,5,none⟩ (fun h=>by simp at h;omega) _).setCell ⟨p,6,none⟩ (fun h=>by simp at h;omega) _).setCell ⟨p,7,none⟩ (fun h=>by simp at h;omega) _)
 ·exact ((((((((ah (fun q=>q=p) w3).setCell ⟨p,0,none⟩ (fun _=>rfl) _).setCell ⟨p,1,none⟩ (fun _=>rfl) _).setCell ⟨p,2,none⟩ (fun _=>rfl) _).setCell ⟨p,3,none⟩ (fun _=>rfl) _).setCell ⟨p,4,none⟩ (fun _=>rfl) _).setCell ⟨p,5,none⟩ (fun _=>rfl) _).setCell ⟨p,6,none⟩ (fun _=>rfl) _).setCell ⟨p,7,none⟩ (fun _=>rfl) _

theorem aM {W:World} {p:Nat} {cs:Array Value} {t:TypeId} (h:W.heap[p]? = some (.cells cs t (0,0))) (j:Nat):W.frozen? ⟨p,j,none⟩=false:=frozen_of_row W _ j _ _ h

abbrev zeroKey:Array Value:=#[.slice none 0 0,.int .u64 0,.slice none 0 0,.slice none 0 0,.slice none 0 0,.slice none 0 0,.slice none 0 0,.slice none 0 0]

theorem aW {X n:Nat} (h:aw X≤64*n):ak X≤n:=(ap X n).2 (by
 have:=(aB X (64*n)).1 h;rw [Nat.pow_mul] at this;exact this)

theorem iP {X n:Nat} (h:aw X≤32*n):aF X≤n:=(aI X n).2 (by
 have:=(aB X (32*n)).1 h;rw [Nat.pow_mul] at this;exact this)

theorem iy {X n:Nat} (h:aF X≤n):ak X≤n:=(ap X n).2 (Nat.lt_of_lt_of_le ((aI X n).1 h) (Nat.pow_le_pow_left (by omega) n))

def cH (P:Nat):Prop:=3≤P∧P%2=1∧aw P≤8192

def aT (P Q:Nat):List Nat:=ai (P*Q) (max (ak (P*Q)) 1)

def cl (L M P Q e:Nat):Prop:=(L≤300∧M≤300)∧cH P∧cH Q∧Nat.gcd P Q=1∧fA (aT P Q) e=0∧Nat.gcd e (dh P Q)=1

def KeyAt (w:World) (P Q e:Nat) (kv:Array Value):Prop:=
 ∃ (vn vd vp vq vdp vdq vqi:Value) (d u:Nat),kv=#[vn,.int .u64 (e:Nat),vd,vp,vq,vdp,vdq,vqi]∧Row .u64 w vn (aT P Q)∧d<dh P Q∧e*d%dh P Q=1∧Row .u64 w vd (ai d (aT P Q).length) ∧
  Row .u64 w vp (ai P (max (ak P) (ak Q)))∧Row .u64 w vq (ai Q (max (ak P) (ak Q)))∧Row .u64 w vdp (ai (d%(P-1)) (max (ak P) (ak Q)))∧Row .u64 w vdq (ai (d%(Q-1)) (max (ak P) (ak Q)))∧u<P∧Q*u%P=1∧Row .u64 w vqi (ai u (max (ak P) (ak Q)))

def eW (B:Nat) (kv:Array Value):Prop:=∀ v ∈ kv.toList,∀ x,v.ownBlock=some x→B<x

theorem aU (B:Nat):eW B zeroKey:=by
 intro v hv x hx;have a:v ∈ [Value.slice none 0 0,.int .u64 0,.slice none 0 0,.slice none 0 0,.slice none 0 0,.slice none 0 0,.slice none 0 0,.slice none 0 0]:=hv;simp only [List.mem_cons,List.not_mem_nil,or_false] at a;rcases a with rfl | rfl | rfl | rfl | rfl | rfl | rfl | rfl <;> cases hx

theorem qE {B:Nat} {v0 v2 v3 v4 v5 v6 v7:Value} {e:Int} (h0:∀ x,v0.ownBlock=some x→B<x) (h2:∀ x,v2.ownBlock=some x→B<x) (h3:∀ x,v3.ownBlock=some x→B<x) (h4:∀ x,v4.ownBlock=some x→B<x) (h5:∀ x,v5.ownBlock=some x→B<x) (h6:∀ x,v6.ownBlock=some x→B<x) (h7:∀ x,v7.ownBlock=some x→B<x):eW B #[v0,.int .u64 e,v2,v3,v4,v5,v6,v7]:=by
 intro v hv x hx;have a:v ∈ [v0,.int .u64 e,v2,v3,v4,v5,v6,v7]:=hv;simp only [List.mem_cons,List.not_mem_nil,or_false] at a;rcases a with rfl | rfl | rfl | rfl | rfl | rfl | rfl | rfl
 ·exact h0 x hx
 ·cases hx
 ·exact h2 x hx
 ·exact h3 x hx
 ·exact h4 x hx
 ·exact h5 x hx
 ·exact h6 x hx
 ·exact h7 x hx

theorem oX {P Q:Nat} (hP:3≤P) (hQ:3≤Q):2≤dh P Q:=by
 unfold dh;have hg:Nat.gcd (P-1) (Q-1) ∣ P-1:=Nat.gcd_dvd_left _ _;have h1:1≤(P-1)/Nat.gcd (P-1) (Q-1):=Nat.div_pos (Nat.le_of_dvd (by omega) hg) (Nat.gcd_pos_of_pos_left _ (by omega));have:=Nat.mul_le_mul_right (Q-1) h1;omega

theorem BY (ao bo:Option Addr) (L M cap bF:Nat) (xs ys:List Nat) (P Q e:Nat) (hP:P=val xs) (hQ:Q=val ys) (he:e<18446744073709551616) (w:World) (hu:Row .u64 w (.slice ao L cap) xs) (hv:Row .u64 w (.slice bo M bF) ys) (bC:Digs xs) (bR:Digs ys) (fb:L≤1000000) (fg:M≤1000000) :
  Calls Tryz.prog 27 #[.slice ao L cap,.slice bo M bF,.int .u64 (e:Nat)] w fun r w'=>∃ kv E,r=.returned (.tuple #[.agg kv,.int .i64 ((E:Nat):Int)])∧((E=0∧cl L M P Q e∧KeyAt w' P Q e kv)∨(E=190∧¬ cl L M P Q e∧kv=zeroKey))∧eW w.heap.size kv∧Kept af w w':=by
 obtain ⟨_,_,_,e1,hL,-,-,-,-⟩:=hu.open;cases e1
 obtain ⟨_,_,_,e1,hM,-,-,-,-⟩:=hv.open;cases e1
 obtain ⟨W0,bw⟩:∃ W0,W0=w.alloc (.cells #[.slice none 0 0,.int .u64 0,.slice none 0 0,.slice none 0 0,.slice none 0 0,.slice none 0 0,.slice none 0 0,.slice none 0 0] 42):=⟨_,rfl⟩
 have k0:Kept af w W0:=by rw [bw];exact (ah af w).alloc _
 have bs:W0.heap[w.heap.size]? = some (.cells #[.slice none 0 0,.int .u64 0,.slice none 0 0,.slice none 0 0,.slice none 0 0,.slice none 0 0,.slice none 0 0,.slice none 0 0] 42 (0,0)):=by rw [bw];exact heap_alloc_new _ _
 have N:Hid (∀ W,Kept af W0 W→W.heap[w.heap.size]? = some (.cells #[.slice none 0 0,.int .u64 0,.slice none 0 0,.slice none 0 0,.slice none 0 0,.slice none 0 0,.slice none 0 0,.slice none 0 0] 42 (0,0))):=fun W k=>(k.block _ (lt_of_block bs) (fun f=>f)).trans bs
 have JX:Hid (∀ W,Kept af W0 W→Calls Tryz.prog 17 #[.slice ao L cap] W fun r w'=>∃ v',r=.returned v'∧IsBig w' v' P∧(∀ b,v'.ownBlock=some b→W.heap.size≤b)∧Kept af W w'):=fun W k=>by rw [hP];exact rOf _ xs W (hu.grew (k0.trans k)) bC (by rw [hL.out];omega)
 have JY:Hid (∀ W,Kept af W0 W→Calls Tryz.prog 17 #[.slice bo M bF] W fun r w'=>∃ v',r=.returned v'∧IsBig w' v' Q∧(∀ b,v'.ownBlock=some b→W.heap.size≤b)∧Kept af W w'):=fun W k=>by rw [hQ];exact rOf _ ys W (hv.grew (k0.trans k)) bR (by rw [hM.out];omega)
 have ff:aF P≤2*L:=by rw [hP];exact (aI _ _).2 (by rw [Nat.pow_mul,← hL.out];exact ar (by omega) bC)
 have e8:aF Q≤2*M:=by rw [hQ];exact (aI _ _).2 (by rw [Nat.pow_mul,← hM.out];exact ar (by omega) bR)
 have bK:=aa bw;have s:Hid (w.heap.size<W0.heap.size):=lt_of_block bs;have F:=aa k0;have KR:Kept af W0 W0:=ah _ _;clear hu hv bC bR hL hM hP hQ bw k0 bs;by_cases c1:300<L
 ·have HN:Hid (¬ cl L M P Q e):=fun h=>by have:=h.1.1;omega
  have g1:(300:Int)<(L:Int):=by omega
  have hh:=bK.out;subst hh;go_enter Tryz.func27,Tryz.ntmps27;go_wp2_with fail;exact bodyPost_ret (v:=.tuple #[.agg zeroKey,.int .i64 190]) (by simp [results,Tryz.results27,go_sem]) rfl ⟨_,190,rfl,.inr ⟨rfl,HN.out,rfl⟩,aU _,F.out⟩
 have g1:¬ (300:Int)<(L:Int):=by omega
 have q1:decide ((300:Int)<(L:Int))=false:=aD g1;by_cases c2:300<M
 ·have HN:Hid (¬ cl L M P Q e):=fun h=>by have:=h.1.2;omega
  have g2:(300:Int)<(M:Int):=by omega
  have hh:=bK.out;subst hh;go_enter Tryz.func27,Tryz.ntmps27;go_wp2_with fail;exact bodyPost_ret (v:=.tuple #[.agg zeroKey,.int .i64 190]) (by simp [results,Tryz.results27,go_sem]) rfl ⟨_,190,rfl,.inr ⟨rfl,HN.out,rfl⟩,aU _,F.out⟩
 have g2:¬ (300:Int)<(M:Int):=by omega
 have q2:decide ((300:Int)<(M:Int))=false:=aD g2;go_enter Tryz.func27,Tryz.ntmps27;go_wp2_with (rw [← bK.out]);have h1:=JX.out _ KR;refine h1.mono ?_;rintro r w1 ⟨v1,rfl,b1,_,K1⟩;have h2:=JY.out _ K1;clear h1;go_wp2_with fail;refine h2.mono ?_;rintro r w2 ⟨v2,rfl,b2,_,k2⟩;have K2:=K1.trans k2;have b1:=b1.grew k2;clear h2 k2;obtain ⟨a1,n1,d1,rfl,-,-⟩:=b1.length;obtain ⟨a2,n2,d2,rfl,-,-⟩:=b2.length;obtain ⟨W3,bp⟩:∃ W3,W3=w2.alloc (.cells #[.slice a1 n1 d1,.slice a2 n2 d2] 50):=⟨_,rfl⟩
 have k3:Kept af w2 W3:=by rw [bp];exact (ah af w2).alloc _
 have bW:W3.heap[w2.heap.size]? = some (.cells #[.slice a1 n1 d1,.slice a2 n2 d2] 50 (0,0)):=by rw [bp];exact heap_alloc_new _ _
 have dz:Hid (∀ W,Kept af W3 W→W.cell? ⟨w2.heap.size,0,none⟩=some (.slice a1 n1 d1)∧W.cell? ⟨w2.heap.size,0+1,none⟩=some (.slice a2 n2 d2)):=fun W k=>by
  have hh:=(k.block _ (lt_of_block bW) (fun f=>f)).trans bW;exact ⟨(cell_of_row W _ 0 _ _ _ hh).trans rfl,(cell_of_row W _ 1 _ _ _ hh).trans rfl⟩
 have ew:=aa bp;have aN:=aa (K2.trans k3);have bQ:=aa (b1.grew k3);have bN:=aa (b2.grew k3);clear bp bW k3 b1 b2 K1 K2;go_wp2_with (rw [← ew.out]);go_loopw [37] (fun iv wr=>∃ k:Nat,k≤2∧iv=.int .i64 (k:Int)∧Hid (0<k→cH P)∧Hid (1<k→cH Q)∧Hid (Kept af W3 wr)) (fun iv _=>2-(intOf iv).toNat)
 case atStart=>exact ⟨0,by omega,rfl,(fun h=>absurd h (by omega)),(fun h=>absurd h (by omega)),ah _ _⟩
 case round=>
  obtain ⟨k,hk,rfl,cb,dw,au⟩:=hrel;obtain ⟨l0,l1⟩:=dz.out _ au.out;rcases (show k=0∨k=1∨k=2 by omega) with rfl | rfl | rfl
  ·have bx:=bQ.out.grew au.out;have h4:=bY 3 (by omega) wr;go_wp2_with fail;refine h4.mono ?_;rintro r w4 ⟨v4,rfl,b4,_,k4⟩;have K4:=au.out.trans k4;have bx:=bx.grew k4;have h5:=fw _ v4 P 3 w4 bx b4;clear h4 b4 l0 l1;by_cases c3:P<3
   ·have HN:Hid (¬ cl L M P Q e):=fun h=>by have:=h.2.1.1;omega
    rw [bu c3] at h5;go_wp2_with fail;refine h5.mono ?_;rintro r bL ⟨rfl,m5,rfl⟩;have K5:=aN.out.trans (K4.drewN m5);obtain ⟨w5,I⟩:∃ w5,w5=w4.drewN m5:=⟨_,rfl⟩
    rw [← I] at K5 ⊢;clear h5 I;have a:=N.out _ K5;obtain ⟨c0,c1,c2,c3,c4,c5,c6,c7⟩:=aK a;have f:=aM a;have m:=aa (F.out.trans K5);go_wp2_with fail;obtain ⟨z1,z2,_⟩:=dI m.out (leR _) a (.slice none 0 0) (.int .u64 0) (.slice none 0 0) (.slice none 0 0) (.slice none 0 0) (.slice none 0 0) (.slice none 0 0) (.slice none 0 0);unfold cV at z1 z2
    generalize ((((((((w5.setCell ⟨w.heap.size,0,none⟩ (.slice none 0 0)).setCell ⟨w.heap.size,1,none⟩ (.int .u64 0)).setCell ⟨w.heap.size,2,none⟩ (.slice none 0 0)).setCell ⟨w.heap.size,3,none⟩ (.slice none 0 0)).setCell ⟨w.heap.size,4,none⟩ (.slice none 0 0)).setCell ⟨w.heap.size,5,none⟩ (.slice none 0 0)).setCell ⟨w.heap.size,6,none⟩ (.slice none 0 0)).setCell ⟨w.heap.size,7,none⟩ (.slice none 0 0))=Wf at *;obtain ⟨r0,r1,r2,r3,r4,r5,r6,r7⟩:=aK z1;exact bodyPost_ret (v:=.tuple #[.agg zeroKey,.int .i64 190]) (by simp [results,Tryz.results27,go_sem,r0,r1,r2,r3,r4,r5,r6,r7]) rfl ⟨_,190,rfl,.inr ⟨rfl,HN.out,rfl⟩,aU _,z2⟩
   have bE:=fF (show 3≤P by omega);have q5:decide (aH P 3<0)=false:=aD bE;generalize aH P 3=c5 at *;obtain ⟨bX,bB,en,ev,d5,b6,eh,bh,dW,ej⟩:=jO bx (by omega);cases b6
   have eH:(0:Int)<(n1:Int):=by omega
   have aJ:(d5:Int).tmod 2=((d5%2:Nat):Int):=by rw [Int.tmod_eq_emod_of_nonneg (by omega)];omega
   go_wp2_with fail;refine h5.mono ?_;rintro r bL ⟨rfl,m5,rfl⟩;have kd:=(ah af w4).drewN m5;obtain ⟨w5,I⟩:∃ w5,w5=w4.drewN m5:=⟨_,rfl⟩
   rw [← I] at kd ⊢;have K5:=K4.trans kd;have bx:=bx.grew kd;have l5:w5.cell? ⟨bX,bB,none⟩=some (.int .u32 (d5:Int)):=kd.cellN bh;clear h5 I bh K4 k4;by_cases c6:P%2=0
   ·have HN:Hid (¬ cl L M P Q e):=fun h=>by have:=h.2.1.2.1;omega
    have bd:(d5:Int)%2=0:=by omega
    rw [show d5%2=0 by omega] at aJ;have J:=aN.out.trans K5;have a:=N.out _ J;obtain ⟨c0,c1,c2,c3,c4,c5,c6,c7⟩:=aK a;have f:=aM a;have m:=aa (F.out.trans J);go_wp2_with fail;obtain ⟨z1,z2,_⟩:=dI m.out (leR _) a (.slice none 0 0) (.int .u64 0) (.slice none 0 0) (.slice none 0 0) (.slice none 0 0) (.slice none 0 0) (.slice none 0 0) (.slice none 0 0);unfold cV at z1 z2
    generalize ((((((((w5.setCell ⟨w.heap.size,0,none⟩ (.slice none 0 0)).setCell ⟨w.heap.size,1,none⟩ (.int .u64 0)).setCell ⟨w.heap.size,2,none⟩ (.slice none 0 0)).setCell ⟨w.heap.size,3,none⟩ (.slice none 0 0)).setCell ⟨w.heap.size,4,none⟩ (.slice none 0 0)).setCell ⟨w.heap.size,5,none⟩ (.slice none 0 0)).setCell ⟨w.heap.size,6,none⟩ (.slice none 0 0)).setCell ⟨w.heap.size,7,none⟩ (.slice none 0 0))=Wf at *;obtain ⟨r0,r1,r2,r3,r4,r5,r6,r7⟩:=aK z1;exact bodyPost_ret (v:=.tuple #[.agg zeroKey,.int .i64 190]) (by simp [results,Tryz.results27,go_sem,r0,r1,r2,r3,r4,r5,r6,r7]) rfl ⟨_,190,rfl,.inr ⟨rfl,HN.out,rfl⟩,aU _,z2⟩
   have bd:(d5:Int)%2=1:=by omega
   rw [show d5%2=1 by omega] at aJ;have h6:=iV _ P w5 bx;have bP:=pF bx;obtain ⟨t,ht⟩:∃ t,t=aw P:=⟨_,rfl⟩
   rw [← ht] at h6 bP;have a7:=aa ht;clear ht;go_wp2_with fail;refine h6.mono ?_;rintro r w6 ⟨rfl,rfl⟩;clear h6;by_cases c7:8192<t
   ·have HN:Hid (¬ cl L M P Q e):=fun h=>by have:=h.2.1.2.2;have:=a7.out;omega
    have g7:(8192:Int)<(t:Int):=by omega
    have J:=aN.out.trans K5;have a:=N.out _ J;obtain ⟨c0,c1,c2,c3,c4,c5,c6,c7⟩:=aK a;have f:=aM a;have m:=aa (F.out.trans J);go_wp2_with fail;obtain ⟨z1,z2,_⟩:=dI m.out (leR _) a (.slice none 0 0) (.int .u64 0) (.slice none 0 0) (.slice none 0 0) (.slice none 0 0) (.slice none 0 0) (.slice none 0 0) (.slice none 0 0);unfold cV at z1 z2
    generalize ((((((((w6.setCell ⟨w.heap.size,0,none⟩ (.slice none 0 0)).setCell ⟨w.heap.size,1,none⟩ (.int .u64 0)).setCell ⟨w.heap.size,2,none⟩ (.slice none 0 0)).setCell ⟨w.heap.size,3,none⟩ (.slice none 0 0)).setCell ⟨w.heap.size,4,none⟩ (.slice none 0 0)).setCell ⟨w.heap.size,5,none⟩ (.slice none 0 0)).setCell ⟨w.heap.size,6,none⟩ (.slice none 0 0)).setCell ⟨w.heap.size,7,none⟩ (.slice none 0 0))=Wf at *;obtain ⟨r0,r1,r2,r3,r4,r5,r6,r7⟩:=aK z1;exact bodyPost_ret (v:=.tuple #[.agg zeroKey,.int .i64 190]) (by simp [results,Tryz.results27,go_sem,r0,r1,r2,r3,r4,r5,r6,r7]) rfl ⟨_,190,rfl,.inr ⟨rfl,HN.out,rfl⟩,aU _,z2⟩
   have g7:¬ (8192:Int)<(t:Int):=by omega
   have q7:decide ((8192:Int)<(t:Int))=false:=aD g7;have b5:Hid (cH P):=⟨by omega,by omega,by have:=a7.out;omega⟩
   clear l5 bx aJ bd;go_wp2_with fail;go_roundw
   case rel=>exact ⟨1,by omega,by go_num,(fun _=>b5.out),(fun h=>absurd h (by omega)),K5⟩
   case measure=>simp [intOf]
  ·have bx:=bN.out.grew au.out;have h4:=bY 3 (by omega) wr;go_wp2_with fail;refine h4.mono ?_;rintro r w4 ⟨v4,rfl,b4,_,k4⟩;have K4:=au.out.trans k4;have bx:=bx.grew k4;have h5:=fw _ v4 Q 3 w4 bx b4;clear h4 b4 l0 l1;by_cases c3:Q<3
   ·have HN:Hid (¬ cl L M P Q e):=fun h=>by have:=h.2.2.1.1;omega
    rw [bu c3] at h5;go_wp2_with fail;refine h5.mono ?_;rintro r bL ⟨rfl,m5,rfl⟩;have K5:=aN.out.trans (K4.drewN m5);obtain ⟨w5,I⟩:∃ w5,w5=w4.drewN m5:=⟨_,rfl⟩
    rw [← I] at K5 ⊢;clear h5 I;have a:=N.out _ K5;obtain ⟨c0,c1,c2,c3,c4,c5,c6,c7⟩:=aK a;have f:=aM a;have m:=aa (F.out.trans K5);go_wp2_with fail;obtain ⟨z1,z2,_⟩:=dI m.out (leR _) a (.slice none 0 0) (.int .u64 0) (.slice none 0 0) (.slice none 0 0) (.slice none 0 0) (.slice none 0 0) (.slice none 0 0) (.slice none 0 0);unfold cV at z1 z2
    generalize ((((((((w5.setCell ⟨w.heap.size,0,none⟩ (.slice none 0 0)).setCell ⟨w.heap.size,1,none⟩ (.int .u64 0)).setCell ⟨w.heap.size,2,none⟩ (.slice none 0 0)).setCell ⟨w.heap.size,3,none⟩ (.slice none 0 0)).setCell ⟨w.heap.size,4,none⟩ (.slice none 0 0)).setCell ⟨w.heap.size,5,none⟩ (.slice none 0 0)).setCell ⟨w.heap.size,6,none⟩ (.slice none 0 0)).setCell ⟨w.heap.size,7,none⟩ (.slice none 0 0))=Wf at *;obtain ⟨r0,r1,r2,r3,r4,r5,r6,r7⟩:=aK z1;exact bodyPost_ret (v:=.tuple #[.agg zeroKey,.int .i64 190]) (by simp [results,Tryz.results27,go_sem,r0,r1,r2,r3,r4,r5,r6,r7]) rfl ⟨_,190,rfl,.inr ⟨rfl,HN.out,rfl⟩,aU _,z2⟩
   have bE:=fF (show 3≤Q by omega);have q5:decide (aH Q 3<0)=false:=aD bE;generalize aH Q 3=c5 at *;obtain ⟨bX,bB,en,ev,d5,b6,eh,bh,dW,ej⟩:=jO bx (by omega);cases b6
   have eH:(0:Int)<(n2:Int):=by omega
   have aJ:(d5:Int).tmod 2=((d5%2:Nat):Int):=by rw [Int.tmod_eq_emod_of_nonneg (by omega)];omega
   go_wp2_with fail;refine h5.mono ?_;rintro r bL ⟨rfl,m5,rfl⟩;have kd:=(ah af w4).drewN m5;obtain ⟨w5,I⟩:∃ w5,w5=w4.drewN m5:=⟨_,rfl⟩
   rw [← I] at kd ⊢;have K5:=K4.trans kd;have bx:=bx.grew kd;have l5:w5.cell? ⟨bX,bB,none⟩=some (.int .u32 (d5:Int)):=kd.cellN bh;clear h5 I bh K4 k4;by_cases c6:Q%2=0
   ·have HN:Hid (¬ cl L M P Q e):=fun h=>by have:=h.2.2.1.2.1;omega
    have bd:(d5:Int)%2=0:=by omega
    rw [show d5%2=0 by omega] at aJ;have J:=aN.out.trans K5;have a:=N.out _ J;obtain ⟨c0,c1,c2,c3,c4,c5,c6,c7⟩:=aK a;have f:=aM a;have m:=aa (F.out.trans J);go_wp2_with fail;obtain ⟨z1,z2,_⟩:=dI m.out (leR _) a (.slice none 0 0) (.int .u64 0) (.slice none 0 0) (.slice none 0 0) (.slice none 0 0) (.slice none 0 0) (.slice none 0 0) (.slice none 0 0);unfold cV at z1 z2
    generalize ((((((((w5.setCell ⟨w.heap.size,0,none⟩ (.slice none 0 0)).setCell ⟨w.heap.size,1,none⟩ (.int .u64 0)).setCell ⟨w.heap.size,2,none⟩ (.slice none 0 0)).setCell ⟨w.heap.size,3,none⟩ (.slice none 0 0)).setCell ⟨w.heap.size,4,none⟩ (.slice none 0 0)).setCell ⟨w.heap.size,5,none⟩ (.slice none 0 0)).setCell ⟨w.heap.size,6,none⟩ (.slice none 0 0)).setCell ⟨w.heap.size,7,none⟩ (.slice none 0 0))=Wf at *;obtain ⟨r0,r1,r2,r3,r4,r5,r6,r7⟩:=aK z1;exact bodyPost_ret (v:=.tuple #[.agg zeroKey,.int .i64 190]) (by simp [results,Tryz.results27,go_sem,r0,r1,r2,r3,r4,r5,r6,r7]) rfl ⟨_,190,rfl,.inr ⟨rfl,HN.out,rfl⟩,aU _,z2⟩
   have bd:(d5:Int)%2=1:=by omega
   rw [show d5%2=1 by omega] at aJ;have h6:=iV _ Q w5 bx;have bP:=pF bx;obtain ⟨t,ht⟩:∃ t,t=aw Q:=⟨_,rfl⟩
   rw [← ht] at h6 bP;have a7:=aa ht;clear ht;go_wp2_with fail;refine h6.mono ?_;rintro r w6 ⟨rfl,rfl⟩;clear h6;by_cases c7:8192<t
   ·have HN:Hid (¬ cl L M P Q e):=fun h=>by have:=h.2.2.1.2.2;have:=a7.out;omega
    have g7:(8192:Int)<(t:Int):=by omega
    have J:=aN.out.trans K5;have a:=N.out _ J;obtain ⟨c0,c1,c2,c3,c4,c5,c6,c7⟩:=aK a;have f:=aM a;have m:=aa (F.out.trans J);go_wp2_with fail;obtain ⟨z1,z2,_⟩:=dI m.out (leR _) a (.slice none 0 0) (.int .u64 0) (.slice none 0 0) (.slice none 0 0) (.slice none 0 0) (.slice none 0 0) (.slice none 0 0) (.slice none 0 0);unfold cV at z1 z2
    generalize ((((((((w6.setCell ⟨w.heap.size,0,none⟩ (.slice none 0 0)).setCell ⟨w.heap.size,1,none⟩ (.int .u64 0)).setCell ⟨w.heap.size,2,none⟩ (.slice none 0 0)).setCell ⟨w.heap.size,3,none⟩ (.slice none 0 0)).setCell ⟨w.heap.size,4,none⟩ (.slice none 0 0)).setCell ⟨w.heap.size,5,none⟩ (.slice none 0 0)).setCell ⟨w.heap.size,6,none⟩ (.slice none 0 0)).setCell ⟨w.heap.size,7,none⟩ (.slice none 0 0))=Wf at *;obtain ⟨r0,r1,r2,r3,r4,r5,r6,r7⟩:=aK z1;exact bodyPost_ret (v:=.tuple #[.agg zeroKey,.int .i64 190]) (by simp [results,Tryz.results27,go_sem,r0,r1,r2,r3,r4,r5,r6,r7]) rfl ⟨_,190,rfl,.inr ⟨rfl,HN.out,rfl⟩,aU _,z2⟩
   have g7:¬ (8192:Int)<(t:Int):=by omega
   have q7:decide ((8192:Int)<(t:Int))=false:=aD g7;have b5:Hid (cH Q):=⟨by omega,by omega,by have:=a7.out;omega⟩
   clear l5 bx aJ bd;go_wp2_with fail;go_roundw
   case rel=>exact ⟨2,by omega,by go_num,(fun _=>cb.out (by omega)),(fun _=>b5.out),K5⟩
   case measure=>simp [intOf]
  ·skip
   have hP:=cb.out (by omega);have hQ:=dw.out (by omega);obtain ⟨bV,rfl⟩:∃ bV,bV=wr:=⟨_,rfl⟩
   have dS:=aN.out.trans au.out;have b1:=bQ.out.grew au.out;have b2:=bN.out.grew au.out;have dZ:aF P≤256:=iP hP.2.2;have dV:aF Q≤256:=iP hQ.2.2;have eP:ak P≤128:=aW hP.2.2;have e6:ak Q≤128:=aW hQ.2.2;have es:=hP.1;have d8:=hQ.1;have eq:=aa hP;have ei:=aa hQ;clear l0 l1 cb dw au hP hQ dz bQ bN;have cD:=AN _ _ P Q bV b1 b2 (by omega) (by omega);go_wp2_with fail;refine cD.mono ?_;rintro e dQ ⟨eI,rfl,bj,_,b3⟩;have dR:=dS.trans b3;have b1:=b1.grew b3;have b2:=b2.grew b3;clear cD;have cL:=gG dQ;go_wp2_with fail;refine cL.mono ?_;rintro e br ⟨ef,rfl,cs,_,bm⟩;have cu:=dR.trans bm
   have b1:=b1.grew bm;have b2:=b2.grew bm;have bj:=bj.grew bm;clear cL;have a6:=fw eI ef _ 1 br bj cs;by_cases c8:Nat.gcd P Q=1
   case neg=>
    have HN:Hid (¬ cl L M P Q e):=fun h=>c8 h.2.2.2.1
    have eJ:=ia c8;have hq:(aH (Nat.gcd P Q) 1 == 0)=false:=by simpa using eJ
    generalize aH (Nat.gcd P Q) 1=c13 at *;go_wp2_with fail;refine a6.mono ?_;rintro r b7 ⟨rfl,bb,rfl⟩;have a3:=cu.drewN bb;obtain ⟨aG,H⟩:∃ aG,aG=br.drewN bb:=⟨_,rfl⟩
    rw [← H] at a3 ⊢;clear a6 H;have a:=N.out _ a3;obtain ⟨c0,c1,c2,c3,c4,c5,c6,c7⟩:=aK a;have f:=aM a;have m:=aa (F.out.trans a3);go_wp2_with fail;obtain ⟨z1,z2,_⟩:=dI m.out (leR _) a (.slice none 0 0) (.int .u64 0) (.slice none 0 0) (.slice none 0 0) (.slice none 0 0) (.slice none 0 0) (.slice none 0 0) (.slice none 0 0);unfold cV at z1 z2
    generalize ((((((((aG.setCell ⟨w.heap.size,0,none⟩ (.slice none 0 0)).setCell ⟨w.heap.size,1,none⟩ (.int .u64 0)).setCell ⟨w.heap.size,2,none⟩ (.slice none 0 0)).setCell ⟨w.heap.size,3,none⟩ (.slice none 0 0)).setCell ⟨w.heap.size,4,none⟩ (.slice none 0 0)).setCell ⟨w.heap.size,5,none⟩ (.slice none 0 0)).setCell ⟨w.heap.size,6,none⟩ (.slice none 0 0)).setCell ⟨w.heap.size,7,none⟩ (.slice none 0 0))=Wf at *;obtain ⟨r0,r1,r2,r3,r4,r5,r6,r7⟩:=aK z1;exact bodyPost_ret (v:=.tuple #[.agg zeroKey,.int .i64 190]) (by simp [results,Tryz.results27,go_sem,r0,r1,r2,r3,r4,r5,r6,r7]) rfl ⟨_,190,rfl,.inr ⟨rfl,HN.out,rfl⟩,aU _,z2⟩
   rw [dy c8] at a6;have db:=aa c8;clear c8;go_wp2_with fail;refine a6.mono ?_;rintro r b7 ⟨rfl,bb,rfl⟩;have bq:=(ah af br).drewN bb;obtain ⟨aG,H⟩:∃ aG,aG=br.drewN bb:=⟨_,rfl⟩
   rw [← H] at bq ⊢;have a3:=cu.trans bq;have b1:=b1.grew bq;have b2:=b2.grew bq;clear a6 H bj cs;have cW:=xE _ _ P Q aG b1 b2 (by omega) (by omega);go_wp2_with fail;refine cW.mono ?_;rintro e d7 ⟨eF,rfl,dx,_,bG⟩;have dt:=a3.trans bG;have b1:=b1.grew bG;have b2:=b2.grew bG;clear cW;have co:=mB eF _ d7 dx;go_wp2_with fail;refine co.mono ?_;rintro r ck ⟨e5,rfl,rn,on,cd⟩;have dm:=dt.trans cd;have b1:=b1.grew cd;have b2:=b2.grew cd;obtain ⟨no,nl,nc,rfl,cJ,-,-,-,-⟩:=rn.open;have ci:Hid (∀ x,(Value.slice no nl nc).ownBlock=some x→w.heap.size<x):=fun x hx=>by
    rw [on] at hx;cases hx
    have:=dt.size;have:=s.out;omega
   have aO:nl=(aT P Q).length:=by rw [aT,ag];have:=cJ.out;rw [ag] at this;omega
   have bc:aF (P*Q)≤512:=by have:=iX P Q;omega
   have eM:ak (P*Q)≤512:=iy bc;have fh:nl≤512:=by rw [aO,aT,ag];omega
   have rn:Row .u64 ck (.slice no nl nc) (aT P Q):=rn;have eG:=aa aO;clear co dx cJ aO on;obtain ⟨EP,ca⟩:∃ EP,EP=fA (aT P Q) e:=⟨_,rfl⟩
   have bi:=qM no nl nc (aT P Q) e he EP ca ck rn (aj (by omega) _ _) (by omega);have dq:=aa ca;clear ca;by_cases c9:EP=0
   case neg=>
    have HN:Hid (¬ cl L M P Q e):=fun h=>c9 (dq.out.trans h.2.2.2.2.1)
    have g9:¬ (EP:Int)=0:=by omega
    go_wp2_with fail;refine bi.mono ?_;rintro r cc ⟨rfl,aP⟩;have bv:=dm.trans aP;clear bi;have a:=N.out _ bv;obtain ⟨c0,c1,c2,c3,c4,c5,c6,c7⟩:=aK a;have f:=aM a;have m:=aa (F.out.trans bv);go_wp2_with fail;obtain ⟨z1,z2,_⟩:=dI m.out (leR _) a (.slice none 0 0) (.int .u64 0) (.slice none 0 0) (.slice none 0 0) (.slice none 0 0) (.slice none 0 0) (.slice none 0 0) (.slice none 0 0);unfold cV at z1 z2
    generalize ((((((((cc.setCell ⟨w.heap.size,0,none⟩ (.slice none 0 0)).setCell ⟨w.heap.size,1,none⟩ (.int .u64 0)).setCell ⟨w.heap.size,2,none⟩ (.slice none 0 0)).setCell ⟨w.heap.size,3,none⟩ (.slice none 0 0)).setCell ⟨w.heap.size,4,none⟩ (.slice none 0 0)).setCell ⟨w.heap.size,5,none⟩ (.slice none 0 0)).setCell ⟨w.heap.size,6,none⟩ (.slice none 0 0)).setCell ⟨w.heap.size,7,none⟩ (.slice none 0 0))=Wf at *;obtain ⟨r0,r1,r2,r3,r4,r5,r6,r7⟩:=aK z1;exact bodyPost_ret (v:=.tuple #[.agg zeroKey,.int .i64 190]) (by simp [results,Tryz.results27,go_sem,r0,r1,r2,r3,r4,r5,r6,r7]) rfl ⟨_,190,rfl,.inr ⟨rfl,HN.out,rfl⟩,aU _,z2⟩
   subst c9;go_wp2_with fail;refine bi.mono ?_;rintro r cc ⟨rfl,aP⟩;have bv:=dm.trans aP;have b1:=b1.grew aP;have b2:=b2.grew aP;have rn:=rn.grew aP;clear bi;have dj:=mB _ P cc b1;go_wp2_with fail;refine dj.mono ?_;rintro r dU ⟨eY,rfl,rp,_,bt⟩;have et:=bv.trans bt;have b1:=b1.grew bt;have b2:=b2.grew bt;have rn:=rn.grew bt;clear dj;have cC:=mB _ Q dU b2;go_wp2_with fail;refine cC.mono ?_;rintro r eC ⟨eT,rfl,rq,_,a0⟩;have dT:=et.trans a0;have b1:=b1.grew a0;have b2:=b2.grew a0;have rn:=rn.grew a0;have rp:=rp.grew a0;clear cC;obtain ⟨po,pl,pc,rfl,de,-,-,-,-⟩:=rp.open;obtain ⟨qo,ql,qc,rfl,cA,-,-,-,-⟩:=rq.open
   have bM:pl=max (ak P) 1:=by have:=de.out;rw [ag] at this;omega
   have bZ:ql=max (ak Q) 1:=by have:=cA.out;rw [ag] at this;omega
   have bk:val (ai P (max (ak P) 1))=P:=by rw [al,am ((ap P _).1 (by omega))]
   have bz:val (ai Q (max (ak Q) 1))=Q:=by rw [al,am ((ap Q _).1 (by omega))]
   have ds:0=sD P Q pl ql:=by unfold sD;rw [if_neg (by omega),if_neg (by omega)]
   obtain ⟨cw,bJ⟩:∃ cw,cw=ai (dh P Q) (max (ak (dh P Q)) 1):=⟨_,rfl⟩
   obtain ⟨pw,bI⟩:∃ pw,pw=ai P (max (ak P) 1):=⟨_,rfl⟩
   obtain ⟨qw,bD⟩:∃ qw,qw=ai Q (max (ak Q) 1):=⟨_,rfl⟩
   have a4:Digs pw:=by rw [bI];exact aj (by omega) _ _
   have a9:Digs qw:=by rw [bD];exact aj (by omega) _ _
   rw [← bI] at rp bk;rw [← bD] at rq bz;have da:=rR po qo pl ql pc qc pw qw 0 cw (by rw [bk,bz];exact ds) (by rw [bk,bz];exact bJ) eC rp rq a4 a9 (by omega) (by omega);have dN:=aa bJ;clear de cA bM bZ bI bD bJ ds bk bz;go_wp2_with fail;refine da.mono ?_;rintro r d0 ⟨eN,rfl,rl,_,bn⟩;have ed:=dT.trans bn;have b1:=b1.grew bn;have b2:=b2.grew bn;have rn:=rn.grew bn;have bH:dh P Q≤P*Q:=by
    unfold dh;exact Nat.mul_le_mul (Nat.le_trans (Nat.div_le_self _ _) (by omega)) (by omega)
   have cg:=oX es d8;have ct:aF (dh P Q)≤512:=Nat.le_trans (aZ bH) bc;rw [dN.out] at rl;clear da rp rq a4 a9;have dc:=bY e he d0;go_wp2_with fail;refine dc.mono ?_;rintro e ee ⟨dC,rfl,bA,_,a5⟩;have ek:=ed.trans a5;have b1:=b1.grew a5;have b2:=b2.grew a5;have rn:=rn.grew a5;have rl:=rl.grew a5;clear dc;obtain ⟨e7,fi,fe,rfl,eA,-,-,-,-⟩:=rl.open;have bf:(ai (dh P Q) (max (ak (dh P Q)) 1)).length≤100000000:=by
    rw [ag];have:ak (dh P Q)≤512:=iy ct;omega
   have cF:val (ai (dh P Q) (max (ak (dh P Q)) 1))=dh P Q:=by rw [al,am ((ap _ _).1 (by omega))]
   have ce:=rOf _ _ ee rl (aj (by omega) _ _) bf;go_wp2_with fail;refine ce.mono ?_;rintro e ey ⟨er,rfl,b9,_,aS⟩;have cP:=ek.trans aS;have b1:=b1.grew aS;have b2:=b2.grew aS;have rn:=rn.grew aS;have rl:=rl.grew aS;have bA:=bA.grew aS;clear ce;rw [cF] at b9;clear cF eA bf rl;have aV:=oF dC er e (dh P Q) ey bA b9 (by omega) (by have:=(aI e 2).2 (by omega);omega) (by omega);by_cases c10:Nat.gcd e (dh P Q)=1
   case neg=>
    have HN:Hid (¬ cl L M P Q e):=fun h=>c10 h.2.2.2.2.2
    rw [aD c10] at aV;go_wp2_with fail;refine aV.mono ?_;rintro r bS ⟨eL,rfl,_,b8,_,aR⟩;obtain rfl:=b8 c10;have bl:=cP.trans aR;clear aV;have a:=N.out _ bl;obtain ⟨c0,c1,c2,c3,c4,c5,c6,c7⟩:=aK a;have f:=aM a;have m:=aa (F.out.trans bl);go_wp2_with fail;obtain ⟨z1,z2,_⟩:=dI m.out (leR _) a (.slice none 0 0) (.int .u64 0) (.slice none 0 0) (.slice none 0 0) (.slice none 0 0) (.slice none 0 0) (.slice none 0 0) (.slice none 0 0);unfold cV at z1 z2
    generalize ((((((((bS.setCell ⟨w.heap.size,0,none⟩ (.slice none 0 0)).setCell ⟨w.heap.size,1,none⟩ (.int .u64 0)).setCell ⟨w.heap.size,2,none⟩ (.slice none 0 0)).setCell ⟨w.heap.size,3,none⟩ (.slice none 0 0)).setCell ⟨w.heap.size,4,none⟩ (.slice none 0 0)).setCell ⟨w.heap.size,5,none⟩ (.slice none 0 0)).setCell ⟨w.heap.size,6,none⟩ (.slice none 0 0)).setCell ⟨w.heap.size,7,none⟩ (.slice none 0 0))=Wf at *;obtain ⟨r0,r1,r2,r3,r4,r5,r6,r7⟩:=aK z1;exact bodyPost_ret (v:=.tuple #[.agg zeroKey,.int .i64 190]) (by simp [results,Tryz.results27,go_sem,r0,r1,r2,r3,r4,r5,r6,r7]) rfl ⟨_,190,rfl,.inr ⟨rfl,HN.out,rfl⟩,aU _,z2⟩
   rw [aQ c10] at aV;go_wp2_with fail;refine aV.mono ?_;rintro r bS ⟨eL,rfl,hT,_,_,aR⟩;obtain ⟨d,cT,cR,c⟩:=hT c10;obtain ⟨eU,eX,eS,rfl,-,-⟩:=c.length;have bl:=cP.trans aR;have b1:=b1.grew aR;have b2:=b2.grew aR;have rn:=rn.grew aR;have bO:=aa c10;clear aV hT bA b9 c10;have cz:=jt _ P bS b1;go_wp2_with fail;refine cz.mono ?_;rintro r dY ⟨rfl,rfl⟩;clear cz;have cQ:=jt _ Q dY b2;go_wp2_with fail;refine cQ.mono ?_;rintro r eo ⟨rfl,rfl⟩;clear cQ;have d3:=bl;obtain ⟨ww,dn⟩:∃ ww,ww=max (ak P) (ak Q):=⟨_,rfl⟩
   have dE:max ((ak P:Nat):Int) ((ak Q:Nat):Int)=(ww:Int):=by omega
   have eD:ww≤128:=by omega
   have ba:=aa dn;have dv:=aa cT;have d9:=aa cR;have bU:=oF _ _ Q P eo b2 b1 (by omega) (by omega) (by omega);have b0:Nat.gcd Q P=1:=by rw [Nat.gcd_comm];exact db.out
   rw [aQ b0] at bU;clear dn cT cR;go_wp2_with fail;refine bU.mono ?_;rintro r d6 ⟨fc,rfl,hT,_,_,bg⟩;obtain ⟨u,di,cI,g⟩:=hT b0;obtain ⟨e3,eR,fa,rfl,-,-⟩:=g.length;have cn:=d3.trans bg;have b1:=b1.grew bg;have b2:=b2.grew bg;have c:=c.grew bg;have rn:=rn.grew bg;have dF:=aa di;have el:=aa cI;clear bU hT di cI b0;have e9:aF d≤512:=Nat.le_trans (aZ (Nat.le_of_lt dv.out)) ct;have cU:=kQ _ d nl d6 c (by omega);go_wp2_with fail;refine cU.mono ?_;rintro r dG ⟨e4,rfl,i,cN,aY⟩;obtain ⟨Y,T,Z,rfl,-,-,-,-,-⟩:=i.open;have cM:Hid (∀ x,(Value.slice Y T Z).ownBlock=some x→w.heap.size<x):=fun x hx=>by
    rw [cN] at hx;cases hx
    have:=cn.size;have:=s.out;omega
   have dl:=cn.trans aY;have b1:=b1.grew aY;have b2:=b2.grew aY;have c:=c.grew aY;have g:=g.grew aY;have rn:=rn.grew aY;clear cU cN;have dk:=kQ _ P ww dG b1 (by omega);go_wp2_with fail;refine dk.mono ?_;rintro r dJ ⟨e0,rfl,j,cX,aL⟩;obtain ⟨ad,S,av,rfl,-,-,-,-,-⟩:=j.open;have dd:Hid (∀ x,(Value.slice ad S av).ownBlock=some x→w.heap.size<x):=fun x hx=>by
    rw [cX] at hx;cases hx
    have:=dl.size;have:=s.out;omega
   have dr:=dl.trans aL;have b1:=b1.grew aL;have b2:=b2.grew aL;have c:=c.grew aL;have g:=g.grew aL;have rn:=rn.grew aL;have i:=i.grew aL;clear dk cX;have df:=kQ _ Q ww dJ b2 (by omega);go_wp2_with fail;refine df.mono ?_;rintro r ea ⟨fd,rfl,l,cY,aC⟩;obtain ⟨aB,ac,ab,rfl,-,-,-,-,-⟩:=l.open;have cO:Hid (∀ x,(Value.slice aB ac ab).ownBlock=some x→w.heap.size<x):=fun x hx=>by
    rw [cY] at hx;cases hx
    have:=dr.size;have:=s.out;omega
   have dD:=dr.trans aC;have b1:=b1.grew aC;have b2:=b2.grew aC;have c:=c.grew aC;have g:=g.grew aC;have rn:=rn.grew aC;have i:=i.grew aC;have j:=j.grew aC;clear df cY;have cj:=gG ea;go_wp2_with fail;refine cj.mono ?_;rintro e dA ⟨eb,rfl,n,_,U⟩;have eu:=dD.trans U;have b1:=b1.grew U;have b2:=b2.grew U;have c:=c.grew U;have g:=g.grew U;have rn:=rn.grew U;have i:=i.grew U;have j:=j.grew U;have l:=l.grew U;clear cj;have ch:=kK _ eb P 1 dA b1 n (by omega);go_wp2_with fail;refine ch.mono ?_;rintro e ez ⟨eK,rfl,p,_,O⟩;have dK:=eu.trans O;have b1:=b1.grew O;have b2:=b2.grew O
   have c:=c.grew O;have g:=g.grew O;have rn:=rn.grew O;have i:=i.grew O;have j:=j.grew O;have l:=l.grew O;have n:=n.grew O;clear ch;have cv:=mn _ eK d (P-1) ez c p (by omega) (by omega);go_wp2_with fail;refine cv.mono ?_;rintro e dL ⟨dM,rfl,z,_,G⟩;have cf:=dK.trans G;have b1:=b1.grew G;have b2:=b2.grew G;have c:=c.grew G;have g:=g.grew G;have rn:=rn.grew G;have i:=i.grew G;have j:=j.grew G;have l:=l.grew G;have n:=n.grew G;have p:=p.grew G;clear cv;have cm:=kQ dM _ ww dL z (by omega);go_wp2_with fail;refine cm.mono ?_;rintro r eg ⟨eZ,rfl,C,cx,D⟩
   obtain ⟨aq,an,V,rfl,-,-,-,-,-⟩:=C.open;have cB:Hid (∀ x,(Value.slice aq an V).ownBlock=some x→w.heap.size<x):=fun x hx=>by
    rw [cx] at hx;cases hx
    have:=cf.size;have:=s.out;omega
   have dP:=cf.trans D;have b1:=b1.grew D;have b2:=b2.grew D;have c:=c.grew D;have g:=g.grew D;have rn:=rn.grew D;have i:=i.grew D;have j:=j.grew D;have l:=l.grew D;have n:=n.grew D;have p:=p.grew D;have z:=z.grew D;clear cm cx;have cZ:=gG eg;go_wp2_with fail;refine cZ.mono ?_;rintro e ep ⟨dH,rfl,R,_,B⟩;have dO:=dP.trans B;have b1:=b1.grew B;have b2:=b2.grew B;have c:=c.grew B;have g:=g.grew B;have rn:=rn.grew B;have i:=i.grew B;have j:=j.grew B;have l:=l.grew B;have n:=n.grew B;have p:=p.grew B;have z:=z.grew B;have C:=C.grew B;clear cZ
   have cE:=kK _ dH Q 1 ep b2 R (by omega);go_wp2_with fail;refine cE.mono ?_;rintro e dB ⟨eB,rfl,aE,_,A⟩;have em:=dO.trans A;have b1:=b1.grew A;have b2:=b2.grew A;have c:=c.grew A;have g:=g.grew A;have rn:=rn.grew A;have i:=i.grew A;have j:=j.grew A;have l:=l.grew A;have n:=n.grew A;have p:=p.grew A;have z:=z.grew A;have C:=C.grew A;have R:=R.grew A;clear cE;have cq:=mn _ eB d (Q-1) dB c aE (by omega) (by omega);go_wp2_with fail;refine cq.mono ?_;rintro e dX ⟨d4,rfl,aX,_,y⟩;have cy:=em.trans y;have b1:=b1.grew y;have b2:=b2.grew y;have c:=c.grew y;have g:=g.grew y
   have rn:=rn.grew y;have i:=i.grew y;have j:=j.grew y;have l:=l.grew y;have n:=n.grew y;have p:=p.grew y;have z:=z.grew y;have C:=C.grew y;have R:=R.grew y;have aE:=aE.grew y;clear cq;have cK:=kQ d4 _ ww dX aX (by omega);go_wp2_with fail;refine cK.mono ?_;rintro r eE ⟨eO,rfl,be,cG,q⟩;obtain ⟨aA,az,ay,rfl,-,-,-,-,-⟩:=be.open;have dg:Hid (∀ x,(Value.slice aA az ay).ownBlock=some x→w.heap.size<x):=fun x hx=>by
    rw [cG] at hx;cases hx
    have:=cy.size;have:=s.out;omega
   have dp:=cy.trans q;have b1:=b1.grew q;have b2:=b2.grew q;have c:=c.grew q;have g:=g.grew q;have rn:=rn.grew q;have i:=i.grew q;have j:=j.grew q;have l:=l.grew q;have n:=n.grew q;have p:=p.grew q;have z:=z.grew q;have C:=C.grew q;have R:=R.grew q;have aE:=aE.grew q;have aX:=aX.grew q;clear cK cG;have du:=kQ _ u ww eE g (by omega);go_wp2_with fail;refine du.mono ?_;rintro r ec ⟨e2,rfl,bT,cp,o⟩;obtain ⟨ae,ax,X,rfl,-,-,-,-,-⟩:=bT.open;have cr:Hid (∀ x,(Value.slice ae ax X).ownBlock=some x→w.heap.size<x):=fun x hx=>by
    rw [cp] at hx;cases hx
    have:=dp.size;have:=s.out;omega
   have cS:=dp.trans o;have b1:=b1.grew o;have b2:=b2.grew o;have c:=c.grew o;have g:=g.grew o;have rn:=rn.grew o;have i:=i.grew o;have j:=j.grew o;have l:=l.grew o;have n:=n.grew o;have p:=p.grew o;have z:=z.grew o;have C:=C.grew o;have R:=R.grew o;have aE:=aE.grew o;have aX:=aX.grew o;have be:=be.grew o;clear du cp;have a8:=aa (⟨rn,i,j,l,C,be,bT⟩:_∧_∧_∧_∧_∧_∧_);clear b1 b2 c g n p z R aE aX rn i j l C be bT;have a:=N.out _ cS;obtain ⟨c0,eQ,eV,c3,c4,c5,c6,c7⟩:=aK a;have f:=aM a;have m:=aa (F.out.trans cS);go_wp2_with fail
   obtain ⟨z1,z2,z3⟩:=dI m.out (leR _) a (.slice no nl nc) (.int .u64 (e:Nat)) (.slice Y T Z) (.slice ad S av) (.slice aB ac ab) (.slice aq an V) (.slice aA az ay) (.slice ae ax X);unfold cV at z1 z2 z3
   generalize ((((((((ec.setCell ⟨w.heap.size,0,none⟩ (.slice no nl nc)).setCell ⟨w.heap.size,1,none⟩ (.int .u64 (e:Nat))).setCell ⟨w.heap.size,2,none⟩ (.slice Y T Z)).setCell ⟨w.heap.size,3,none⟩ (.slice ad S av)).setCell ⟨w.heap.size,4,none⟩ (.slice aB ac ab)).setCell ⟨w.heap.size,5,none⟩ (.slice aq an V)).setCell ⟨w.heap.size,6,none⟩ (.slice aA az ay)).setCell ⟨w.heap.size,7,none⟩ (.slice ae ax X))=Wf at *;obtain ⟨r0,r1,r2,r3,r4,r5,r6,r7⟩:=aK z1;obtain ⟨y0,y1,y2,y3,y4,y5,y6⟩:=a8.out
   exact bodyPost_ret (v:=.tuple #[.agg #[.slice no nl nc,.int .u64 (e:Nat),.slice Y T Z,.slice ad S av,.slice aB ac ab,.slice aq an V,.slice aA az ay,.slice ae ax X],.int .i64 0]) (by simp [results,Tryz.results27,go_sem,r0,r1,r2,r3,r4,r5,r6,r7]) rfl ⟨_,0,rfl,.inl ⟨rfl,⟨⟨by omega,by omega⟩,eq.out,ei.out,db.out,dq.out.symm,bO.out⟩,_,_,_,_,_,_,_,d,u,rfl,y0.kept z3 (fun x hx ex=>by have:=ci.out x hx;omega),dv.out,d9.out,(by rw [← eG.out];exact y1.kept z3 (fun x hx ex=>by have:=cM.out x hx;omega)),(by rw [← ba.out];exact y2.kept z3 (fun x hx ex=>by have:=dd.out x hx;omega)),(by rw [← ba.out];exact y3.kept z3 (fun x hx ex=>by have:=cO.out x hx;omega)),(by rw [← ba.out];exact y4.kept z3 (fun x hx ex=>by have:=cB.out x hx;omega)),(by rw [← ba.out];exact y5.kept z3 (fun x hx ex=>by have:=dg.out x hx;omega)),dF.out,el.out,(by rw [← ba.out];exact y6.kept z3 (fun x hx ex=>by have:=cr.out x hx;omega))⟩,qE ci.out cM.out dd.out cO.out cB.out dg.out cr.out,z2⟩

theorem nB {p a b c:Nat} (hc:Nat.Coprime p c) (h:c*a%p=c*b%p):a%p=b%p:=by
 rcases Nat.le_total a b with hab | hab
 ·have h1:(c*b-c*a)%p=0:=Nat.sub_mod_eq_zero_of_mod_eq h.symm;rw [← Nat.mul_sub] at h1;have h2:=hc.dvd_of_dvd_mul_left (Nat.dvd_of_mod_eq_zero h1);obtain ⟨k,hk⟩:=h2;rw [show b=a+p*k by omega];simp
 ·have h1:(c*a-c*b)%p=0:=Nat.sub_mod_eq_zero_of_mod_eq h;rw [← Nat.mul_sub] at h1;have h2:=hc.dvd_of_dvd_mul_left (Nat.dvd_of_mod_eq_zero h1);obtain ⟨k,hk⟩:=h2;rw [show a=b+p*k by omega];simp

def xL (P Q e d u:Nat) (ns ds ps qs dps dqs qis:List Nat):Prop:=
 d<dh P Q∧e*d%dh P Q=1∧u<P∧Q*u%P=1∧ns=aT P Q∧ds=ai d (aT P Q).length∧ps=ai P (max (ak P) (ak Q))∧qs=ai Q (max (ak P) (ak Q))∧dps=ai (d%(P-1)) (max (ak P) (ak Q))∧dqs=ai (d%(Q-1)) (max (ak P) (ak Q))∧qis=ai u (max (ak P) (ak Q))

theorem pR {m a x y:Nat} (hc:Nat.Coprime m a) (hx:x<m) (hy:y<m) (h1:a*x%m=1) (h2:a*y%m=1):x=y:=by
 have:=nB hc (h1.trans h2.symm)
 rwa [am hx,am hy] at this

end Go.Proofs.YtcemlfokmjjiaaaGreatDoor
