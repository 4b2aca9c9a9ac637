/- Put together of: Iva3 RinB RinC RinD. -/
import Derived.Test.YtcemlfokmjjiaaaGreatDoorPf30

namespace Go.Proofs.YtcemlfokmjjiaaaGreatDoor
set_option maxRecDepth 100000
set_option maxHeartbeats 4000000
open Go.RowKit

def kK (n:Nat):List Ev:=List.replicate 8 (1,(n:Int),0) ++ List.replicate 4 (1,((n+1:Nat):Int),0)

theorem lV (n:Nat):(kK n).length=12:=rfl

theorem zg {W:World} {a:Addr} {p:Nat} {x y z u v q:Value} (h:W.cell? a=some q) (b:a.block≠p):(((((W.setCell ⟨p,0,none⟩ x).setCell ⟨p,1,none⟩ y).setCell ⟨p,2,none⟩ z).setCell ⟨p,3,none⟩ u).setCell ⟨p,4,none⟩ v).cell? a=some q:=by
 have e:∀ (w:World) (j:Nat) (r:Value),(w.setCell ⟨p,j,none⟩ r).cell? a=w.cell? a:=fun w j r=>by
  unfold World.cell?;rw [Below.heap_setCell w ⟨p,j,none⟩ r a.block b]
 rw [e,e,e,e,e];exact h

theorem Bk {w0:World} {o0:Tr} {m:List Ev} {po:Option Addr} {k:Nat} (n M U V t a:Nat) (d F G:Int) (uo vo fo go ao bo:Option Addr) (uc vc fc gc b l K f:Nat) {w:World} {o:Tr} (s:Wr w0 o0 m w o (.pointer po) (k+12)) (S:StIn (18446744073709551616^n) t (d,F,G)) (ht:t≤100000) (hm:NumT w o (.slice ao n b) n M) (hu:NumT w o (.slice uo n uc) n U) (hv:NumT w o (.slice vo n vc) n V) (hf:NumT w o (.slice fo (n+1) fc) (n+1) (tcN (18446744073709551616^(n+1)) F)) (hg:NumT w o (.slice go (n+1) gc) (n+1) (tcN (18446744073709551616^(n+1)) G)) (aJ:0<n) (hn:n≤800) :
  Calls Tryz.prog 185 #[.pointer po,.agg #[.slice ao n b,.int .u64 (K:Nat),.slice bo l f],.agg #[.slice uo n uc,.slice vo n vc,.slice fo (n+1) fc,.slice go (n+1) gc,.int .u64 (tcN 18446744073709551616 d:Nat)]] w fun e w'=>∃ (u' v' f' g':Value),e=.returned (.agg #[u',v',f',g',.int .u64 (tcN 18446744073709551616 (dst (d,F,G)).1:Nat)])∧∃ (U' V':Nat) (o':Tr),Hid (M<18446744073709551616^n→M%2=1→F%2=1→CoOk M a U V (d,F,G)→CoOk M a U' V' (dst (d,F,G)))∧NumN w' o' u' n U'∧NumN w' o' v' n V'∧NumN w' o' f' (n+1) (tcN (18446744073709551616^(n+1)) (dst (d,F,G)).2.1)∧NumN w' o' g' (n+1) (tcN (18446744073709551616^(n+1)) (dst (d,F,G)).2.2)∧Did w o (kK n) w' o'∧Wr w0 o0 (m ++ kK n) w' o' (.pointer po) k:=by
 obtain ⟨E,y,od,sw,mk,A,C,D',x,hb⟩:=xS d G (by have:=S.1;dsimp only at this;omega) (by have:=S.1;dsimp only at this;omega);obtain ⟨z1,z2,z3,z4⟩:=uu S hb.hod hb.hso hb.esw;have eD:tcN 18446744073709551616 (dst (d,F,G)).1=D':=by rw [pp,← hb.esw];exact hb.eD.symm
 have N:sw≤1:=by have:=hb.hso;omega
 have aA:x≤1:=by have:=hb.hso;omega
 have J:tcN (18446744073709551616^(n+1)) G%2=od:=by
  have:=zX (B:=18446744073709551616^(n+1)) S.2.2 (by rw [Nat.pow_succ];omega) (by rw [Nat.pow_succ];omega);have h2:=hb.hod;dsimp only at this;omega
 rw [eD];have aG:Hid (∀ V':Nat,lT n M U V sw od V'→M<18446744073709551616^n→M%2=1→F%2=1→CoOk M a U V (d,F,G)→CoOk M a (aP sw V U) V' (dst (d,F,G))):=fun V' hc hM h2 hF ae=>by
  obtain ⟨c1,c2⟩:=hc hM h2 ae.1 ae.2.1;refine ae.step h2 hF ?_ c1 ?_
  ·rw [← hb.esw];unfold aP;by_cases e:sw=1
   ·rw [if_pos (by omega),if_pos e]
   ·rw [if_neg (by omega),if_neg e]
  ·rw [← hb.esw,← hb.hod];exact c2
 obtain ⟨F',ah⟩:∃ F',F'=(dst (d,F,G)).2.1:=⟨_,rfl⟩
 obtain ⟨G',ac⟩:∃ G',G'=(dst (d,F,G)).2.2:=⟨_,rfl⟩
 obtain ⟨L,hL⟩:∃ L,L=n+1:=⟨_,rfl⟩
 have aw:0<L:=by omega
 have aM:L≤801:=by omega
 rw [← ah] at z2;rw [← ac] at z4;rw [← ah,← ac];have aD:∀ (c:Nat) (v:Value) (X:Nat) {w0:World} {o0:Tr} {m:List Ev} {tp:Value} {k:Nat} {w:World} {o:Tr} (s:Wr w0 o0 m w o tp (k+1)) (h:NumT w o v L X) (hc:c=X/(9223372036854775808*18446744073709551616^n)) (ar:c≤1),
  Calls Tryz.prog 226 #[tp,v] w fun e w'=>∃ (v':Value),e=.returned v'∧∃ (Z:Nat) (o':Tr),Hid (Z=(X+c%2*18446744073709551616^L)/2)∧NumN w' o' v' L Z∧Did w o [(1,(L:Int),0)] w' o'∧Wr w0 o0 (m ++ [(1,(L:Int),0)]) w' o' tp k:=by
  intro c v X w0 o0 m tp k w o s h hc ar;rw [hL] at h ⊢;exact BM n X c v s h (by omega) hc ar
 have HE:Hid (kK n=List.replicate 8 (1,(n:Int),0) ++ ([(1,(L:Int),0)] ++ [(1,(L:Int),0),(1,(L:Int),0)] ++ [(1,(L:Int),0)])):=by
  unfold Hid kK;rw [hL];rfl
 rw [← hL] at z1 z2 z3 z4 hf hg J ⊢;obtain ⟨TG,Y⟩:∃ TG,TG=tcN (18446744073709551616^L) G:=⟨_,rfl⟩
 obtain ⟨TF,T⟩:∃ TF,TF=tcN (18446744073709551616^L) F:=⟨_,rfl⟩
 obtain ⟨TX,aj⟩:∃ TX,TX=tcN (18446744073709551616^L) (G+(G%2-2*(swN d G:Int))*F):=⟨_,rfl⟩
 obtain ⟨D,hD⟩:∃ D,D=tcN 18446744073709551616 d:=⟨_,rfl⟩
 rw [← Y,← T,← aj] at z1;rw [← Y,← T] at z2;rw [← aj] at z3 z4;rw [← T] at hf;rw [← Y] at hg J;rw [← hD] at hb ⊢;obtain ⟨W,hW⟩:∃ W,W=((w.alloc (.cells #[.slice ao n b,.int .u64 (K:Nat),.slice bo l f] 130)).alloc (.cells #[.slice uo n uc,.slice vo n vc,.slice fo L fc,.slice go L gc,.int .u64 (D:Nat)] 194)).alloc (.cells #[.slice none 0 0,.slice none 0 0,.slice none 0 0,.slice none 0 0,.int .u64 0] 194):=⟨_,rfl⟩
 have k0:Kept af w W:=by rw [hW];exact (((ai af w).alloc _).alloc _).alloc _
 have b1:W.heap[w.heap.size]? = some (.cells #[.slice ao n b,.int .u64 (K:Nat),.slice bo l f] 130 (0,0)):=by rw [hW];exact ap (ap (heap_alloc_new _ _))
 have b2:W.heap[w.heap.size+1]? = some (.cells #[.slice uo n uc,.slice vo n vc,.slice fo L fc,.slice go L gc,.int .u64 (D:Nat)] 194 (0,0)):=by
  rw [hW];refine ap ?_;have:=heap_alloc_new (w.alloc (.cells #[.slice ao n b,.int .u64 (K:Nat),.slice bo l f] 130)) (.cells #[.slice uo n uc,.slice vo n vc,.slice fo L fc,.slice go L gc,.int .u64 (D:Nat)] 194);simpa using this
 have b3:W.heap[w.heap.size+1+1]? = some (.cells #[.slice none 0 0,.slice none 0 0,.slice none 0 0,.slice none 0 0,.int .u64 0] 194 (0,0)):=by
  rw [hW];have:=heap_alloc_new ((w.alloc (.cells #[.slice ao n b,.int .u64 (K:Nat),.slice bo l f] 130)).alloc (.cells #[.slice uo n uc,.slice vo n vc,.slice fo L fc,.slice go L gc,.int .u64 (D:Nat)] 194)) (.cells #[.slice none 0 0,.slice none 0 0,.slice none 0 0,.slice none 0 0,.int .u64 0] 194);simpa using this
 have Q:TrIn W o:=s.room.1.grew k0;have JC:Hid (∀ W' m' o',Did W o m' W' o'→(W'.cell? ⟨w.heap.size,0,none⟩=some (.slice ao n b)∧W'.cell? ⟨w.heap.size,1,none⟩=some (.int .u64 (K:Nat))∧W'.cell? ⟨w.heap.size,2,none⟩=some (.slice bo l f))∧(W'.cell? ⟨w.heap.size+1,0,none⟩=some (.slice uo n uc)∧W'.cell? ⟨w.heap.size+1,1,none⟩=some (.slice vo n vc)∧W'.cell? ⟨w.heap.size+1,2,none⟩=some (.slice fo L fc)∧W'.cell? ⟨w.heap.size+1,3,none⟩=some (.slice go L gc)∧W'.cell? ⟨w.heap.size+1,4,none⟩=some (.int .u64 (D:Nat)))):=fun W' m' o' d=>
  ⟨ax (d.cells b1 Q (by decide) (by decide)),dM (d.cells b2 Q (by decide) (by decide))⟩
 have JR:Hid (∀ W' m' o',Did W o m' W' o'→W'.heap[w.heap.size+1+1]? = some (.cells #[.slice none 0 0,.slice none 0 0,.slice none 0 0,.slice none 0 0,.int .u64 0] 194 (0,0))):=fun W' m' o' d=>d.cells b3 Q (by decide) (by decide)
 have dW:Did W o [] W o:=Did.of_kept (ai af W) Q;have sW:Wr W o [] W o (.pointer po) (k+12):=⟨dW,s.room.grew k0,s.ptr⟩
 have HG:=aa (hg.grew k0);have HF:=aa (hf.grew k0)
 -- the lowest word of g
 obtain ⟨_,_,_,e1,_,_,_,_,O⟩:=(hg.grew k0).1.1.open;cases e1
 obtain ⟨gb,I,rfl,av⟩:=cK (O 0 aw) aw;have aF:dig TG 0=TG%18446744073709551616:=by unfold dig;rw [Nat.pow_zero,Nat.div_one]
 rw [aF,Nat.add_zero] at av;have R:=and_one_u64 ((TG%18446744073709551616:Nat):Int) (by omega) (by omega);rw [show ((TG%18446744073709551616:Nat):Int)%2=(od:Int) by omega] at R;generalize TG%18446744073709551616=T0 at *;have hE:=hb.hE;have hy:=hb.hy;have aK:=hb.hsw;have hA:=hb.hA;have h1:=hb.h1;have hC:=hb.hC;have aI:=hb.hD;have am:=mF (sw:Int) (by omega) (by omega) W;rw [hb.hmk] at am
 have J1:Hid (∀ W',Kept af W W'→Calls Tryz.prog 225 #[.agg #[.slice uo n uc,.slice vo n vc],.pointer po,.agg #[.slice ao n b,.int .u64 (K:Nat),.slice bo l f],.int .u64 (sw:Nat),.int .u64 (od:Nat)] W' fun e w'=>∃ (z:Option Addr) (p:Nat) (r:Option Addr) (H:Nat),e=.returned (.agg #[.slice z n p,.slice r n H])∧∃ (U' V':Nat) (o':Tr),Hid (U'=aP sw V U∧lT n M U V sw od V')∧NumN w' o' (.slice z n p) n U'∧NumN w' o' (.slice r n H) n V'∧Wr W o (List.replicate 8 (1,(n:Int),0)) w' o' (.pointer po) (k+4)):=fun W' kk=>by
  refine (iCo n M U V sw od x uo vo ao bo uc vc b l K f (k:=k+4) (sW.grew kk) hb.hso hb.hx ((hm.grew k0).grew kk) ((hu.grew k0).grew kk) ((hv.grew k0).grew kk) aJ (by omega)).mono ?_;rintro e w' ⟨u',v',rfl,U',V',o',q,nu,nv,_,s'⟩;obtain ⟨z,p,rfl⟩:=nu.1.shape;obtain ⟨r,H,rfl⟩:=nv.1.shape;exact ⟨z,p,r,H,rfl,U',V',o',q,nu,nv,s'⟩
 have J2:Hid (∀ W' o',Wr W o (List.replicate 8 (1,(n:Int),0)) W' o' (.pointer po) (k+4)→Calls Tryz.prog 187 #[.pointer po,.int .u64 (sw:Nat),.slice (some ⟨gb,I,none⟩) L gc,.slice fo L fc] W' fun e w'=>∃ (xo:Option Addr) (xc:Nat),e=.returned (.slice xo L xc)∧∃ (Z:Nat) (i:Tr),Hid (Z=aP sw TG TF)∧NumN w' i (.slice xo L xc) L Z∧Did W' o' [(1,(L:Int),0)] w' i∧Wr W o (List.replicate 8 (1,(n:Int),0) ++ [(1,(L:Int),0)]) w' i (.pointer po) (k+3)):=fun W' o' s'=>by
  refine (jA sw L TG TF _ _ (k:=k+3) s' N (HG.out.did s'.did) (HF.out.did s'.did) (by omega)).mono ?_;rintro e w' ⟨v',rfl,Z,i,q,nz,d',P⟩;obtain ⟨xo,xc,rfl⟩:=nz.1.shape;exact ⟨xo,xc,rfl,Z,i,q,nz,d',P⟩
 have J3:Hid (∀ W' o' m',Wr W o m' W' o' (.pointer po) (k+3)→Calls Tryz.prog 227 #[.pointer po,.int .u64 (sw:Nat),.int .u64 (od:Nat),.slice (some ⟨gb,I,none⟩) L gc,.slice fo L fc] W' fun e w'=>∃ (v':Value),e=.returned v'∧∃ (Z:Nat) (i:Tr),Hid (Z=TX)∧NumN w' i v' L Z∧Did W' o' [(1,(L:Int),0),(1,(L:Int),0)] w' i∧Wr W o (m' ++ [(1,(L:Int),0),(1,(L:Int),0)]) w' i (.pointer po) (k+1)):=fun W' o' m' s'=>by
  refine (Bo sw od x L TG TF _ _ (k:=k+1) s' N aA hb.hx (HG.out.did s'.did) (HF.out.did s'.did) (by omega)).mono ?_;rintro e w' ⟨v',rfl,Z,i,q,nz,d',P⟩;exact ⟨v',rfl,Z,i,q.out.trans z1,nz,d',P⟩
 have J4:Hid (∀ W' o' m' v',Wr W o m' W' o' (.pointer po) (k+1)→NumN W' o' v' L TX→Calls Tryz.prog 226 #[.pointer po,v'] W' fun e w'=>∃ (xo:Option Addr) (xc:Nat),e=.returned (.slice xo L xc)∧∃ (i:Tr),NumN w' i (.slice xo L xc) L (tcN (18446744073709551616^L) G')∧Did W' o' [(1,(L:Int),0)] w' i∧Wr W o (m' ++ [(1,(L:Int),0)]) w' i (.pointer po) k):=fun W' o' m' v' s' nv=>by
  refine (aD _ v' TX s' nv.1 rfl z3).mono ?_;rintro e w' ⟨v',rfl,Z,i,q,nz,d',P⟩;rw [q.out,z4] at nz;obtain ⟨xo,xc,rfl⟩:=nz.1.shape;exact ⟨xo,xc,rfl,i,nz,d',P⟩
 have HW:=aa hW;have HK:=aa k0;have HS:=aa s;have Z2:=aa z2;have aL:Hid (w.heap.size+1+1≤W.heap.size):=by have:=lt_of_block b3;unfold Hid;omega
 obtain ⟨⟨c0,c1,c2⟩,c3,c4,c5,c6,c7⟩:=JC.out W [] o dW;clear hm hu hv hf hg hW k0 s S b1 b2 b3 dW sW Q z1 z2 z3 z4 hb O aF J eD Y T aj hD ah ac hL aD HG HF aA;go_enter Tryz.func185,Tryz.ntmps185;go_wp2_with (rw [← HW.out]);refine am.mono ?_;rintro e w1 ⟨rfl,rfl⟩;clear am R hE hy aK av;go_wp2_with fail
 go_region_held3 (fun w'=>(w'.cell? ⟨w.heap.size,0,none⟩=some (.slice ao n b)∧w'.cell? ⟨w.heap.size,1,none⟩=some (.int .u64 (K:Int))∧w'.cell? ⟨w.heap.size,2,none⟩=some (.slice bo l f))∧(w'.cell? ⟨w.heap.size+1,0,none⟩=some (.slice uo n uc)∧w'.cell? ⟨w.heap.size+1,1,none⟩=some (.slice vo n vc)∧w'.cell? ⟨w.heap.size+1,2,none⟩=some (.slice fo L fc)∧w'.cell? ⟨w.heap.size+1,3,none⟩=some (.slice (some ⟨gb,I,none⟩) L gc)∧w'.cell? ⟨w.heap.size+1,4,none⟩=some (.int .u64 (D:Int))))
  (((try dsimp only);(repeat' apply And.intro) <;> first | (with_reducible assumption) | (with_reducible refine zg ?_ ?_;(with_reducible assumption);(dsimp only;omega)) | (go_keep;done)))
  (first
  | (go_at_call 225;refine (J1.out _ ?_).mono ?_;(exact nW (mW _));rintro e w2 ⟨z,p,r,H,rfl,U',V',o2,q2,aq,an,s2⟩;obtain ⟨⟨p0,p1,p2⟩,p3,p4,p5,p6,p7⟩:=JC.out w2 _ o2 s2.did)
  | (go_at_call 187;refine (J2.out _ o2 s2).mono ?_;rintro e w3 ⟨ag,ak,rfl,Z3,o3,q3,n3,d3,s3⟩;obtain ⟨⟨r0,r1,r2⟩,r3,r4,r5,r6,r7⟩:=JC.out w3 _ o3 s3.did)
  | (go_at_call 227;refine (J3.out _ o3 _ s3).mono ?_;rintro e w4 ⟨v4,rfl,Z4,o4,q4,n4,d4,s4⟩;obtain ⟨⟨t0,t1,t2⟩,t3,t4,t5,t6,t7⟩:=JC.out w4 _ o4 s4.did)
  | (go_at_call 226;refine (J4.out _ o4 _ _ s4 (by rw [← q4.out];exact n4)).mono ?_;rintro e w5 ⟨ab,ad,rfl,o5,n5,d5,s5⟩;obtain ⟨⟨x0,x1,x2⟩,x3,x4,x5,x6,x7⟩:=JC.out w5 _ o5 s5.did;have j:=JR.out w5 _ o5 s5.did;obtain ⟨f0,f1,f2,f3,f4⟩:=mg j;obtain ⟨g0,g1,g2,g3,g4⟩:=dM j))
 all_goals
  have aB:=((aq.did d3 s2.room.1).did d4 s3.room.1).did d5 s4.room.1;have aE:=((an.did d3 s2.room.1).did d4 s3.room.1).did d5 s4.room.1;have aC:=(n3.did d4 s3.room.1).did d5 s4.room.1;have az:=zE j (.slice z n p) (.slice r n H) (.slice ag L ak) (.slice ab L ad) (.int .u64 (D':Int));obtain ⟨y0,y1,y2,y3,y4⟩:=dM az;have kp:=tf w5 (w.heap.size+1+1) (.slice z n p) (.slice r n H) (.slice ag L ak) (.slice ab L ad) (.int .u64 (D':Int));have au:=ay j s5.room.1 (by decide) (by decide);have NU:=aa (aB.put j (by decide) kp);have NV:=aa (aE.put j (by decide) kp);have NF:=aa (aC.put j (by decide) kp)
  have NG:=aa (n5.put j (by decide) kp);have al:=s5.did;rw [List.append_assoc,List.append_assoc,← List.append_assoc [(1,(L:Int),0)],← HE.out] at al;have D8:=aa ((Did.after HK.out al).wroteNew kp (by omega) au);have Q3:=Z2.out;rw [← q3.out] at Q3;have aH:=aa Q3;clear aB aE aC az kp au j Q3 al aq an n3 n4 n5 d3 d4 d5 s2 s3 s4 s5 x0 x1 x2 x3 x4 x5 x6 x7 p0 p1 p2 p3 p4 p5 p6 p7 r0 r1 r2 r3 r4 r5 r6 r7 t0 t1 t2 t3 t4 t5 t6 t7 J1 J2 J3 J4 hA h1 hC aI;go_wp2_with fail
  refine bodyPost_ret (v:=.agg #[.slice z n p,.slice r n H,.slice ag L ak,.slice ab L ad,.int .u64 (D':Int)]) (by simp [results,Tryz.results185,go_sem,y0,y1,y2,y3,y4]) rfl ⟨_,_,_,_,rfl,U',V',o5,?_,NU.out,NV.out,?_,NG.out,D8.out,HS.out.next D8.out (by rw [lV];omega)⟩
  ·have:=aG.out V' q2.out.2;rw [← q2.out.1] at this;exact this
  ·have:=NF.out;rw [aH.out] at this;exact this

theorem zF (b:Int) (w:World):Calls Tryz.prog 184 #[.int .i64 b] w fun e w'=>e=.returned (.int .i64 (l6 b))∧w'=w:=by
 have h0:1≤dy b:=by unfold dy;omega
 have h1:dy b≤8320:=by unfold dy;omega
 have hb:min (max b 1) 8320=dy b:=rfl;unfold l6;generalize dy b=c at *;by_cases h:c<46
 ·rw [if_pos h];go_enter Tryz.func184,Tryz.ntmps184;go_wp2;go_ret;exact ⟨rfl,rfl⟩
 ·rw [if_neg h];go_enter Tryz.func184,Tryz.ntmps184;go_wp2;go_ret;exact ⟨rfl,rfl⟩

theorem ry {n:Nat} (h0:0<n) (hn:n≤130):l6 (64*(n:Int))=((stp n:Nat):Int):=by
 unfold l6 dy stp;have e:min (max (64*(n:Int)) 1) 8320=64*(n:Int):=by omega
 rw [e,if_neg (by omega)];omega

theorem zA (x:Nat) (hx:x<18446744073709551616) (n:Int) (m:Nat) (hm:dg n=m+1) (w:World) :
  Calls Tryz.prog 79 #[.int .u64 x,.int .i64 n] w fun r w'=>r=.returned (.slice (some ⟨w.heap.size,0,none⟩) (m+1) (m+1))∧OwnN .u64 23 w' w.heap.size (.slice (some ⟨w.heap.size,0,none⟩) (m+1) (m+1)) (m+1) (digs x (m+1))∧Kept af w w':=by
 obtain ⟨i0,g,e,f,b⟩:=info_parts Tryz.info23;have hb:m+1≤300:=by rw [← hm];unfold dg;omega
 have hc:min (max n 1) 300=((m+1:Nat):Int):=by rw [← hm];unfold dg;omega
 rw [fL x m hx];clear hm;go_enter Tryz.func79,Tryz.ntmps79;go_wp2_with (at_make;refine wpList_make_full _ rfl _ _ 32 rfl w.heap.size 23 i0 _ 1 Tryz.underlying32 g e f _ _ _ _ (m+1) rfl rfl (by first | exact hc | rfl) (by first | exact hc | rfl) (by rw [b];omega) (by unfold maxLen;omega) (leR _) ?_;intro w1 a c;rw [aG] at a;have k1:=aD c;have i:w1.cell? ⟨w.heap.size,0,none⟩=some (.int .u64 0):=(by rw [World.ownsRow.cellAt a 0 (by omega)];rfl);have hf:=World.ownsRow.frozenAt a 0;have d:=(World.ownsRow.stored a 0 (.int .u64 (x:Nat))).1);go_ret;refine ⟨rfl,?_,k1.setCell _ (fun h=>by simp at h) _⟩;simpa [OwnN,List.replicate_succ] using d

theorem zQ (x:Nat) (hx:x<18446744073709551616) (n:Nat) (a:0<n) (hn:n≤300) (w:World) :
  Calls Tryz.prog 79 #[.int .u64 x,.int .i64 (n:Nat)] w fun r w'=>r=.returned (.slice (some ⟨w.heap.size,0,none⟩) n n)∧OwnN .u64 23 w' w.heap.size (.slice (some ⟨w.heap.size,0,none⟩) n n) n (digs x n)∧Kept af w w':=by
 obtain ⟨m,rfl⟩:∃ m,n=m+1:=⟨n-1,by omega⟩
 exact zA x hx _ m (by unfold dg;omega) w

theorem NumN.grew {w w':World} {o:Tr} {v:Value} {n X:Nat} (h:NumN w o v n X) (k:Kept af w w'):NumN w' o v n X:=⟨h.1.grew k,h.2.grew k⟩

theorem A9 {W:World} {a:Addr} {O:Obj} {v:Value} (h:W.cell? a=some v):(W.alloc O).cell? a=some v:=((ai af W).alloc O).cellN h

theorem yN {W:World} {a:Addr} {v:Value} (h:W.cell? a=some v):W.drew.cell? a=some v:=((ai af W).drew).cellN h

theorem sL {W:World} {g n:Nat} {CL:Array Value} (c:CL=madeCells #[Value.int .u64 0] n) (h:W.heap[g]? = some (.cells CL 23 (0,0))) (hn:n≤1000) (o:Tr) (ti:TrIn W o):NumN W o (.slice (some ⟨g,0,none⟩) n n) n 0:=by
 have b:CL=((List.replicate n 0).map fun z:Nat=>Value.int .u64 (z:Int)).toArray:=by
  have h:=aG .u64 n;rw [Nat.mul_one] at h;rw [← h,c];simp [Value.cells]
 rw [b] at h;have hz:digs 0 n=List.replicate n 0:=by
  have:=ef (ys:=[]) (V:=0) (m:=n) (Digs.nil _) rfl (Nat.zero_le _);simpa using this
 have a:OwnN .u64 23 W g (.slice (some ⟨g,0,none⟩) n n) n (digs 0 n):=by rw [hz];exact cl h (by simp) (by unfold maxLen;omega) (leR _)
 exact NumN.own a (Nat.pow_pos (by omega)) ti

theorem CK (n M A:Nat) (ao bo xo:Option Addr) (a l K d xc:Nat) (w:World) (o:Tr) (ti:TrIn w o) (hm:NumT w o (.slice ao n a) n M) (hx:NumT w o (.slice xo n xc) n A) (y:0<n) (hn:n≤130) :
  Calls Tryz.prog 183 #[.agg #[.slice ao n a,.int .u64 (K:Nat),.slice bo l d],.slice xo n xc] w fun e w'=>∃ (uo:Option Addr) (uc:Nat) (vo:Option Addr) (vc:Nat) (fo:Option Addr) (fc:Nat) (go:Option Addr) (gc:Nat),e=.returned (.agg #[.slice uo n uc,.slice vo n vc,.slice fo (n+1) fc,.slice go (n+1) gc,.int .u64 1])∧NumN w' o (.slice uo n uc) n 0∧NumN w' o (.slice vo n vc) n 1∧NumN w' o (.slice fo (n+1) fc) (n+1) M∧NumN w' o (.slice go (n+1) gc) (n+1) A∧Kept af w w':=by
 obtain ⟨i0,p,b,t,s⟩:=info_parts Tryz.info23;obtain ⟨L,hL⟩:∃ L,L=n+1:=⟨_,rfl⟩
 have z:IntKind.i64.wrap ((n:Int)+1)=(L:Int):=by rw [hL];simp [IntKind.wrap,IntKind.bits,IntKind.signed];omega
 have B:L≤131:=by omega
 have lM:M<18446744073709551616^L:=by have:=hm.2;rw [hL,Nat.pow_succ];omega
 have lA:A<18446744073709551616^L:=by have:=hx.2;rw [hL,Nat.pow_succ];omega
 have l1:1<18446744073709551616^n:=Nat.one_lt_pow (by omega) (by omega);rw [← hL];obtain ⟨W,hW⟩:∃ W,W=(w.alloc (.cells #[.slice ao n a,.int .u64 (K:Nat),.slice bo l d] 130)).alloc (.cells #[.slice none 0 0,.slice none 0 0,.slice none 0 0,.slice none 0 0,.int .u64 0] 194):=⟨_,rfl⟩
 have k0:Kept af w W:=by rw [hW];exact ((ai af w).alloc _).alloc _
 have b1:W.heap[w.heap.size]? = some (.cells #[.slice ao n a,.int .u64 (K:Nat),.slice bo l d] 130 (0,0)):=by rw [hW];exact ap (heap_alloc_new _ _)
 have b2:W.heap[w.heap.size+1]? = some (.cells #[.slice none 0 0,.slice none 0 0,.slice none 0 0,.slice none 0 0,.int .u64 0] 194 (0,0)):=by
  rw [hW];have:=heap_alloc_new (w.alloc (.cells #[.slice ao n a,.int .u64 (K:Nat),.slice bo l d] 130)) (.cells #[.slice none 0 0,.slice none 0 0,.slice none 0 0,.slice none 0 0,.int .u64 0] 194);simpa using this
 obtain ⟨CL,j⟩:∃ CL,CL=madeCells #[Value.int .u64 0] n:=⟨_,rfl⟩
 have C:∀ W,(Instr.makeSlice 32 (.int .i64 (n:Int)) (.int .i64 (n:Int))).run Tryz.prog W=.ok (.slice (some ⟨W.heap.size,0,none⟩) n n) (W.alloc (.cells CL 23)):=fun W=>by rw [j];exact run_make_row (P:=Tryz.prog) _ _ i0 _ Tryz.underlying32 p b t rfl _ _ n (by rw [s];omega) (by omega) W
 have c0:=(ax b1).1;have JC:Hid (∀ W',Kept af W W'→W'.cell? ⟨w.heap.size,0,none⟩=some (.slice ao n a)):=fun W' k=>k.cellN c0
 have JB:Hid (∀ W',Kept af W W'→W'.heap[w.heap.size+1]? = some (.cells #[.slice none 0 0,.slice none 0 0,.slice none 0 0,.slice none 0 0,.int .u64 0] 194 (0,0))):=fun W' k=>(k.block _ (lt_of_block b2) (fun f=>f)).trans b2
 have J1:Hid (∀ W',Kept af W W'→Calls Tryz.prog 79 #[.int .u64 1,.int .i64 (n:Nat)] W' fun r w'=>∃ vo vc,r=.returned (.slice vo n vc)∧NumN w' o (.slice vo n vc) n 1∧Kept af W' w'∧Kept af W w'):=fun W' k=>by
  refine (zQ 1 (by omega) n y (by omega) W').mono ?_;rintro e w' ⟨rfl,ho,k'⟩;exact ⟨_,_,rfl,NumN.own ho l1 (ti.grew (k0.trans (k.trans k'))),k',k.trans k'⟩
 have J2:Hid (∀ W',Kept af W W'→Calls Tryz.prog 143 #[.slice ao n a,.int .i64 (L:Nat)] W' fun r w'=>∃ fo fc,r=.returned (.slice fo L fc)∧NumN w' o (.slice fo L fc) L M∧Kept af W' w'∧Kept af W w'):=fun W' k=>by
  refine (Al _ _ L W' (hm.1.1.grew (k0.trans k)) (ah (by omega) _ _) (by omega)).mono ?_;rintro e w' ⟨rfl,ho,k'⟩;rw [bJ hm.2] at ho;exact ⟨_,_,rfl,NumN.own ho lM (ti.grew (k0.trans (k.trans k'))),k',k.trans k'⟩
 have J3:Hid (∀ W',Kept af W W'→Calls Tryz.prog 143 #[.slice xo n xc,.int .i64 (L:Nat)] W' fun r w'=>∃ fo fc,r=.returned (.slice fo L fc)∧NumN w' o (.slice fo L fc) L A∧Kept af W' w'∧Kept af W w'):=fun W' k=>by
  refine (Al _ _ L W' (hx.1.1.grew (k0.trans k)) (ah (by omega) _ _) (by omega)).mono ?_;rintro e w' ⟨rfl,ho,k'⟩;rw [bJ hx.2] at ho;exact ⟨_,_,rfl,NumN.own ho lA (ti.grew (k0.trans (k.trans k'))),k',k.trans k'⟩
 have JM:Hid (∀ W' g,Kept af W W'→W'.heap[g]? = some (.cells CL 23 (0,0))→NumN W' o (.slice (some ⟨g,0,none⟩) n n) n 0):=fun W' g k h=>sL j h (by omega) o (ti.grew (k0.trans k))
 have JF:Hid (∀ (W':World) uo uc vo vc fo fc go gc,Kept af W W'→NumN W' o (.slice uo n uc) n 0→NumN W' o (.slice vo n vc) n 1→NumN W' o (.slice fo L fc) L M→NumN W' o (.slice go L gc) L A→∃ W2,W2=((((W'.setCell ⟨w.heap.size+1,0,none⟩ (.slice uo n uc)).setCell ⟨w.heap.size+1,1,none⟩ (.slice vo n vc)).setCell ⟨w.heap.size+1,2,none⟩ (.slice fo L fc)).setCell ⟨w.heap.size+1,3,none⟩ (.slice go L gc)).setCell ⟨w.heap.size+1,4,none⟩ (.int .u64 1)∧(W2.heap[w.heap.size+1]? = some (.cells #[.slice uo n uc,.slice vo n vc,.slice fo L fc,.slice go L gc,.int .u64 1] 194 (0,0)))∧Hid (NumN W2 o (.slice uo n uc) n 0∧NumN W2 o (.slice vo n vc) n 1∧NumN W2 o (.slice fo L fc) L M∧NumN W2 o (.slice go L gc) L A∧Kept af w W2)):=fun W' uo uc vo vc fo fc go gc k h1 h2 h3 h4=>by
  have hb:=JB.out W' k;have kp:=tf W' (w.heap.size+1) (.slice uo n uc) (.slice vo n vc) (.slice fo L fc) (.slice go L gc) (.int .u64 1);exact ⟨_,rfl,zE hb _ _ _ _ _,h1.put hb (by decide) kp,h2.put hb (by decide) kp,h3.put hb (by decide) kp,h4.put hb (by decide) kp,(k0.trans k).next kp (fun x hx e=>by omega)⟩
 have HW:=aa hW;clear hm hx hW k0 b1 b2 lM lA l1 ti p b t s hL j;go_enter Tryz.func183,Tryz.ntmps183;go_wp2_with fail;rw [← HW.out];go_region_held3 (fun w'=>w'.cell? ⟨w.heap.size,0,none⟩=some (.slice ao n a))
  (((try dsimp only);first | (with_reducible assumption) | (with_reducible refine zg ?_ ?_;(with_reducible assumption);(dsimp only;omega)) | (with_reducible refine A9 ?_;first | (with_reducible assumption) | (with_reducible refine yN ?_;(with_reducible assumption))) | (with_reducible refine yN ?_;(with_reducible assumption)) | (go_keep;done)))
  (first
  | (go_at_call 79;refine (J1.out _ ?_).mono ?_;(first | exact nW (mW _) | exact je _ (nW (mW _)));rintro e w2 ⟨vo,vc,rfl,n2,k2,K2⟩;have p2:=JC.out w2 K2)
  | (go_at_call_of 143 (Value.slice ao n a);refine (J2.out _ ?_).mono ?_;(first | exact K2 | exact je _ K2);rintro e w3 ⟨fo,fc,rfl,n3,k3,K3⟩;have p3:=JC.out w3 K3)
  | (go_at_call_of 143 (Value.slice xo n xc);refine (J3.out _ ?_).mono ?_;(first | exact K3 | exact je _ K3);rintro e w4 ⟨go,gc,rfl,n4,k4,K4⟩;have p4:=JC.out w4 K4;have m:=JB.out w4 K4;have q:=JB.out (w4.alloc (.cells CL 23)) (je _ K4);obtain ⟨f0,f1,f2,f3,f4⟩:=mg m;obtain ⟨g0,g1,g2,g3,g4⟩:=dM m;obtain ⟨F0,F1,F2,F3,F4⟩:=mg q;obtain ⟨G0,G1,G2,G3,G4⟩:=dM q))
 ·have b:(W.drew.alloc (.cells CL 23)).heap[W.heap.size]? = some (.cells CL 23 (0,0)):=heap_alloc_new W.drew _;have hz:=((k2.trans (k3.trans k4)).block _ (lt_of_block b) (fun f=>f)).trans b;have nz:=JM.out w4 _ K4 hz;obtain ⟨W2,c,i,HN⟩:=JF.out w4 _ _ _ _ _ _ _ _ K4 nz (n2.grew (k3.trans k4)) (n3.grew k4) n4;obtain ⟨y0,y1,y2,y3,y4⟩:=dM i;rw [← c];clear c;go_wp2_with fail;exact bodyPost_ret (v:=.agg #[.slice (some ⟨W.heap.size,0,none⟩) n n,.slice vo n vc,.slice fo L fc,.slice go L gc,.int .u64 1]) (by simp [results,Tryz.results183,go_sem,y0,y1,y2,y3,y4]) rfl ⟨_,_,_,_,_,_,_,_,rfl,HN.out⟩
 ·have b:=heap_alloc_new w2 (.cells CL 23);have hz:=((k3.trans k4).block _ (lt_of_block b) (fun f=>f)).trans b;have kA:=(ai af w2).alloc (.cells CL 23);have nz:=JM.out w4 _ K4 hz;obtain ⟨W2,c,i,HN⟩:=JF.out w4 _ _ _ _ _ _ _ _ K4 nz (n2.grew (kA.trans (k3.trans k4))) (n3.grew k4) n4;obtain ⟨y0,y1,y2,y3,y4⟩:=dM i;rw [← c];clear c;go_wp2_with fail;exact bodyPost_ret (v:=.agg #[.slice (some ⟨w2.heap.size,0,none⟩) n n,.slice vo n vc,.slice fo L fc,.slice go L gc,.int .u64 1]) (by simp [results,Tryz.results183,go_sem,y0,y1,y2,y3,y4]) rfl ⟨_,_,_,_,_,_,_,_,rfl,HN.out⟩
 ·have b:=heap_alloc_new w3 (.cells CL 23);have hz:=(k4.block _ (lt_of_block b) (fun f=>f)).trans b;have kA:=(ai af w3).alloc (.cells CL 23);have nz:=JM.out w4 _ K4 hz;obtain ⟨W2,c,i,HN⟩:=JF.out w4 _ _ _ _ _ _ _ _ K4 nz (n2.grew (k3.trans (kA.trans k4))) (n3.grew (kA.trans k4)) n4;obtain ⟨y0,y1,y2,y3,y4⟩:=dM i;rw [← c];clear c;go_wp2_with fail;exact bodyPost_ret (v:=.agg #[.slice (some ⟨w3.heap.size,0,none⟩) n n,.slice vo n vc,.slice fo L fc,.slice go L gc,.int .u64 1]) (by simp [results,Tryz.results183,go_sem,y0,y1,y2,y3,y4]) rfl ⟨_,_,_,_,_,_,_,_,rfl,HN.out⟩
 ·have hz:=heap_alloc_new w4 (.cells CL 23);have kA:=(ai af w4).alloc (.cells CL 23);have nz:=JM.out (w4.alloc (.cells CL 23)) _ (je _ K4) hz;obtain ⟨W2,c,i,HN⟩:=JF.out (w4.alloc (.cells CL 23)) _ _ _ _ _ _ _ _ (je _ K4) nz (n2.grew (k3.trans (k4.trans kA))) (n3.grew (k4.trans kA)) (n4.grew kA);obtain ⟨y0,y1,y2,y3,y4⟩:=dM i;rw [← c];clear c;go_wp2_with fail;exact bodyPost_ret (v:=.agg #[.slice (some ⟨w4.heap.size,0,none⟩) n n,.slice vo n vc,.slice fo L fc,.slice go L gc,.int .u64 1]) (by simp [results,Tryz.results183,go_sem,y0,y1,y2,y3,y4]) rfl ⟨_,_,_,_,_,_,_,_,rfl,HN.out⟩

theorem zi (ao bo lo:Option Addr) (n l a b c g:Nat) (K:Int) (A:Nat→Option Addr) (N C:Nat→Nat) (R:Bool) (hR:R=true↔(∀ i,i<c→N i=n)∧n≤130) (w:World) (hs:Slots w lo c A N C) (p:c≤1000) (hN:∀ i,i<c→N i≤1000000000) (hn:n≤1000000000) :
  Calls Tryz.prog 249 #[.agg #[.slice ao n a,.int .u64 K,.slice bo l b],.slice lo c g] w fun e w'=>e=.returned (.bool R)∧Kept af w w':=by
 have k0:Kept af w (w.alloc (.cells #[.slice ao n a,.int .u64 K,.slice bo l b] 130)):=(ai af w).alloc _;have m:(w.alloc (.cells #[.slice ao n a,.int .u64 K,.slice bo l b] 130)).heap[w.heap.size]? = some (.cells #[.slice ao n a,.int .u64 K,.slice bo l b] 130 (0,0)):=heap_alloc_new _ _;obtain ⟨p0,p1,p2⟩:=ax m;have HS:Hid (Slots (w.alloc (.cells #[.slice ao n a,.int .u64 K,.slice bo l b] 130)) lo c A N C):=hs.grew k0;have HR:=aa hR;have HN:=aa hN;clear hs m hR hN;generalize hW:w.alloc (.cells #[.slice ao n a,.int .u64 K,.slice bo l b] 130)=W at *;have HW:=aa hW;clear hW;go_enter Tryz.func249,Tryz.ntmps249;go_wp2_with (rw [HW.out])
 go_loopw [13] (fun i wr=>∃ (k:Nat),k≤c∧i=.int .i64 (k:Int)∧Hid (∀ j,j<k→N j=n)∧Kept af W wr) (fun i _=>c-(intOf i).toNat)
 case atStart=>exact ⟨0,Nat.zero_le _,rfl,fun j hj=>by omega,ai _ _⟩
 case round=>
  obtain ⟨k,hk,rfl,d,f⟩:=hrel;by_cases hkc:k<c
  ·have r:(0:Int)≤(k:Int):=Int.natCast_nonneg _;have gk:(k:Int)<(c:Int):=by omega
   obtain ⟨b2,o,rfl,q⟩:=(HS.out.grew f) k hkc;have s:=HN.out k hkc;by_cases he:N k=n
   ·have HA:Hid (∀ j,j<k+1→N j=n):=fun j hj=>by
     by_cases e:j=k
     ·subst e;exact he
     ·exact d.out j (by omega)
    generalize A k=a0 at *;generalize C k=c0 at *;rw [he] at q;clear he;go_wp2_with fail;go_roundw
    case rel=>exact ⟨k+1,by omega,by go_num,HA,f⟩
    case measure=>simp [intOf];omega
   ·have HF:Hid (R=false):=by
     unfold Hid;cases h:R with
     | false=>rfl
     | true=>exact absurd ((HR.out.1 h).1 k hkc) he
    have ge:¬ ((N k:Nat):Int)=(n:Int):=by omega
    generalize A k=a0 at *;generalize C k=c0 at *;generalize N k=n0 at *;go_wp2_with fail;go_ret;exact ⟨by rw [HF.out];rfl,k0.trans f⟩
  ·have gk:¬ (k:Int)<(c:Int):=by omega
   obtain rfl:k=c:=by omega
   have HB:Hid (R=decide ((n:Int)≤130)):=by
    unfold Hid;by_cases h:n≤130
    ·rw [aT (by omega)];exact HR.out.2 ⟨d.out,h⟩
    ·rw [aC (by omega)];cases h2:R with
     | false=>rfl
     | true=>exact absurd (HR.out.1 h2).2 h
   go_wp2_with fail;go_ret;exact ⟨by rw [HB.out];rfl,k0.trans f⟩

def Lies (u:Bool) (w w':World) (v:Value):Prop:=u=true→Fresh w v∧U64s w' v

theorem Lies.grew {u:Bool} {w w' w2:World} {v:Value} (h:Lies u w w' v) (k:Kept af w' w2):Lies u w w2 v:=fun e=>⟨(h e).1,(h e).2.grew k⟩

theorem Lies.nil (u:Bool) (w w':World):Lies u w w' (.slice none 0 0):=fun _=>⟨(fun b hb=>by cases hb),U64s.nil _⟩

theorem Lies.after {u:Bool} {w W w':World} {v:Value} (h:Lies u W w' v) (hs:w.heap.size≤W.heap.size):Lies u w w' v:=fun e=>⟨fun b hb=>Nat.le_trans hs ((h e).1 b hb),(h e).2⟩

def Asked (w:World) (o:Tr) (u:Bool) (P:Prop) (R:List Nat→Nat→Prop) (dE:List Ev) (w':World) (v':Value) (c:Nat):Prop:=
 ∃ (zs:List Nat) (m:List Ev) (o':Tr),Row .u64 w' v' zs∧Lies u w w' v'∧Did w o m w' o'∧(P→R zs c∧m=dE)∧(¬ P→zs=[]∧c=1)

theorem Ae (o:Tr) (ao bo lo:Option Addr) (n l K b g a r f:Nat) (v:Array Value) (A:Nat→Option Addr) (N C:Nat→Nat) (j:Nat→List Nat) (ms rs:List Nat) (rm:Nat) (dE:List Ev) (u:Bool) (R:List Nat→Nat→Prop) (w:World)
  (ht:TrRoom w o (a+rm)) (hm:RowT w o (.slice ao n b) ms) (hr:RowT w o (.slice bo l g) rs) (D:Digs ms) (F:Digs rs) (hK:K<18446744073709551616) (am:n≤1000000) (B:a≤1000) (H:∀ i,i<a→N i≤1000000000)
  (hs:∀ W m o',Did w o m W o'→Slots W lo a A N C) (q:∀ i,i<a→RowT w o (.slice (A i) (N i) (C i)) (j i)) (s:∀ i,i<a→Digs (j i))
  (hf:∀ args w,(callFunc f args).run Tryz.prog w=.ok (.enter f args) w)
  (G:n≤130→(∀ i,i<a→N i=n)→∀ W m o',Did w o m W o'→TrRoom W o' rm→Calls Tryz.prog f v W fun e w'=>∃ v' c,e=.returned (.tuple #[v',.int .i64 ((c:Nat):Int)])∧∃ zs m' o2,Row .u64 w' v' zs∧Lies u W w' v'∧Did W o' m' w' o2∧(okMod ms K rs→fs a n (val ms) N j→R zs c∧m'=dE)) :
  Calls Tryz.prog 230 #[aE o,.agg #[.slice ao n b,.int .u64 (K:Nat),.slice bo l g],.func (.func f) #[] v,.slice lo a r] w fun e w'=>∃ v' c,e=.returned (.tuple #[v',.int .i64 ((c:Nat):Int)]) ∧
   Asked w o u (okMod ms K rs∧fs a n (val ms) N j) R (List.replicate a (1,(n:Int),0) ++ dE) w' v' c:=by
 obtain ⟨_,_,_,e1,z,_,_,_,_⟩:=hm.1.open;cases e1
 obtain ⟨po,J⟩:=aI o;obtain ⟨V,hV⟩:∃ V,V=val ms:=⟨_,rfl⟩
 rw [← hV];rw [← hV] at G;have x:=ht.1;obtain ⟨W,hW⟩:∃ W,W=w.alloc (.cells #[.slice ao n b,.int .u64 (K:Nat),.slice bo l g] 130):=⟨_,rfl⟩
 have k0:Kept af w W:=by rw [hW];exact (ai af w).alloc _
 have y:W.heap[w.heap.size]? = some (.cells #[.slice ao n b,.int .u64 (K:Nat),.slice bo l g] 130 (0,0)):=by rw [hW];exact heap_alloc_new _ _
 have JM:Hid (∀ W' m o',Did W o m W' o'→W'.cell? ⟨w.heap.size,0,none⟩=some (.slice ao n b)∧W'.cell? ⟨w.heap.size,1,none⟩=some (.int .u64 (K:Nat))∧W'.cell? ⟨w.heap.size,2,none⟩=some (.slice bo l g)):=fun W' m o' d=>ax ((d.kept.block _ (lt_of_block y) (ay y (x.grew k0) (by decide) (by decide))).trans y)
 obtain ⟨p0,p1,p2⟩:=ax y;have K0:=aa k0;have HW:=aa hW;have P:=aa x;by_cases hlen:(∀ i,i<a→N i=n)∧n≤130
 ·have hH:=zi ao bo lo n l b g a r K A N C true (by simp only [true_iff];exact hlen) W (hs W _ _ (Did.of_kept k0 x)) B H (by omega);have JB:Hid (∀ W' m o' i,Did W o m W' o'→TrRoom W' o' 1→i<a→Calls Tryz.prog 144 #[.pointer po,.slice (A i) (N i) (C i),.slice ao n b] W' fun e w'=>e=.returned (.int .u64 ((mz (N i) n (val (j i)) V:Nat):Int))∧∃ o2,Did W' o' [(1,(n:Int),0)] w' o2):=fun W' m o' i d I hi=>by
   have M:=Did.after k0 d;obtain ⟨_,_,_,e1,O,_,_,_,_⟩:=(q i hi).1.open;cases e1
   have Q:=hlen.1 i hi;have:=mL o' _ _ (j i) ms W' I ((q i hi).did M) (hm.did M) (s i hi) D (by rw [O.out];omega) (by rw [z.out];omega);rw [O.out,z.out,Q,Nat.max_self,d.ptr,J,← hV] at this;rw [Q];refine this.mono ?_;rintro e w' ⟨rfl,h2⟩;refine ⟨?_,h2⟩;unfold mz bi;by_cases hlt:val (j i)<V
   ·rw [aT hlt,if_pos rfl,if_pos ⟨rfl,hlt⟩]
   ·rw [aC hlt,if_neg (by decide),if_neg (fun h=>hlt h.2)]
  have JD:Hid (∀ W' m o',Did W o m W' o'→TrRoom W' o' rm→Calls Tryz.prog f v W' fun e w'=>∃ v' c,e=.returned (.tuple #[v',.int .i64 ((c:Nat):Int)])∧∃ zs m' o2,Row .u64 w' v' zs∧Lies u W' w' v'∧Did W' o' m' w' o2∧(okMod ms K rs→fs a n V N j→R zs c∧m'=dE)):=fun W' m o' d I=>G hlen.2 hlen.1 W' m o' (Did.after k0 d) I
  have JK:Hid (∀ W' m o' (R:Bool),Did W o m W' o'→(R=true↔okMod ms K rs)→Calls Tryz.prog 146 #[.agg #[.slice ao n b,.int .u64 (K:Nat),.slice bo l g]] W' fun e w'=>e=.returned (.bool R)∧Kept af W' w'):=fun W' m o' R d hR=>iS ao bo n l K b g ms rs R hR W' (hm.did (Did.after k0 d)).1 (hr.did (Did.after k0 d)).1 D F hK (by omega)
  have JS:Hid (∀ W' m o',Did W o m W' o'→Slots W' lo a A N C):=fun W' m o' d=>hs W' m o' (Did.after k0 d)
  have HT:=aa ht;clear hm hr D F hK hs q s G x ht z hV hW y hlen H k0;rw [J];go_enter Tryz.func230,Tryz.ntmps230;go_wp2_with (rw [← HW.out]);refine hH.mono ?_;rintro e w1 ⟨rfl,k1⟩;have H1:Hid (Did W o [] w1 o):=Did.of_kept k1 (P.out.grew K0.out);clear hH k1 p0 p1 p2;go_wp2_with fail;go_loopw [10,21] (fun mv i wr=>∃ (k:Nat) (o1:Tr),k≤a∧i=.int .i64 (k:Int)∧mv=.int .u64 ((inN a n V N j k:Nat):Int)∧Hid (Did W o (List.replicate k (1,(n:Int),0)) wr o1)) (fun _ i _=>a-(intOf i).toNat)
  case atStart=>exact ⟨0,o,Nat.zero_le _,rfl,rfl,H1.out⟩
  case round=>
   obtain ⟨k,o1,hk,rfl,rfl,HD⟩:=hrel;by_cases hkc:k<a
   ·have al:(0:Int)≤(k:Int):=Int.natCast_nonneg _;have gk:(k:Int)<(a:Int):=by omega
    obtain ⟨q0,q1,q2⟩:=JM.out _ _ _ HD.out;obtain ⟨b2,T,rfl,ag⟩:=JS.out _ _ _ HD.out k hkc;have p:TrRoom wr o1 1:=HD.out.room (by rw [List.length_replicate];exact (HT.out.less (by omega)).grew K0.out);have hB:=JB.out wr _ o1 k HD.out p hkc;have ae:=og a n V N j k;have ad:=aa HD;clear HD p;generalize mz (N k) n (val (j k)) V=mm at *;generalize hm2:inN a n V N j (k+1)=m2 at *;have ab:=aa hm2;clear hm2;generalize inN a n V N j k=m1 at *;go_wp2_with fail;refine hB.mono ?_;rintro e w2 ⟨rfl,o2,d2⟩;have ah:=aa (ad.out.out.trans d2);clear hB d2 q0 q1 q2 ag;go_wp2_with fail;go_roundw
    case rel=>exact ⟨k+1,o2,by omega,by go_num,by rw [ab.out],by unfold Hid;rw [List.replicate_succ'];exact ah.out⟩
    case measure=>simp [intOf];omega
   ·have gk:¬ (k:Int)<(a:Int):=by omega
    obtain rfl:k=a:=by omega
    have p:TrRoom wr o1 rm:=HD.out.room (by rw [List.length_replicate];exact HT.out.grew K0.out);have hD:=JD.out wr _ o1 HD.out p;have HI:=aa (me k n V N j k);have Z:=aa (ox k n V N j k);generalize inN k n V N j k=mem at *;go_wp2_with fail;refine hD.mono ?_;rintro e w3 ⟨v3,c3,rfl,zs,m3,o3,L,S,d3,hG⟩;have D3:=aa (HD.out.trans d3);obtain ⟨ap,aj,an,rfl,_,_,_,_,_⟩:=L.open;have X:=aa L;have U:=aa (S.after (Nat.le_trans K0.out.size HD.out.size));have HG:=aa hG;obtain ⟨q0,q1,q2⟩:=JM.out _ _ _ D3.out;clear hD d3 L S hG p;by_cases hall:fs k n V N j
    ·have t:mem=1:=HI.out.2 hall;subst t;by_cases hok:okMod ms K rs
     ·go_wp2_with fail;refine (JK.out w3 _ o3 true D3.out (by simp [hok])).mono ?_;rintro e w4 ⟨rfl,k4⟩;have E:=aa (Did.after K0.out (D3.out.grew k4));have Y:=aa (X.out.grew k4);have ac:=aa (U.out.grew k4);clear k4;go_wp2_with fail;go_ret2;exact ⟨_,c3,rfl,zs,_,o3,Y.out,ac.out,E.out,fun _=>⟨(HG.out hok hall).1,by rw [(HG.out hok hall).2]⟩,fun h=>absurd ⟨hok,hall⟩ h⟩
     ·go_wp2_with fail;refine (JK.out w3 _ o3 false D3.out (by simp [hok])).mono ?_;rintro e w4 ⟨rfl,k4⟩;have E:=aa (Did.after K0.out (D3.out.grew k4));clear k4;go_wp2_with fail;go_ret2;exact ⟨_,1,rfl,[],_,o3,Row.nil _ _,Lies.nil _ _ _,E.out,fun h=>absurd h.1 hok,fun _=>⟨rfl,rfl⟩⟩
    ·have t:mem=0:=by
      have h1:mem≠1:=fun h=>hall (HI.out.1 h)
      have h2:=Z.out;omega
     subst t;have E:=aa (Did.after K0.out D3.out);go_wp2_with fail;go_ret2;exact ⟨_,1,rfl,[],_,o3,Row.nil _ _,Lies.nil _ _ _,E.out,fun h=>absurd h.2 hall,fun _=>⟨rfl,rfl⟩⟩
 ·have HP:Hid (¬ (okMod ms K rs∧fs a n V N j)):=fun h=>by
   refine hlen ⟨fun i hi=>(h.2 i hi).1,?_⟩;obtain ⟨_,_,_,e1,ak,_,_,_,_⟩:=hr.1.open;cases e1
   have h2:=(jw (K:=K) z.out rfl D F hK).1 h.1;have h3:=h2.1;unfold rfn at h3;by_cases h4:130<n
   ·rw [if_pos (by omega)] at h3;omega
   ·omega
  have hH:=zi ao bo lo n l b g a r K A N C false (by simp only [Bool.false_eq_true,false_iff];exact hlen) W (hs W _ _ (Did.of_kept k0 x)) B H (by omega);clear hm hr D F hK hs q s G x ht z hV hW y hlen H k0;rw [J];go_enter Tryz.func230,Tryz.ntmps230;go_wp2_with (rw [← HW.out]);refine hH.mono ?_;rintro e w1 ⟨rfl,k1⟩;go_wp2_with fail;go_ret2;exact ⟨_,1,rfl,[],[],o,Row.nil _ _,Lies.nil _ _ _,Did.of_kept (K0.out.trans k1) P.out,fun h=>absurd h HP.out,fun _=>⟨rfl,rfl⟩⟩

theorem Asked.after {w W:World} {o:Tr} {u:Bool} {P:Prop} {R:List Nat→Nat→Prop} {dE:List Ev} {w':World} {v':Value} {c:Nat} (k:Kept af w W) (h:Asked W o u P R dE w' v' c):Asked w o u P R dE w' v' c:=by
 obtain ⟨zs,m,o',h1,h2,h3,h4⟩:=h;exact ⟨zs,m,o',h1,h2.after k.size,Did.after k h3,h4⟩

theorem Ce (o:Tr) (ao bo xo:Option Addr) (n a rl b xc:Nat) (K:Nat) (xs ms:List Nat) (w:World) (ht:TrRoom w o 2) (hx:RowT w o (.slice xo n xc) xs) (hm:RowT w o (.slice ao n a) ms) (c:Digs xs) (f:Digs ms) (hn:n≤100000) :
  Calls Tryz.prog 232 #[aE o,.agg #[.slice ao n a,.int .u64 (K:Nat),.slice bo rl b],.slice none 0 0,.slice xo n xc] w fun e w'=>∃ v',e=.returned v'∧ij w o (List.replicate 2 (1,(n:Int),0)) n (fun Y=>val xs<val ms→digs Y n=digs (fj 0 (val xs) (val ms)) n) w' v':=by
 refine (A8 o ao bo none xo n 0 a rl b 0 xc K [] xs ms w ht ⟨Row.nil _ _,fun h=>absurd rfl h⟩ hx hm (fun d hd=>by cases hd) c f hn (Nat.zero_le _)).mono ?_;rintro e w' ⟨v',rfl,Y,o',h1,h2,h3⟩;exact ⟨v',rfl,Y,o',h1,fun h=>h2 (Nat.lt_of_le_of_lt (Nat.zero_le _) h) h,h3⟩

theorem B9 (o:Tr) (ao bo xo:Option Addr) (n l K a b xc bT bM bA:Nat) (ms xs:List Nat) (w:World)
  (ht:TrRoom w o 2) (hm:RowT w o (.slice ao n a) ms) (hx:RowT w o (.slice xo n xc) xs) (f:Digs ms) (c:Digs xs) (hn:n≤130)
  (hT:Box w bT (aE o) 127) (hM:w.heap[bM]? = some (.cells #[.slice ao n a,.int .u64 (K:Nat),.slice bo l b] 130 (0,0))) (hA:Box w bA (.slice xo n xc) 32) :
  Calls Tryz.prog 231 #[.pointer (some ⟨bT,0,none⟩),.pointer (some ⟨bM,0,none⟩),.pointer (some ⟨bA,0,none⟩)] w fun e w'=>∃ v',e=.returned (.tuple #[v',.int .i64 0])∧ij w o (List.replicate 2 (1,(n:Int),0)) n (fun Y=>val xs<val ms→digs Y n=digs (fj 0 (val xs) (val ms)) n) w' v':=by
 obtain ⟨po,d⟩:=aI o;have hS:=Ce o ao bo xo n a l b xc K xs ms w ht hx hm c f (by omega);have cT:=hT.cell;have cA:=hA.cell;obtain ⟨p0,p1,p2⟩:=ax hM;rw [d] at hS cT;clear hm hx f c hT hM hA ht d;generalize (fun Y=>val xs<val ms→digs Y n=digs (fj 0 (val xs) (val ms)) n)=G at *;go_enter Tryz.func231,Tryz.ntmps231;go_wp2_with fail;refine hS.mono ?_;rintro e w1 ⟨v1,rfl,h1⟩;clear hS cT cA p0 p1 p2;go_wp2_with fail;go_ret2;exact ⟨_,rfl,h1⟩

theorem CJ (o:Tr) (ao bo xo:Option Addr) (n l K b a N1 xc:Nat) (ms rs xs:List Nat) (w:World)
  (ht:TrRoom w o 10) (hm:RowT w o (.slice ao n b) ms) (hr:RowT w o (.slice bo l a) rs) (hx:RowT w o (.slice xo N1 xc) xs) (t:Digs ms) (D:Digs rs) (y:Digs xs) (hK:K<18446744073709551616) (F:n≤1000000) (C:N1≤1000000000) :
  Calls Tryz.prog 189 #[aE o,.agg #[.slice ao n b,.int .u64 (K:Nat),.slice bo l a],.slice xo N1 xc] w fun e w'=>∃ v' c,e=.returned (.tuple #[v',.int .i64 ((c:Nat):Int)])∧Asked w o true (okMod ms K rs∧(N1=n∧val xs<val ms)) (fun zs c=>zs=digs (fj 0 (val xs) (val ms)) n∧c=0) (List.replicate 1 (1,(n:Int),0) ++ List.replicate 2 (1,(n:Int),0)) w' v' c:=by
 have H:=eR;have he:∀ args w,(callFunc 231 args).run Tryz.prog w=.ok (.enter 231 args) w:=fun _ _=>by simp [go_sem]
 obtain ⟨po,s⟩:=aI o;obtain ⟨W,hW⟩:∃ W,W=((w.alloc (.cells #[.pointer po] 127)).alloc (.cells #[.slice ao n b,.int .u64 (K:Nat),.slice bo l a] 130)).alloc (.cells #[.slice xo N1 xc] 32):=⟨_,rfl⟩
 have k0:Kept af w W:=by rw [hW];exact (((ai af w).alloc _).alloc _).alloc _
 have z:Box W w.heap.size (.pointer po) 127:=by rw [hW];exact ((Box.new w _ _).alloc _).alloc _
 have j:W.heap[w.heap.size+1]? = some (.cells #[.slice ao n b,.int .u64 (K:Nat),.slice bo l a] 130 (0,0)):=by
  rw [hW];refine ap ?_;have:=heap_alloc_new (w.alloc (.cells #[.pointer po] 127)) (.cells #[.slice ao n b,.int .u64 (K:Nat),.slice bo l a] 130)
  rwa [show (w.alloc (.cells #[.pointer po] 127)).heap.size=w.heap.size+1 by simp] at this
 have A:Box W (w.heap.size+1+1) (.slice xo N1 xc) 32:=by
  rw [hW];have:=Box.new ((w.alloc (.cells #[.pointer po] 127)).alloc (.cells #[.slice ao n b,.int .u64 (K:Nat),.slice bo l a] 130)) (.slice xo N1 xc) 32
  rwa [show ((w.alloc (.cells #[.pointer po] 127)).alloc (.cells #[.slice ao n b,.int .u64 (K:Nat),.slice bo l a] 130)).heap.size=w.heap.size+1+1 by simp] at this
 obtain ⟨Wl,r⟩:∃ Wl,Wl=W.alloc (.cells #[.slice xo N1 xc] 32):=⟨_,rfl⟩
 have kl:Kept af W Wl:=by rw [r];exact (ai af W).alloc _
 have q:Wl.heap[W.heap.size]? = some (.cells #[.slice xo N1 xc] 32 (0,0)):=by rw [r];exact heap_alloc_new _ _
 have kk:=k0.trans kl;have g:=Ae o ao bo (some ⟨W.heap.size,0,none⟩) n l K b a 1 1 231 #[.pointer (some ⟨w.heap.size,0,none⟩),.pointer (some ⟨w.heap.size+1,0,none⟩),.pointer (some ⟨w.heap.size+1+1,0,none⟩)]
  (fun _=>xo) (fun _=>N1) (fun _=>xc) (fun _=>xs) ms rs 9 (List.replicate 2 (1,(n:Int),0)) true (fun zs c=>zs=digs (fj 0 (val xs) (val ms)) n∧c=0) Wl
  (ht.grew kk) (hm.grew kk) (hr.grew kk) t D hK (by omega) (by omega)
  (fun i hi=>C)
  (fun W' m o' d=>kj ((d.kept.block _ (lt_of_block q) (ay q (ht.grew kk).1 (by decide) (by decide))).trans q))
  (fun i hi=>hx.grew kk)
  (fun i hi=>y)
  he
  (fun hn v W' m o' d k=>by
   have x:=(ht.grew kk).1;have e1:N1=n:=v 0 (by omega);subst e1;refine (B9 o' ao bo xo N1 l K b a xc w.heap.size (w.heap.size+1) (w.heap.size+1+1) ms xs W' (k.less (by omega)) ((hm.grew kk).did d) ((hx.grew kk).did d) t y hn (by rw [d.ptr,s];exact (z.grew kl).did d x (by decide) (by decide)) ((d.kept.block _ (lt_of_block ((kl.block _ (lt_of_block j) (fun f=>f)).trans j)) (ay ((kl.block _ (lt_of_block j) (fun f=>f)).trans j) x (by decide) (by decide))).trans ((kl.block _ (lt_of_block j) (fun f=>f)).trans j)) ((A.grew kl).did d x (by decide) (by decide))).mono ?_;rintro e w' ⟨v',rfl,Y,o2,h1,h2,h3⟩
   refine ⟨v',0,rfl,_,_,o2,aY h1 (ag _ _ _),(fun _=>⟨Fresh.own h1 (leR _),U64s.own h1⟩),h3,fun I G=>⟨⟨h2 (G 0 (by omega)).2,rfl⟩,rfl⟩⟩)
 have p:(okMod ms K rs∧fs 1 n (val ms) (fun _=>N1) (fun _=>xs))↔(okMod ms K rs∧(N1=n∧val xs<val ms)):=
  and_congr_right fun _=>⟨fun h=>h 0 (by omega),fun h i hi=>h⟩
 rw [p] at g;have HB:Hid (∀ w' v' c,Asked Wl o true (okMod ms K rs∧(N1=n∧val xs<val ms)) (fun zs c=>zs=digs (fj 0 (val xs) (val ms)) n∧c=0) (List.replicate 1 (1,(n:Int),0) ++ List.replicate 2 (1,(n:Int),0)) w' v' c→Asked w o true (okMod ms K rs∧(N1=n∧val xs<val ms)) (fun zs c=>zs=digs (fj 0 (val xs) (val ms)) n∧c=0) (List.replicate 1 (1,(n:Int),0) ++ List.replicate 2 (1,(n:Int),0)) w' v' c):=fun w' v' c h=>h.after kk
 have B:W.heap.size=w.heap.size+1+1+1:=by rw [hW];simp
 rw [B] at g;have HW:=aa hW;have E:=aa r;obtain ⟨c3,c4,c5⟩:=ax j;have c0:=z.cell;have c1:=A.cell;rw [s] at g ⊢;clear ht hm hr hx t D y hK F s k0 z j A hW r q kk kl he B p C;generalize (okMod ms K rs∧(N1=n∧val xs<val ms))=PP at *;generalize (fun zs c=>zs=digs (fj 0 (val xs) (val ms)) n∧c=0)=RR at *;generalize List.replicate 1 (1,(n:Int),0) ++ List.replicate 2 (1,(n:Int),0)=EE at *;go_enter Tryz.func189,Tryz.ntmps189;go_wp2_with fail;rw [← HW.out,← E.out];refine g.mono ?_;rintro e w1 ⟨v1,c,rfl,h1⟩;have H1:=aa (HB.out _ _ _ h1);clear g h1 c0 c1 c3 c4 c5;go_wp2_with fail;go_ret2;exact ⟨_,c,rfl,H1.out⟩

end Go.Proofs.YtcemlfokmjjiaaaGreatDoor
