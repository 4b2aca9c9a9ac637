/- Put together of: Iva3. -/
import Derived.Test.YtkaojflnghfmcaaGreatDoorQC19

namespace Go.Proofs.YtkaojflnghfmcaaGreatDoor
open _root_.Go.Proofs.Tryz
set_option maxRecDepth 100000
set_option maxHeartbeats 4000000
open Go.RowKit

def qO (n:Nat):List Ev:=List.replicate 8 (1,(n:Int),0) ++ List.replicate 4 (1,((n+1:Nat):Int),0)

theorem m6 (n:Nat):(qO n).length=12:=rfl

theorem Ej {W:World} {a:Addr} {p:Nat} {x y z u v q:Value} (h:W.cell? a=some q) (b:a.block≠p):(((((W.setCell ⟨p,0,none⟩ x).setCell ⟨p,1,none⟩ y).setCell ⟨p,2,none⟩ z).setCell ⟨p,3,none⟩ u).setCell ⟨p,4,none⟩ v).cell? a=some q:=by
 have e:∀ (w:World) (j:Nat) (r:Value),(w.setCell ⟨p,j,none⟩ r).cell? a=w.cell? a:=fun w j r=>by
  unfold World.cell?;rw [Below.heap_setCell w ⟨p,j,none⟩ r a.block b]
 rw [e,e,e,e,e];exact h

theorem GH {w0:World} {o0:Tr} {m:List Ev} {po:Option Addr} {k:Nat} (n M U V t a:Nat) (d F G:Int) (uo vo fo go ao bo:Option Addr) (uc vc fc gc b l K f:Nat) {w:World} {o:Tr} (s:Wr w0 o0 m w o (.pointer po) (k+12)) (P:StIn (18446744073709551616^n) t (d,F,G)) (ht:t<=100000) (hm:NumT w o (.slice ao n b) n M) (hu:NumT w o (.slice uo n uc) n U) (hv:NumT w o (.slice vo n vc) n V) (hf:NumT w o (.slice fo (n+1) fc) (n+1) (tcN (18446744073709551616^(n+1)) F)) (hg:NumT w o (.slice go (n+1) gc) (n+1) (tcN (18446744073709551616^(n+1)) G)) (aM:0<n) (hn:n<=800) :
  Calls prog 191 #[.pointer po,.agg #[.slice ao n b,.int .u64 (K:Nat),.slice bo l f],.agg #[.slice uo n uc,.slice vo n vc,.slice fo (n+1) fc,.slice go (n+1) gc,.int .u64 (tcN 18446744073709551616 d:Nat)]] w fun e w'=>∃ (u' v' f' g':Value),e=.returned (.agg #[u',v',f',g',.int .u64 (tcN 18446744073709551616 (dst (d,F,G)).1:Nat)])/\∃ (U' V':Nat) (o':Tr),Hid (M<18446744073709551616^n->M%2=1->F%2=1->CoOk M a U V (d,F,G)->CoOk M a U' V' (dst (d,F,G)))/\NumN w' o' u' n U'/\NumN w' o' v' n V'/\NumN w' o' f' (n+1) (tcN (18446744073709551616^(n+1)) (dst (d,F,G)).2.1)/\NumN w' o' g' (n+1) (tcN (18446744073709551616^(n+1)) (dst (d,F,G)).2.2)/\Did w o (qO n) w' o'/\Wr w0 o0 (m ++ qO n) w' o' (.pointer po) k:=by
 obtain ⟨E,y,od,sw,mk,A,C,D',x,hb⟩:=DH d G (by have:=P.1;dsimp only at this;omega) (by have:=P.1;dsimp only at this;omega);obtain ⟨z1,z2,z3,z4⟩:=BD P hb.hod hb.hso hb.esw;have eD:tcN 18446744073709551616 (dst (d,F,G)).1=D':=by rw [ug,<- hb.esw];exact hb.eD.symm
 have Q:sw<=1:=by have:=hb.hso;omega
 have aB:x<=1:=by have:=hb.hso;omega
 have J:tcN (18446744073709551616^(n+1)) G%2=od:=by
  have:=F7 (B:=18446744073709551616^(n+1)) P.2.2 (by rw [aH];omega) (by rw [aH];omega);have h2:=hb.hod;dsimp only at this;omega
 rw [eD];have aJ:Hid (∀ V':Nat,qV n M U V sw od V'->M<18446744073709551616^n->M%2=1->F%2=1->CoOk M a U V (d,F,G)->CoOk M a (cC sw V U) V' (dst (d,F,G))):=fun V' hc hM h2 hF ap=>by
  obtain ⟨c1,c2⟩:=hc hM h2 ap.1 ap.2.1;refine ap.step h2 hF ?_ c1 ?_
  ·rw [<- hb.esw];unfold cC;by_cases e:sw=1
   ·rw [ah (by omega),ah e]
   ·rw [ai (by omega),ai e]
  ·rw [<- hb.esw,<- hb.hod];exact c2
 obtain ⟨F',ak⟩:∃ F',F'=(dst (d,F,G)).2.1:=⟨_,rfl⟩
 obtain ⟨G',al⟩:∃ G',G'=(dst (d,F,G)).2.2:=⟨_,rfl⟩
 obtain ⟨L,hL⟩:∃ L,L=n+1:=⟨_,rfl⟩
 have ar:0<L:=by omega
 have aP:L<=801:=by omega
 rw [<- ak] at z2;rw [<- al] at z4;rw [<- ak,<- al];have av:∀ (c:Nat) (v:Value) (X:Nat) {w0:World} {o0:Tr} {m:List Ev} {tp:Value} {k:Nat} {w:World} {o:Tr} (s:Wr w0 o0 m w o tp (k+1)) (h:NumT w o v L X) (hc:c=X/(9223372036854775808*18446744073709551616^n)) (ay:c<=1),
  Calls prog 232 #[tp,v] w fun e w'=>∃ (v':Value),e=.returned v'/\∃ (Z:Nat) (o':Tr),Hid (Z=(X+c%2*18446744073709551616^L)/2)/\NumN w' o' v' L Z/\Did w o [(1,(L:Int),0)] w' o'/\Wr w0 o0 (m ++ [(1,(L:Int),0)]) w' o' tp k:=by
  intro c v X w0 o0 m tp k w o s h hc ay;rw [hL] at h ⊢;exact GF n X c v s h (by omega) hc ay
 have HE:Hid (qO n=List.replicate 8 (1,(n:Int),0) ++ ([(1,(L:Int),0)] ++ [(1,(L:Int),0),(1,(L:Int),0)] ++ [(1,(L:Int),0)])):=by
  unfold Hid qO;rw [hL];rfl
 rw [<- hL] at z1 z2 z3 z4 hf hg J ⊢;obtain ⟨TG,Y⟩:∃ TG,TG=tcN (18446744073709551616^L) G:=⟨_,rfl⟩
 obtain ⟨TF,T⟩:∃ TF,TF=tcN (18446744073709551616^L) F:=⟨_,rfl⟩
 obtain ⟨TX,an⟩:∃ TX,TX=tcN (18446744073709551616^L) (G+(G%2-2*(swN d G:Int))*F):=⟨_,rfl⟩
 obtain ⟨D,hD⟩:∃ D,D=tcN 18446744073709551616 d:=⟨_,rfl⟩
 rw [<- Y,<- T,<- an] at z1;rw [<- Y,<- T] at z2;rw [<- an] at z3 z4;rw [<- T] at hf;rw [<- Y] at hg J;rw [<- hD] at hb ⊢;obtain ⟨W,hW⟩:∃ W,W=((w.alloc (.cells #[.slice ao n b,.int .u64 (K:Nat),.slice bo l f] 70)).alloc (.cells #[.slice uo n uc,.slice vo n vc,.slice fo L fc,.slice go L gc,.int .u64 (D:Nat)] 217)).alloc (.cells #[.slice none 0 0,.slice none 0 0,.slice none 0 0,.slice none 0 0,.int .u64 0] 217):=⟨_,rfl⟩
 have k0:Kept af w W:=by rw [hW];exact (((aj af w).alloc _).alloc _).alloc _
 have b1:W.heap[w.heap.size]? = some (.cells #[.slice ao n b,.int .u64 (K:Nat),.slice bo l f] 70 (0,0)):=by rw [hW];exact au (au (heap_alloc_new _ _))
 have b2:W.heap[w.heap.size+1]? = some (.cells #[.slice uo n uc,.slice vo n vc,.slice fo L fc,.slice go L gc,.int .u64 (D:Nat)] 217 (0,0)):=by
  rw [hW];refine au ?_;have:=heap_alloc_new (w.alloc (.cells #[.slice ao n b,.int .u64 (K:Nat),.slice bo l f] 70)) (.cells #[.slice uo n uc,.slice vo n vc,.slice fo L fc,.slice go L gc,.int .u64 (D:Nat)] 217);simpa using this
 have b3:W.heap[w.heap.size+1+1]? = some (.cells #[.slice none 0 0,.slice none 0 0,.slice none 0 0,.slice none 0 0,.int .u64 0] 217 (0,0)):=by
  rw [hW];have:=heap_alloc_new ((w.alloc (.cells #[.slice ao n b,.int .u64 (K:Nat),.slice bo l f] 70)).alloc (.cells #[.slice uo n uc,.slice vo n vc,.slice fo L fc,.slice go L gc,.int .u64 (D:Nat)] 217)) (.cells #[.slice none 0 0,.slice none 0 0,.slice none 0 0,.slice none 0 0,.int .u64 0] 217);simpa using this
 have S:TrIn W o:=s.room.1.grew k0;have JC:Hid (∀ W' m' o',Did W o m' W' o'->(W'.cell? ⟨w.heap.size,0,none⟩=some (.slice ao n b)/\W'.cell? ⟨w.heap.size,1,none⟩=some (.int .u64 (K:Nat))/\W'.cell? ⟨w.heap.size,2,none⟩=some (.slice bo l f))/\(W'.cell? ⟨w.heap.size+1,0,none⟩=some (.slice uo n uc)/\W'.cell? ⟨w.heap.size+1,1,none⟩=some (.slice vo n vc)/\W'.cell? ⟨w.heap.size+1,2,none⟩=some (.slice fo L fc)/\W'.cell? ⟨w.heap.size+1,3,none⟩=some (.slice go L gc)/\W'.cell? ⟨w.heap.size+1,4,none⟩=some (.int .u64 (D:Nat)))):=fun W' m' o' d=>
  ⟨aw (d.cells b1 S (by decide) (by decide)),il (d.cells b2 S (by decide) (by decide))⟩
 have JR:Hid (∀ W' m' o',Did W o m' W' o'->W'.heap[w.heap.size+1+1]? = some (.cells #[.slice none 0 0,.slice none 0 0,.slice none 0 0,.slice none 0 0,.int .u64 0] 217 (0,0))):=fun W' m' o' d=>d.cells b3 S (by decide) (by decide)
 have dW:Did W o [] W o:=Did.of_kept (aj af W) S;have sW:Wr W o [] W o (.pointer po) (k+12):=⟨dW,s.room.grew k0,s.ptr⟩
 have HG:=aa (hg.grew k0);have HF:=aa (hf.grew k0)
 -- the lowest word of g
 obtain ⟨_,_,_,e1,_,_,_,_,O⟩:=(hg.grew k0).1.1.open;cases e1
 obtain ⟨gb,I,rfl,aA⟩:=eC (O 0 ar) ar;have az:dig TG 0=TG%18446744073709551616:=by unfold dig;rw [cw,eX]
 rw [az,aU] at aA;have N:=and_one_u64 ((TG%18446744073709551616:Nat):Int) (by omega) (by omega);rw [show ((TG%18446744073709551616:Nat):Int)%2=(od:Int) by omega] at N;generalize TG%18446744073709551616=T0 at *;have hE:=hb.hE;have hy:=hb.hy;have aN:=hb.hsw;have hA:=hb.hA;have h1:=hb.h1;have hC:=hb.hC;have aL:=hb.hD;have am:=qQ (sw:Int) (by omega) (by omega) W;rw [hb.hmk] at am
 have J1:Hid (∀ W',Kept af W W'->Calls prog 231 #[.agg #[.slice uo n uc,.slice vo n vc],.pointer po,.agg #[.slice ao n b,.int .u64 (K:Nat),.slice bo l f],.int .u64 (sw:Nat),.int .u64 (od:Nat)] W' fun e w'=>∃ (r:Option Addr) (p:Nat) (H:Option Addr) (z:Nat),e=.returned (.agg #[.slice r n p,.slice H n z])/\∃ (U' V':Nat) (o':Tr),Hid (U'=cC sw V U/\qV n M U V sw od V')/\NumN w' o' (.slice r n p) n U'/\NumN w' o' (.slice H n z) n V'/\Wr W o (List.replicate 8 (1,(n:Int),0)) w' o' (.pointer po) (k+4)):=fun W' kk=>by
  refine (iCo n M U V sw od x uo vo ao bo uc vc b l K f (k:=k+4) (sW.grew kk) hb.hso hb.hx ((hm.grew k0).grew kk) ((hu.grew k0).grew kk) ((hv.grew k0).grew kk) aM (by omega)).mono ?_;rintro e w' ⟨u',v',rfl,U',V',o',q,nu,nv,_,s'⟩;obtain ⟨r,p,rfl⟩:=nu.1.shape;obtain ⟨H,z,rfl⟩:=nv.1.shape;exact ⟨r,p,H,z,rfl,U',V',o',q,nu,nv,s'⟩
 have J2:Hid (∀ W' o',Wr W o (List.replicate 8 (1,(n:Int),0)) W' o' (.pointer po) (k+4)->Calls prog 94 #[.pointer po,.int .u64 (sw:Nat),.slice (some ⟨gb,I,none⟩) L gc,.slice fo L fc] W' fun e w'=>∃ (xo:Option Addr) (xc:Nat),e=.returned (.slice xo L xc)/\∃ (Z:Nat) (i:Tr),Hid (Z=cC sw TG TF)/\NumN w' i (.slice xo L xc) L Z/\Did W' o' [(1,(L:Int),0)] w' i/\Wr W o (List.replicate 8 (1,(n:Int),0) ++ [(1,(L:Int),0)]) w' i (.pointer po) (k+3)):=fun W' o' s'=>by
  refine (oG sw L TG TF _ _ (k:=k+3) s' Q (HG.out.did s'.did) (HF.out.did s'.did) (by omega)).mono ?_;rintro e w' ⟨v',rfl,Z,i,q,nz,d',R⟩;obtain ⟨xo,xc,rfl⟩:=nz.1.shape;exact ⟨xo,xc,rfl,Z,i,q,nz,d',R⟩
 have J3:Hid (∀ W' o' m',Wr W o m' W' o' (.pointer po) (k+3)->Calls prog 233 #[.pointer po,.int .u64 (sw:Nat),.int .u64 (od:Nat),.slice (some ⟨gb,I,none⟩) L gc,.slice fo L fc] W' fun e w'=>∃ (v':Value),e=.returned v'/\∃ (Z:Nat) (i:Tr),Hid (Z=TX)/\NumN w' i v' L Z/\Did W' o' [(1,(L:Int),0),(1,(L:Int),0)] w' i/\Wr W o (m' ++ [(1,(L:Int),0),(1,(L:Int),0)]) w' i (.pointer po) (k+1)):=fun W' o' m' s'=>by
  refine (GE sw od x L TG TF _ _ (k:=k+1) s' Q aB hb.hx (HG.out.did s'.did) (HF.out.did s'.did) (by omega)).mono ?_;rintro e w' ⟨v',rfl,Z,i,q,nz,d',R⟩;exact ⟨v',rfl,Z,i,q.out.trans z1,nz,d',R⟩
 have J4:Hid (∀ W' o' m' v',Wr W o m' W' o' (.pointer po) (k+1)->NumN W' o' v' L TX->Calls prog 232 #[.pointer po,v'] W' fun e w'=>∃ (xo:Option Addr) (xc:Nat),e=.returned (.slice xo L xc)/\∃ (i:Tr),NumN w' i (.slice xo L xc) L (tcN (18446744073709551616^L) G')/\Did W' o' [(1,(L:Int),0)] w' i/\Wr W o (m' ++ [(1,(L:Int),0)]) w' i (.pointer po) k):=fun W' o' m' v' s' nv=>by
  refine (av _ v' TX s' nv.1 rfl z3).mono ?_;rintro e w' ⟨v',rfl,Z,i,q,nz,d',R⟩;rw [q.out,z4] at nz;obtain ⟨xo,xc,rfl⟩:=nz.1.shape;exact ⟨xo,xc,rfl,i,nz,d',R⟩
 have HW:=aa hW;have HK:=aa k0;have HS:=aa s;have Z2:=aa z2;have aO:Hid (w.heap.size+1+1<=W.heap.size):=by have:=lt_of_block b3;unfold Hid;omega
 obtain ⟨⟨c0,c1,c2⟩,c3,c4,c5,c6,c7⟩:=JC.out W [] o dW;clear hm hu hv hf hg hW k0 s P b1 b2 b3 dW sW S z1 z2 z3 z4 hb O az J eD Y T an hD ak al hL av HG HF aB;go_enter func191,ntmps191;go_wp2_with (rw [<- HW.out]);refine am.mono ?_;rintro e w1 ⟨rfl,rfl⟩;clear am N hE hy aN aA;go_wp2_with fail
 go_region_held3 (fun w'=>(w'.cell? ⟨w.heap.size,0,none⟩=some (.slice ao n b)/\w'.cell? ⟨w.heap.size,1,none⟩=some (.int .u64 (K:Int))/\w'.cell? ⟨w.heap.size,2,none⟩=some (.slice bo l f))/\(w'.cell? ⟨w.heap.size+1,0,none⟩=some (.slice uo n uc)/\w'.cell? ⟨w.heap.size+1,1,none⟩=some (.slice vo n vc)/\w'.cell? ⟨w.heap.size+1,2,none⟩=some (.slice fo L fc)/\w'.cell? ⟨w.heap.size+1,3,none⟩=some (.slice (some ⟨gb,I,none⟩) L gc)/\w'.cell? ⟨w.heap.size+1,4,none⟩=some (.int .u64 (D:Int))))
  (((try dsimp only);(repeat' apply And.intro) <;> first | (with_reducible assumption) | (with_reducible refine Ej ?_ ?_;(with_reducible assumption);(dsimp only;omega)) | (go_keep;done)))
  (first
  | (go_at_call 231;refine (J1.out _ ?_).mono ?_;(exact sL (sM _));rintro e w2 ⟨r,p,H,z,rfl,U',V',o2,q2,aD,aF,s2⟩;obtain ⟨⟨p0,p1,p2⟩,p3,p4,p5,p6,p7⟩:=JC.out w2 _ o2 s2.did)
  | (go_at_call 94;refine (J2.out _ o2 s2).mono ?_;rintro e w3 ⟨ad,ac,rfl,Z3,o3,q3,n3,d3,s3⟩;obtain ⟨⟨r0,r1,r2⟩,r3,r4,r5,r6,r7⟩:=JC.out w3 _ o3 s3.did)
  | (go_at_call 233;refine (J3.out _ o3 _ s3).mono ?_;rintro e w4 ⟨v4,rfl,Z4,o4,q4,n4,d4,s4⟩;obtain ⟨⟨t0,t1,t2⟩,t3,t4,t5,t6,t7⟩:=JC.out w4 _ o4 s4.did)
  | (go_at_call 232;refine (J4.out _ o4 _ _ s4 (by rw [<- q4.out];exact n4)).mono ?_;rintro e w5 ⟨ag,ae,rfl,o5,n5,d5,s5⟩;obtain ⟨⟨x0,x1,x2⟩,x3,x4,x5,x6,x7⟩:=JC.out w5 _ o5 s5.did;have j:=JR.out w5 _ o5 s5.did;obtain ⟨f0,f1,f2,f3,f4⟩:=ri j;obtain ⟨g0,g1,g2,g3,g4⟩:=il j))
 all_goals
  have aE:=((aD.did d3 s2.room.1).did d4 s3.room.1).did d5 s4.room.1;have aG:=((aF.did d3 s2.room.1).did d4 s3.room.1).did d5 s4.room.1;have aC:=(n3.did d4 s3.room.1).did d5 s4.room.1;have aq:=Fz j (.slice r n p) (.slice H n z) (.slice ad L ac) (.slice ag L ae) (.int .u64 (D':Int));obtain ⟨y0,y1,y2,y3,y4⟩:=il aq;have kp:=Av w5 (w.heap.size+1+1) (.slice r n p) (.slice H n z) (.slice ad L ac) (.slice ag L ae) (.int .u64 (D':Int));have ax:=aI j s5.room.1 (by decide) (by decide);have NU:=aa (aE.put j (by decide) kp);have NV:=aa (aG.put j (by decide) kp);have NF:=aa (aC.put j (by decide) kp)
  have NG:=aa (n5.put j (by decide) kp);have ab:=s5.did;rw [dr,dr,<- dr [(1,(L:Int),0)],<- HE.out] at ab;have D8:=aa ((Did.after HK.out ab).wroteNew kp (by omega) ax);have Q3:=Z2.out;rw [<- q3.out] at Q3;have aK:=aa Q3;clear aE aG aC aq kp ax j Q3 ab aD aF n3 n4 n5 d3 d4 d5 s2 s3 s4 s5 x0 x1 x2 x3 x4 x5 x6 x7 p0 p1 p2 p3 p4 p5 p6 p7 r0 r1 r2 r3 r4 r5 r6 r7 t0 t1 t2 t3 t4 t5 t6 t7 J1 J2 J3 J4 hA h1 hC aL;go_wp2_with fail
  refine bodyPost_ret (v:=.agg #[.slice r n p,.slice H n z,.slice ad L ac,.slice ag L ae,.int .u64 (D':Int)]) (by simp [results,results191,go_sem,y0,y1,y2,y3,y4]) rfl ⟨_,_,_,_,rfl,U',V',o5,?_,NU.out,NV.out,?_,NG.out,D8.out,HS.out.next D8.out (by rw [m6];omega)⟩
  ·have:=aJ.out V' q2.out.2;rw [<- q2.out.1] at this;exact this
  ·have:=NF.out;rw [aK.out] at this;exact this

theorem EX (b:Int) (w:World):Calls prog 190 #[.int .i64 b] w fun e w'=>e=.returned (.int .i64 (rT b))/\w'=w:=by
 have h0:1<=ia b:=by unfold ia;omega
 have h1:ia b<=8320:=by unfold ia;omega
 have hb:min (max b 1) 8320=ia b:=rfl;unfold rT;generalize ia b=c at *;by_cases h:c<46
 ·rw [ah h];go_enter func190,ntmps190;go_wp2;go_ret;exact ⟨rfl,rfl⟩
 ·rw [ai h];go_enter func190,ntmps190;go_wp2;go_ret;exact ⟨rfl,rfl⟩

theorem zl {n:Nat} (h0:0<n) (hn:n<=130):rT (64*(n:Int))=((stp n:Nat):Int):=by
 unfold rT ia stp;have e:min (max (64*(n:Int)) 1) 8320=64*(n:Int):=by omega
 rw [e,ai (by omega)];omega

theorem Fp (x:Nat) (hx:x<18446744073709551616) (n:Int) (m:Nat) (hm:ji n=m+1) (w:World) :
  Calls prog 144 #[.int .u64 x,.int .i64 n] w fun r w'=>r=.returned (.slice (some ⟨w.heap.size,0,none⟩) (m+1) (m+1))/\OwnN .u64 24 w' w.heap.size (.slice (some ⟨w.heap.size,0,none⟩) (m+1) (m+1)) (m+1) (digs x (m+1))/\Kept af w w':=by
 obtain ⟨i0,c,e,f,g⟩:=info_parts Tryz.info24;have hb:m+1<=300:=by rw [<- hm];unfold ji;omega
 have hc:min (max n 1) 300=((m+1:Nat):Int):=by rw [<- hm];unfold ji;omega
 rw [iX x m hx];clear hm;go_enter func144,ntmps144;go_wp2_with (at_make;refine wpList_make_full _ rfl _ _ 23 rfl w.heap.size 24 i0 _ 1 underlying23 c e f _ _ _ _ (m+1) rfl rfl (by first | exact hc | rfl) (by first | exact hc | rfl) (by rw [g];omega) (by unfold maxLen;omega) (leR _) ?_;intro w1 a b;rw [bg] at a;have k1:=aV b;have i:w1.cell? ⟨w.heap.size,0,none⟩=some (.int .u64 0):=(by rw [World.ownsRow.cellAt a 0 (by omega)];rfl);have hf:=World.ownsRow.frozenAt a 0;have d:=(World.ownsRow.stored a 0 (.int .u64 (x:Nat))).1);go_ret;refine ⟨rfl,?_,k1.setCell _ (fun h=>by simp at h) _⟩;simpa [OwnN,iZ] using d

theorem Fq (x:Nat) (hx:x<18446744073709551616) (n:Nat) (a:0<n) (hn:n<=300) (w:World) :
  Calls prog 144 #[.int .u64 x,.int .i64 (n:Nat)] w fun r w'=>r=.returned (.slice (some ⟨w.heap.size,0,none⟩) n n)/\OwnN .u64 24 w' w.heap.size (.slice (some ⟨w.heap.size,0,none⟩) n n) n (digs x n)/\Kept af w w':=by
 obtain ⟨m,rfl⟩:∃ m,n=m+1:=⟨n-1,by omega⟩
 exact Fp x hx _ m (by unfold ji;omega) w

theorem NumN.grew {w w':World} {o:Tr} {v:Value} {n X:Nat} (h:NumN w o v n X) (k:Kept af w w'):NumN w' o v n X:=⟨h.1.grew k,h.2.grew k⟩

theorem GU {W:World} {a:Addr} {O:Obj} {v:Value} (h:W.cell? a=some v):(W.alloc O).cell? a=some v:=((aj af W).alloc O).cellN h

theorem Ek {W:World} {a:Addr} {v:Value} (h:W.cell? a=some v):W.drew.cell? a=some v:=((aj af W).drew).cellN h

theorem AG {W:World} {g n:Nat} {CL:Array Value} (c:CL=madeCells #[Value.int .u64 0] n) (h:W.heap[g]? = some (.cells CL 24 (0,0))) (hn:n<=1000) (o:Tr) (ti:TrIn W o):NumN W o (.slice (some ⟨g,0,none⟩) n n) n 0:=by
 have a:CL=((List.replicate n 0).map fun z:Nat=>Value.int .u64 (z:Int)).toArray:=by
  have h:=bg .u64 n;rw [bD] at h;rw [<- h,c];simp [Value.cells]
 rw [a] at h;have hz:digs 0 n=List.replicate n 0:=by
  have:=ir (ys:=[]) (V:=0) (m:=n) (Digs.nil _) rfl (aP _);simpa using this
 have b:OwnN .u64 24 W g (.slice (some ⟨g,0,none⟩) n n) n (digs 0 n):=by rw [hz];exact dD h (by simp) (by unfold maxLen;omega) (leR _)
 exact NumN.own b (aC (by omega)) ti

theorem Iq (n M A:Nat) (ao bo xo:Option Addr) (a l K d xc:Nat) (w:World) (o:Tr) (ti:TrIn w o) (hm:NumT w o (.slice ao n a) n M) (hx:NumT w o (.slice xo n xc) n A) (y:0<n) (hn:n<=130) :
  Calls prog 189 #[.agg #[.slice ao n a,.int .u64 (K:Nat),.slice bo l d],.slice xo n xc] w fun e w'=>∃ (uo:Option Addr) (uc:Nat) (vo:Option Addr) (vc:Nat) (fo:Option Addr) (fc:Nat) (go:Option Addr) (gc:Nat),e=.returned (.agg #[.slice uo n uc,.slice vo n vc,.slice fo (n+1) fc,.slice go (n+1) gc,.int .u64 1])/\NumN w' o (.slice uo n uc) n 0/\NumN w' o (.slice vo n vc) n 1/\NumN w' o (.slice fo (n+1) fc) (n+1) M/\NumN w' o (.slice go (n+1) gc) (n+1) A/\Kept af w w':=by
 obtain ⟨i0,q,c,s,t⟩:=info_parts Tryz.info24;obtain ⟨L,hL⟩:∃ L,L=n+1:=⟨_,rfl⟩
 have B:IntKind.i64.wrap ((n:Int)+1)=(L:Int):=by rw [hL];simp [IntKind.wrap,IntKind.bits,IntKind.signed];omega
 have z:L<=131:=by omega
 have lM:M<18446744073709551616^L:=by have:=hm.2;rw [hL,aH];omega
 have lA:A<18446744073709551616^L:=by have:=hx.2;rw [hL,aH];omega
 have l1:1<18446744073709551616^n:=Nat.one_lt_pow (by omega) (by omega);rw [<- hL];obtain ⟨W,hW⟩:∃ W,W=(w.alloc (.cells #[.slice ao n a,.int .u64 (K:Nat),.slice bo l d] 70)).alloc (.cells #[.slice none 0 0,.slice none 0 0,.slice none 0 0,.slice none 0 0,.int .u64 0] 217):=⟨_,rfl⟩
 have k0:Kept af w W:=by rw [hW];exact ((aj af w).alloc _).alloc _
 have b1:W.heap[w.heap.size]? = some (.cells #[.slice ao n a,.int .u64 (K:Nat),.slice bo l d] 70 (0,0)):=by rw [hW];exact au (heap_alloc_new _ _)
 have b2:W.heap[w.heap.size+1]? = some (.cells #[.slice none 0 0,.slice none 0 0,.slice none 0 0,.slice none 0 0,.int .u64 0] 217 (0,0)):=by
  rw [hW];have:=heap_alloc_new (w.alloc (.cells #[.slice ao n a,.int .u64 (K:Nat),.slice bo l d] 70)) (.cells #[.slice none 0 0,.slice none 0 0,.slice none 0 0,.slice none 0 0,.int .u64 0] 217);simpa using this
 obtain ⟨CL,j⟩:∃ CL,CL=madeCells #[Value.int .u64 0] n:=⟨_,rfl⟩
 have C:∀ W,(Instr.makeSlice 23 (.int .i64 (n:Int)) (.int .i64 (n:Int))).run prog W=.ok (.slice (some ⟨W.heap.size,0,none⟩) n n) (W.alloc (.cells CL 24)):=fun W=>by rw [j];exact run_make_row (P:=prog) _ _ i0 _ underlying23 q c s rfl _ _ n (by rw [t];omega) (by omega) W
 have c0:=(aw b1).1;have JC:Hid (∀ W',Kept af W W'->W'.cell? ⟨w.heap.size,0,none⟩=some (.slice ao n a)):=fun W' k=>k.cellN c0
 have JB:Hid (∀ W',Kept af W W'->W'.heap[w.heap.size+1]? = some (.cells #[.slice none 0 0,.slice none 0 0,.slice none 0 0,.slice none 0 0,.int .u64 0] 217 (0,0))):=fun W' k=>(k.block _ (lt_of_block b2) (fun f=>f)).trans b2
 have J1:Hid (∀ W',Kept af W W'->Calls prog 144 #[.int .u64 1,.int .i64 (n:Nat)] W' fun r w'=>∃ vo vc,r=.returned (.slice vo n vc)/\NumN w' o (.slice vo n vc) n 1/\Kept af W' w'/\Kept af W w'):=fun W' k=>by
  refine (Fq 1 (by omega) n y (by omega) W').mono ?_;rintro e w' ⟨rfl,ho,k'⟩;exact ⟨_,_,rfl,NumN.own ho l1 (ti.grew (k0.trans (k.trans k'))),k',k.trans k'⟩
 have J2:Hid (∀ W',Kept af W W'->Calls prog 132 #[.slice ao n a,.int .i64 (L:Nat)] W' fun r w'=>∃ fo fc,r=.returned (.slice fo L fc)/\NumN w' o (.slice fo L fc) L M/\Kept af W' w'/\Kept af W w'):=fun W' k=>by
  refine (EW _ _ L W' (hm.1.1.grew (k0.trans k)) (ak (by omega) _ _) (by omega)).mono ?_;rintro e w' ⟨rfl,ho,k'⟩;rw [bG hm.2] at ho;exact ⟨_,_,rfl,NumN.own ho lM (ti.grew (k0.trans (k.trans k'))),k',k.trans k'⟩
 have J3:Hid (∀ W',Kept af W W'->Calls prog 132 #[.slice xo n xc,.int .i64 (L:Nat)] W' fun r w'=>∃ fo fc,r=.returned (.slice fo L fc)/\NumN w' o (.slice fo L fc) L A/\Kept af W' w'/\Kept af W w'):=fun W' k=>by
  refine (EW _ _ L W' (hx.1.1.grew (k0.trans k)) (ak (by omega) _ _) (by omega)).mono ?_;rintro e w' ⟨rfl,ho,k'⟩;rw [bG hx.2] at ho;exact ⟨_,_,rfl,NumN.own ho lA (ti.grew (k0.trans (k.trans k'))),k',k.trans k'⟩
 have JM:Hid (∀ W' g,Kept af W W'->W'.heap[g]? = some (.cells CL 24 (0,0))->NumN W' o (.slice (some ⟨g,0,none⟩) n n) n 0):=fun W' g k h=>AG j h (by omega) o (ti.grew (k0.trans k))
 have JF:Hid (∀ (W':World) uo uc vo vc fo fc go gc,Kept af W W'->NumN W' o (.slice uo n uc) n 0->NumN W' o (.slice vo n vc) n 1->NumN W' o (.slice fo L fc) L M->NumN W' o (.slice go L gc) L A->∃ W2,W2=((((W'.setCell ⟨w.heap.size+1,0,none⟩ (.slice uo n uc)).setCell ⟨w.heap.size+1,1,none⟩ (.slice vo n vc)).setCell ⟨w.heap.size+1,2,none⟩ (.slice fo L fc)).setCell ⟨w.heap.size+1,3,none⟩ (.slice go L gc)).setCell ⟨w.heap.size+1,4,none⟩ (.int .u64 1)/\(W2.heap[w.heap.size+1]? = some (.cells #[.slice uo n uc,.slice vo n vc,.slice fo L fc,.slice go L gc,.int .u64 1] 217 (0,0)))/\Hid (NumN W2 o (.slice uo n uc) n 0/\NumN W2 o (.slice vo n vc) n 1/\NumN W2 o (.slice fo L fc) L M/\NumN W2 o (.slice go L gc) L A/\Kept af w W2)):=fun W' uo uc vo vc fo fc go gc k h1 h2 h3 h4=>by
  have hb:=JB.out W' k;have kp:=Av W' (w.heap.size+1) (.slice uo n uc) (.slice vo n vc) (.slice fo L fc) (.slice go L gc) (.int .u64 1);exact ⟨_,rfl,Fz hb _ _ _ _ _,h1.put hb (by decide) kp,h2.put hb (by decide) kp,h3.put hb (by decide) kp,h4.put hb (by decide) kp,(k0.trans k).next kp (fun x hx e=>by omega)⟩
 have HW:=aa hW;clear hm hx hW k0 b1 b2 lM lA l1 ti q c s t hL j;go_enter func189,ntmps189;go_wp2_with fail;rw [<- HW.out];go_region_held3 (fun w'=>w'.cell? ⟨w.heap.size,0,none⟩=some (.slice ao n a))
  (((try dsimp only);first | (with_reducible assumption) | (with_reducible refine Ej ?_ ?_;(with_reducible assumption);(dsimp only;omega)) | (with_reducible refine GU ?_;first | (with_reducible assumption) | (with_reducible refine Ek ?_;(with_reducible assumption))) | (with_reducible refine Ek ?_;(with_reducible assumption)) | (go_keep;done)))
  (first
  | (go_at_call 144;refine (J1.out _ ?_).mono ?_;(first | exact sL (sM _) | exact nB _ (sL (sM _)));rintro e w2 ⟨vo,vc,rfl,n2,k2,K2⟩;have p2:=JC.out w2 K2)
  | (go_at_call_of 132 (Value.slice ao n a);refine (J2.out _ ?_).mono ?_;(first | exact K2 | exact nB _ K2);rintro e w3 ⟨fo,fc,rfl,n3,k3,K3⟩;have p3:=JC.out w3 K3)
  | (go_at_call_of 132 (Value.slice xo n xc);refine (J3.out _ ?_).mono ?_;(first | exact K3 | exact nB _ K3);rintro e w4 ⟨go,gc,rfl,n4,k4,K4⟩;have p4:=JC.out w4 K4;have m:=JB.out w4 K4;have p:=JB.out (w4.alloc (.cells CL 24)) (nB _ K4);obtain ⟨f0,f1,f2,f3,f4⟩:=ri m;obtain ⟨g0,g1,g2,g3,g4⟩:=il m;obtain ⟨F0,F1,F2,F3,F4⟩:=ri p;obtain ⟨G0,G1,G2,G3,G4⟩:=il p))
 ·have c:(W.drew.alloc (.cells CL 24)).heap[W.heap.size]? = some (.cells CL 24 (0,0)):=heap_alloc_new W.drew _;have hz:=((k2.trans (k3.trans k4)).block _ (lt_of_block c) (fun f=>f)).trans c;have nz:=JM.out w4 _ K4 hz;obtain ⟨W2,b,i,HN⟩:=JF.out w4 _ _ _ _ _ _ _ _ K4 nz (n2.grew (k3.trans k4)) (n3.grew k4) n4;obtain ⟨y0,y1,y2,y3,y4⟩:=il i;rw [<- b];clear b;go_wp2_with fail;exact bodyPost_ret (v:=.agg #[.slice (some ⟨W.heap.size,0,none⟩) n n,.slice vo n vc,.slice fo L fc,.slice go L gc,.int .u64 1]) (by simp [results,results189,go_sem,y0,y1,y2,y3,y4]) rfl ⟨_,_,_,_,_,_,_,_,rfl,HN.out⟩
 ·have c:=heap_alloc_new w2 (.cells CL 24);have hz:=((k3.trans k4).block _ (lt_of_block c) (fun f=>f)).trans c;have kA:=(aj af w2).alloc (.cells CL 24);have nz:=JM.out w4 _ K4 hz;obtain ⟨W2,b,i,HN⟩:=JF.out w4 _ _ _ _ _ _ _ _ K4 nz (n2.grew (kA.trans (k3.trans k4))) (n3.grew k4) n4;obtain ⟨y0,y1,y2,y3,y4⟩:=il i;rw [<- b];clear b;go_wp2_with fail;exact bodyPost_ret (v:=.agg #[.slice (some ⟨w2.heap.size,0,none⟩) n n,.slice vo n vc,.slice fo L fc,.slice go L gc,.int .u64 1]) (by simp [results,results189,go_sem,y0,y1,y2,y3,y4]) rfl ⟨_,_,_,_,_,_,_,_,rfl,HN.out⟩
 ·have c:=heap_alloc_new w3 (.cells CL 24);have hz:=(k4.block _ (lt_of_block c) (fun f=>f)).trans c;have kA:=(aj af w3).alloc (.cells CL 24);have nz:=JM.out w4 _ K4 hz;obtain ⟨W2,b,i,HN⟩:=JF.out w4 _ _ _ _ _ _ _ _ K4 nz (n2.grew (k3.trans (kA.trans k4))) (n3.grew (kA.trans k4)) n4;obtain ⟨y0,y1,y2,y3,y4⟩:=il i;rw [<- b];clear b;go_wp2_with fail;exact bodyPost_ret (v:=.agg #[.slice (some ⟨w3.heap.size,0,none⟩) n n,.slice vo n vc,.slice fo L fc,.slice go L gc,.int .u64 1]) (by simp [results,results189,go_sem,y0,y1,y2,y3,y4]) rfl ⟨_,_,_,_,_,_,_,_,rfl,HN.out⟩
 ·have hz:=heap_alloc_new w4 (.cells CL 24);have kA:=(aj af w4).alloc (.cells CL 24);have nz:=JM.out (w4.alloc (.cells CL 24)) _ (nB _ K4) hz;obtain ⟨W2,b,i,HN⟩:=JF.out (w4.alloc (.cells CL 24)) _ _ _ _ _ _ _ _ (nB _ K4) nz (n2.grew (k3.trans (k4.trans kA))) (n3.grew (k4.trans kA)) (n4.grew kA);obtain ⟨y0,y1,y2,y3,y4⟩:=il i;rw [<- b];clear b;go_wp2_with fail;exact bodyPost_ret (v:=.agg #[.slice (some ⟨w4.heap.size,0,none⟩) n n,.slice vo n vc,.slice fo L fc,.slice go L gc,.int .u64 1]) (by simp [results,results189,go_sem,y0,y1,y2,y3,y4]) rfl ⟨_,_,_,_,_,_,_,_,rfl,HN.out⟩

end Go.Proofs.YtkaojflnghfmcaaGreatDoor
