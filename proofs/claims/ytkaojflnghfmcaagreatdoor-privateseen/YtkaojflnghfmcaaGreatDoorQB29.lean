/- Put together of: Prw6 Law22b Law22c Ivn9 Kex4 Kex5. -/
import Derived.Test.YtkaojflnghfmcaaGreatDoorQB28

namespace Go.Proofs.YtkaojflnghfmcaaGreatDoor
set_option maxRecDepth 100000
set_option maxHeartbeats 4000000
open Go.RowKit

theorem gD {k:IntKind} {w w':World} {p:Option Addr} {B:Nat} {bs xs:List Nat} {v:Value} (h:Lsc w p B bs) (hv:Row k w v xs) (kk:Kept (ofP p) w w') (hk:k≠.i64:=by decide):Row k w' v xs:=hv.kept' kk (fun hx=>h.apart hv hx hk)

theorem lV {w w':World} {p:Option Addr} {B:Nat} {bs:List Nat} {o:Tr} {ao bo:Option Addr} {n K a b V:Nat} (h:Lsc w p B bs) (hM:Md w o ao bo n K a b V) (kk:Kept (ofP p) w w'):Md w' o ao bo n K a b V:=
 ⟨⟨⟨gD h hM.m8.hm.1 kk,hM.m8.hm.2⟩,⟨gD h hM.m8.hr.1 kk,hM.m8.hr.2⟩,hM.m8.hmd,hM.m8.hrd,hM.m8.hK,hM.m8.ok⟩,hM.ev⟩

theorem vT (ns:List Nat):iG ns↔ns.length≤300∧bJ (val ns)=0:=by
 unfold iG;have h:=dD (val ns);constructor
 ·rintro ⟨h1,h2,h3,h4⟩;exact ⟨h1,fd h3 h4 (by omega)⟩
 ·rintro ⟨h1,h2⟩;obtain ⟨h3,h4,h5⟩:=be h2;exact ⟨h1,by omega,h4,h5⟩

theorem yp (p:Option Addr) (B:Nat) (bs ns:List Nat) (ao:Option Addr) (L v:Nat) (ma mb:Option Addr) (n K mm mr N:Nat) (r1:List Nat) (r2 r3:Nat) (r4:List Nat) (w:World) (ac:iG ns) (T:iw ns (bs.length+1) bs 0=(r1,r2,r3,r4)) (h:Lsc w p B bs) (hB:B≤w.heap.size) (U:Digs bs 256) (aF:bs.length≤10000) (hu:Row .u64 w (.slice ao L v) ns) (Y:Digs ns) (hN:N=val ns) (hM:Md w none ma mb n K mm mr N) :
  Calls Tryz.prog 43 #[.pointer p,.slice ao L v,.agg #[.slice ma n mm,.int .u64 (K:Nat),.slice mb n mr]] w fun e w'=>((r3=0∧∃ uo un uc,e=.returned (.tuple #[.slice uo un uc,.int .i64 (r2:Nat)])∧Row .u64 w' (.slice uo un uc) r1∧Fresh w (.slice uo un uc))∨(r3≠0∧e=.panicked [refusal (r3:Nat)]))∧Lsc w' p B r4∧Kept (ofP p) w w':=by
 obtain ⟨_,_,_,e1,hL,-,-,-,-⟩:=hu.open;cases e1
 obtain ⟨W,hW⟩:∃ W,W=w.alloc (.cells #[.slice ma n mm,.int .u64 (K:Nat),.slice mb n mr] 70):=⟨_,rfl⟩
 have k0:Kept ae w W:=by rw [hW];exact (ag ae w).alloc _
 have ak:W.heap[w.heap.size]? = some (.cells #[.slice ma n mm,.int .u64 (K:Nat),.slice mb n mr] 70 (0,0)):=by rw [hW];exact heap_alloc_new _ _
 have ab:=hM.facts.2.1;have aE:2≤N:=hM.facts.2.2.1;have aD:ns.length≤300:=ac.1;have HS:=aa (h.grew k0);have HU:=aa (hu.grew k0);have ar:=aa (hM.grew k0);have s:=aa k0;have aw:=aa T;have an:=aa U;have P:=aa Y;have HL:=aa hL.out;have HN:=aa hN;have HB:=aa hB;have HW:=aa hW;have ah:=bZ 0;clear h hu hM hW k0 T U Y hL ac hN hB;go_enter Tryz.func43,Tryz.ntmps43;go_wp2_with (rw [← HW.out]);go_loopw [8] (fun av wr=>∃ (cs:List Nat) (a f:Nat),av=.int .i64 (a:Int)∧cs.length<f∧cs.length+a≤1000000∧Hid (Digs cs 256)∧Hid (Lsc wr p B cs)∧Hid (Kept (ofP p) W wr)∧Hid (iw ns f cs a=(r1,r2,r3,r4))) (fun _ wr=>kr p wr)
 case atStart=>exact ⟨bs,0,bs.length+1,rfl,by omega,by omega,an.out,HS.out,ag _ _,aw.out⟩
 case round=>
  obtain ⟨cs,a,f,rfl,aJ,aI,X,O,j,heq⟩:=hrel;obtain ⟨g,rfl⟩:∃ g,f=g+1:=⟨f-1,by omega⟩
  have F:=aa O.out.left;have b:=heq.out;unfold iw at b;have hr:Row .u64 wr (.slice ao L v) ns:=gD HS.out HU.out j.out;have I:Md wr none ma mb n K mm mr N:=lV HS.out ar.out j.out;have A:=(j.out.block _ (lt_of_block ak) (fun f=>by have h1:=(HS.out.inP f).1;have h2:=HB.out;omega)).trans ak;have o:=ss p B cs ns (.slice ao L v) wr O.out (by have h1:=j.out.size;have h2:=s.out.size;have h3:=HB.out;omega) X.out hr P.out (by omega);by_cases hE0:cG ns cs=0
  ·rw [if_neg (by omega)] at b;rw [hE0] at o;have hlt:=sC hE0;have aK:=rk hE0;have al:Digs (eO ns cs):=by unfold eO;rw [if_pos hE0];exact ai (by omega) _ _
   have ay:Hid (val (eO ns cs)<N):=by rw [HN.out];exact (qe P.out hE0).2
   have az:Hid (Digs (eN ns cs) 256):=by
    obtain ⟨m,hm⟩:=sD ns cs;unfold Hid;rw [hm];exact X.out.drop m
   rw [← HN.out] at b;generalize fW ns cs=kk at *;generalize eO ns cs=x at *;generalize eN ns cs=cs' at *;have ga:IntKind.i64.wrap ((a:Int)+(kk:Int))=((a+kk:Nat):Int):=by rw [IntKind.wrap_i64];omega
   have ax:=aa al;clear hE0 heq al;go_wp2_with fail;refine o.mono ?_;rintro e w5 ⟨u5,rfl,⟨r5,f5⟩,s5,k5⟩;have C:Hid (Kept (ofP p) W w5):=j.out.trans k5;have J:=(k5.block _ (lt_of_block A) (fun f=>by have h1:=(HS.out.inP f).1;have h2:=HB.out;omega)).trans A;have R:=aa (lV O.out I k5);have t:=aa s5;have ap:Hid (∀ x,u5.ownBlock=some x→w.heap.size≤x):=fun x hx=>by have h1:=f5 x hx;have h2:=j.out.size;have h3:=s.out.size;omega
   have G:=aa r5;obtain ⟨uo,un,uc,rfl,-⟩:=r5.open;clear o r5 f5 s5 k5 hr I A;go_wp2_with fail;refine (ah _).mono ?_;rintro e aL ⟨rfl,aA⟩;obtain rfl:=aA.symm;go_wp2_with fail;refine wp_region_held_drew (S:=fun w'=>w'.heap[w.heap.size]? = some (.cells #[.slice ma n mm,.int .u64 (K:Nat),.slice mb n mr] 70 (0,0))) (by kernel_rfl) J (fun hS=>?_);refine iP (fun _ _ d _ _ h=>by cases d <;> exact h) fun Q1 c ad=>?_
   refine aG c 0 (some 30) (.agg #[.slice ma n mm,.int .u64 (K:Nat),.slice mb n mr]) hS ?_ (y:=.inl ⟨by rfl,fun w h=>by simp [execOp,go_sem,(am h).1,(am h).2.1,(am h).2.2]⟩);simp only [Act.put,lsA,lsS,lsZ];refine aG c 1 (some 31) (.slice uo un uc) hS ?_;simp only [Act.put,lsA,lsS,lsZ];refine aG c 2 (some 32) (.pointer (some ⟨w.heap.size,0,none⟩)) hS ?_;simp only [Act.put,lsA,lsS,lsZ];refine aG c 3 (some 33) (.slice ma n mm) hS ?_ (y:=.inl ⟨by rfl,fun w h=>by simp [execOp,go_sem,(am h).1]⟩);simp only [Act.put,lsA,lsS,lsZ];refine aG c 4 (some 34) (.int .i64 (n:Int)) hS ?_;simp only [Act.put,lsA,lsS,lsZ]
   have c6:=qM _ x n w5.drew (G.out.grew (ag ae w5).drew) ax.out (by omega);refine aH 5 (some 35) 83 [.slice uo un uc,.int .i64 (n:Int)] (c6) ?_;rintro r w6 ⟨rfl,q,k6⟩;have M:=aj J ((ag ae w5).drew.trans k6);have r6:=Row.of_own (base:=w5.drew.heap.size) (e:=24) (k:=.u64) (zs:=digs (val x) n) (by rw [af];exact q);have c7:=Dz ma mb _ n K mm mr n (val x) N w6 (R.out.grew ((ag ae w5).drew.trans k6)) r6 ay.out;clear q r6;refine .inl ⟨_,rfl,M,?_⟩;simp only [Act.put,lsA,lsS,lsZ];refine aH 6 (some 36) 82 [.pointer none,.agg #[.slice ma n mm,.int .u64 (K:Nat),.slice mb n mr],.slice (some ⟨w5.drew.heap.size,0,none⟩) n n] (c7) ?_
   rintro r w7 ⟨zo,zn,zc,is,rfl,z,k7⟩;have i:=aj M k7;have D:Hid (Kept ae w5 w7):=((ag ae w5).drew.trans k6).trans k7;clear c6 c7 k6 k7;refine .inl ⟨_,rfl,i,?_⟩;simp only [Act.put,lsA,lsS,lsZ];refine aG c 7 (some 29) (.tuple #[.slice zo zn zc,.int .u64 (is:Nat),.int .i64 0]) i ?_;simp only [Act.put,lsA,lsS,lsZ];refine aG c 8 (some 37) (.slice zo zn zc) i ?_;simp only [Act.put,lsA,lsS,lsZ];refine aG c 9 (some 38) (.int .u64 (is:Int)) i ?_;simp only [Act.put,lsA,lsS,lsZ];refine aG c 10 (some 39) (.int .i64 0) i ?_;simp only [Act.put,lsA,lsS,lsZ];refine aG c 11 (some 12) (.slice zo zn zc) i ?_;simp only [Act.put,lsA,lsS,lsZ]
   refine aG c 12 (some 13) (.int .u64 (is:Int)) i ?_;simp only [Act.put,lsA,lsS,lsZ];refine aG c 13 (some 14) (.int .i64 0) i ?_;simp only [Act.put,lsA,lsS,lsZ];refine wpAnyH_done (by kernel_rfl) ?_ _;refine ad.out _ _ ?_;have Q:Hid (Kept (ofP p) W w7):=C.out.next D.out (fun _ _ f=>f.elim)
   have H:=aa (t.out.grew D.out);have au:=aa (G.out.grew D.out);clear t G J M i hS c ad R;go_wp2_with fail;refine (ah _).mono ?_;rintro e w8 ⟨rfl,aC⟩;obtain rfl:=aC.symm;generalize val x=V at *;by_cases hg:Nat.gcd V N=1
   ·rw [if_pos hg] at b z;simp only [Prod.mk.injEq] at b;obtain ⟨e1,e2,e3,e4⟩:=b;have l:Hid (x=r1∧a+kk=r2∧0=r3∧cs'=r4):=⟨e1,e2,e3,e4⟩
    subst z;clear e1 e2 e3 e4;go_wp2_with fail;go_ret2;obtain ⟨q1,q2,q3,q4⟩:=l.out;exact ⟨.inl ⟨q3.symm,uo,un,uc,by rw [← q2];first | rfl | (rw [← ga];rfl),by rw [← q1];exact au.out,ap.out⟩,by rw [← q4];exact H.out,s.out.any.trans Q.out⟩
   ·rw [if_neg hg] at b z;have l:=aa b;subst z;have Z:=H.out.left;have aq:=aa Z;clear b Z hg;go_wp2_with fail;go_roundw
    case rel=>exact ⟨cs',a+kk,g,by first | rfl | (rw [ga];rfl) | go_num,by omega,by omega,az,H,Q,l⟩
    case measure=>
     show kr p w7<kr p wr
     rw [aq.out,F.out];exact hlt
  ·rw [if_pos hE0] at b;simp only [Prod.mk.injEq] at b;obtain ⟨e1,e2,e3,e4⟩:=b;have l:Hid (cG ns cs=r3∧eN ns cs=r4):=⟨e3,e4⟩
   have g0:¬ ((cG ns cs:Nat):Int)=0:=by omega
   have gb:(((cG ns cs:Nat):Int) != 0)=true:=by simp;omega
   have hY:=dt ((cG ns cs:Nat):Int);clear e1 e2 e3 e4 heq hr I A;generalize cG ns cs=E at *;go_wp2_with fail;refine o.mono ?_;rintro e w5 ⟨u5,rfl,⟨r5,-⟩,s5,k5⟩;have t:=aa s5;have C:Hid (Kept (ofP p) W w5):=j.out.trans k5;obtain ⟨uo,un,uc,rfl,-⟩:=r5.open;clear o r5 s5 k5;go_wp2_with fail;try rw [gb]
   refine (hY _).mono ?_;rintro e w6 ⟨rfl,aB⟩;obtain rfl:=aB.symm;obtain ⟨q3,q4⟩:=l.out;exact ⟨rfl,.inr ⟨by omega,by rw [← q3]⟩,by rw [← q4];exact t.out,s.out.any.trans C.out⟩

def zL (bR bM:Nat) (p:Option Addr) (B:Nat) (r1:List Nat) (r2 r3:Nat) (r4:List Nat) (w:World) (r:Ending) (w':World):Prop:=
 (r3=0∧r=.returned (.tuple #[])∧∃ v w1,Row .u64 w1 v r1∧Fresh w v∧Lsc w1 p B r4∧Kept (ofP p) w w1∧w'=(w1.setCell ⟨bR,0,none⟩ v).setCell ⟨bM,0,none⟩ (.int .i64 (r2:Nat)))∨(r3≠0∧r=.panicked [refusal (r3:Nat)]∧r1=[]∧r2=0∧Lsc w' p B r4∧Kept (ofP p) w w')

theorem ny {ns:List Nat}:∀ {f:Nat} {bs:List Nat} {a:Nat} {r1:List Nat} {k e:Nat} {r4:List Nat},iw ns f bs a=(r1,k,e,r4)→e≠0→r1=[]∧k=0
 | 0,_,_,_,_,_,_,h,_=>by simp [iw] at h;exact ⟨h.1,h.2.1.symm⟩
 | f+1,bs,a,r1,k,e,r4,h,he=>by
  unfold iw at h
  split at h
  ·simp only [Prod.mk.injEq] at h;exact ⟨h.1.symm,h.2.1.symm⟩
  ·split at h
   ·simp only [Prod.mk.injEq] at h;exact absurd h.2.2.1.symm he
   ·exact ny h he

theorem AP (p:Option Addr) (B:Nat) (bs ns:List Nat) (ao:Option Addr) (L l bN bS bR bM:Nat) (r1:List Nat) (r2 r3:Nat) (r4:List Nat) (w:World) (d:jf ns bs=(r1,r2,r3,r4)) (h:Lsc w p B bs) (hB:B≤w.heap.size) (G:B≤bR∧B≤bM) (o:Digs bs 256) (q:bs.length≤10000) (hu:Row .u64 w (.slice ao L l) ns) (j:Digs ns) (y:L≤1000)
  (xN:Box w bN (.slice ao L l) 23) (xS:Box w bS (.pointer p) 39) (xR:Box w bR (.slice none 0 0) 23) (xM:Box w bM (.int .i64 0) 3) (R:bR≠bM) (H:∀ x,ofP p x→x≠bN∧x≠bS∧x≠bR∧x≠bM) :
  Calls Tryz.prog 41 #[.pointer (some ⟨bN,0,none⟩),.pointer (some ⟨bS,0,none⟩),.pointer (some ⟨bR,0,none⟩),.pointer (some ⟨bM,0,none⟩)] w fun r w'=>zL bR bM p B r1 r2 r3 r4 w r w':=by
 obtain ⟨_,_,_,e1,hL,-,-,-,-⟩:=hu.open;cases e1
 obtain ⟨N,hN⟩:∃ N,N=val ns:=⟨_,rfl⟩
 obtain ⟨E,hE⟩:∃ E,E=bJ N:=⟨_,rfl⟩
 have c:=vT ns;rw [← hN,← hE,hL.out] at c;have b0:=xN.cell;have hY:=dt 1;have z:=bZ 1;by_cases hE0:E=0
 ·have c1:=qN none ao L l ns N (ah N) w trivial hu j (by omega) hN (by rw [← hE];exact hE0) rfl;obtain ⟨n,hn⟩:∃ n,n=ah N:=⟨_,rfl⟩
  rw [← hn] at c1;by_cases hL3:L≤300
  ·have C:=c.2 ⟨hL3,hE0⟩;have A:iw ns (bs.length+1) bs 0=(r1,r2,r3,r4):=by
    unfold jf at d;rw [if_pos C] at d;exact d
   have JD:=aa fun W (k:Kept ae w W) ma mb K mm mr (hM:Md W none ma mb n K mm mr N)=>yp p B bs ns ao L l ma mb n K mm mr N r1 r2 r3 r4 W C A (h.grew k) (Nat.le_trans hB k.size) o q (hu.grew k) j hN hM
   have s:Hid (r3≠0→r1=[]∧r2=0):=fun h=>ny A h
   have gL:¬ (L:Int) > 300:=by omega
   have Q:decide ((300:Int)<(L:Int))=false:=by simp;omega
   have v:=aa xN;have P:=aa xS;have O:=aa xR;have M:=aa xM;have T:=aa G;clear d h hu j o q hN hE c C A xN xS xR xM hL hE0 y hY hn hL3 G;go_enter Tryz.func41,Tryz.ntmps41;go_wp2_with fail;refine c1.mono ?_;rintro e w1 ⟨ma,mb,K,mm,mr,rfl,hM,-,k1⟩;obtain ⟨W2,i⟩:∃ W2,W2=w1.alloc (.cells #[.slice ma n mm,.int .u64 (K:Nat),.slice mb n mr] 70):=⟨_,rfl⟩
   have k2:Kept ae w1 W2:=by rw [i];exact (ag ae w1).alloc _
   have I:W2.heap[w1.heap.size]? = some (.cells #[.slice ma n mm,.int .u64 (K:Nat),.slice mb n mr] 70 (0,0)):=by rw [i];exact heap_alloc_new _ _
   have K2:=k1.trans k2;obtain ⟨m0,m1,m2⟩:=am I;have b2:=(v.out.grew K2).cell;have s2:=(P.out.grew K2).cell;have g:=aa K2;have J2:=JD.out W2 K2 ma mb K mm mr (hM.grew k2);have t:=aa i;clear c1 k1 k2 K2 hM i I b0;go_wp2_with (rw [← t.out]);refine (z _).mono ?_;rintro e w3 ⟨rfl,S⟩;obtain rfl:=S.symm;go_wp2_with fail;refine J2.mono ?_;rintro e w4 ⟨⟨h0,uo,un,uc,rfl,hr,hf⟩ | ⟨h0,rfl⟩,hs,k4⟩
   ·have kk:Kept (ofP p) w w4:=g.out.any.trans k4;have xr:=(O.out.grew g.out).kept k4 (fun f=>(H _ f).2.2.1 rfl);have xm:=(M.out.grew g.out).kept k4 (fun f=>(H _ f).2.2.2 rfl);have c3:=xr.cell;have f3:=xr.free;have D:=xm.other ⟨bR,0,none⟩ (fun e=>R e.symm) (.slice uo un uc);have c4:=D.cell;have f4:=D.free;have HF:=aa (hf.after g.out);have HR:=aa hr;have HS:=aa hs;have J:=aa kk;clear J2 hr hf hs k4 kk xr xm D m0 m1 m2 b2 s2;go_wp2_with fail;go_end0
    exact .inl ⟨h0,rfl,_,_,HR.out,HF.out,HS.out,J.out,rfl⟩
   ·obtain ⟨q1,q2⟩:=s.out h0;exact ⟨rfl,.inr ⟨h0,rfl,q1,q2,hs,g.out.any.trans k4⟩⟩
  ·have m:¬ iG ns:=fun h=>hL3 (c.1 h).1
   unfold jf at d;rw [if_neg m] at d;simp only [Prod.mk.injEq] at d;obtain ⟨rfl,rfl,rfl,rfl⟩:=d;have gL:(L:Int) > 300:=by omega
   have Q:decide ((300:Int)<(L:Int))=true:=by simp;omega
   have HS:=aa h;have v:=aa xN;clear h hu j o q hN hE c m xN xS xR xM hL hE0 y z hn hL3;go_enter Tryz.func41,Tryz.ntmps41;go_wp2_with fail;refine c1.mono ?_;rintro e w1 ⟨ma,mb,K,mm,mr,rfl,hM,-,k1⟩;obtain ⟨W2,i⟩:∃ W2,W2=w1.alloc (.cells #[.slice ma n mm,.int .u64 (K:Nat),.slice mb n mr] 70):=⟨_,rfl⟩
   have K2:Kept ae w W2:=by rw [i];exact k1.alloc _
   have b2:=(v.out.grew K2).cell;have g:=aa K2;have t:=aa i;clear c1 k1 K2 hM i b0;go_wp2_with (rw [← t.out]);refine (hY _).mono ?_;rintro e w3 ⟨rfl,rfl⟩;exact ⟨rfl,.inr ⟨by decide,rfl,rfl,rfl,HS.out.grew g.out,g.out.any⟩⟩
 ·have m:¬ iG ns:=fun h=>hE0 (c.1 h).2
  unfold jf at d;rw [if_neg m] at d;simp only [Prod.mk.injEq] at d;obtain ⟨rfl,rfl,rfl,rfl⟩:=d;have c1:=jO ao L l ns N E hN hE w hu j (by omega);have g0:¬ ((E:Nat):Int)=0:=by omega
  have gb:(((E:Nat):Int) != 0)=true:=by simp;omega
  have HS:=aa h;clear h hu j o q c m xN xS xR xM hL y z hN hE;go_enter Tryz.func41,Tryz.ntmps41;go_wp2_with fail;refine c1.mono ?_;rintro e w1 ⟨a,K,b,rfl,ra,rb,-,-,k1⟩;obtain ⟨za,zn,zc,rfl,-⟩:=ra.open;obtain ⟨zb,zm,zd,rfl,-⟩:=rb.open;unfold fi;have F:=aa k1;clear c1 k1 ra rb b0;go_wp2_with fail;try rw [gb]
  refine (hY _).mono ?_;rintro e w3 ⟨rfl,rfl⟩;exact ⟨rfl,.inr ⟨by decide,rfl,rfl,rfl,HS.out.grew (F.out.alloc _),(F.out.alloc _).any⟩⟩

def ow:KS:=⟨none,0,0,0,none,0,0,none,0,0,none,0,0,none,0,0,none,0,0,none,0,0⟩
def yf:KL:=⟨[],[],[],[],[],[],[]⟩

theorem me (w:World):ow.Rows w yf:=⟨Row.nil _ _,Row.nil _ _,Row.nil _ _,Row.nil _ _,Row.nil _ _,Row.nil _ _,Row.nil _ _⟩
theorem l9:yf.Digs:=⟨Digs.nil _,Digs.nil _,Digs.nil _,Digs.nil _,Digs.nil _,Digs.nil _,Digs.nil _⟩
theorem kD:ow.light:=⟨by decide,by decide,by decide,by decide,by decide,by decide,by decide⟩

def sv:Prop:=∀ w,Calls Tryz.prog 19 #[.pointer none,.agg ow.v,.slice none 0 0,.pointer none,.agg #[.int .i64 0,.slice none 0 0]] w fun q w'=>∃ v',q=.returned (.tuple #[v',.int .i64 ((190:Nat):Int)])∧Row .u8 w' v' []∧Kept ae w w'

def su:Prop:=∀ w,Calls Tryz.prog 11 #[.agg ow.v,.slice none 0 0] w fun q w'=>∃ v',q=.returned (.tuple #[v',.int .i64 ((190:Nat):Int)])∧Row .u8 w' v' []∧Kept ae w w'

theorem zT:jf [7] [0,3]=([3],2,0,[]):=by decide +kernel

theorem CG (W:World):Row .u8 (W.alloc (.cells #[.int .u8 0,.int .u8 3] 5)) (.slice (some ⟨W.heap.size,0,none⟩) 2 2) [0,3]:=
 Row.of_own (base:=W.heap.size) (e:=5) (World.ownsRow_lit W #[.int .u8 (0:Nat),.int .u8 (3:Nat)] 2 (leR _) (by unfold maxLen;omega) rfl)

theorem sX (hA:sv) (hP:su) (hB:zR) (w:World):Calls Tryz.prog 9 #[] w fun r w'=>r=.returned (.bool true)∧Kept ae w w':=by
 have J1:=hA w;have JP:=aa hP;have HB:=aa hB;clear hA hP hB;unfold ow KS.v at J1;go_enter Tryz.func9,Tryz.ntmps9;go_wp2_with fail;refine J1.mono ?_;rintro q w1 ⟨v1,rfl,h,k1⟩;obtain ⟨o1,n1,c1,rfl,_⟩:=h.open;have m:=aa k1;have J2:=JP.out w1;clear J1 h k1 JP;unfold ow KS.v at J2;go_wp2_with fail;refine J2.mono ?_;rintro q w2 ⟨v2,rfl,i,k2⟩;obtain ⟨o2,n2,c2,rfl,_⟩:=i.open;have c:=aa ((m.out.trans k2).alloc (.cells #[.int .u8 0,.int .u8 3] 5));have J3:=yW _ [0,3] _ (CG w2) (by simp);clear J2 i k2;go_wp2_with fail;refine J3.mono ?_;rintro q w3 ⟨g,rfl,hg,k,k3⟩;have HG:Hid (w.heap.size≤g):=Nat.le_trans c.out.size hg
 have l:=k.grew ((ag ae w3).alloc (.cells #[.int .u64 (7:Nat)] 24));have J4:=HB.out (some ⟨g,0,none⟩) w3.heap.size [0,3] [7] _ 1 1 [3] 2 0 [] _ zT l (by simp) (fun d hd=>by simp at hd;omega) (by simp) (CF w3 7) (Digs.one (by omega)) (by omega);have n:=aa ((c.out.trans k3).alloc (.cells #[.int .u64 (7:Nat)] 24));clear J3 k l k3 hg HB;go_wp2_with fail;refine J4.mono ?_;rintro q w4 ⟨u,rfl,⟨j,_⟩,_,k4⟩;obtain ⟨o4,n4,c4,rfl,e,_,_,_,a⟩:=j.open;obtain rfl:1=n4:=e.out;obtain ⟨b,off,rfl,q0⟩:=a 0 (by omega);have p:w4.cell? ⟨b,off,none⟩=some (.int .u64 3):=q0
 have o:Hid (Kept ae w w4):=n.out.next k4 (fun y hy f=>by have h1:=iV f;have h2:=HG.out;omega)
 clear J4 j k4 e a q0;go_wp2_with fail;go_ret;exact ⟨rfl,o.out⟩

theorem vS {ns bs r1 r4:List Nat} {k e1:Nat} (h:jf ns bs=(r1,k,e1,r4)):e1=0∨e1=1∨e1=150:=by
 have hF:iG ns→∀ f bs a r1 k e1 r4,iw ns f bs a=(r1,k,e1,r4)→e1=0∨e1=150:=fun b f=>by
  induction f with
  | zero=>
   intro bs a r1 k e1 r4 h;simp only [iw,Prod.mk.injEq] at h;omega
  | succ f ih=>
   intro bs a r1 k e1 r4 h;unfold iw at h
   split at h
   ·next hb=>
    simp only [Prod.mk.injEq] at h;obtain ⟨_,_,rfl,_⟩:=h;unfold cG at hb ⊢;have h1:=b.1;have h2:=b.2.2.1;rw [if_neg (by omega),if_neg (by omega)]
    split
    ·exact .inr rfl
    ·exact .inl rfl
   ·split at h
    ·simp only [Prod.mk.injEq] at h;omega
    ·exact ih _ _ _ _ _ _ h
 unfold jf at h
 split at h
 ·next b=>rcases hF b _ _ _ _ _ _ _ h with h | h <;> omega
 ·simp only [Prod.mk.injEq] at h;omega

def zE (w:World):Value→Nat
 | .slice (some a) n _=>val ((List.range n).map fun i=>cellN w ⟨a.block,a.off+i,none⟩)
 | _=>0

theorem Row.num {w:World} {v:Value} {ds:List Nat} (h1:Row .u64 w v ds):zE w v=val ds:=by
 obtain ⟨ao,f,rfl,_,_,_,hc⟩:=h1;cases ao with
 | none=>
  have:ds=[]:=by
   rcases ds with _ | ⟨d,r⟩
   ·rfl
   ·obtain ⟨b,off,e,_⟩:=hc 0 (by simp);cases e
  subst this;rfl
 | some a=>
  show val ((List.range ds.length).map fun i=>cellN w ⟨a.block,a.off+i,none⟩)=_
  congr 1
  refine List.ext_getElem (by simp) (fun i h1 h2=>?_);obtain ⟨b,off,e,c⟩:=hc i h2;cases e
  rw [List.getElem_map,List.getElem_range];unfold cellN;rw [c,List.getD_eq_getElem?_getD,List.getElem?_eq_getElem h2];simp

theorem yJ {xs:List Nat} {m:Nat} (hm:m≤xs.length) (h:val xs<18446744073709551616^m):val (xs.take m)=val xs:=by
 have e:=aP 18446744073709551616 xs m hm;rcases Nat.eq_zero_or_pos (val (xs.drop m)) with h0 | h0
 ·rw [h0] at e;omega
 ·have:=Nat.mul_le_mul_left (18446744073709551616^m) h0;omega

theorem BI (ao:Option Addr) (n c:Nat) (xs:List Nat) (w:World) (h:Row .u64 w (.slice ao n c) xs) (hd:Digs xs) (hl:n≤300) :
  Calls Tryz.prog 248 #[.slice ao n c] w fun e w'=>∃ (i:Option Addr) (m a:Nat) (ys:List Nat),e=.returned (.slice i m a)∧m≤n∧Row .u64 w (.slice i m a) ys∧Digs ys∧val ys=val xs∧w'=w:=by
 have hB:=dX _ xs w h hd (by obtain ⟨_,_,_,e,h',_⟩:=h.open;cases e;rw [h'.out];omega);obtain ⟨_,_,_,e1,hL,l,p,o,_⟩:=h.open;cases e1
 obtain ⟨m,hm⟩:∃ m,m=ah (val xs):=⟨_,rfl⟩
 have g:m≤n:=by
  rw [hm,← hL.out];exact (aA _ _).2 (aD (by omega) hd)
 have f:=jC (val xs);rw [← hm] at f;have j:aF (val xs)≤64*n:=by
  rw [aI,← B64,← hL.out];exact aD (by omega) hd
 have hv:val (xs.take m)=val xs:=yJ (by rw [hL.out];exact g) ((aA _ _).1 (by omega));have d:=aa (h.cut (m:=m) (by rw [hL.out];exact g));have HD:=aa (hd.take m);have HV:=aa hv;obtain ⟨b,hb⟩:∃ b,b=aF (val xs):=⟨_,rfl⟩
 rw [← hb] at hB f j;have g1:((b:Int)+64-1)/64=(m:Int):=by omega
 have g2:(m:Int)≤(c:Int):=by omega
 have g0:(0:Int)≤(m:Int):=Int.natCast_nonneg _;have k:n≤c:=l;clear hv f hb h hd hL hm;go_enter Tryz.func248,Tryz.ntmps248;go_wp2_with fail;refine hB.mono ?_;rintro e w1 ⟨rfl,rfl⟩;clear hB;go_wp2_with fail;go_ret;exact ⟨_,_,_,_,rfl,g,d.out,HD.out,HV.out,rfl⟩

theorem sZ {A C n:Nat} (hA:A<18446744073709551616^n) (hC:C<18446744073709551616^n):Nat.gcd A C<18446744073709551616^n:=by
 rcases Nat.eq_zero_or_pos A with h | h
 ·rw [h,Nat.gcd_zero_left];exact hC
 ·exact Nat.lt_of_le_of_lt (Nat.gcd_le_left _ h) hA

theorem uD {V n:Nat} (h:V<18446744073709551616^n) (hn:n≤300):bh V (n:Int)=0∧bI V (n:Int)=digs V n:=by
 have hw:=(aA V n).2 h;have e:bh V (n:Int)=0:=by
  unfold bh;rw [if_neg (by omega),if_neg (by omega)]
 exact ⟨e,by unfold bI;rw [if_pos e];rfl⟩

theorem tg (ao bo:Option Addr) (L M d c:Nat) (xs ys:List Nat) (E:Nat) (hE:E=if jD L M=true then 0 else 2) (RL:List Nat) (g:RL=if E=0 then digs (Nat.gcd (val xs) (val ys)) (max L M) else []) (w:World) (hu:Row .u64 w (.slice ao L d) xs) (hv:Row .u64 w (.slice bo M c) ys) (k:Digs xs) (l:Digs ys) :
  Calls Tryz.prog 218 #[.slice ao L d,.slice bo M c] w fun e w'=>∃ v',e=.returned (.tuple #[v',.int .i64 (E:Nat)])∧Row .u64 w' v' RL∧Kept ae w w':=by
 have lx:xs.length=L:=by obtain ⟨_,_,_,e,h,_⟩:=hu.open;cases e;exact h.out
 have ly:ys.length=M:=by obtain ⟨_,_,_,e,h,_⟩:=hv.open;cases e;exact h.out
 have V:max (L:Int) (M:Int)=((max L M:Nat):Int):=by omega
 by_cases hok:L≤300∧M≤300
 ·rw [if_pos (by unfold jD;exact bw hok)] at hE;subst hE;rw [if_pos rfl] at g;have hA:val xs<18446744073709551616^max L M:=Nat.lt_of_lt_of_le (aD (by omega) k) (Nat.pow_le_pow_right (by omega) (by omega));have hC:val ys<18446744073709551616^max L M:=Nat.lt_of_lt_of_le (aD (by omega) l) (Nat.pow_le_pow_right (by omega) (by omega));have hG:=sZ hA hC;have T:max L M≤300:=by omega
  obtain ⟨r1,r2⟩:=uD hG T;have g1:¬ ((max L M:Nat):Int) > 300:=by omega
  have HU:=aa hu;have HV:=aa hv;have HX:=aa k;have HY:=aa l;have y:=aa g;have t:=aa r1;have v:=aa r2;obtain ⟨G,q⟩:∃ G,G=Nat.gcd (val xs) (val ys):=⟨_,rfl⟩
  rw [← q] at t v y;have s:=aa q.symm;generalize max L M=N at *;clear hu hv k l g r1 r2 hG hA hC q lx ly;go_enter Tryz.func218,Tryz.ntmps218;go_wp2_with fail;go_loopw [0,1] (fun a b wr=>∃ (ao bo:Option Addr) (L M d c:Nat) (xs ys:List Nat),a=.slice ao L d∧b=.slice bo M c∧L≤300∧M≤300∧Hid (Row .u64 wr (.slice ao L d) xs)∧Hid (Row .u64 wr (.slice bo M c) ys)∧Hid (Digs xs)∧Hid (Digs ys)∧Hid (Nat.gcd (val xs) (val ys)=G)∧Hid (Kept ae w wr)) (fun _ b wr=>zE wr b)
  case atStart=>exact ⟨ao,bo,L,M,d,c,xs,ys,rfl,rfl,hok.1,hok.2,HU.out,HV.out,HX.out,HY.out,s.out,ag _ _⟩
  case round=>
   clear HU HV HX HY s hok;obtain ⟨ao,bo,L,M,d,c,xs,ys,rfl,rfl,hL,hM,HU,HV,HX,HY,HG,HK⟩:=hrel;have ly:ys.length=M:=by obtain ⟨_,_,_,e,h,_⟩:=HV.out.open;cases e;exact h.out
   have hB:=dX _ ys wr HV.out HY.out (by rw [ly];omega);have f:=HV.out.num;by_cases h0:val ys=0
   ·have i:aF (val ys)=0:=by rw [h0];rfl
    rw [i] at hB;have p:=HG.out;rw [h0,Nat.gcd_zero_right] at p;have B:=yd _ xs (N:Int) wr HU.out HX.out;rw [p,t.out,v.out] at B;have O:=aa HK.out;clear f i p h0 ly;go_wp2_with fail;refine hB.mono ?_;rintro e w1 ⟨rfl,rfl⟩;clear hB;go_wp2_with fail;refine B.mono ?_;rintro e w2 ⟨v2,rfl,j,k2⟩;go_wp2_with fail;go_ret2;refine ⟨_,by first | rfl | trivial,?_,O.out.trans k2⟩;rw [y.out];exact j
   ·obtain ⟨E,hE⟩:∃ E,E=fg (val ys) L M:=⟨_,rfl⟩
    obtain ⟨e1,_,e3⟩:=dI (X:=val xs) (Y:=val ys) (L:=L) (M:=M) ⟨hL,hM⟩ h0;have hQ:=pM ao bo L M d c xs ys 0 e1.symm wr HU.out HV.out HX.out HY.out;rw [e3] at hQ;have U:0<aF (val ys):=by
     rcases Nat.eq_zero_or_pos (aF (val ys)) with h | h
     ·have:=(aI (val ys) 0).1 (by omega);rw [Nat.pow_zero] at this;omega
     ·exact h
    obtain ⟨bl,i⟩:∃ bl,bl=aF (val ys):=⟨_,rfl⟩
    rw [← i] at hB U;have gb:(bl:Int) > 0:=by omega
    have hlt:val xs%val ys<val ys:=Nat.mod_lt _ (by omega);have Z:val ys<18446744073709551616^M:=by rw [← ly];exact aD (by omega) HY.out
    have m:Hid (val (digs (val xs%val ys) M)=val xs%val ys):=by
     unfold Hid;rw [au,ar (by omega)]
    have I:Hid (Nat.gcd (val ys) (val xs%val ys)=G):=by
     unfold Hid;rw [← HG.out,Nat.gcd_comm (val ys),← Nat.gcd_rec,Nat.gcd_comm]
    have P:=aa hlt;have n:=aa f;clear hE e1 e3 i hlt Z h0 HG f ly;go_wp2_with fail;refine hB.mono ?_;rintro e w1 ⟨rfl,rfl⟩;clear hB;go_wp2_with fail;refine hQ.mono ?_;rintro e w2 ⟨v1,v2,rfl,W,j,k2⟩;obtain ⟨ro,rn,rc,rfl,F,_⟩:=j.open;have S:rn=M:=by rw [← F.out,af]
    subst S;have A:=BI ro rn rc _ w2 j (ai (by omega) _ _) hM;clear hQ W F;go_wp2_with fail;refine A.mono ?_;rintro e w3 ⟨R,m',o,zs,rfl,ab,D,C,r,rfl⟩;rw [m.out] at r;have x:=aa D;have H:=aa C;have z:=aa r;have Q:=aa (HV.out.grew k2);have J:=aa (HK.out.trans k2);clear A j D C r k2;go_wp2_with fail;go_roundw
    case rel=>exact ⟨bo,R,rn,m',c,o,ys,zs,rfl,rfl,hM,by omega,Q.out,x.out,HY.out,H.out,by unfold Hid;rw [z.out];exact I.out,J.out⟩
    case measure=>rw [x.out.num,z.out,n.out];exact P.out
 ·rw [if_neg (by unfold jD;simpa using hok)] at hE;subst hE;rw [if_neg (by omega)] at g;subst g;have g1:((max L M:Nat):Int) > 300:=by omega
  clear hu hv k l lx ly;generalize max L M=N at *;go_enter Tryz.func218,Tryz.ntmps218;go_wp2;go_ret2;exact ⟨_,rfl,Row.nil _ _,ag _ _⟩

theorem xj {C e T:Nat} (h2:2≤C) (h3:3≤e) (hT:T<e) (hi:C*T%e=1):(1+C*(e-T))/e<C∧e*((1+C*(e-T))/e)%C=1:=by
 have h0:1≤T:=by
  rcases Nat.eq_zero_or_pos T with h | h
  ·subst h;rw [Nat.mul_zero,Nat.zero_mod] at hi;exact absurd hi (by decide)
  ·exact h
 have hs:C*(e-T)=C*e-C*T:=Nat.mul_sub ..;have c:C*T≤C*e:=Nat.mul_le_mul_left _ (by omega);have b:=Nat.div_add_mod (C*T) e;rw [hi] at b;have hq:C*T/e<C:=by
  rw [Nat.div_lt_iff_lt_mul (by omega)];exact Nat.mul_lt_mul_of_pos_left hT (by omega)
 have a:1+C*(e-T)=e*(C-C*T/e):=by
  rw [hs,Nat.mul_sub,Nat.mul_comm e C];omega
 have hd:(1+C*(e-T))/e=C-C*T/e:=by rw [a,Nat.mul_div_cancel_left _ (by omega)]
 have hC:C*1≤C*T:=Nat.mul_le_mul_left _ h0;rw [hd];refine ⟨?_,?_⟩
 ·have hp:0<C*T/e:=by
   rcases Nat.eq_zero_or_pos (C*T/e) with h | h
   ·rw [h] at b;omega
   ·exact h
  omega
 ·rw [← a,Nat.add_mul_mod_self_left,ar (by omega)]

theorem jd {e:Nat} (h0:e≠0) (he:e<18446744073709551616):ah e=1:=by
 have h1:=(aA e 1).2 (by rw [Nat.pow_one];exact he);have h2:¬ ah e≤0:=fun h=>by
  have:=(aA e 0).1 h;rw [Nat.pow_zero] at this;omega
 omega

theorem xA (co:Option Addr) (L a:Nat) (cs:List Nat) (C e:Nat) (hC:C=val cs) (h3:3≤e) (c:e%2=1) (b:e<18446744073709551616) (hL:L≤299) (hg:Nat.gcd C e≠1) (w:World) (hu:Row .u64 w (.slice co L a) cs) (hd:Digs cs) :
  Calls Tryz.prog 159 #[.int .u64 (e:Nat),.slice co L a] w fun r w'=>r=.panicked [refusal 190]∧Kept ae w w':=by
 obtain ⟨_,_,_,e1,hl,-,-,-,-⟩:=hu.open;cases e1
 have d:ah e=1:=jd (by omega) b;have JW:=lS e b w;have J1:Hid (∀ W zo zc,Kept ae w W→Row .u64 W (.slice zo 1 zc) [e]→Calls Tryz.prog 158 #[.slice co L a,.slice zo 1 zc] W fun r w'=>r=.panicked [refusal 190]∧Kept ae W w'):=fun W zo zc k hr=>qu co zo L 1 a zc cs [e] C e hC (dR e).symm (by omega) c d.symm (by omega) (by omega) hg W (hu.grew k) hr hd (Digs.one b)
 clear hu hd hl hC h3 c b hL hg d;go_enter Tryz.func159,Tryz.ntmps159;go_wp2_with fail;refine JW.mono ?_;rintro r w1 ⟨zo,zc,rfl,hr,k1⟩;have J2:=J1.out w1 zo zc k1 hr;clear JW hr;go_wp2_with fail;refine J2.mono ?_;rintro r w2 ⟨rfl,k2⟩;exact ⟨rfl,rfl,k1.trans k2⟩

theorem tm (bP bQ bO:Nat) (ao bo:Option Addr) (L M c a:Nat) (xs ys:List Nat) (P Q:Nat) (hP:P=val xs) (hQ:Q=val ys) (d:P<2∨Q<2) (w:World) (hu:Row .u64 w (.slice ao L c) xs) (hv:Row .u64 w (.slice bo M a) ys) (f:Digs xs) (g:Digs ys) (b0:w.cell? ⟨bP,0,none⟩=some (.slice ao L c)) (b1:w.cell? ⟨bQ,0,none⟩=some (.slice bo M a)) :
  Calls Tryz.prog 217 #[.pointer (some ⟨bP,0,none⟩),.pointer (some ⟨bQ,0,none⟩),.pointer (some ⟨bO,0,none⟩)] w fun e w'=>e=.panicked [refusal 1]∧Kept ae w w':=by
 have hY:=bu 1;have JP:=jk ao L c xs 2 (by omega) (decide (P<2)) (by rw [hP]) w hu f;have JQ:Hid (∀ W,Kept ae w W→Calls Tryz.prog 211 #[.slice bo M a,.int .u64 2] W fun e w'=>e=.returned (.bool (decide (Q<2)))∧Kept ae W w'):=fun W k=>jk bo M a ys 2 (by omega) (decide (Q<2)) (by rw [hQ]) W (hv.grew k) g
 clear hu hv f g hP hQ;by_cases h1:P<2
 ·rw [bw h1] at JP;clear d h1 JQ;go_enter Tryz.func217,Tryz.ntmps217;go_wp2_with fail;refine JP.mono ?_;rintro e w1 ⟨rfl,k1⟩;have b:=aa k1;clear JP k1;go_wp2_with fail;refine (hY _).mono ?_;rintro e w2 ⟨rfl,rfl⟩;exact ⟨rfl,rfl,b.out⟩
 ·rw [aW h1] at JP;rw [bw (d.resolve_left h1)] at JQ;clear d h1;go_enter Tryz.func217,Tryz.ntmps217;go_wp2_with fail;refine JP.mono ?_;rintro e w1 ⟨rfl,k1⟩;have b:=aa k1;have b2:=k1.cellN b1;have J2:=JQ.out _ k1;clear JP k1 b1 b0;go_wp2_with fail;refine J2.mono ?_;rintro e w2 ⟨rfl,k2⟩;have h:=aa (b.out.trans k2);clear J2 k2 b2;go_wp2_with fail;refine (hY _).mono ?_;rintro e w3 ⟨rfl,rfl⟩;exact ⟨rfl,rfl,h.out⟩

theorem j1 {P Q L M:Nat} (hP:P<18446744073709551616^L) (hQ:Q<18446744073709551616^M) (a:2≤P) (b:2≤Q):fE P Q<18446744073709551616^(L+M):=by
 unfold fE;rw [Nat.pow_add];have h1:(P-1)/Nat.gcd (P-1) (Q-1)≤P-1:=Nat.div_le_self _ _;exact Nat.mul_lt_mul_of_lt_of_lt (by omega) (by omega)

theorem BN (bP bQ bO:Nat) (ao bo:Option Addr) (L M d a:Nat) (xs ys:List Nat) (P Q C n:Nat) (hP:P=val xs) (hQ:Q=val ys) (Y:2≤P) (ab:2≤Q) (hC:C=fE P Q) (hn:n=ah C) (hL:L≤130) (hM:M≤130) (w:World) (hu:Row .u64 w (.slice ao L d) xs) (hv:Row .u64 w (.slice bo M a) ys) (q:Digs xs) (r:Digs ys) (b0:w.cell? ⟨bP,0,none⟩=some (.slice ao L d)) (b1:w.cell? ⟨bQ,0,none⟩=some (.slice bo M a)) (b2:Box w bO (.slice none 0 0) 23) :
  Calls Tryz.prog 217 #[.pointer (some ⟨bP,0,none⟩),.pointer (some ⟨bQ,0,none⟩),.pointer (some ⟨bO,0,none⟩)] w fun e w'=>e=.returned (.tuple #[])∧∃ vo vc,Row .u64 w' (.slice vo n vc) (digs C n)∧Fresh w (.slice vo n vc)∧Box w' bO (.slice vo n vc) 23∧Kept (fun b=>b=bO) w w':=by
 obtain ⟨_,_,_,e1,D,-,-,-,-⟩:=hu.open;cases e1
 obtain ⟨_,_,_,e1,E,-,-,-,-⟩:=hv.open;cases e1
 have hR:=fun z=>aY z
 have Z:P<18446744073709551616^L:=by rw [hP,← D.out];exact aD (by omega) q
 have ac:Q<18446744073709551616^M:=by rw [hQ,← E.out];exact aD (by omega) r
 have A:C<18446744073709551616^(L+M):=by rw [hC];exact j1 Z ac Y ab
 have az:n≤L+M:=by rw [hn];exact (aA _ _).2 A
 have JP:=jk ao L d xs 2 (by omega) false (by symm;exact aW (by omega)) w hu q;have JQ:Hid (∀ W,Kept ae w W→Calls Tryz.prog 211 #[.slice bo M a,.int .u64 2] W fun e w'=>e=.returned (.bool false)∧Kept ae W w'):=fun W k=>jk bo M a ys 2 (by omega) false (by symm;exact aW (by omega)) W (hv.grew k) r
 have JA:Hid (∀ W,Kept ae w W→Calls Tryz.prog 164 #[.slice ao L d] W fun e w'=>∃ vo vc,e=.returned (.slice vo L vc)∧Row .u64 w' (.slice vo L vc) (digs (P-1) L)∧Kept ae W w'):=fun W k=>qw ao L d xs P hP (by omega) D.out (by omega) W (hu.grew k) q
 have JB:Hid (∀ W,Kept ae w W→Calls Tryz.prog 164 #[.slice bo M a] W fun e w'=>∃ vo vc,e=.returned (.slice vo M vc)∧Row .u64 w' (.slice vo M vc) (digs (Q-1) M)∧Kept ae W w'):=fun W k=>qw bo M a ys Q hQ (by omega) E.out (by omega) W (hv.grew k) r
 have vA:val (digs (P-1) L)=P-1:=by rw [au,ar (by omega)]
 have vB:val (digs (Q-1) M)=Q-1:=by rw [au,ar (by omega)]
 obtain ⟨G,hG⟩:∃ G,G=Nat.gcd (P-1) (Q-1):=⟨_,rfl⟩
 have V:0<G:=by rw [hG];exact Nat.gcd_pos_of_pos_left _ (by omega)
 have X:G<18446744073709551616^max L M:=by
  have h1:G≤P-1:=by rw [hG];exact Nat.gcd_le_left _ (by omega)
  have h2:18446744073709551616^L≤18446744073709551616^max L M:=Nat.pow_le_pow_right (by omega) (by omega);omega
 have vG:val (digs G (max L M))=G:=by rw [au,ar X]
 have JD:Hid (∀ W va vb ca cb,Row .u64 W (.slice va L ca) (digs (P-1) L)→Row .u64 W (.slice vb M cb) (digs (Q-1) M)→Calls Tryz.prog 218 #[.slice va L ca,.slice vb M cb] W fun e w'=>∃ vo vc,e=.returned (.tuple #[.slice vo (max L M) vc,.int .i64 0])∧Row .u64 w' (.slice vo (max L M) vc) (digs G (max L M))∧Kept ae W w'):=fun W va vb ca cb h1 h2=>by
  refine (tg va vb L M ca cb _ _ 0 (by rw [if_pos];unfold jD;simp;omega) _ (by rw [if_pos rfl]) W h1 h2 (ai (by omega) _ _) (ai (by omega) _ _)).mono ?_;rintro e w' ⟨v',rfl,hr,k⟩;rw [vA,vB,← hG] at hr;obtain ⟨vo,vn,vc,rfl,hl,_,_,_,_⟩:=hr.open;obtain rfl:max L M=vn:=by rw [← hl.out,af]
  exact ⟨_,_,rfl,hr,k⟩
 have S:Hid (∀ W va ca vg cg,Row .u64 W (.slice va L ca) (digs (P-1) L)→Row .u64 W (.slice vg (max L M) cg) (digs G (max L M))→Calls Tryz.prog 216 #[.slice va L ca,.slice vg (max L M) cg] W fun e w'=>∃ vo vc,e=.returned (.slice vo L vc)∧Row .u64 w' (.slice vo L vc) (digs ((P-1)/G) L)∧Kept ae W w'):=fun W va ca vg cg h1 h2=>BU va vg L (max L M) ca cg _ _ (P-1) G vA.symm vG.symm V (by omega) (by omega) W h1 h2 (ai (by omega) _ _) (ai (by omega) _ _)
 have hq:(P-1)/G<18446744073709551616^L:=Nat.lt_of_le_of_lt (Nat.div_le_self _ _) (by omega);have vQ:val (digs ((P-1)/G) L)=(P-1)/G:=by rw [au,ar hq]
 have U:(P-1)/G*(Q-1)=C:=by rw [hC,fE,hG]
 have i:Hid (∀ W va ca vb cb,Row .u64 W (.slice va L ca) (digs ((P-1)/G) L)→Row .u64 W (.slice vb M cb) (digs (Q-1) M)→Calls Tryz.prog 148 #[.pointer none,.slice va L ca,.slice vb M cb] W fun e w'=>∃ vo vc,e=.returned (.slice vo (L+M) vc)∧Row .u64 w' (.slice vo (L+M) vc) (digs C (L+M))∧Kept ae W w'):=fun W va ca vb cb h1 h2=>by
  refine (tI va vb L M ca cb _ _ W h1 h2 (ai (by omega) _ _) (ai (by omega) _ _)).mono ?_;rintro e w' ⟨v',rfl,hr,k⟩;rw [vQ,vB] at hr;unfold fI at hr;rw [if_pos (by omega),U] at hr;obtain ⟨vo,vn,vc,rfl,hl,_,_,_,_⟩:=hr.open;obtain rfl:L+M=vn:=by rw [← hl.out,af]
  exact ⟨_,_,rfl,hr,k⟩
 have JN:Hid (∀ W v c,Row .u64 W (.slice v (L+M) c) (digs C (L+M))→Calls Tryz.prog 156 #[.slice v (L+M) c] W fun e w'=>∃ vo vc,e=.returned (.slice vo n vc)∧Row .u64 w' (.slice vo n vc) (digs C n)∧Fresh W (.slice vo n vc)∧Kept ae W w'):=fun W v c h=>lR v (L+M) c _ C n (by rw [au,ar A]) hn (by omega) W h (ai (by omega) _ _) (by rw [af];omega)
 have F:max (L:Int) (M:Int)=((max L M:Nat):Int):=by omega
 have g1:¬ ((max L M:Nat):Int) > 130:=by omega
 have T:¬ (130:Int)<((max L M:Nat):Int):=by omega
 have d1:decide ((130:Int)<((max L M:Nat):Int))=false:=aW T;have hS:=fun v n c W=>ix v n c W
 have I:=aa b2;have aB:max L M≤130:=by omega
 generalize max L M=m at *;clear hu hv q r hP hQ Y ab hC hn Z ac A az hG V X vA vB vG hq vQ U D E b2;go_enter Tryz.func217,Tryz.ntmps217;go_wp2_with fail;refine JP.mono ?_;rintro e w1 ⟨rfl,k1⟩;have J:=aa k1;have c0:=k1.cellN b0;have c1:=k1.cellN b1;have J2:=JQ.out _ k1;clear JP k1 b1 b0 JQ;go_wp2_with fail;refine J2.mono ?_;rintro e w2 ⟨rfl,k2⟩;have p:=aa (J.out.trans k2);have e0:=k2.cellN c0;have e1:=k2.cellN c1;clear J2 k2 c0 c1 J;go_wp2_with fail;refine (hR _ _).mono ?_;rintro e w3 ⟨rfl,rfl⟩;go_wp2_with fail;try rw [d1]
 refine (hR _ _).mono ?_;rintro e w3 ⟨rfl,rfl⟩;clear hR g1 T d1 F;have HC:Hid (∀ W,Kept ae w3 W→W.cell? ⟨bP,0,none⟩=some (.slice ao L d)∧W.cell? ⟨bQ,0,none⟩=some (.slice bo M a)):=fun W k=>⟨k.cellN e0,k.cellN e1⟩
 go_wp2_with fail;have KD:Kept ae w3 w3.drew:=(ag ae w3).drew;have R:=JA.out _ (p.out.trans KD);go_region_held3 (fun w'=>w'.cell? ⟨bP,0,none⟩=some (.slice ao L d)∧w'.cell? ⟨bQ,0,none⟩=some (.slice bo M a))
  (((try dsimp only);(repeat' apply And.intro) <;> first | (go_keep;done) | assumption))
  (first
  | (go_at_call 164;refine (JB.out _ (p.out.trans j)).mono ?_;rintro e w5 ⟨vb,cb,rfl,aj,k5⟩;obtain ⟨x,y⟩:=HC.out _ (j.trans k5))
  | (go_at_call 164;refine R.mono ?_;rintro e w4 ⟨va,ca,rfl,ad,k4⟩;have j:=KD.trans k4;obtain ⟨ax,ay⟩:=HC.out _ j))
 have s:=aa (ad.grew k5);have t:=aa aj;have ap:=aa (p.out.trans (j.trans k5));have J5:=JD.out w5 va vb ca cb s.out t.out;clear R JA JB KD j k4 k5 ad aj HC ax ay x y e0 e1 JD p;go_wp2_with fail;refine J5.mono ?_;rintro e w6 ⟨vg,cg,rfl,ak,k6⟩;have J6:=hS vg m cg w6;have O:=aa ak;have aq:=aa (ap.out.trans k6);have f:=aa (s.out.grew k6);have g:=aa (t.out.grew k6);clear J5 ak k6 s t;go_wp2_with fail;refine J6.mono ?_;rintro e w7 ⟨rfl,rfl⟩;have J7:=S.out w7 va ca vg cg f.out O.out;clear J6 hS;go_wp2_with fail;refine J7.mono ?_;rintro e w8 ⟨vq,cq,rfl,al,k8⟩;have J8:=i.out w8 vq cq vb cb al (g.out.grew k8)
 have av:=aa (aq.out.trans k8);clear J7 al k8 f g O S;go_wp2_with fail;refine J8.mono ?_;rintro e w9 ⟨vm,cm,rfl,am,k9⟩;have J9:=JN.out w9 vm cm am;have N:=aa (av.out.trans k9);clear J8 am k9 i;go_wp2_with fail;refine J9.mono ?_;rintro e H ⟨vo,vc,rfl,o,l,an⟩;have kk:=N.out.trans an;have hx:=I.out.grew kk;have cx:=hx.cell;have fx:=hx.free;have B:Fresh w (.slice vo n vc):=l.after N.out;have HR:=aa (o.kept (aw H bO (.slice vo n vc)) (fun b hb e=>by have h1:=B b hb;have h2:=I.out.lt;omega));have HX:=aa (hx.set (.slice vo n vc));have HF:=aa B
 have HK:Hid (Kept (fun b=>b=bO) w (H.setCell ⟨bO,0,none⟩ (.slice vo n vc))):=kk.any.trans (aw H bO _);clear J9 o l an kk hx B JN;go_wp2_with fail;go_end0
 exact ⟨rfl,vo,vc,HR.out,HF.out,HX.out,HK.out⟩

theorem BM (ao bo:Option Addr) (L M d f:Nat) (xs ys:List Nat) (P Q E:Nat) (RL:List Nat) (hP:P=val xs) (hQ:Q=val ys) (hL:L≤130) (hM:M≤130) (hE:(E=0∧2≤P∧2≤Q)∨(E=1∧(P<2∨Q<2))) (g:RL=if E=0 then digs (fE P Q) (ah (fE P Q)) else []) (w:World) (hu:Row .u64 w (.slice ao L d) xs) (hv:Row .u64 w (.slice bo M f) ys) (i:Digs xs) (j:Digs ys) :
  Calls Tryz.prog 161 #[.slice ao L d,.slice bo M f] w fun e w'=>∃ v',e=.returned (.tuple #[v',.int .i64 (E:Nat)])∧Row .u64 w' v' RL∧Fresh w v'∧Kept ae w w':=by
 have r:=dM;have a:=oZ w (.slice ao L d) (.slice bo M f) (.slice none 0 0) 23 23 23;have he:∀ args w,(callFunc 217 args).run Tryz.prog w=.ok (.enter 217 args) w:=fun _ _=>by simp [go_sem]
 obtain ⟨W,hW⟩:∃ W,W=((w.alloc (.cells #[.slice ao L d] 23)).alloc (.cells #[.slice bo M f] 23)).alloc (.cells #[.slice none 0 0] 23):=⟨_,rfl⟩
 rw [← hW] at a;obtain ⟨k0,x1,x2,x3,hs⟩:=a;have k1:=k0.alloc (.cells #[.int .i64 0] 32);have xe:Box (W.alloc (.cells #[.int .i64 0] 32)) W.heap.size (.int .i64 0) 32:=Box.new W (.int .i64 0) 32;have q:(W.alloc (.cells #[.int .i64 0] 32)).heap.size=W.heap.size+1:=by simp
 have l:Calls Tryz.prog 103 #[.func (.func 217) #[] #[.pointer (some ⟨w.heap.size,0,none⟩),.pointer (some ⟨w.heap.size+1,0,none⟩),.pointer (some ⟨w.heap.size+1+1,0,none⟩)]] W fun e w'=>∃ n w1,e=.returned (.int .i64 n)∧((n=(E:Nat)∧∃ vo vn vc,Row .u64 w1 (.slice vo vn vc) RL∧(∀ b,(Value.slice vo vn vc).ownBlock=some b→W.heap.size+1≤b)∧Box w1 (w.heap.size+1+1) (.slice vo vn vc) 23∧Kept ae w w1)∧w1.heap[W.heap.size]? = some (.cells #[.int .i64 0] 32 (0,0)))∧w'=w1.setCell ⟨W.heap.size,0,none⟩ (.int .i64 n):=by
  rcases hE with ⟨rfl,h2,h3⟩ | ⟨rfl,hno⟩
  ·rw [if_pos rfl] at g;subst g;refine iQ _ _ W (fun n W'=>n=((0:Nat):Int)∧∃ vo vn vc,Row .u64 W' (.slice vo vn vc) (digs (fE P Q) (ah (fE P Q)))∧(∀ b,(Value.slice vo vn vc).ownBlock=some b→W.heap.size+1≤b)∧Box W' (w.heap.size+1+1) (.slice vo vn vc) 23∧Kept ae w W') he ((BN _ _ _ ao bo L M d f xs ys P Q _ _ hP hQ h2 h3 rfl rfl hL hM _ (hu.grew k1) (hv.grew k1) i j (x1.alloc _).cell (x2.alloc _).cell (x3.alloc _)).mono ?_);rintro e w' ⟨rfl,vo,vc,hr,hf,hb,hk⟩;refine ⟨xe.kept hk (by omega),.inl ⟨rfl,rfl,vo,_,vc,hr,fun b o=>?_,hb,k1.next hk (fun x hx e=>by omega)⟩⟩;have:=hf b o;omega
  ·rw [if_neg (by decide)] at g;subst g;refine iQ _ _ W (fun n W'=>n=((1:Nat):Int)∧∃ vo vn vc,Row .u64 W' (.slice vo vn vc) []∧(∀ b,(Value.slice vo vn vc).ownBlock=some b→W.heap.size+1≤b)∧Box W' (w.heap.size+1+1) (.slice vo vn vc) 23∧Kept ae w W') he ((tm _ _ _ ao bo L M d f xs ys P Q hP hQ hno _ (hu.grew k1) (hv.grew k1) i j (x1.alloc _).cell (x2.alloc _).cell).mono ?_);rintro e w' ⟨rfl,hk⟩;exact ⟨xe.grew hk,.inr ⟨_,rfl,rfl,none,0,0,Row.nil _ _,(fun b hb=>by cases hb),(x3.alloc _).grew hk,k1.trans hk⟩⟩
 have HW:=aa hW;have h:=aa hs;clear hu hv i j hP hQ hL hM hE g k0 k1 x1 x2 x3 xe hs q hW he;go_enter Tryz.func161,Tryz.ntmps161;go_wp2_with (rw [← HW.out]);refine l.mono ?_;rintro e w' ⟨n,w1,rfl,⟨⟨rfl,vo,vn,vc,hr,c,hb,hk⟩,p⟩,rfl⟩;have a:=hb.other ⟨W.heap.size,0,none⟩ (by show _≠W.heap.size;have:=h.out;omega) (.int .i64 (E:Nat));have c1:=a.cell;have f1:=a.free;have c3:=(a.set (.slice vo vn vc)).cell;have m:Kept (fun b=>b=W.heap.size∨b=w.heap.size+1+1) w1 (w1.setCell ⟨W.heap.size,0,none⟩ (.int .i64 (E:Nat))):=(aw w1 W.heap.size _).mono (fun _ _ e=>.inl e);have k:=m.next (aw _ (w.heap.size+1+1) (.slice vo vn vc)) (fun _ _ e=>.inr e)
 have HK:=aa (hk.next k (fun x hx e=>by have:=h.out;omega));have HR:=aa (hr.kept k (fun b hb e=>by have h1:=c b hb;have:=h.out;omega));have HF:Hid (Fresh w (.slice vo vn vc)):=fun b hb=>by have h1:=c b hb;have:=h.out;omega
 clear l hr c hb hk p a m k;generalize w1.setCell ⟨W.heap.size,0,none⟩ (.int .i64 (E:Nat))=W2 at *;go_wp2_with fail;refine bodyPost_ret (v:=.tuple #[.slice vo vn vc,.int .i64 (E:Nat)]) (by simp [results,Tryz.results161,go_sem,c3]) rfl ?_;exact ⟨_,rfl,HR.out,HF.out,HK.out⟩

theorem Dl (co:Option Addr) (L g:Nat) (cs:List Nat) (C e:Nat) (hC:C=val cs) (h2:2≤C) (h3:3≤e) (z:e%2=1) (i:e<18446744073709551616) (hL:L≤299) (hg:Nat.gcd C e=1) (w:World) (hu:Row .u64 w (.slice co L g) cs) (hd:Digs cs) :
  Calls Tryz.prog 159 #[.int .u64 (e:Nat),.slice co L g] w fun r w'=>∃ vo vc d,r=.returned (.slice vo (L+1) vc)∧Hid (d<C∧e*d%C=1)∧Row .u64 w' (.slice vo (L+1) vc) (digs d (L+1))∧Kept ae w w':=by
 obtain ⟨_,_,_,e1,hl,-,-,-,-⟩:=hu.open;cases e1
 have F:ah e=1:=jd (by omega) i;have JW:=lS e i w;obtain ⟨i0,U,V,X,Y⟩:=info_parts Tryz.info24;have aj:1≤L:=by
  rcases Nat.eq_zero_or_pos L with h | h
  ·have h5:=hl.out;rw [h] at h5;rw [List.length_eq_zero_iff.1 h5] at hC;have:val []=0:=rfl;omega
  ·exact h
 have x:C<18446744073709551616^L:=by rw [hC,← hl.out];exact aD (by omega) hd
 have J1:Hid (∀ W zo zc,Kept ae w W→Row .u64 W (.slice zo 1 zc) [e]→Calls Tryz.prog 158 #[.slice co L g,.slice zo 1 zc] W fun r w'=>∃ vo vc T,r=.returned (.slice vo 1 vc)∧Hid (T<e∧C*T%e=1)∧Row .u64 w' (.slice vo 1 vc) (digs T 1)∧Kept ae W w'):=fun W zo zc k hr=>Ai co zo L 1 g zc cs [e] C e hC (dR e).symm (by omega) z F.symm (by omega) (by omega) hg W (hu.grew k) hr hd (Digs.one i)
 have JM:Hid (∀ W zo zc S,S<18446744073709551616→Kept ae w W→Row .u64 W (.slice zo 1 zc) [1]→Calls Tryz.prog 215 #[.pointer none,.slice co L g,.int .u64 (S:Nat),.slice zo 1 zc] W fun r w'=>∃ vo vc,r=.returned (.tuple #[.slice vo L vc,.int .u64 (((1+C*S)/18446744073709551616^L:Nat):Int)])∧OwnN .u64 24 w' W.heap.size (.slice vo L vc) L (digs (1+C*S) L)∧Kept ae W w'):=fun W zo zc S hS k hr=>by
  have hm:max L 1=L:=by omega
  have h:=rT none co zo L 1 g zc cs [1] S hS ((1+C*S)/18446744073709551616^L) (by rw [dR,← hC];unfold qC;rw [if_pos (by omega),hm]) W (TrRoom.none W 300 (by omega)) (RowT.none (hu.grew k)) (RowT.none hr) hd (Digs.one (by omega));rw [dR,← hC,hm] at h;refine h.mono ?_;rintro r w' ⟨v',rfl,_,ho,o',o⟩;have ho:=ho (by omega);obtain ⟨vo,vc,rfl⟩:=aZ ho;exact ⟨vo,vc,rfl,ho,o.none.2⟩
 have JQ:Hid (∀ W S vo vc zo zc,S<e→Row .u64 W (.slice vo (L+1) vc) (digs (1+C*S) L ++ [(1+C*S)/18446744073709551616^L])→Row .u64 W (.slice zo 1 zc) [e]→Calls Tryz.prog 216 #[.slice vo (L+1) vc,.slice zo 1 zc] W fun r w'=>∃ qo qc,r=.returned (.slice qo (L+1) qc)∧Row .u64 w' (.slice qo (L+1) qc) (digs ((1+C*S)/e) (L+1))∧Kept ae W w'):=fun W S vo vc zo zc hS h1 h4=>by
  have hlt:1+C*S<18446744073709551616^L*18446744073709551616:=by
   have a1:C*S+1≤C*e:=by
    have:=Nat.mul_le_mul_left C (show S+1≤e by omega);rw [Nat.mul_add,Nat.mul_one] at this;omega
   have a2:C*e<18446744073709551616^L*18446744073709551616:=Nat.mul_lt_mul_of_lt_of_lt x i;omega
  have hc:(1+C*S)/18446744073709551616^L<18446744073709551616:=Nat.div_lt_of_lt_mul hlt;refine BU vo zo (L+1) 1 vc zc (digs (1+C*S) L ++ [(1+C*S)/18446744073709551616^L]) [e] (1+C*S) e ?_ (dR e).symm (by omega) (by omega) (by omega) W h1 h4 ((ai (by omega) _ _).append (Digs.one hc)) (Digs.one i);rw [bH,au,af,Nat.mod_add_div]
 have JE:=fun W=>lS e i W
 have J0:=fun W=>lS 1 (by omega) W
 have HN:Hid (∀ T,T<e→C*T%e=1→(1+C*(e-T))/e<C∧e*((1+C*(e-T))/e)%C=1):=fun T h h'=>xj h2 h3 h h'
 clear hu hd hl hC h2 z hg F x;go_enter Tryz.func159,Tryz.ntmps159;go_wp2_with fail;refine JW.mono ?_;rintro r w1 ⟨zo,zc,rfl,hr,k1⟩;have J2:=J1.out w1 zo zc k1 hr;clear JW hr J1;go_wp2_with fail;refine J2.mono ?_;rintro r w2 ⟨ag,tc,T,rfl,HT,p,k2⟩;have Q:=HT.out.1;rw [jy (by omega)] at p;obtain ⟨_,_,_,e1,_,_,_,_,j⟩:=p.open;cases e1
 obtain ⟨b,off,rfl,c0⟩:=j 0 (by omega);have P:w2.cell? ⟨b,off,none⟩=some (.int .u64 (T:Nat)):=c0;obtain ⟨S,hS⟩:∃ S,S=e-T:=⟨_,rfl⟩
 have v:Hid (S<e):=by
  unfold Hid;rcases Nat.eq_zero_or_pos T with h | h
  ·have h9:=HT.out.2;subst h;rw [Nat.mul_zero,Nat.zero_mod] at h9;exact absurd h9 (by decide)
  ·omega
 have HF:Hid ((1+C*S)/e<C∧e*((1+C*S)/e)%C=1):=by rw [hS];exact HN.out T Q HT.out.2
 have H:=aa (k1.trans k2);have gs:IntKind.u64.wrap ((e:Int)-(T:Int))=(S:Int):=by rw [IntKind.wrap_u64];omega
 have hW:=J0 w2;have R:(T:Int)≤(e:Int):=by omega
 clear J2 p k1 k2 c0 j hS HN HT J0;go_wp2_with fail;refine hW.mono ?_;rintro r w3 ⟨yo,yc,rfl,B,k3⟩;have m:=aa (H.out.trans k3);have J3:=JM.out w3 yo yc S (by have:=v.out;omega) m.out B;clear hW k3 B P;go_wp2_with fail;refine J3.mono ?_;rintro r w4 ⟨vo,vc,rfl,A,k4⟩;have t:=aa (m.out.trans k4);have n:=aa A;have q:Hid (w.heap.size≤w3.heap.size):=m.out.size;have s:Hid (w3.heap.size≤w4.heap.size):=k4.size;obtain ⟨c,hc⟩:∃ c,c=(1+C*S)/18446744073709551616^L:=⟨_,rfl⟩
 rw [← hc];have G:=aa hc;have y:=fun W=>JE W
 clear J3 A k4 hc JM;go_wp2_with (at_builtin;refine wpList_append_own _ rfl _ _ 23 rfl w3.heap.size 24 i0 (.int .u64 0) 1 8 Tryz.underlying23 U V X Y rfl (by decide) _ _ _ rfl (World.ownsRow.alloc n.out _) ⟨w4.heap.size,0,none⟩ 1 1 [.int .u64 (c:Nat)] rfl rfl (cell_one_new _ _ _) (by intro u hu;simp at hu;subst hu;rfl) (by unfold maxLen;omega) (by omega) (by have:=s.out;simp;omega) ?_);intro v5 w5 l f _;have a:OwnN .u64 24 w5 w3.heap.size v5 (L+1) (digs (1+C*S) L ++ [c]):=by
  unfold OwnN;rw [List.map_append];exact l
 have I:Hid (Kept ae w w5):=(t.out.alloc _).grown f (fun k hk hlt=>by have h1:=(n.out.lt k hk).1;have h2:=q.out;omega);obtain ⟨ab,Z,rfl⟩:=aZ a;have N:=aa (aU a (by rw [List.length_append,af];rfl));have J5:=y w5;clear l a f n t q s y;go_wp2_with fail;refine J5.mono ?_;rintro r w6 ⟨ad,ac,rfl,D,k6⟩;have J6:=JQ.out w6 S ab Z ad ac v.out (by rw [← G.out];exact N.out.grew k6) D;have J:=aa (I.out.trans k6);clear J5 D k6;go_wp2_with fail;refine J6.mono ?_;rintro r w7 ⟨qo,qc,rfl,E,k7⟩;have O:=aa E;have M:=aa (J.out.trans k7);clear J6 E k7;go_wp2;go_ret
 exact ⟨_,_,_,rfl,HF.out,O.out,M.out⟩

end Go.Proofs.YtkaojflnghfmcaaGreatDoor
