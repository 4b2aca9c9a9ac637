/- Put together of: Prw6 Law22b Law22c Ivn9 Kex4. -/
import Derived.Test.YtkaojflnghfmcaaGreatDoorQC26
import Derived.Test.YtkaojflnghfmcaaGreatDoorQC31

namespace Go.Proofs.YtkaojflnghfmcaaGreatDoor
open _root_.Go.Proofs.Tryz
set_option maxRecDepth 100000
set_option maxHeartbeats 4000000
open Go.RowKit

theorem kF {k:IntKind} {w w':World} {p:Option Addr} {B:Nat} {bs xs:List Nat} {v:Value} (h:Lsc w p B bs) (hv:Row k w v xs) (kk:Kept (ofP p) w w') (hk:k≠.i64:=by decide):Row k w' v xs:=hv.kept' kk (fun hx=>h.apart hv hx hk)

theorem qE {w w':World} {p:Option Addr} {B:Nat} {bs:List Nat} {o:Tr} {ao bo:Option Addr} {n K a b V:Nat} (h:Lsc w p B bs) (hM:Md w o ao bo n K a b V) (kk:Kept (ofP p) w w'):Md w' o ao bo n K a b V:=
 ⟨⟨⟨kF h hM.m8.hm.1 kk,hM.m8.hm.2⟩,⟨kF h hM.m8.hr.1 kk,hM.m8.hr.2⟩,hM.m8.hmd,hM.m8.hrd,hM.m8.hK,hM.m8.ok⟩,hM.ev⟩

theorem Ck (ns:List Nat):mE ns↔ns.length<=300/\el (val ns)=0:=by
 unfold mE;have h:=gh (val ns);constructor
 ·rintro ⟨h1,h2,h3,h4⟩;exact ⟨h1,js h3 h4 (by omega)⟩
 ·rintro ⟨h1,h2⟩;obtain ⟨h3,h4,h5⟩:=dm h2;exact ⟨h1,by omega,h4,h5⟩

theorem Dr (p:Option Addr) (B:Nat) (bs ns:List Nat) (ao:Option Addr) (L v:Nat) (ma mb:Option Addr) (n K mm mr N:Nat) (r1:List Nat) (r2 r3:Nat) (r4:List Nat) (w:World) (ac:mE ns) (T:lW ns (bs.length+1) bs 0=(r1,r2,r3,r4)) (h:Lsc w p B bs) (hB:B<=w.heap.size) (U:Digs bs 256) (aH:bs.length<=10000) (hu:Row .u64 w (.slice ao L v) ns) (Y:Digs ns) (hN:N=val ns) (hM:Md w none ma mb n K mm mr N) :
  Calls prog 43 #[.pointer p,.slice ao L v,.agg #[.slice ma n mm,.int .u64 (K:Nat),.slice mb n mr]] w fun e w'=>((r3=0/\∃ uo un uc,e=.returned (.tuple #[.slice uo un uc,.int .i64 (r2:Nat)])/\Row .u64 w' (.slice uo un uc) r1/\Fresh w (.slice uo un uc))\/(r3≠0/\e=.panicked [refusal (r3:Nat)]))/\Lsc w' p B r4/\Kept (ofP p) w w':=by
 obtain ⟨_,_,_,e1,hL,-,-,-,-⟩:=hu.open;cases e1
 obtain ⟨W,hW⟩:∃ W,W=w.alloc (.cells #[.slice ma n mm,.int .u64 (K:Nat),.slice mb n mr] 70):=⟨_,rfl⟩
 have k0:Kept af w W:=by rw [hW];exact (aj af w).alloc _
 have al:W.heap[w.heap.size]? = some (.cells #[.slice ma n mm,.int .u64 (K:Nat),.slice mb n mr] 70 (0,0)):=by rw [hW];exact heap_alloc_new _ _
 have ab:=hM.facts.2.1;have aG:2<=N:=hM.facts.2.2.1;have aF:ns.length<=300:=ac.1;have HS:=aa (h.grew k0);have HU:=aa (hu.grew k0);have au:=aa (hM.grew k0);have s:=aa k0;have ay:=aa T;have ap:=aa U;have P:=aa Y;have HL:=aa hL.out;have HN:=aa hN;have HB:=aa hB;have HW:=aa hW;have ae:=er 0;clear h hu hM hW k0 T U Y hL ac hN hB;go_enter func43,ntmps43;go_wp2_with (rw [<- HW.out]);go_loopw [8] (fun av wr=>∃ (cs:List Nat) (a f:Nat),av=.int .i64 (a:Int)/\cs.length<f/\cs.length+a<=1000000/\Hid (Digs cs 256)/\Hid (Lsc wr p B cs)/\Hid (Kept (ofP p) W wr)/\Hid (lW ns f cs a=(r1,r2,r3,r4))) (fun _ wr=>pp p wr)
 case atStart=>exact ⟨bs,0,bs.length+1,rfl,by omega,by omega,ap.out,HS.out,aj _ _,ay.out⟩
 case round=>
  obtain ⟨cs,a,f,rfl,aJ,aI,X,O,j,heq⟩:=hrel;obtain ⟨g,rfl⟩:∃ g,f=g+1:=⟨f-1,by omega⟩
  have F:=aa O.out.left;have b:=heq.out;unfold lW at b;have hr:Row .u64 wr (.slice ao L v) ns:=kF HS.out HU.out j.out;have I:Md wr none ma mb n K mm mr N:=qE HS.out au.out j.out;have A:=(j.out.block _ (lt_of_block al) (fun f=>by have h1:=(HS.out.inP f).1;have h2:=HB.out;omega)).trans al;have o:=zB p B cs ns (.slice ao L v) wr O.out (by have h1:=j.out.size;have h2:=s.out.size;have h3:=HB.out;omega) X.out hr P.out (by omega);by_cases hE0:eY ns cs=0
  ·rw [ai (by omega)] at b;rw [hE0] at o;have hlt:=zK hE0;have aK:=ya hE0;have an:Digs (jh ns cs):=by unfold jh;rw [ah hE0];exact ak (by omega) _ _
   have aA:Hid (val (jh ns cs)<N):=by rw [HN.out];exact (vy P.out hE0).2
   have aB:Hid (Digs (jg ns cs) 256):=by
    obtain ⟨m,hm⟩:=zL ns cs;unfold Hid;rw [hm];exact X.out.drop m
   rw [<- HN.out] at b;generalize kj ns cs=kk at *;generalize jh ns cs=x at *;generalize jg ns cs=cs' at *;have ga:IntKind.i64.wrap ((a:Int)+(kk:Int))=((a+kk:Nat):Int):=by rw [IntKind.wrap_i64];omega
   have az:=aa an;clear hE0 heq an;go_wp2_with fail;refine o.mono ?_;rintro e w5 ⟨u5,rfl,⟨r5,f5⟩,s5,k5⟩;have C:Hid (Kept (ofP p) W w5):=j.out.trans k5;have J:=(k5.block _ (lt_of_block A) (fun f=>by have h1:=(HS.out.inP f).1;have h2:=HB.out;omega)).trans A;have R:=aa (qE O.out I k5);have t:=aa s5;have aq:Hid (∀ x,u5.ownBlock=some x->w.heap.size<=x):=fun x hx=>by have h1:=f5 x hx;have h2:=j.out.size;have h3:=s.out.size;omega
   have G:=aa r5;obtain ⟨uo,un,uc,rfl,-⟩:=r5.open;clear o r5 f5 s5 k5 hr I A;go_wp2_with fail;refine (ae _).mono ?_;rintro e aL ⟨rfl,aC⟩;obtain rfl:=aC.symm;go_wp2_with fail;refine wp_region_held_drew (S:=fun w'=>w'.heap[w.heap.size]? = some (.cells #[.slice ma n mm,.int .u64 (K:Nat),.slice mb n mr] 70 (0,0))) (by kernel_rfl) J (fun hS=>?_);refine mM (fun _ _ d _ _ h=>by cases d <;> exact h) fun Q1 c ad=>?_
   refine aS c 0 (some 30) (.agg #[.slice ma n mm,.int .u64 (K:Nat),.slice mb n mr]) hS ?_ (y:=.inl ⟨by rfl,fun w h=>by simp [execOp,go_sem,(aw h).1,(aw h).2.1,(aw h).2.2]⟩);simp only [Act.put,lsA,lsS,lsZ];refine aS c 1 (some 31) (.slice uo un uc) hS ?_;simp only [Act.put,lsA,lsS,lsZ];refine aS c 2 (some 32) (.pointer (some ⟨w.heap.size,0,none⟩)) hS ?_;simp only [Act.put,lsA,lsS,lsZ];refine aS c 3 (some 33) (.slice ma n mm) hS ?_ (y:=.inl ⟨by rfl,fun w h=>by simp [execOp,go_sem,(aw h).1]⟩);simp only [Act.put,lsA,lsS,lsZ];refine aS c 4 (some 34) (.int .i64 (n:Int)) hS ?_;simp only [Act.put,lsA,lsS,lsZ]
   have c6:=xu _ x n w5.drew (G.out.grew (aj af w5).drew) az.out (by omega);refine bV 5 (some 35) 83 [.slice uo un uc,.int .i64 (n:Int)] (c6) ?_;rintro r w6 ⟨rfl,q,k6⟩;have M:=am J ((aj af w5).drew.trans k6);have r6:=Row.of_own (base:=w5.drew.heap.size) (e:=24) (k:=.u64) (zs:=digs (val x) n) (by rw [ag];exact q);have c7:=IH ma mb _ n K mm mr n (val x) N w6 (R.out.grew ((aj af w5).drew.trans k6)) r6 aA.out;clear q r6;refine .inl ⟨_,rfl,M,?_⟩;simp only [Act.put,lsA,lsS,lsZ];refine bV 6 (some 36) 82 [.pointer none,.agg #[.slice ma n mm,.int .u64 (K:Nat),.slice mb n mr],.slice (some ⟨w5.drew.heap.size,0,none⟩) n n] (c7) ?_
   rintro r w7 ⟨zo,zn,zc,is,rfl,z,k7⟩;have i:=am M k7;have D:Hid (Kept af w5 w7):=((aj af w5).drew.trans k6).trans k7;clear c6 c7 k6 k7;refine .inl ⟨_,rfl,i,?_⟩;simp only [Act.put,lsA,lsS,lsZ];refine aS c 7 (some 29) (.tuple #[.slice zo zn zc,.int .u64 (is:Nat),.int .i64 0]) i ?_;simp only [Act.put,lsA,lsS,lsZ];refine aS c 8 (some 37) (.slice zo zn zc) i ?_;simp only [Act.put,lsA,lsS,lsZ];refine aS c 9 (some 38) (.int .u64 (is:Int)) i ?_;simp only [Act.put,lsA,lsS,lsZ];refine aS c 10 (some 39) (.int .i64 0) i ?_;simp only [Act.put,lsA,lsS,lsZ];refine aS c 11 (some 12) (.slice zo zn zc) i ?_;simp only [Act.put,lsA,lsS,lsZ]
   refine aS c 12 (some 13) (.int .u64 (is:Int)) i ?_;simp only [Act.put,lsA,lsS,lsZ];refine aS c 13 (some 14) (.int .i64 0) i ?_;simp only [Act.put,lsA,lsS,lsZ];refine wpAnyH_done (by kernel_rfl) ?_ _;refine ad.out _ _ ?_;have Q:Hid (Kept (ofP p) W w7):=C.out.next D.out (fun _ _ f=>f.elim)
   have H:=aa (t.out.grew D.out);have ax:=aa (G.out.grew D.out);clear t G J M i hS c ad R;go_wp2_with fail;refine (ae _).mono ?_;rintro e w8 ⟨rfl,aE⟩;obtain rfl:=aE.symm;generalize val x=V at *;by_cases hg:Nat.gcd V N=1
   ·rw [ah hg] at b z;simp only [fi] at b;obtain ⟨e1,e2,e3,e4⟩:=b;have l:Hid (x=r1/\a+kk=r2/\0=r3/\cs'=r4):=⟨e1,e2,e3,e4⟩
    subst z;clear e1 e2 e3 e4;go_wp2_with fail;go_ret2;obtain ⟨q1,q2,q3,q4⟩:=l.out;exact ⟨.inl ⟨q3.symm,uo,un,uc,by rw [<- q2];first | rfl | (rw [<- ga];rfl),by rw [<- q1];exact ax.out,aq.out⟩,by rw [<- q4];exact H.out,s.out.any.trans Q.out⟩
   ·rw [ai hg] at b z;have l:=aa b;subst z;have Z:=H.out.left;have ar:=aa Z;clear b Z hg;go_wp2_with fail;go_roundw
    case rel=>exact ⟨cs',a+kk,g,by first | rfl | (rw [ga];rfl) | go_num,by omega,by omega,aB,H,Q,l⟩
    case measure=>
     show pp p w7<pp p wr
     rw [ar.out,F.out];exact hlt
  ·rw [ah hE0] at b;simp only [fi] at b;obtain ⟨e1,e2,e3,e4⟩:=b;have l:Hid (eY ns cs=r3/\jg ns cs=r4):=⟨e3,e4⟩
   have g0:¬ ((eY ns cs:Nat):Int)=0:=by omega
   have gb:(((eY ns cs:Nat):Int) != 0)=true:=by simp;omega
   have hY:=fX ((eY ns cs:Nat):Int);clear e1 e2 e3 e4 heq hr I A;generalize eY ns cs=E at *;go_wp2_with fail;refine o.mono ?_;rintro e w5 ⟨u5,rfl,⟨r5,-⟩,s5,k5⟩;have t:=aa s5;have C:Hid (Kept (ofP p) W w5):=j.out.trans k5;obtain ⟨uo,un,uc,rfl,-⟩:=r5.open;clear o r5 s5 k5;go_wp2_with fail;try rw [gb]
   refine (hY _).mono ?_;rintro e w6 ⟨rfl,aD⟩;obtain rfl:=aD.symm;obtain ⟨q3,q4⟩:=l.out;exact ⟨rfl,.inr ⟨by omega,by rw [<- q3]⟩,by rw [<- q4];exact t.out,s.out.any.trans C.out⟩

def EB (bR bM:Nat) (p:Option Addr) (B:Nat) (r1:List Nat) (r2 r3:Nat) (r4:List Nat) (w:World) (r:Ending) (w':World):Prop:=
 (r3=0/\r=.returned (.tuple #[])/\∃ v w1,Row .u64 w1 v r1/\Fresh w v/\Lsc w1 p B r4/\Kept (ofP p) w w1/\w'=(w1.setCell ⟨bR,0,none⟩ v).setCell ⟨bM,0,none⟩ (.int .i64 (r2:Nat)))\/(r3≠0/\r=.panicked [refusal (r3:Nat)]/\r1=[]/\r2=0/\Lsc w' p B r4/\Kept (ofP p) w w')

theorem sk {ns:List Nat}:∀ {f:Nat} {bs:List Nat} {a:Nat} {r1:List Nat} {k e:Nat} {r4:List Nat},lW ns f bs a=(r1,k,e,r4)->e≠0->r1=[]/\k=0
 | 0,_,_,_,_,_,_,h,_=>by simp [lW] at h;exact ⟨h.1,h.2.1.symm⟩
 | f+1,bs,a,r1,k,e,r4,h,he=>by
  unfold lW at h
  split at h
  ·simp only [fi] at h;exact ⟨h.1.symm,h.2.1.symm⟩
  ·split at h
   ·simp only [fi] at h;exact absurd h.2.2.1.symm he
   ·exact sk h he

theorem FE (p:Option Addr) (B:Nat) (bs ns:List Nat) (ao:Option Addr) (L l bN bS bR bM:Nat) (r1:List Nat) (r2 r3:Nat) (r4:List Nat) (w:World) (d:nh ns bs=(r1,r2,r3,r4)) (h:Lsc w p B bs) (hB:B<=w.heap.size) (G:B<=bR/\B<=bM) (o:Digs bs 256) (q:bs.length<=10000) (hu:Row .u64 w (.slice ao L l) ns) (j:Digs ns) (y:L<=1000)
  (xN:Box w bN (.slice ao L l) 23) (xS:Box w bS (.pointer p) 39) (xR:Box w bR (.slice none 0 0) 23) (xM:Box w bM (.int .i64 0) 3) (R:bR≠bM) (H:∀ x,ofP p x->x≠bN/\x≠bS/\x≠bR/\x≠bM) :
  Calls prog 41 #[.pointer (some ⟨bN,0,none⟩),.pointer (some ⟨bS,0,none⟩),.pointer (some ⟨bR,0,none⟩),.pointer (some ⟨bM,0,none⟩)] w fun r w'=>EB bR bM p B r1 r2 r3 r4 w r w':=by
 obtain ⟨_,_,_,e1,hL,-,-,-,-⟩:=hu.open;cases e1
 obtain ⟨N,hN⟩:∃ N,N=val ns:=⟨_,rfl⟩
 obtain ⟨E,hE⟩:∃ E,E=el N:=⟨_,rfl⟩
 have c:=Ck ns;rw [<- hN,<- hE,hL.out] at c;have b0:=xN.cell;have hY:=fX 1;have z:=er 1;by_cases hE0:E=0
 ·have c1:=xw none ao L l ns N (ar N) w trivial hu j (by omega) hN (by rw [<- hE];exact hE0) rfl;obtain ⟨n,hn⟩:∃ n,n=ar N:=⟨_,rfl⟩
  rw [<- hn] at c1;by_cases hL3:L<=300
  ·have C:=c.2 ⟨hL3,hE0⟩;have A:lW ns (bs.length+1) bs 0=(r1,r2,r3,r4):=by
    unfold nh at d;rw [ah C] at d;exact d
   have JD:=aa fun W (k:Kept af w W) ma mb K mm mr (hM:Md W none ma mb n K mm mr N)=>Dr p B bs ns ao L l ma mb n K mm mr N r1 r2 r3 r4 W C A (h.grew k) (aR hB k.size) o q (hu.grew k) j hN hM
   have s:Hid (r3≠0->r1=[]/\r2=0):=fun h=>sk A h
   have gL:¬ (L:Int) > 300:=by omega
   have Q:decide ((300:Int)<(L:Int))=false:=by simp;omega
   have v:=aa xN;have P:=aa xS;have O:=aa xR;have M:=aa xM;have T:=aa G;clear d h hu j o q hN hE c C A xN xS xR xM hL hE0 y hY hn hL3 G;go_enter func41,ntmps41;go_wp2_with fail;refine c1.mono ?_;rintro e w1 ⟨ma,mb,K,mm,mr,rfl,hM,-,k1⟩;obtain ⟨W2,i⟩:∃ W2,W2=w1.alloc (.cells #[.slice ma n mm,.int .u64 (K:Nat),.slice mb n mr] 70):=⟨_,rfl⟩
   have k2:Kept af w1 W2:=by rw [i];exact (aj af w1).alloc _
   have I:W2.heap[w1.heap.size]? = some (.cells #[.slice ma n mm,.int .u64 (K:Nat),.slice mb n mr] 70 (0,0)):=by rw [i];exact heap_alloc_new _ _
   have K2:=k1.trans k2;obtain ⟨m0,m1,m2⟩:=aw I;have b2:=(v.out.grew K2).cell;have s2:=(P.out.grew K2).cell;have g:=aa K2;have J2:=JD.out W2 K2 ma mb K mm mr (hM.grew k2);have t:=aa i;clear c1 k1 k2 K2 hM i I b0;go_wp2_with (rw [<- t.out]);refine (z _).mono ?_;rintro e w3 ⟨rfl,S⟩;obtain rfl:=S.symm;go_wp2_with fail;refine J2.mono ?_;rintro e w4 ⟨⟨h0,uo,un,uc,rfl,hr,hf⟩ | ⟨h0,rfl⟩,hs,k4⟩
   ·have kk:Kept (ofP p) w w4:=g.out.any.trans k4;have xr:=(O.out.grew g.out).kept k4 (fun f=>(H _ f).2.2.1 rfl);have xm:=(M.out.grew g.out).kept k4 (fun f=>(H _ f).2.2.2 rfl);have c3:=xr.cell;have f3:=xr.free;have D:=xm.other ⟨bR,0,none⟩ (fun e=>R e.symm) (.slice uo un uc);have c4:=D.cell;have f4:=D.free;have HF:=aa (hf.after g.out);have HR:=aa hr;have HS:=aa hs;have J:=aa kk;clear J2 hr hf hs k4 kk xr xm D m0 m1 m2 b2 s2;go_wp2_with fail;go_end0
    exact .inl ⟨h0,rfl,_,_,HR.out,HF.out,HS.out,J.out,rfl⟩
   ·obtain ⟨q1,q2⟩:=s.out h0;exact ⟨rfl,.inr ⟨h0,rfl,q1,q2,hs,g.out.any.trans k4⟩⟩
  ·have m:¬ mE ns:=fun h=>hL3 (c.1 h).1
   unfold nh at d;rw [ai m] at d;simp only [fi] at d;obtain ⟨rfl,rfl,rfl,rfl⟩:=d;have gL:(L:Int) > 300:=by omega
   have Q:decide ((300:Int)<(L:Int))=true:=by simp;omega
   have HS:=aa h;have v:=aa xN;clear h hu j o q hN hE c m xN xS xR xM hL hE0 y z hn hL3;go_enter func41,ntmps41;go_wp2_with fail;refine c1.mono ?_;rintro e w1 ⟨ma,mb,K,mm,mr,rfl,hM,-,k1⟩;obtain ⟨W2,i⟩:∃ W2,W2=w1.alloc (.cells #[.slice ma n mm,.int .u64 (K:Nat),.slice mb n mr] 70):=⟨_,rfl⟩
   have K2:Kept af w W2:=by rw [i];exact k1.alloc _
   have b2:=(v.out.grew K2).cell;have g:=aa K2;have t:=aa i;clear c1 k1 K2 hM i b0;go_wp2_with (rw [<- t.out]);refine (hY _).mono ?_;rintro e w3 ⟨rfl,rfl⟩;exact ⟨rfl,.inr ⟨by decide,rfl,rfl,rfl,HS.out.grew g.out,g.out.any⟩⟩
 ·have m:¬ mE ns:=fun h=>hE0 (c.1 h).2
  unfold nh at d;rw [ai m] at d;simp only [fi] at d;obtain ⟨rfl,rfl,rfl,rfl⟩:=d;have c1:=oH ao L l ns N E hN hE w hu j (by omega);have g0:¬ ((E:Nat):Int)=0:=by omega
  have gb:(((E:Nat):Int) != 0)=true:=by simp;omega
  have HS:=aa h;clear h hu j o q c m xN xS xR xM hL y z hN hE;go_enter func41,ntmps41;go_wp2_with fail;refine c1.mono ?_;rintro e w1 ⟨a,K,b,rfl,ra,rb,-,-,k1⟩;obtain ⟨za,zn,zc,rfl,-⟩:=ra.open;obtain ⟨zb,zm,zd,rfl,-⟩:=rb.open;unfold jx;have F:=aa k1;clear c1 k1 ra rb b0;go_wp2_with fail;try rw [gb]
  refine (hY _).mono ?_;rintro e w3 ⟨rfl,rfl⟩;exact ⟨rfl,.inr ⟨by decide,rfl,rfl,rfl,HS.out.grew (F.out.alloc _),(F.out.alloc _).any⟩⟩

def te:KS:=⟨none,0,0,0,none,0,0,none,0,0,none,0,0,none,0,0,none,0,0,none,0,0⟩
def Di:KL:=⟨[],[],[],[],[],[],[]⟩

theorem qM (w:World):te.Rows w Di:=⟨Row.nil _ _,Row.nil _ _,Row.nil _ _,Row.nil _ _,Row.nil _ _,Row.nil _ _,Row.nil _ _⟩
theorem qL:Di.Digs:=⟨Digs.nil _,Digs.nil _,Digs.nil _,Digs.nil _,Digs.nil _,Digs.nil _,Digs.nil _⟩
theorem pz:te.light:=⟨by decide,by decide,by decide,by decide,by decide,by decide,by decide⟩

def zE:Prop:=∀ w,Calls prog 19 #[.pointer none,.agg te.v,.slice none 0 0,.pointer none,.agg #[.int .i64 0,.slice none 0 0]] w fun q w'=>∃ v',q=.returned (.tuple #[v',.int .i64 ((190:Nat):Int)])/\Row .u8 w' v' []/\Kept af w w'

def zD:Prop:=∀ w,Calls prog 11 #[.agg te.v,.slice none 0 0] w fun q w'=>∃ v',q=.returned (.tuple #[v',.int .i64 ((190:Nat):Int)])/\Row .u8 w' v' []/\Kept af w w'

theorem EJ:nh [7] [0,3]=([3],2,0,[]):=by decide +kernel

theorem H4 (W:World):Row .u8 (W.alloc (.cells #[.int .u8 0,.int .u8 3] 5)) (.slice (some ⟨W.heap.size,0,none⟩) 2 2) [0,3]:=
 Row.of_own (base:=W.heap.size) (e:=5) (World.ownsRow_lit W #[.int .u8 (0:Nat),.int .u8 (3:Nat)] 2 (leR _) (by unfold maxLen;omega) rfl)

theorem Aj (hA:zE) (hP:zD) (hB:EF) (w:World):Calls prog 9 #[] w fun r w'=>r=.returned (.bool true)/\Kept af w w':=by
 have J1:=hA w;have JP:=aa hP;have HB:=aa hB;clear hA hP hB;unfold te KS.v at J1;go_enter func9,ntmps9;go_wp2_with fail;refine J1.mono ?_;rintro q w1 ⟨v1,rfl,h,k1⟩;obtain ⟨o1,n1,c1,rfl,_⟩:=h.open;have m:=aa k1;have J2:=JP.out w1;clear J1 h k1 JP;unfold te KS.v at J2;go_wp2_with fail;refine J2.mono ?_;rintro q w2 ⟨v2,rfl,i,k2⟩;obtain ⟨o2,n2,c2,rfl,_⟩:=i.open;have c:=aa ((m.out.trans k2).alloc (.cells #[.int .u8 0,.int .u8 3] 5));have J3:=Gh _ [0,3] _ (H4 w2) (by simp);clear J2 i k2;go_wp2_with fail;refine J3.mono ?_;rintro q w3 ⟨g,rfl,hg,k,k3⟩;have HG:Hid (w.heap.size<=g):=aR c.out.size hg
 have l:=k.grew ((aj af w3).alloc (.cells #[.int .u64 (7:Nat)] 24));have J4:=HB.out (some ⟨g,0,none⟩) w3.heap.size [0,3] [7] _ 1 1 [3] 2 0 [] _ EJ l (by simp) (fun d hd=>by simp at hd;omega) (by simp) (H3 w3 7) (Digs.one (by omega)) (by omega);have n:=aa ((c.out.trans k3).alloc (.cells #[.int .u64 (7:Nat)] 24));clear J3 k l k3 hg HB;go_wp2_with fail;refine J4.mono ?_;rintro q w4 ⟨u,rfl,⟨j,_⟩,_,k4⟩;obtain ⟨o4,n4,c4,rfl,e,_,_,_,a⟩:=j.open;obtain rfl:1=n4:=e.out;obtain ⟨b,off,rfl,q0⟩:=a 0 (by omega);have p:w4.cell? ⟨b,off,none⟩=some (.int .u64 3):=q0
 have o:Hid (Kept af w w4):=n.out.next k4 (fun y hy f=>by have h1:=pA f;have h2:=HG.out;omega)
 clear J4 j k4 e a q0;go_wp2_with fail;go_ret;exact ⟨rfl,o.out⟩

theorem xJ {l:List Nat} (h:l≠[]):∃ l' x,l=l' ++ [x]:=⟨l.dropLast,l.getLast h,(List.dropLast_concat_getLast h).symm⟩

theorem vD:∀ (n:Nat) (a b:List Nat),a.length=n->b.length=n->Digs a 256->Digs b 256->bev a=bev b->a=b
 | 0,a,b,ha,hb,_,_,_=>by rw [mn.1 ha,mn.1 hb]
 | n+1,a,b,ha,hb,da,db,h=>by
  obtain ⟨a',x,rfl⟩:=xJ (l:=a) (fun e=>by rw [e] at ha;cases ha);obtain ⟨b',y,rfl⟩:=xJ (l:=b) (fun e=>by rw [e] at hb;cases hb);rw [mD,mD] at h;have hx:x<256:=da x (by simp);have hy:y<256:=db y (by simp);rw [aZ,List.length_singleton] at ha hb;have e1:x=y:=by omega
  have e2:=vD n a' b' (by omega) (by omega) (fun d hd=>da d (by simp [hd])) (fun d hd=>db d (by simp [hd])) (by omega);rw [e1,e2]

theorem Cg {cs:List Nat} (hd:Digs cs 256):bes (bev cs) cs.length cs.length=cs:=
 vD cs.length _ _ (cV _ _ _) rfl (oQ _ _ _) hd (oR (mC hd))

theorem vE {ns bs r1 r4:List Nat} {k e1:Nat} (h:nh ns bs=(r1,k,e1,r4)):e1=0\/e1=1\/e1=150:=by
 have hF:mE ns->∀ f bs a r1 k e1 r4,lW ns f bs a=(r1,k,e1,r4)->e1=0\/e1=150:=fun b f=>by
  induction f with
  | zero=>
   intro bs a r1 k e1 r4 h;simp only [lW,fi] at h;omega
  | succ f ih=>
   intro bs a r1 k e1 r4 h;unfold lW at h
   split at h
   ·next hb=>
    simp only [fi] at h;obtain ⟨_,_,rfl,_⟩:=h;unfold eY at hb ⊢;have h1:=b.1;have h2:=b.2.2.1;rw [ai (by omega),ai (by omega)]
    split
    ·exact .inr rfl
    ·exact .inl rfl
   ·split at h
    ·simp only [fi] at h;omega
    ·exact ih _ _ _ _ _ _ h
 unfold nh at h
 split at h
 ·next b=>rcases hF b _ _ _ _ _ _ _ h with h | h <;> omega
 ·simp only [fi] at h;omega

theorem A8 {ns ds ps qs a b c:List Nat} {e:Nat} {at_:Int} {fs cs bs:List Nat} {E:Nat} {RL rest:List Nat} (h:PrvL ns ds ps qs a b c e at_ fs cs bs E RL rest) (h0:E≠0) (h1:E≠220):RL=[]:=by
 rcases h with ⟨_,_,rfl,_⟩ | ⟨_,_,_,rfl,_⟩ | ⟨_,_,_,_,_,_,⟨_,_,rfl⟩ | ⟨_,_,_,_,_,_,⟨_,rfl,_⟩ | ⟨_,rfl,_⟩⟩⟩
 ·rfl
 ·rfl
 ·rfl
 ·exact absurd rfl h1
 ·exact absurd rfl h0

theorem yV {ns ds ps qs a b c:List Nat} {e:Nat} {at_:Int} {fs cs bs:List Nat} {RL rest:List Nat} (h:PrvL ns ds ps qs a b c e at_ fs cs bs 220 RL rest):RL=List.replicate cs.length 0:=by
 rcases h with ⟨_,h,_⟩ | ⟨_,_,h,_⟩ | ⟨_,_,_,_,_,hb,⟨_,h,_⟩ | ⟨_,_,_,_,_,_,⟨_,_,h⟩ | ⟨_,h,_⟩⟩⟩
 ·omega
 ·omega
 ·have:=vE hb;omega
 ·exact h
 ·omega

theorem A9 {ns ds ps qs b c d:List Nat} {e:Nat} {at_:Int} {fs cs bs:List Nat} {RL rest:List Nat} (h:PrvL ns ds ps qs b c d e at_ fs cs bs 0 RL rest):KeyGood ns ds ps qs b c d e/\(cs.length=fw (val ns)/\bev cs<val ns)/\∃ m,m<val ns/\m^e%val ns=bev cs/\RL=bes m cs.length cs.length:=by
 rcases h with ⟨_,h,_⟩ | ⟨_,_,h,_⟩ | ⟨hg,hn,_,_,e1,hb,⟨h1,h,_⟩ | ⟨_,T,hT,_,m,hm,⟨_,h,_⟩ | ⟨hck,_,hRL⟩⟩⟩
 ·omega
 ·omega
 ·exact absurd h.symm h1
 ·omega
 ·have a:cs.length=fw (val ns)/\bev cs<val ns:=by
   unfold jq at hn
   split at hn
   ·next h=>exact h
   ·omega
  exact ⟨hg,a,m,by rw [hm];exact yS (by omega),hck,hRL⟩

theorem Dn {ns ds ps qs a b c:List Nat} {e:Nat} {at_:Int} {fs cs bs:List Nat} {RL rest:List Nat} (h:PrvL ns ds ps qs a b c e at_ fs cs bs 0 RL rest) (hd:Digs cs 256):qY ns e RL=0/\zJ ns e RL=cs:=by
 obtain ⟨hg,⟨h1,h2⟩,m,h3,h4,rfl⟩:=A9 h;have hb:bev (bes m cs.length cs.length)=m:=oR (bk h3 (by rw [h1];exact BA _));have hE:qY ns e (bes m cs.length cs.length)=0:=EG hg.facts.2.2.2.1 (by rw [cV];exact h1) (by rw [hb];exact h3);refine ⟨hE,?_⟩;unfold zJ;rw [ah hE,hb,h4,cV,Cg hd]

def Et (w:World):Value->Nat
 | .slice (some a) n _=>val ((List.range n).map fun i=>cellN w ⟨a.block,a.off+i,none⟩)
 | _=>0

theorem Row.num {w:World} {v:Value} {ds:List Nat} (h1:Row .u64 w v ds):Et w v=val ds:=by
 obtain ⟨ao,f,rfl,_,_,_,hc⟩:=h1;cases ao with
 | none=>
  have:ds=[]:=by
   rcases ds with _ | ⟨d,r⟩
   ·rfl
   ·obtain ⟨b,off,e,_⟩:=hc 0 (by simp);cases e
  subst this;rfl
 | some a=>
  show val ((List.range ds.length).map fun i=>cellN w ⟨a.block,a.off+i,none⟩)=_
  congr 1
  refine List.ext_getElem (by simp) (fun i h1 h2=>?_);obtain ⟨b,off,e,c⟩:=hc i h2;cases e
  rw [List.getElem_map,List.getElem_range];unfold cellN;rw [c,aA,aQ h2];simp

theorem DR {xs:List Nat} {m:Nat} (hm:m<=xs.length) (h:val xs<18446744073709551616^m):val (xs.take m)=val xs:=by
 have e:=aW 18446744073709551616 xs m hm;rcases cF (val (xs.drop m)) with h0 | h0
 ·rw [h0] at e;omega
 ·have:=bi (18446744073709551616^m) h0;omega

theorem GG (ao:Option Addr) (n c:Nat) (xs:List Nat) (w:World) (h:Row .u64 w (.slice ao n c) xs) (hd:Digs xs) (hl:n<=300) :
  Calls prog 248 #[.slice ao n c] w fun e w'=>∃ (i:Option Addr) (m a:Nat) (ys:List Nat),e=.returned (.slice i m a)/\m<=n/\Row .u64 w (.slice i m a) ys/\Digs ys/\val ys=val xs/\w'=w:=by
 have hB:=iw _ xs w h hd (by obtain ⟨_,_,_,e,h',_⟩:=h.open;cases e;rw [h'.out];omega);obtain ⟨_,_,_,e1,hL,l,p,o,_⟩:=h.open;cases e1
 obtain ⟨m,hm⟩:∃ m,m=ar (val xs):=⟨_,rfl⟩
 have g:m<=n:=by
  rw [hm,<- hL.out];exact (aG _ _).2 (aE (by omega) hd)
 have f:=nW (val xs);rw [<- hm] at f;have j:aM (val xs)<=64*n:=by
  rw [aX,<- B64,<- hL.out];exact aE (by omega) hd
 have hv:val (xs.take m)=val xs:=DR (by rw [hL.out];exact g) ((aG _ _).1 (by omega));have d:=aa (h.cut (m:=m) (by rw [hL.out];exact g));have HD:=aa (hd.take m);have HV:=aa hv;obtain ⟨b,hb⟩:∃ b,b=aM (val xs):=⟨_,rfl⟩
 rw [<- hb] at hB f j;have g1:((b:Int)+64-1)/64=(m:Int):=by omega
 have g2:(m:Int)<=(c:Int):=by omega
 have g0:(0:Int)<=(m:Int):=bY _;have k:n<=c:=l;clear hv f hb h hd hL hm;go_enter func248,ntmps248;go_wp2_with fail;refine hB.mono ?_;rintro e w1 ⟨rfl,rfl⟩;clear hB;go_wp2_with fail;go_ret;exact ⟨_,_,_,_,rfl,g,d.out,HD.out,HV.out,rfl⟩

theorem Ak {A C n:Nat} (hA:A<18446744073709551616^n) (hC:C<18446744073709551616^n):Nat.gcd A C<18446744073709551616^n:=by
 rcases cF A with h | h
 ·rw [h,Nat.gcd_zero_left];exact hC
 ·exact fF (Nat.gcd_le_left _ h) hA

theorem Bo {V n:Nat} (h:V<18446744073709551616^n) (hn:n<=300):dF V (n:Int)=0/\ei V (n:Int)=digs V n:=by
 have hw:=(aG V n).2 h;have e:dF V (n:Int)=0:=by
  unfold dF;rw [ai (by omega),ai (by omega)]
 exact ⟨e,by unfold ei;rw [ah e];rfl⟩

theorem Ap (ao bo:Option Addr) (L M d c:Nat) (xs ys:List Nat) (E:Nat) (hE:E=if nY L M=true then 0 else 2) (RL:List Nat) (g:RL=if E=0 then digs (Nat.gcd (val xs) (val ys)) (max L M) else []) (w:World) (hu:Row .u64 w (.slice ao L d) xs) (hv:Row .u64 w (.slice bo M c) ys) (k:Digs xs) (l:Digs ys) :
  Calls prog 218 #[.slice ao L d,.slice bo M c] w fun e w'=>∃ v',e=.returned (.tuple #[v',.int .i64 (E:Nat)])/\Row .u64 w' v' RL/\Kept af w w':=by
 have lx:xs.length=L:=by obtain ⟨_,_,_,e,h,_⟩:=hu.open;cases e;exact h.out
 have ly:ys.length=M:=by obtain ⟨_,_,_,e,h,_⟩:=hv.open;cases e;exact h.out
 have V:max (L:Int) (M:Int)=((max L M:Nat):Int):=by omega
 by_cases hok:L<=300/\M<=300
 ·rw [ah (by unfold nY;exact dL hok)] at hE;subst hE;rw [ah rfl] at g;have hA:val xs<18446744073709551616^max L M:=bd (aE (by omega) k) (aY (by omega) (by omega));have hC:val ys<18446744073709551616^max L M:=bd (aE (by omega) l) (aY (by omega) (by omega));have hG:=Ak hA hC;have T:max L M<=300:=by omega
  obtain ⟨r1,r2⟩:=Bo hG T;have g1:¬ ((max L M:Nat):Int) > 300:=by omega
  have HU:=aa hu;have HV:=aa hv;have HX:=aa k;have HY:=aa l;have y:=aa g;have t:=aa r1;have v:=aa r2;obtain ⟨G,q⟩:∃ G,G=Nat.gcd (val xs) (val ys):=⟨_,rfl⟩
  rw [<- q] at t v y;have s:=aa q.symm;generalize max L M=N at *;clear hu hv k l g r1 r2 hG hA hC q lx ly;go_enter func218,ntmps218;go_wp2_with fail;go_loopw [0,1] (fun a b wr=>∃ (ao bo:Option Addr) (L M d c:Nat) (xs ys:List Nat),a=.slice ao L d/\b=.slice bo M c/\L<=300/\M<=300/\Hid (Row .u64 wr (.slice ao L d) xs)/\Hid (Row .u64 wr (.slice bo M c) ys)/\Hid (Digs xs)/\Hid (Digs ys)/\Hid (Nat.gcd (val xs) (val ys)=G)/\Hid (Kept af w wr)) (fun _ b wr=>Et wr b)
  case atStart=>exact ⟨ao,bo,L,M,d,c,xs,ys,rfl,rfl,hok.1,hok.2,HU.out,HV.out,HX.out,HY.out,s.out,aj _ _⟩
  case round=>
   clear HU HV HX HY s hok;obtain ⟨ao,bo,L,M,d,c,xs,ys,rfl,rfl,hL,hM,HU,HV,HX,HY,HG,HK⟩:=hrel;have ly:ys.length=M:=by obtain ⟨_,_,_,e,h,_⟩:=HV.out.open;cases e;exact h.out
   have hB:=iw _ ys wr HV.out HY.out (by rw [ly];omega);have f:=HV.out.num;by_cases h0:val ys=0
   ·have i:aM (val ys)=0:=by rw [h0];rfl
    rw [i] at hB;have p:=HG.out;rw [h0,Nat.gcd_zero_right] at p;have B:=Dg _ xs (N:Int) wr HU.out HX.out;rw [p,t.out,v.out] at B;have O:=aa HK.out;clear f i p h0 ly;go_wp2_with fail;refine hB.mono ?_;rintro e w1 ⟨rfl,rfl⟩;clear hB;go_wp2_with fail;refine B.mono ?_;rintro e w2 ⟨v2,rfl,j,k2⟩;go_wp2_with fail;go_ret2;refine ⟨_,by first | rfl | trivial,?_,O.out.trans k2⟩;rw [y.out];exact j
   ·obtain ⟨E,hE⟩:∃ E,E=jv (val ys) L M:=⟨_,rfl⟩
    obtain ⟨e1,_,e3⟩:=gX (X:=val xs) (Y:=val ys) (L:=L) (M:=M) ⟨hL,hM⟩ h0;have hQ:=uP ao bo L M d c xs ys 0 e1.symm wr HU.out HV.out HX.out HY.out;rw [e3] at hQ;have U:0<aM (val ys):=by
     rcases cF (aM (val ys)) with h | h
     ·have:=(aX (val ys) 0).1 (by omega);rw [cw] at this;omega
     ·exact h
    obtain ⟨bl,i⟩:∃ bl,bl=aM (val ys):=⟨_,rfl⟩
    rw [<- i] at hB U;have gb:(bl:Int) > 0:=by omega
    have hlt:val xs%val ys<val ys:=ay _ (by omega);have Z:val ys<18446744073709551616^M:=by rw [<- ly];exact aE (by omega) HY.out
    have m:Hid (val (digs (val xs%val ys) M)=val xs%val ys):=by
     unfold Hid;rw [aB,ax (by omega)]
    have I:Hid (Nat.gcd (val ys) (val xs%val ys)=G):=by
     unfold Hid;rw [<- HG.out,i8 (val ys),<- Nat.gcd_rec,i8]
    have P:=aa hlt;have n:=aa f;clear hE e1 e3 i hlt Z h0 HG f ly;go_wp2_with fail;refine hB.mono ?_;rintro e w1 ⟨rfl,rfl⟩;clear hB;go_wp2_with fail;refine hQ.mono ?_;rintro e w2 ⟨v1,v2,rfl,W,j,k2⟩;obtain ⟨ro,rn,rc,rfl,F,_⟩:=j.open;have S:rn=M:=by rw [<- F.out,ag]
    subst S;have A:=GG ro rn rc _ w2 j (ak (by omega) _ _) hM;clear hQ W F;go_wp2_with fail;refine A.mono ?_;rintro e w3 ⟨R,m',o,zs,rfl,ab,D,C,r,rfl⟩;rw [m.out] at r;have x:=aa D;have H:=aa C;have z:=aa r;have Q:=aa (HV.out.grew k2);have J:=aa (HK.out.trans k2);clear A j D C r k2;go_wp2_with fail;go_roundw
    case rel=>exact ⟨bo,R,rn,m',c,o,ys,zs,rfl,rfl,hM,by omega,Q.out,x.out,HY.out,H.out,by unfold Hid;rw [z.out];exact I.out,J.out⟩
    case measure=>rw [x.out.num,z.out,n.out];exact P.out
 ·rw [ai (by unfold nY;simpa using hok)] at hE;subst hE;rw [ai (by omega)] at g;subst g;have g1:((max L M:Nat):Int) > 300:=by omega
  clear hu hv k l lx ly;generalize max L M=N at *;go_enter func218,ntmps218;go_wp2;go_ret2;exact ⟨_,rfl,Row.nil _ _,aj _ _⟩

theorem Cu {C e T:Nat} (h2:2<=C) (h3:3<=e) (hT:T<e) (hi:C*T%e=1):(1+C*(e-T))/e<C/\e*((1+C*(e-T))/e)%C=1:=by
 have h0:1<=T:=by
  rcases cF T with h | h
  ·subst h;rw [cG,iI] at hi;exact absurd hi (by decide)
  ·exact h
 have hs:C*(e-T)=C*e-C*T:=j8 ..;have c:C*T<=C*e:=bi _ (by omega);have b:=ef (C*T) e;rw [hi] at b;have hq:C*T/e<C:=by
  rw [cj (by omega)];exact lC hT (by omega)
 have a:1+C*(e-T)=e*(C-C*T/e):=by
  rw [hs,j8,aF e C];omega
 have hd:(1+C*(e-T))/e=C-C*T/e:=by rw [a,Nat.mul_div_cancel_left _ (by omega)]
 have hC:C*1<=C*T:=bi _ h0;rw [hd];refine ⟨?_,?_⟩
 ·have hp:0<C*T/e:=by
   rcases cF (C*T/e) with h | h
   ·rw [h] at b;omega
   ·exact h
  omega
 ·rw [<- a,eW,ax (by omega)]

theorem m9 {e:Nat} (h0:e≠0) (he:e<18446744073709551616):ar e=1:=by
 have h1:=(aG e 1).2 (by rw [jG];exact he);have h2:¬ ar e<=0:=fun h=>by
  have:=(aG e 0).1 h;rw [cw] at this;omega
 omega

theorem CI (co:Option Addr) (L a:Nat) (cs:List Nat) (C e:Nat) (hC:C=val cs) (h3:3<=e) (c:e%2=1) (b:e<18446744073709551616) (hL:L<=299) (hg:Nat.gcd C e≠1) (w:World) (hu:Row .u64 w (.slice co L a) cs) (hd:Digs cs) :
  Calls prog 159 #[.int .u64 (e:Nat),.slice co L a] w fun r w'=>r=.panicked [refusal 190]/\Kept af w w':=by
 obtain ⟨_,_,_,e1,hl,-,-,-,-⟩:=hu.open;cases e1
 have d:ar e=1:=m9 (by omega) b;have JW:=qB e b w;have J1:Hid (∀ W zo zc,Kept af w W->Row .u64 W (.slice zo 1 zc) [e]->Calls prog 158 #[.slice co L a,.slice zo 1 zc] W fun r w'=>r=.panicked [refusal 190]/\Kept af W w'):=fun W zo zc k hr=>vS co zo L 1 a zc cs [e] C e hC (ip e).symm (by omega) c d.symm (by omega) (by omega) hg W (hu.grew k) hr hd (Digs.one b)
 clear hu hd hl hC h3 c b hL hg d;go_enter func159,ntmps159;go_wp2_with fail;refine JW.mono ?_;rintro r w1 ⟨zo,zc,rfl,hr,k1⟩;have J2:=J1.out w1 zo zc k1 hr;clear JW hr;go_wp2_with fail;refine J2.mono ?_;rintro r w2 ⟨rfl,k2⟩;exact ⟨rfl,rfl,k1.trans k2⟩

theorem At (bP bQ bO:Nat) (ao bo:Option Addr) (L M c a:Nat) (xs ys:List Nat) (P Q:Nat) (hP:P=val xs) (hQ:Q=val ys) (d:P<2\/Q<2) (w:World) (hu:Row .u64 w (.slice ao L c) xs) (hv:Row .u64 w (.slice bo M a) ys) (f:Digs xs) (g:Digs ys) (b0:w.cell? ⟨bP,0,none⟩=some (.slice ao L c)) (b1:w.cell? ⟨bQ,0,none⟩=some (.slice bo M a)) :
  Calls prog 217 #[.pointer (some ⟨bP,0,none⟩),.pointer (some ⟨bQ,0,none⟩),.pointer (some ⟨bO,0,none⟩)] w fun e w'=>e=.panicked [refusal 1]/\Kept af w w':=by
 have hY:=dM 1;have JP:=nA ao L c xs 2 (by omega) (decide (P<2)) (by rw [hP]) w hu f;have JQ:Hid (∀ W,Kept af w W->Calls prog 211 #[.slice bo M a,.int .u64 2] W fun e w'=>e=.returned (.bool (decide (Q<2)))/\Kept af W w'):=fun W k=>nA bo M a ys 2 (by omega) (decide (Q<2)) (by rw [hQ]) W (hv.grew k) g
 clear hu hv f g hP hQ;by_cases h1:P<2
 ·rw [dL h1] at JP;clear d h1 JQ;go_enter func217,ntmps217;go_wp2_with fail;refine JP.mono ?_;rintro e w1 ⟨rfl,k1⟩;have b:=aa k1;clear JP k1;go_wp2_with fail;refine (hY _).mono ?_;rintro e w2 ⟨rfl,rfl⟩;exact ⟨rfl,rfl,b.out⟩
 ·rw [cP h1] at JP;rw [dL (d.resolve_left h1)] at JQ;clear d h1;go_enter func217,ntmps217;go_wp2_with fail;refine JP.mono ?_;rintro e w1 ⟨rfl,k1⟩;have b:=aa k1;have b2:=k1.cellN b1;have J2:=JQ.out _ k1;clear JP k1 b1 b0;go_wp2_with fail;refine J2.mono ?_;rintro e w2 ⟨rfl,k2⟩;have h:=aa (b.out.trans k2);clear J2 k2 b2;go_wp2_with fail;refine (hY _).mono ?_;rintro e w3 ⟨rfl,rfl⟩;exact ⟨rfl,rfl,h.out⟩

theorem oT {P Q L M:Nat} (hP:P<18446744073709551616^L) (hQ:Q<18446744073709551616^M) (a:2<=P) (b:2<=Q):jL P Q<18446744073709551616^(L+M):=by
 unfold jL;rw [aN];have h1:(P-1)/Nat.gcd (P-1) (Q-1)<=P-1:=ew _ _;exact lw (by omega) (by omega)

theorem GL (bP bQ bO:Nat) (ao bo:Option Addr) (L M d a:Nat) (xs ys:List Nat) (P Q C n:Nat) (hP:P=val xs) (hQ:Q=val ys) (Y:2<=P) (ab:2<=Q) (hC:C=jL P Q) (hn:n=ar C) (hL:L<=130) (hM:M<=130) (w:World) (hu:Row .u64 w (.slice ao L d) xs) (hv:Row .u64 w (.slice bo M a) ys) (q:Digs xs) (r:Digs ys) (b0:w.cell? ⟨bP,0,none⟩=some (.slice ao L d)) (b1:w.cell? ⟨bQ,0,none⟩=some (.slice bo M a)) (b2:Box w bO (.slice none 0 0) 23) :
  Calls prog 217 #[.pointer (some ⟨bP,0,none⟩),.pointer (some ⟨bQ,0,none⟩),.pointer (some ⟨bO,0,none⟩)] w fun e w'=>e=.returned (.tuple #[])/\∃ vo vc,Row .u64 w' (.slice vo n vc) (digs C n)/\Fresh w (.slice vo n vc)/\Box w' bO (.slice vo n vc) 23/\Kept (fun b=>b=bO) w w':=by
 obtain ⟨_,_,_,e1,D,-,-,-,-⟩:=hu.open;cases e1
 obtain ⟨_,_,_,e1,E,-,-,-,-⟩:=hv.open;cases e1
 have hR:=fun z=>de z
 have Z:P<18446744073709551616^L:=by rw [hP,<- D.out];exact aE (by omega) q
 have ac:Q<18446744073709551616^M:=by rw [hQ,<- E.out];exact aE (by omega) r
 have A:C<18446744073709551616^(L+M):=by rw [hC];exact oT Z ac Y ab
 have ay:n<=L+M:=by rw [hn];exact (aG _ _).2 A
 have JP:=nA ao L d xs 2 (by omega) false (by symm;exact cP (by omega)) w hu q;have JQ:Hid (∀ W,Kept af w W->Calls prog 211 #[.slice bo M a,.int .u64 2] W fun e w'=>e=.returned (.bool false)/\Kept af W w'):=fun W k=>nA bo M a ys 2 (by omega) false (by symm;exact cP (by omega)) W (hv.grew k) r
 have JA:Hid (∀ W,Kept af w W->Calls prog 164 #[.slice ao L d] W fun e w'=>∃ vo vc,e=.returned (.slice vo L vc)/\Row .u64 w' (.slice vo L vc) (digs (P-1) L)/\Kept af W w'):=fun W k=>vT ao L d xs P hP (by omega) D.out (by omega) W (hu.grew k) q
 have JB:Hid (∀ W,Kept af w W->Calls prog 164 #[.slice bo M a] W fun e w'=>∃ vo vc,e=.returned (.slice vo M vc)/\Row .u64 w' (.slice vo M vc) (digs (Q-1) M)/\Kept af W w'):=fun W k=>vT bo M a ys Q hQ (by omega) E.out (by omega) W (hv.grew k) r
 have vA:val (digs (P-1) L)=P-1:=by rw [aB,ax (by omega)]
 have vB:val (digs (Q-1) M)=Q-1:=by rw [aB,ax (by omega)]
 obtain ⟨G,hG⟩:∃ G,G=Nat.gcd (P-1) (Q-1):=⟨_,rfl⟩
 have V:0<G:=by rw [hG];exact Nat.gcd_pos_of_pos_left _ (by omega)
 have X:G<18446744073709551616^max L M:=by
  have h1:G<=P-1:=by rw [hG];exact Nat.gcd_le_left _ (by omega)
  have h2:18446744073709551616^L<=18446744073709551616^max L M:=aY (by omega) (by omega);omega
 have vG:val (digs G (max L M))=G:=by rw [aB,ax X]
 have JD:Hid (∀ W va vb ca cb,Row .u64 W (.slice va L ca) (digs (P-1) L)->Row .u64 W (.slice vb M cb) (digs (Q-1) M)->Calls prog 218 #[.slice va L ca,.slice vb M cb] W fun e w'=>∃ vo vc,e=.returned (.tuple #[.slice vo (max L M) vc,.int .i64 0])/\Row .u64 w' (.slice vo (max L M) vc) (digs G (max L M))/\Kept af W w'):=fun W va vb ca cb h1 h2=>by
  refine (Ap va vb L M ca cb _ _ 0 (by rw [ah];unfold nY;simp;omega) _ (by rw [ah rfl]) W h1 h2 (ak (by omega) _ _) (ak (by omega) _ _)).mono ?_;rintro e w' ⟨v',rfl,hr,k⟩;rw [vA,vB,<- hG] at hr;obtain ⟨vo,vn,vc,rfl,hl,_,_,_,_⟩:=hr.open;obtain rfl:max L M=vn:=by rw [<- hl.out,ag]
  exact ⟨_,_,rfl,hr,k⟩
 have S:Hid (∀ W va ca vg cg,Row .u64 W (.slice va L ca) (digs (P-1) L)->Row .u64 W (.slice vg (max L M) cg) (digs G (max L M))->Calls prog 216 #[.slice va L ca,.slice vg (max L M) cg] W fun e w'=>∃ vo vc,e=.returned (.slice vo L vc)/\Row .u64 w' (.slice vo L vc) (digs ((P-1)/G) L)/\Kept af W w'):=fun W va ca vg cg h1 h2=>GS va vg L (max L M) ca cg _ _ (P-1) G vA.symm vG.symm V (by omega) (by omega) W h1 h2 (ak (by omega) _ _) (ak (by omega) _ _)
 have hq:(P-1)/G<18446744073709551616^L:=fF (ew _ _) (by omega);have vQ:val (digs ((P-1)/G) L)=(P-1)/G:=by rw [aB,ax hq]
 have U:(P-1)/G*(Q-1)=C:=by rw [hC,jL,hG]
 have i:Hid (∀ W va ca vb cb,Row .u64 W (.slice va L ca) (digs ((P-1)/G) L)->Row .u64 W (.slice vb M cb) (digs (Q-1) M)->Calls prog 148 #[.pointer none,.slice va L ca,.slice vb M cb] W fun e w'=>∃ vo vc,e=.returned (.slice vo (L+M) vc)/\Row .u64 w' (.slice vo (L+M) vc) (digs C (L+M))/\Kept af W w'):=fun W va ca vb cb h1 h2=>by
  refine (AJ va vb L M ca cb _ _ W h1 h2 (ak (by omega) _ _) (ak (by omega) _ _)).mono ?_;rintro e w' ⟨v',rfl,hr,k⟩;rw [vQ,vB] at hr;unfold jP at hr;rw [ah (by omega),U] at hr;obtain ⟨vo,vn,vc,rfl,hl,_,_,_,_⟩:=hr.open;obtain rfl:L+M=vn:=by rw [<- hl.out,ag]
  exact ⟨_,_,rfl,hr,k⟩
 have JN:Hid (∀ W v c,Row .u64 W (.slice v (L+M) c) (digs C (L+M))->Calls prog 156 #[.slice v (L+M) c] W fun e w'=>∃ vo vc,e=.returned (.slice vo n vc)/\Row .u64 w' (.slice vo n vc) (digs C n)/\Fresh W (.slice vo n vc)/\Kept af W w'):=fun W v c h=>qA v (L+M) c _ C n (by rw [aB,ax A]) hn (by omega) W h (ak (by omega) _ _) (by rw [ag];omega)
 have F:max (L:Int) (M:Int)=((max L M:Nat):Int):=by omega
 have g1:¬ ((max L M:Nat):Int) > 130:=by omega
 have T:¬ (130:Int)<((max L M:Nat):Int):=by omega
 have d1:decide ((130:Int)<((max L M:Nat):Int))=false:=cP T;have hS:=fun v n c W=>lZ v n c W
 have I:=aa b2;have az:max L M<=130:=by omega
 generalize max L M=m at *;clear hu hv q r hP hQ Y ab hC hn Z ac A ay hG V X vA vB vG hq vQ U D E b2;go_enter func217,ntmps217;go_wp2_with fail;refine JP.mono ?_;rintro e w1 ⟨rfl,k1⟩;have J:=aa k1;have c0:=k1.cellN b0;have c1:=k1.cellN b1;have J2:=JQ.out _ k1;clear JP k1 b1 b0 JQ;go_wp2_with fail;refine J2.mono ?_;rintro e w2 ⟨rfl,k2⟩;have p:=aa (J.out.trans k2);have e0:=k2.cellN c0;have e1:=k2.cellN c1;clear J2 k2 c0 c1 J;go_wp2_with fail;refine (hR _ _).mono ?_;rintro e w3 ⟨rfl,rfl⟩;go_wp2_with fail;try rw [d1]
 refine (hR _ _).mono ?_;rintro e w3 ⟨rfl,rfl⟩;clear hR g1 T d1 F;have HC:Hid (∀ W,Kept af w3 W->W.cell? ⟨bP,0,none⟩=some (.slice ao L d)/\W.cell? ⟨bQ,0,none⟩=some (.slice bo M a)):=fun W k=>⟨k.cellN e0,k.cellN e1⟩
 go_wp2_with fail;have KD:Kept af w3 w3.drew:=(aj af w3).drew;have R:=JA.out _ (p.out.trans KD);go_region_held3 (fun w'=>w'.cell? ⟨bP,0,none⟩=some (.slice ao L d)/\w'.cell? ⟨bQ,0,none⟩=some (.slice bo M a))
  (((try dsimp only);(repeat' apply And.intro) <;> first | (go_keep;done) | assumption))
  (first
  | (go_at_call 164;refine (JB.out _ (p.out.trans j)).mono ?_;rintro e w5 ⟨vb,cb,rfl,ae,k5⟩;obtain ⟨x,y⟩:=HC.out _ (j.trans k5))
  | (go_at_call 164;refine R.mono ?_;rintro e w4 ⟨va,ca,rfl,ad,k4⟩;have j:=KD.trans k4;obtain ⟨av,aw⟩:=HC.out _ j))
 have s:=aa (ad.grew k5);have t:=aa ae;have ap:=aa (p.out.trans (j.trans k5));have J5:=JD.out w5 va vb ca cb s.out t.out;clear R JA JB KD j k4 k5 ad ae HC av aw x y e0 e1 JD p;go_wp2_with fail;refine J5.mono ?_;rintro e w6 ⟨vg,cg,rfl,ai,k6⟩;have J6:=hS vg m cg w6;have O:=aa ai;have aq:=aa (ap.out.trans k6);have f:=aa (s.out.grew k6);have g:=aa (t.out.grew k6);clear J5 ai k6 s t;go_wp2_with fail;refine J6.mono ?_;rintro e w7 ⟨rfl,rfl⟩;have J7:=S.out w7 va ca vg cg f.out O.out;clear J6 hS;go_wp2_with fail;refine J7.mono ?_;rintro e w8 ⟨vq,cq,rfl,al,k8⟩;have J8:=i.out w8 vq cq vb cb al (g.out.grew k8)
 have au:=aa (aq.out.trans k8);clear J7 al k8 f g O S;go_wp2_with fail;refine J8.mono ?_;rintro e w9 ⟨vm,cm,rfl,am,k9⟩;have J9:=JN.out w9 vm cm am;have N:=aa (au.out.trans k9);clear J8 am k9 i;go_wp2_with fail;refine J9.mono ?_;rintro e H ⟨vo,vc,rfl,o,l,an⟩;have kk:=N.out.trans an;have hx:=I.out.grew kk;have cx:=hx.cell;have fx:=hx.free;have B:Fresh w (.slice vo n vc):=l.after N.out;have HR:=aa (o.kept (aD H bO (.slice vo n vc)) (fun b hb e=>by have h1:=B b hb;have h2:=I.out.lt;omega));have HX:=aa (hx.set (.slice vo n vc));have HF:=aa B
 have HK:Hid (Kept (fun b=>b=bO) w (H.setCell ⟨bO,0,none⟩ (.slice vo n vc))):=kk.any.trans (aD H bO _);clear J9 o l an kk hx B JN;go_wp2_with fail;go_end0
 exact ⟨rfl,vo,vc,HR.out,HF.out,HX.out,HK.out⟩

theorem GK (ao bo:Option Addr) (L M d f:Nat) (xs ys:List Nat) (P Q E:Nat) (RL:List Nat) (hP:P=val xs) (hQ:Q=val ys) (hL:L<=130) (hM:M<=130) (hE:(E=0/\2<=P/\2<=Q)\/(E=1/\(P<2\/Q<2))) (g:RL=if E=0 then digs (jL P Q) (ar (jL P Q)) else []) (w:World) (hu:Row .u64 w (.slice ao L d) xs) (hv:Row .u64 w (.slice bo M f) ys) (i:Digs xs) (j:Digs ys) :
  Calls prog 161 #[.slice ao L d,.slice bo M f] w fun e w'=>∃ v',e=.returned (.tuple #[v',.int .i64 (E:Nat)])/\Row .u64 w' v' RL/\Fresh w v'/\Kept af w w':=by
 have r:=im;have a:=tV w (.slice ao L d) (.slice bo M f) (.slice none 0 0) 23 23 23;have he:∀ args w,(callFunc 217 args).run prog w=.ok (.enter 217 args) w:=fun _ _=>by simp [go_sem]
 obtain ⟨W,hW⟩:∃ W,W=((w.alloc (.cells #[.slice ao L d] 23)).alloc (.cells #[.slice bo M f] 23)).alloc (.cells #[.slice none 0 0] 23):=⟨_,rfl⟩
 rw [<- hW] at a;obtain ⟨k0,x1,x2,x3,hs⟩:=a;have k1:=k0.alloc (.cells #[.int .i64 0] 32);have xe:Box (W.alloc (.cells #[.int .i64 0] 32)) W.heap.size (.int .i64 0) 32:=Box.new W (.int .i64 0) 32;have q:(W.alloc (.cells #[.int .i64 0] 32)).heap.size=W.heap.size+1:=by simp
 have l:Calls prog 103 #[.func (.func 217) #[] #[.pointer (some ⟨w.heap.size,0,none⟩),.pointer (some ⟨w.heap.size+1,0,none⟩),.pointer (some ⟨w.heap.size+1+1,0,none⟩)]] W fun e w'=>∃ n w1,e=.returned (.int .i64 n)/\((n=(E:Nat)/\∃ vo vn vc,Row .u64 w1 (.slice vo vn vc) RL/\(∀ b,(Value.slice vo vn vc).ownBlock=some b->W.heap.size+1<=b)/\Box w1 (w.heap.size+1+1) (.slice vo vn vc) 23/\Kept af w w1)/\w1.heap[W.heap.size]? = some (.cells #[.int .i64 0] 32 (0,0)))/\w'=w1.setCell ⟨W.heap.size,0,none⟩ (.int .i64 n):=by
  rcases hE with ⟨rfl,h2,h3⟩ | ⟨rfl,hno⟩
  ·rw [ah rfl] at g;subst g;refine mO _ _ W (fun n W'=>n=((0:Nat):Int)/\∃ vo vn vc,Row .u64 W' (.slice vo vn vc) (digs (jL P Q) (ar (jL P Q)))/\(∀ b,(Value.slice vo vn vc).ownBlock=some b->W.heap.size+1<=b)/\Box W' (w.heap.size+1+1) (.slice vo vn vc) 23/\Kept af w W') he ((GL _ _ _ ao bo L M d f xs ys P Q _ _ hP hQ h2 h3 rfl rfl hL hM _ (hu.grew k1) (hv.grew k1) i j (x1.alloc _).cell (x2.alloc _).cell (x3.alloc _)).mono ?_);rintro e w' ⟨rfl,vo,vc,hr,hf,hb,hk⟩;refine ⟨xe.kept hk (by omega),.inl ⟨rfl,rfl,vo,_,vc,hr,fun b o=>?_,hb,k1.next hk (fun x hx e=>by omega)⟩⟩;have:=hf b o;omega
  ·rw [ai (by decide)] at g;subst g;refine mO _ _ W (fun n W'=>n=((1:Nat):Int)/\∃ vo vn vc,Row .u64 W' (.slice vo vn vc) []/\(∀ b,(Value.slice vo vn vc).ownBlock=some b->W.heap.size+1<=b)/\Box W' (w.heap.size+1+1) (.slice vo vn vc) 23/\Kept af w W') he ((At _ _ _ ao bo L M d f xs ys P Q hP hQ hno _ (hu.grew k1) (hv.grew k1) i j (x1.alloc _).cell (x2.alloc _).cell).mono ?_);rintro e w' ⟨rfl,hk⟩;exact ⟨xe.grew hk,.inr ⟨_,rfl,rfl,none,0,0,Row.nil _ _,(fun b hb=>by cases hb),(x3.alloc _).grew hk,k1.trans hk⟩⟩
 have HW:=aa hW;have h:=aa hs;clear hu hv i j hP hQ hL hM hE g k0 k1 x1 x2 x3 xe hs q hW he;go_enter func161,ntmps161;go_wp2_with (rw [<- HW.out]);refine l.mono ?_;rintro e w' ⟨n,w1,rfl,⟨⟨rfl,vo,vn,vc,hr,c,hb,hk⟩,p⟩,rfl⟩;have a:=hb.other ⟨W.heap.size,0,none⟩ (by show _≠W.heap.size;have:=h.out;omega) (.int .i64 (E:Nat));have c1:=a.cell;have f1:=a.free;have c3:=(a.set (.slice vo vn vc)).cell;have m:Kept (fun b=>b=W.heap.size\/b=w.heap.size+1+1) w1 (w1.setCell ⟨W.heap.size,0,none⟩ (.int .i64 (E:Nat))):=(aD w1 W.heap.size _).mono (fun _ _ e=>.inl e);have k:=m.next (aD _ (w.heap.size+1+1) (.slice vo vn vc)) (fun _ _ e=>.inr e)
 have HK:=aa (hk.next k (fun x hx e=>by have:=h.out;omega));have HR:=aa (hr.kept k (fun b hb e=>by have h1:=c b hb;have:=h.out;omega));have HF:Hid (Fresh w (.slice vo vn vc)):=fun b hb=>by have h1:=c b hb;have:=h.out;omega
 clear l hr c hb hk p a m k;generalize w1.setCell ⟨W.heap.size,0,none⟩ (.int .i64 (E:Nat))=W2 at *;go_wp2_with fail;refine bodyPost_ret (v:=.tuple #[.slice vo vn vc,.int .i64 (E:Nat)]) (by simp [results,results161,go_sem,c3]) rfl ?_;exact ⟨_,rfl,HR.out,HF.out,HK.out⟩

end Go.Proofs.YtkaojflnghfmcaaGreatDoor
