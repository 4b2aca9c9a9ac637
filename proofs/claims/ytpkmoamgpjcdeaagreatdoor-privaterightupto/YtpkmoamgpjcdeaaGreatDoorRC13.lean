/- Put together of: Iva4 Prw1 Prw2 Prw3. -/
import Derived.Test.YtpkmoamgpjcdeaaGreatDoorRC11
import Derived.Test.YtpkmoamgpjcdeaaGreatDoorRC12

namespace Go.Proofs.YtpkmoamgpjcdeaaGreatDoor
open _root_.Go.Proofs.Tryz
set_option maxRecDepth 100000
set_option maxHeartbeats 4000000
open Go.RowKit
variable {K V X c fc fl k n:Nat} {P:Program} {Q:Exit->Act->World->Prop} {S:World->Prop} {ao bo fo:OA} {at_:Int} {fs:LN} {m:List Ev} {o':Tr} {ops:Array Oper} {tp:Value} {w w':World}

def AC (n:Nat):Nat->List Ev
 | 0=>[]
 | k+1=>AC n k ++ sE n

def tg (n:Nat):List Ev:=AC n (stp n) ++ (List.replicate 3 (1,((n+1:Nat):Int),0) ++ (List.replicate 3 (1,(n:Int),0) ++ List.replicate 2 (1,(n:Int),0)))

structure BtwI (w0:World) (o0:Tr) (w:World) (o:Tr) (tp:Value) (n M a pb k N:Nat) (s:Int × Int × Int) (G:Prop) (uo vo fo go:OA) (uc vc fc gc U V:Nat):Prop where
 wrt:Wr w0 o0 (AC n k) w o tp (12*(N-k)+20)
 box:w.heap[pb]? = some (.cells #[.slice uo n uc,.slice vo n vc,.slice fo (n+1) fc,.slice go (n+1) gc,.int .u64 (tcN 18446744073709551616 (i9 s k).1:Nat)] 192 (0,0))
 nu:NumN w o (.slice uo n uc) n U
 nv:NumN w o (.slice vo n vc) n V
 nf:NumN w o (.slice fo (n+1) fc) (n+1) (tcN (18446744073709551616^(n+1)) (i9 s k).2.1)
 ng:NumN w o (.slice go (n+1) gc) (n+1) (tcN (18446744073709551616^(n+1)) (i9 s k).2.2)
 co:G->CoOk M a U V (i9 s k)

theorem TrIn.put {o:Tr} {p:Nat} (h:TrIn w o) (k:Kept (fun b=>b=p) w w') (hf:¬ dm o p):TrIn w' o:=by
 rcases o with _ | ⟨q,g,l⟩
 ·trivial
 ·exact ⟨h.1.kept k (fun e=>hf (.inl e.symm)) (fun x hx e=>hf (.inr (by rw [<- e];exact hx))),h.2⟩

theorem D7 {B:Nat} {F:Int}:cW (sgN F) (tcN B (-F)) (tcN B F)=F.natAbs:=by
 unfold cW sgN tcN;by_cases h:F<0
 ·rw [ai h,ai (by decide),aJ];omega
 ·rw [am h,am (by decide),am h];omega

theorem EY {F:Int} (hF:-((18446744073709551616^n:Nat):Int)<F/\F<((18446744073709551616^n:Nat):Int)):gO 0 (tcN (18446744073709551616^(n+1)) F) (n+1)=tcN (18446744073709551616^(n+1)) (-F):=by
 unfold gO;rw [<- B64];exact H7 hF (by rw [aF];omega)

theorem Ez {M A U D is Z Y:Nat} {s:Int × Int × Int} (k:0<n) (hn:n<=130) (hM:M<18446744073709551616^n) (f:M%2=1) (h2:2<=M) (hA:A<M) (hs:s=i9 (1,(M:Int),(A:Int)) (stp n)) (j:CoOk M A U V s) (hD:D=s.2.1.natAbs) (e:is=dD (decide (D=1))) (hZ:Z=cW (sgN s.2.1) (ig 0 U M) U) (hY:Y=cW is Z 0) :
  (Nat.gcd A M=1->Y<M/\A*Y%M=1/\is=1)/\(Nat.gcd A M≠1->Y=0/\is=0):=by
 rw [B64] at hM;have he:=(BU (M:=M) (a:=A) (n:=n) k hn f (by omega) hM).2;rw [<- hs,<- hD] at he;rw [ft,<- he];constructor
 ·intro h1;rw [h1,dR rfl] at e;have c:is=1:=e;have hf:=EA (d:=s.1) (F:=s.2.1) (G:=s.2.2) j h2 (by omega);have i:Z=if s.2.1<0 then ig 0 U M else U:=by
   rw [hZ];unfold cW sgN;by_cases h:s.2.1<0
   ·rw [ai h,ai h];rfl
   ·rw [am h,am h];rfl
  rw [<- i] at hf;have g:Y=Z:=by rw [hY,c];rfl
  rw [g];exact ⟨hf.1,hf.2,c⟩
 ·intro h1;rw [cG h1] at e;have b:is=0:=e;exact ⟨by rw [hY,b];rfl,b⟩

theorem uI {w0:World} {o0:Tr} (bit n:Nat) (u v:Value) (xs ys:LN) {o:Tr} (s:Wr w0 o0 m w o tp (k+1)) (hb:bit<=1) (hu:RowT w o u xs) (hv:RowT w o v ys) (a:Digs xs) (b:Digs ys) (hl:max xs.length ys.length=n) (hn:n<=1000) :
  ClZ 67 #[tp,.int .u64 (bit:Nat),u,v] w fun e w'=>∃ (v':Value),e=.returned v'/\∃ (Z:Nat) (o':Tr),HzD (Z=cW bit (val xs) (val ys))/\NumN w' o' v' n Z/\Fresh w v'/\Did w o [(1,(n:Int),0)] w' o'/\Wr w0 o0 (m ++ [(1,(n:Int),0)]) w' o' tp k:=by
 have h:=nV o bit (by omega) u v xs ys w (s.room.l (by omega)) hu hv a b (by omega) (by omega);rw [s.ptr,hl] at h;refine h.mono ?_;rintro e w' ⟨v',rfl,ho,o',d⟩;exact ⟨v',rfl,_,o',rfl,NumN.own ho (oo (eY a (by omega)) (eY b (by omega))) (d.room (k:=0) (s.room.l (by simp))).1,Fresh.own ho (leR _),d,s.next d (by simp;omega)⟩

theorem Ey {w0:World} {o0:Tr} (n X:Nat) (u v:Value) {o:Tr} (s:Wr w0 o0 m w o tp (k+1)) (hu:NumT w o u n X) (hv:RowT w o v [1]) (a:0<n) (hn:n<=1000) :
  ClZ 66 #[tp,u,v] w fun e w'=>∃ c:Nat,e=.returned (.int .u64 (c:Nat))/\∃ (o':Tr),HzD (c=dD (decide (X=1)))/\c<=1/\Did w o [(1,(n:Int),0)] w' o'/\Wr w0 o0 (m ++ [(1,(n:Int),0)]) w' o' tp k:=by
 have h:=qG o u v _ [1] w (s.room.l (by omega)) hu.1 hv (ak (by omega) _ _) (Digs.one (by omega)) (by rw [ag];omega) (by simp);rw [s.ptr,ag,bJ hu.2,show ([1]:LN).length=1 from rfl,show max n 1=n by omega,show val [1]=1 from rfl] at h;refine h.mono ?_;rintro e w' ⟨rfl,o',d⟩;exact ⟨_,rfl,o',rfl,qS _,d,s.next d (by simp;omega)⟩

theorem Lr (o:Tr) (ao bo xo:OA) (n l K a c xc A:Nat) (ms rs:LN) (w:World) (ht:TrRoom w o (12*stp n+30)) (hm:RowT w o (.slice ao n a) ms) (hr:RowT w o (.slice bo l c) rs) (hx:NumT w o (.slice xo n xc) n A) (ba:Digs ms) (bz:Digs rs) (hK:K<18446744073709551616) (ap:0<n) (hn:n<=130) (bu:okMod ms K rs\/o=none) :
  ClZ 113 #[aN o,.agg #[.slice ao n a,.int .u64 (K:Nat),.slice bo l c],.slice xo n xc] w fun e w'=>∃ (v':Value) (is:Nat),e=.returned (.tuple #[v',.int .u64 (is:Nat)])/\∃ (Y:Nat) (m:List Ev) (o':Tr),NumN w' o' v' n Y/\Fresh w v'/\Did w o m w' o'/\(okMod ms K rs->m=tg n/\(A<val ms->(Nat.gcd A (val ms)=1->Y<val ms/\A*Y%val ms=1/\is=1)/\(Nat.gcd A (val ms)≠1->Y=0/\is=0))):=by
 obtain ⟨po,bb⟩:=aK o;obtain ⟨_,_,_,e1,bt,_,_,_,_⟩:=hm.1.open;cases e1
 obtain ⟨M,hM⟩:=aj (val ms)
 have an:NumT w o (.slice ao n a) n M:=by rw [hM];exact NumT.of hm ba bt.o
 obtain ⟨W,hW⟩:=aj (w.alloc (.cells #[.slice ao n a,.int .u64 (K:Nat),.slice bo l c] 71))
 have k0:Kept aa w W:=by rw [hW];exact (ah aa w).alloc _
 have b1:W.heap[w.heap.size]? = some (.cells #[.slice ao n a,.int .u64 (K:Nat),.slice bo l c] 71 (0,0)):=by rw [hW];exact heap_alloc_new _ _
 have hB:=Lq n M A ao bo xo a l K c xc W o (ht.1.g k0) (an.g k0) (hx.g k0) ap hn;have am:=fun W'=>GB (64*(n:Int)) W'
 rw [Bc ap hn] at am;have bA:IntKind.i64.wrap (64*(n:Int))=64*(n:Int):=by simp [IntKind.wrap,IntKind.bits,IntKind.signed];omega
 have HW:=af hW;have bk:=af k0;have HT:=af ht;have aW:=af b1;obtain ⟨c0,c1,c2⟩:=aw b1;obtain ⟨N,hN⟩:=aj (stp n)
 have bS:N<=30000:=by rw [hN];unfold stp;omega
 rw [<- hN] at am HT;have HN:=af hN;rw [bb];clear hW k0 ht b1 hN;delta ClZ;go_in;go_wp2_with (rw [<- HW.o]);refine hB.mono ?_;rintro e w1 ⟨uo,uc,vo,vc,fo,fc,go,gc,rfl,nu,nv,nf,ng,k1⟩;clear hB c0 c1 c2;go_wp2_with fail;refine (am _).mono ?_;rintro e w2 ⟨rfl,aM⟩;have b2:w2.heap[w1.heap.size]? = some (.cells #[.slice uo n uc,.slice vo n vc,.slice fo (n+1) fc,.slice go (n+1) gc,.int .u64 1] 192 (0,0)):=by rw [aM];exact heap_alloc_new _ _
 have k2:Kept aa w1 w2:=by rw [aM];exact (ah aa w1).alloc _
 have E:=bk.o.trans k1;have ar:=HT.o.g E;have bv:=af (hm.g E);have aL:=af (an.g E);have bx:=af (hr.g E);have a8:=(k1.block _ (lt_of_block aW.o) (fun f=>f)).trans aW.o;have JC:HzD (∀ W' m' o',Did w1 o m' W' o'->W'.heap[w.heap.size]? = some (.cells #[.slice ao n a,.int .u64 (K:Nat),.slice bo l c] 71 (0,0))):=fun W' m' o' d=>d.cells a8 ar.1 (by decide) (by decide)
 obtain ⟨s0,x⟩:=aj ((1,(M:Int),(A:Int)):Int × Int × Int)
 have X:StIn (18446744073709551616^n) 0 s0:=by
  have h1:=an.2;have h2:=hx.2;rw [x];unfold StIn;dsimp only;generalize 18446744073709551616^n=Q at *;omega
 have a0:=af (StIn.all X);have av:HzD (okMod ms K rs->CoOk M A 0 1 s0):=fun h=>by
  have:=eu h.1;rw [<- hM] at this;rw [x];refine ⟨by omega,by omega,?_,?_⟩
  ·exact ⟨-1,by dsimp only;omega⟩
  ·exact ⟨0,by dsimp only;omega⟩
 have G:HzD (okMod ms K rs->M<18446744073709551616^n/\M%2=1/\∀ k,(i9 s0 k).2.1%2=1):=fun h=>by
  have:=eu h.1;rw [<- hM] at this;refine ⟨an.2,by omega,fun k=>(sZ (s:=s0) (by rw [x];dsimp only;omega) k).1⟩
 have r:BtwI w1 o w2 o (.pointer po) n M A w1.heap.size 0 N s0 (okMod ms K rs) uo vo fo go uc vc fc gc 0 1:=by
  refine ⟨⟨Did.of_kept k2 ar.1,(ar.l (by omega)).g k2,bb⟩,?_,nu.g k2,nv.g k2,?_,?_,av.o⟩
  ·rw [x];exact b2
  ·rw [x];have:=nf.g k2;rw [<- DF (18446744073709551616^(n+1)) M] at this;exact this
  ·rw [x];have:=ng.g k2;rw [<- DF (18446744073709551616^(n+1)) A] at this;exact this
 have q:=af r;have bm:=af x;have a1:=af E;clear am aM b2 k2 E ar a8 X r nu nv nf ng k1 x;go_wp2_with fail;go_loopw [24] (fun i wr=>∃ (k:Nat) (o1:Tr) (uo vo fo go:OA) (uc vc fc gc U V:Nat),k<=N/\i=.int .i64 (k:Int)/\HzD (BtwI w1 o wr o1 (.pointer po) n M A w1.heap.size k N s0 (okMod ms K rs) uo vo fo go uc vc fc gc U V)) (fun i _=>N-(intOf i).toNat)
 case atStart=>exact ⟨0,o,uo,vo,fo,go,uc,vc,fc,gc,0,1,by omega,rfl,q.o⟩
 case round=>
  clear q;obtain ⟨k,o1,uo,vo,fo,go,uc,vc,fc,gc,U,V,hk,rfl,HB⟩:=hrel;by_cases hkn:k<N
  ·have g1:(k:Int)<(N:Int):=by omega
   obtain ⟨c0,c1,c2⟩:=aw (JC.o wr _ o1 HB.o.wrt.did);obtain ⟨p0,p1,p2,p3,p4⟩:=iI HB.o.box;have hS:=IG n M U V k A (i9 s0 k).1 (i9 s0 k).2.1 (i9 s0 k).2.2 uo vo fo go ao bo uc vc fc gc a l K c (k:=12*(N-(k+1))+20) (HB.o.wrt.l (by omega)) (a0.o k) (by omega) (aL.o.did HB.o.wrt.did) HB.o.nu.1 HB.o.nv.1 HB.o.nf.1 HB.o.ng.1 ap (by omega);have a5:dst ((i9 s0 k).1,(i9 s0 k).2.1,(i9 s0 k).2.2)=i9 s0 (k+1):=rfl;rw [a5] at hS;have aX:=af HB.o.co;have TI:=af HB.o.wrt.room.1;have au:=af HB.o.box;obtain ⟨T1,aB⟩:=aj (tcN 18446744073709551616 (i9 s0 k).1)
   rw [<- aB] at hS p4;have bp:=af aB;clear a5 aB HB;go_wp2_with fail;refine hS.mono ?_;rintro e w5 ⟨u',v',f',g',rfl,U',V',o5,q5,aS,aT,aQ,aR,d5,s5⟩;obtain ⟨ad,ac,rfl⟩:=aS.1.s;obtain ⟨ai,ae,rfl⟩:=aT.1.s;obtain ⟨I,H,rfl⟩:=aQ.1.s;obtain ⟨L,J,rfl⟩:=aR.1.s;have p:=d5.cells au.o TI.o (by decide) (by decide);rw [<- bp.o] at p;obtain ⟨f0,f1,f2,f3,f4⟩:=sX p;obtain ⟨g0,bR,g2,g3,g4⟩:=iI p;obtain ⟨T2,aC⟩:=aj (tcN 18446744073709551616 (i9 s0 (k+1)).1)
   rw [<- aC];have a3:=Hh p (.slice ad n ac) (.slice ai n ae) (.slice I (n+1) H) (.slice L (n+1) J) (.int .u64 (T2:Int));have kp:=Ch w5 w1.heap.size (.slice ad n ac) (.slice ai n ae) (.slice I (n+1) H) (.slice L (n+1) J) (.int .u64 (T2:Int));have aD:=aG p s5.room.1 (by decide) (by decide);have bL:=s5.room
   have ax:HzD (BtwI w1 o (((((w5.setCell ⟨w1.heap.size,0,none⟩ (.slice ad n ac)).setCell ⟨w1.heap.size,1,none⟩ (.slice ai n ae)).setCell ⟨w1.heap.size,2,none⟩ (.slice I (n+1) H)).setCell ⟨w1.heap.size,3,none⟩ (.slice L (n+1) J)).setCell ⟨w1.heap.size,4,none⟩ (.int .u64 (T2:Int))) o5 (.pointer po) n M A w1.heap.size (k+1) N s0 (okMod ms K rs) ad ai I L ac ae H J U' V'):=by
    have dw:=s5.did.wroteNew kp (leR _) aD;refine ⟨⟨dw,⟨s5.room.1.put kp aD,s5.room.2⟩,s5.ptr⟩,?_,aS.put p (by decide) kp,aT.put p (by decide) kp,aQ.put p (by decide) kp,aR.put p (by decide) kp,fun h=>?_⟩
    ·rw [<- aC];exact a3
    ·obtain ⟨i1,i2,i3⟩:=G.o h;exact q5.o i1 i2 (i3 k) (aX.o h)
   clear hS aS aT aQ aR d5 s5 a3 kp aD bL aC q5 aX c0 c1 c2 p0 p1 p2 p3 p4;go_wp2_with fail;go_roundw
   case rel=>exact ⟨k+1,o5,ad,ai,I,L,ac,ae,H,J,U',V',by omega,by go_num,ax.o⟩
   case measure=>simp [intOf];omega
  ·have g1:¬ (k:Int)<(N:Int):=by omega
   obtain rfl:k=N:=by omega
   have hF:=a0.o k;obtain ⟨F,al⟩:=aj ((i9 s0 k).2.1)
   have a7:-((18446744073709551616^n:Nat):Int)<F/\F<((18446744073709551616^n:Nat):Int):=by rw [al];exact hF.2.1
   have bc:sgN F=tcN (18446744073709551616^(n+1)) F/(9223372036854775808*18446744073709551616^n):=(Aa (Q:=18446744073709551616^n) (by omega) (by rw [aF];omega) (by omega) (gH (by omega) (aV))).symm;have y:sgN F<=1:=by unfold sgN;split <;> omega
   have nf:=HB.o.nf;rw [<- al] at nf;have aA:=FU n _ _ _ wr o1 nf.1 (by omega) bc;have s6:=HB.o.wrt;have h7:=IH (n+1) _ _ (k:=19) (s6.l (by omega)) nf.1 (by omega);obtain ⟨c0,c1,c2⟩:=aw (JC.o wr _ o1 s6.did);obtain ⟨p0,p1,p2,p3,p4⟩:=iI HB.o.box;have bl:=af nf;have aY:=af al;have bj:=af a7;obtain ⟨sg,z⟩:=aj (sgN F)
   rw [<- z] at y aA;have aZ:=af z;have TI:=af s6.room.1;have au:=af HB.o.box;clear nf al a7 hF bc s6 z;go_wp2_with fail;refine aA.mono ?_;rintro e w6 ⟨rfl,rfl⟩;clear aA;go_wp2_with fail;refine h7.mono ?_;rintro e w7 ⟨v7,b7,rfl,Z7,o7,q7,n7,d7,s7⟩;have aE:=d7.cells au.o TI.o (by decide) (by decide);have bw:=JC.o w7 _ o7 s7.did;obtain ⟨P0,P1,P2,P3,P4⟩:=iI aE;have h8:=pM sg (n+1) Z7 _ v7 _ (k:=18) s7 y n7.1 (bl.o.1.did d7) (by omega);have T7:=af s7.room.1;clear h7 n7 c0 c1 c2 p0 p1 p2 p3 p4 bw;go_wp2_with fail;refine h8.mono ?_;rintro e w8 ⟨v8,rfl,D,o8,q8,n8,d8,s8⟩;have aH:=d8.cells aE T7.o (by decide) (by decide)
   have T8:=af s8.room.1;have kA:Kept aa w8 (w8.alloc (.cells #[.int .u64 1] 24)):=(ah aa w8).alloc _;have r1:Row .u64 (w8.alloc (.cells #[.int .u64 1] 24)) (.slice (some ⟨w8.heap.size,0,none⟩) 1 1) [1]:=Row.of_block (k:=.u64) (w:=w8.alloc (.cells #[.int .u64 1] 24)) (g:=w8.heap.size) (zs:=[1]) (t:=24) (heap_alloc_new _ _) rfl (by unfold maxLen;omega);have bg:RowT (w8.alloc (.cells #[.int .u64 1] 24)) o8 (.slice (some ⟨w8.heap.size,0,none⟩) 1 1) [1]:=⟨r1,fun _ b hb f=>by
    have e':w8.heap.size=b:=by simpa [Value.ownBlock] using hb
    have:=T8.o.foot b f;omega⟩
   have h9:=Ey (n+1) D v8 _ (k:=17) (s8.g kA) (n8.1.g kA) bg (by omega) (by omega);have P:=(kA.block _ (lt_of_block aH) (fun f=>f)).trans aH;have D8:=af ((d7.trans d8).g kA);have bq:=af (T8.o.g kA);clear h8 n8 P0 P1 P2 P3 P4 r1 bg kA d7 d8 aE;go_wp2_with fail;refine h9.mono ?_;rintro e w9 ⟨is,rfl,o9,q9,aJ,d9,s9⟩;have aI:=d9.cells P bq.o (by decide) (by decide);obtain ⟨c0,c1,c2⟩:=aw (JC.o w9 _ o9 s9.did);obtain ⟨P0,P1,P2,P3,P4⟩:=iI aI;have aq:=HB.o.nu.1.did (D8.o.trans d9)
   have az:=Ln o9 ao bo uo n l K a c n uc ms rs (digs U n) w9 (s9.room.l (by omega)) (bv.o.did s9.did) (bx.o.did s9.did) aq.1 ba bz (ak (by omega) _ _) hK (by omega) (by omega);rw [s9.ptr,bJ aq.2,<- hM] at az;have T9:=af s9.room.1;clear h9 aH P;go_wp2_with fail;refine az.mono ?_;rintro e bi ⟨bM,bO,rfl,zs,be,aU,bf,bd,C,S,T⟩;have v:okMod ms K rs->(okMod ms K rs/\True/\U<M):=fun h=>⟨h,trivial,(HB.o.co h).1⟩
   have aO:Digs zs/\zs.length<=n/\(okMod ms K rs->zs=digs (ig 0 U M) n/\be=List.replicate 3 (1,(n:Int),0))/\TrRoom bi aU 10:=by
    by_cases h:okMod ms K rs
    ·obtain ⟨⟨e1,_⟩,e2⟩:=S (v h);refine ⟨by rw [e1];exact ak (by omega) _ _,by rw [e1,ag];omega,fun _=>⟨e1,e2⟩,C.room ?_⟩;rw [e2];exact s9.room.l (by simp)
    ·have R:o=none:=bu.resolve_left h;obtain ⟨e1,_⟩:=T (fun hh=>h hh.1);have e9:o9=none:=by have:=s9.did;rw [R] at this;exact this.none.1
     have br:aU=none:=by have:=C;rw [e9] at this;exact this.none.1
     refine ⟨by rw [e1];exact Digs.nil _,by rw [e1];simp,fun hh=>absurd hh h,by rw [br];exact TrRoom.none _ _ (by omega)⟩
   obtain ⟨bB,bC,ab,j⟩:=aO;have HZ:=af ab;have bI:Wr w1 o (AC n k ++ [(1,((n+1:Nat):Int),0)] ++ [(1,((n+1:Nat):Int),0)] ++ [(1,((n+1:Nat):Int),0)] ++ be) bi aU (.pointer po) 10:=⟨s9.did.trans C,j,C.ptr.trans s9.ptr⟩
   have O:=C.cells aI T9.o (by decide) (by decide);obtain ⟨Q0,Q1,Q2,Q3,Q4⟩:=iI O;have B:=aq.did C;have a6:=uI sg n bM _ zs (digs U n) (k:=9) bI y ((bd rfl).2.rowT bf j.1) B.1 bB (ak (by omega) _ _) (by rw [ag];omega) (by omega);have HU:=af B.2;clear az P0 P1 P2 P3 P4 c0 c1 c2 aI O S T bd bf ab j bC aq B v;go_wp2_with fail;refine a6.mono ?_;rintro e bV ⟨bN,rfl,a2,bT,bF,aP,_,bP,bh⟩;have ay:=uI is n bN (.slice none 0 0) (digs a2 n) [] (k:=8) bh aJ aP.1.1 ⟨Row.nil _ _,fun h=>absurd rfl h⟩ (ak (by omega) _ _) (Digs.nil _) (by rw [ag];simp) (by omega)
   rw [bJ aP.1.2] at ay;have bn:=af bh.did.size;clear a6 aP Q0 Q1 Q2 Q3 Q4;go_wp2_with fail;refine ay.mono ?_;rintro e bW ⟨bU,rfl,Y,bE,bH,bD,bs,bQ,bK⟩;clear ay;go_wp2_with fail;go_ret2;refine ⟨_,_,rfl,Y,_,bE,bD,?_,Did.b a1.o bK.did,fun v=>⟨?_,fun hA=>?_⟩⟩
   ·intro b hb;have h1:=bs b hb;have h2:=bn.o;have h3:=a1.o.size;omega
   ·rw [(HZ.o v).2];unfold tg;rw [<- HN.o];simp [List.append_assoc,List.replicate]
   ·obtain ⟨i1,i2,i3⟩:=G.o v;have hE:=eu v.1;rw [<- hM] at hE hA ⊢;have a9:=HB.o.co v;have hs:i9 s0 k=i9 (1,(M:Int),(A:Int)) (stp n):=by rw [bm.o,<- HN.o]
    refine Ez (D:=D) (is:=is) (Z:=a2) (s:=i9 s0 k) ap hn i1 i2 hE.2.1 hA hs a9 ?_ q9.o ?_ bH.o
    ·rw [q8.o,q7.o,EY bj.o,aZ.o,<- aY.o];exact D7
    ·have a4:=bF.o;rw [(HZ.o v).1,bJ (bG (tL (by omega) a9.1) i1),bJ HU.o,aZ.o,aY.o] at a4;exact a4

def vk (n:Nat):List Ev:=(1,(n:Int),0) :: tg n

def FK (A M Y is:Nat):Prop:=(Nat.gcd A M=1->Y<M/\A*Y%M=1/\is=1)/\(Nat.gcd A M≠1->Y=0/\is=0)

def tQ (w:World) (o:Tr) (P:Prop) (n A M:Nat) (w':World) (v':Value) (is c:Nat):Prop:=
 ∃ (zs:LN) (m:List Ev) (o':Tr),Row .u64 w' v' zs/\Lies true w w' v'/\Did w o m w' o'/\(P->c=0/\m=vk n/\∃ Y,zs=digs Y n/\FK A M Y is)/\(¬ P->zs=[]/\is=0/\c=1)

theorem iOf (o:Tr) (ao bo xo:OA) (n l K a i N1 xc:Nat) (ms rs xs:LN) (w:World) (ht:TrRoom w o 400000) (hm:RowT w o (.slice ao n a) ms) (hr:RowT w o (.slice bo l i) rs) (hx:RowT w o (.slice xo N1 xc) xs) (q:Digs ms) (z:Digs rs) (J:Digs xs) (hK:K<18446744073709551616) (X:n<=1000000) (ae:okMod ms K rs\/o=none) :
  ClZ 65 #[aN o,.agg #[.slice ao n a,.int .u64 (K:Nat),.slice bo l i],.slice xo N1 xc] w fun e w'=>∃ (v':Value) (is c:Nat),e=.returned (.tuple #[v',.int .u64 (is:Nat),.int .i64 (c:Nat)])/\tQ w o (okMod ms K rs/\(N1=n/\val xs<val ms)) n (val xs) (val ms) w' v' is c:=by
 obtain ⟨po,L⟩:=aK o;obtain ⟨_,_,_,e1,F,_,_,_,_⟩:=hm.1.open;cases e1
 obtain ⟨_,_,_,e1,G,_,_,_,_⟩:=hx.1.open;cases e1
 obtain ⟨_,_,_,e1,U,_,_,_,_⟩:=hr.1.open;cases e1
 obtain ⟨W,hW⟩:=aj (w.alloc (.cells #[.slice ao n a,.int .u64 (K:Nat),.slice bo l i] 71))
 have k0:Kept aa w W:=by rw [hW];exact (ah aa w).alloc _
 have b1:W.heap[w.heap.size]? = some (.cells #[.slice ao n a,.int .u64 (K:Nat),.slice bo l i] 71 (0,0)):=by rw [hW];exact heap_alloc_new _ _
 obtain ⟨c0,c1,c2⟩:=aw b1;have HW:=af hW;have ab:=af k0;by_cases hok:0<n/\n<=130
 ·have al:=hok.1;have hn:=hok.2;have g1:¬ (n:Int)<1:=by omega
  have g2:¬ (n:Int) > 130:=by omega
  have am:12*stp n+30+1<=400000:=by unfold stp;omega
  obtain ⟨M,hM⟩:=aj (val ms)
  have V:NumT w o (.slice ao n a) n M:=by rw [hM];exact NumT.of hm q F.o
  obtain ⟨A,hA⟩:=aj (val xs%18446744073709551616^n)
  have T:N1=n->A=val xs:=fun h=>by rw [hA,aA];rw [<- h,<- G.o];exact aC (by omega) J
  have D:=GA _ xs n W (hx.1.g k0) J (by omega);rw [nN,<- hA] at D;have lA:A<18446744073709551616^n:=by rw [hA];exact aW _ (aV)
  rw [<- hM];have HM:=af hm;have S:=af V;have HR:=af hr;have HT:=af ht;have O:=af b1;have N:=af T;have R:=af lA;rw [L];clear hW k0 b1 hm V hr ht hx G T hA lA hok;delta ClZ;go_in;go_wp2_with (rw [<- HW.o]);refine D.mono ?_;rintro e w1 ⟨rfl,Z,k1⟩;have C:=ab.o.trans k1;have s:=HT.o.g C;have x:=(k1.block _ (lt_of_block O.o) (fun f=>f)).trans O.o;obtain ⟨c0,c1,c2⟩:=aw x;have nx:=NumN.own Z R.o s.1;have s1:Wr w1 o [] w1 o (.pointer po) 400000:=⟨Did.of_kept (ah aa w1) s.1,s,L⟩
  have B:=sj o _ _ _ _ w1 (s.l (by omega)) nx.1.1 (S.o.g C).1 (ak (by omega) _ _) (ak (by omega) _ _) (by rw [ag];omega) (by rw [ag];omega);rw [L,ag,ag,ir,bJ R.o,bJ S.o.2] at B;have JB:HzD (∀ W' m' o',Did w1 o m' W' o'->W'.heap[w.heap.size]? = some (.cells #[.slice ao n a,.int .u64 (K:Nat),.slice bo l i] 71 (0,0))):=fun W' m' o' d=>d.cells x s.1 (by decide) (by decide)
  have ac:=af nx;have ad:=af s1;have m:=af C;obtain ⟨bl,I⟩:=aj (dD (decide (A<M)))
  rw [<- I] at B;have P:=af I;clear D Z k1 C s x nx s1 I;go_wp2_with fail;refine B.mono ?_;rintro e w2 ⟨rfl,o2,d2⟩;have s2:=ad.o.next (k:=12*stp n+30) d2 (by simp;omega)
  have E:=Lr o2 ao bo _ n l K a i n A ms rs w2 s2.room ((HM.o.g m.o).did d2) ((HR.o.g m.o).did d2) (ac.o.1.did d2) q z hK al hn (ae.elim Or.inl (fun h=>.inr (by have:=d2;rw [h] at this;exact this.none.1)));rw [s2.ptr,<- hM] at E;obtain ⟨c0,c1,c2⟩:=aw (JB.o w2 _ o2 d2);clear B;go_wp2_with fail;refine E.mono ?_;rintro e w3 ⟨v3,is,rfl,Y,m3,o3,n3,f3,d3,hY⟩;have t:=d2.trans d3;obtain ⟨p0,p1,p2⟩:=aw (JB.o w3 _ o3 t);have p:=((HM.o.g m.o).did t).1;have r:=((HR.o.g m.o).did t).1;have Q:=af (Did.b m.o t)
  have j:HzD (∀ w':World,Kept aa w3 w'->¬ (okMod ms K rs/\(N1=n/\val xs<M))->tQ w o (okMod ms K rs/\(N1=n/\val xs<M)) n (val xs) M w' (.slice none 0 0) 0 1):=fun w' k h=>⟨[],_,o3,Row.nil _ _,Lies.nil _ _ _,Q.o.g k,fun hp=>absurd hp h,fun _=>⟨rfl,rfl,rfl⟩⟩
  have g:HzD (∀ w':World,Kept aa w3 w'->okMod ms K rs->N1=n->A<M->tQ w o (okMod ms K rs/\(N1=n/\val xs<M)) n (val xs) M w' v3 is 0):=fun w' k h1 h2 h3=>by
   have eA:=N.o h2;obtain ⟨e1,e2⟩:=hY h1;refine ⟨digs Y n,_,o3,(n3.1.g k).1.1,fun _=>⟨?_,n3.2.g k⟩,Q.o.g k,fun _=>⟨rfl,?_,Y,rfl,?_⟩,fun hp=>absurd ⟨h1,h2,by rw [<- eA];exact h3⟩ hp⟩
   ·intro b hb;have q1:=f3 b hb;have q2:=d2.size;have q3:=m.o.size;omega
   ·rw [e1];rfl
   ·rw [<- eA];exact e2 h3
  clear E c0 c1 c2 n3 f3 d3 t hY s2 d2;by_cases hN:N1=n
  ·by_cases hlt:A<M
   ·have x:bl=1:=by rw [P.o,dR hlt];rfl
    subst x;by_cases hmd2:okMod ms K rs
    ·have v:=oM ao bo n l K a i ms rs true (by simp [hmd2]) w3 p r q z hK X;have HF:=af (fun w' k=>g.o w' k hmd2 hN hlt);have H:(N1:Int)=(n:Int):=by omega
     clear g j p r hN;go_wp2_with fail;refine v.mono ?_;rintro e w4 ⟨rfl,k4⟩;clear v;go_wp2_with fail;go_ret3
     exact ⟨_,_,_,rfl,HF.o _ k4⟩
    ·have v:=oM ao bo n l K a i ms rs false (by simp [hmd2]) w3 p r q z hK X;have HF:=af (fun w' k=>j.o w' k (fun h=>hmd2 h.1));have H:(N1:Int)=(n:Int):=by omega
     clear g j p r hN;go_wp2_with fail;refine v.mono ?_;rintro e w4 ⟨rfl,k4⟩;clear v;go_wp2_with fail;go_ret3
     exact ⟨_,0,1,rfl,HF.o _ k4⟩
   ·have ai:bl=0:=by rw [P.o,cG hlt];rfl
    subst ai;have HF:=af (j.o w3 (ah _ _) (fun h=>hlt (by rw [N.o h.2.1];exact h.2.2)));have H:(N1:Int)=(n:Int):=by omega
    clear g j p r hN;go_wp2_with fail;go_ret3
    exact ⟨_,0,1,rfl,HF.o⟩
  ·have HF:=af (j.o w3 (ah _ _) (fun h=>hN h.2.1));have H:¬ (N1:Int)=(n:Int):=by omega
   clear g j p r hN;go_wp2_with fail;go_ret3
   exact ⟨_,0,1,rfl,HF.o⟩
 ·have y:¬ (okMod ms K rs/\(N1=n/\val xs<val ms)):=fun h=>by
   obtain ⟨_,f2,f3,_⟩:=h.1.a F.o U.o q z hK;exact hok ⟨f2,f3⟩
  have HF:HzD (tQ w o (okMod ms K rs/\(N1=n/\val xs<val ms)) n (val xs) (val ms) W (.slice none 0 0) 0 1):=⟨[],[],o,Row.nil _ _,Lies.nil _ _ _,Did.of_kept k0 ht.1,fun hp=>absurd hp y,fun _=>⟨rfl,rfl,rfl⟩⟩
  generalize aN o=tp at *;clear hm hr hx ht q z J y k0 b1 F G U hW;by_cases h0:n<1
  ·have g1:(n:Int)<1:=by omega
   clear hok;delta ClZ;go_in;go_wp2_with (rw [<- HW.o]);go_ret3
   exact ⟨_,0,1,rfl,HF.o⟩
  ·have g1:¬ (n:Int)<1:=by omega
   have g2:(n:Int) > 130:=by omega
   clear hok h0;delta ClZ;go_in;go_wp2_with (rw [<- HW.o]);go_ret3
   exact ⟨_,0,1,rfl,HF.o⟩

theorem vI (p:Addr) (w:World) :
  CallsD prog 56 #[.pointer (some p)] .returning w fun e u' w'=>e=.returned (.tuple #[])/\u'=.returning/\w'=w:=by
 refine callsD_of_wpS func56 rfl fun c₀ cs hu=>?_
 apply wpS_seq;apply wpS_region;simp [wpOpsS,go_sem,recoverD,hu,ntmps56,Exit.thenS];apply wpS_seq;apply wpS_seq;apply wpS_region;simp [wpOpsS,go_sem,Exit.thenS];refine wpS_cond (t:=true) (by simp [Act.eval,Array.replicate]) ?_;simp only [if_true];refine wpS_of_wp (wp_ret ?_);cases c₀
 simp_all [bodyPostS,results,results56,Exit.thenS]

theorem E8 (p:Addr) (x n:Int) (a:List PanicEntry) (w:World) (hc:w.cell? p=some (.int .i64 x)) (hz:w.frozen? p=false) :
  CallsD prog 56 #[.pointer (some p)] (.panicking (refusal n :: a)) w fun e u' w'=>
   e=.returned (.tuple #[])/\u'=.panicking ({ refusal n with recovered:=true } :: a)/\w'=w.setCell p (.int .i64 n):=by
 refine callsD_of_wpS func56 rfl fun c₀ cs hu=>?_
 apply wpS_seq;apply wpS_region;simp [wpOpsS,go_sem,recoverD,hu,ntmps56,Exit.thenS];apply wpS_seq;apply wpS_seq;apply wpS_region;simp [wpOpsS,go_sem,Exit.thenS];refine wpS_cond (t:=false) (by simp [Act.eval,Array.replicate]) ?_;simp only [mf,if_false];refine wpS_of_wp (wp_skip ?_);simp only [Exit.thenS];refine wpS_of_wp ?_;have b:∀ w:World,(Instr.typeAssert (.iface 35 (.int .i64 n)) 20 35 true).run prog w=.ok (.tuple #[.int .i64 n,.bool true]) w:=fun w=>by kernel_rfl
 have e:(#[Value.pointer (some p)] ++ ((((Array.replicate 15 undef).setIfInBounds 3 (Value.iface 35 (Value.int IntKind.i64 n))).setIfInBounds 0 (Value.iface 35 (Value.int IntKind.i64 n))).setIfInBounds 4 (Value.iface 35 (Value.int IntKind.i64 n))).setIfInBounds 5 (Value.bool false):Array Value)=#[.pointer (some p),.iface 35 (.int .i64 n),undef,undef,.iface 35 (.int .i64 n),.iface 35 (.int .i64 n),.bool false,undef,undef,undef,undef,undef,undef,undef,undef,undef]:=rfl;rw [e];clear e;go_wp2;simp [bodyPostS,results,results56]

theorem oQ (f:Nat) (b:Array Value) (w:World) (Q:Int->World->Prop) (he:∀ args w,(callFunc f args).run prog w=.ok (.enter f args) w)
  (h:ClZ f b (w.alloc (.cells #[.int .i64 0] 35)) fun e w'=>w'.heap[w.heap.size]? = some (.cells #[.int .i64 0] 35 (0,0)) /\
   ((e=.returned (.tuple #[])/\Q 0 w')\/∃ n,e=.panicked [refusal n]/\Q n w')) :
  ClZ 21 #[.func (.func f) #[] b] w fun e w'=>∃ n w1,e=.returned (.int .i64 n)/\(Q n w1/\w1.heap[w.heap.size]? = some (.cells #[.int .i64 0] 35 (0,0)))/\w'=w1.setCell ⟨w.heap.size,0,none⟩ (.int .i64 n):=by
 go_enter_defers func21,ntmps21
 go_wp2_with fail;refine h.mono ?_;rintro e w1 ⟨hb,(⟨rfl,hq⟩ | ⟨n,rfl,hq⟩)⟩
 ·have hc:w1.cell? ⟨w.heap.size,0,none⟩=some (.int .i64 0):=by simp [World.cell?,hb]
  have hz:w1.frozen? ⟨w.heap.size,0,none⟩=false:=by simp [World.frozen?,hb]
  clear h;go_wp2_with fail;refine leaves_cons (f:=56) (args:=#[.pointer (some ⟨w.heap.size,0,none⟩)]) (by simp) (by simp [go_sem]) ?_;refine (vI ⟨w.heap.size,0,none⟩ _).mono ?_;rintro e u' c ⟨rfl,rfl,rfl⟩;have a:(w1.setCell ⟨w.heap.size,0,none⟩ (.int .i64 0)).cell? ⟨w.heap.size,0,none⟩=some (.int .i64 0):=World.cell?_setCell_same' _ _ _ (by rw [hc];rfl);simp [Leaves,settle,results,results21,go_sem,a];exact ⟨_,⟨hq,hb⟩,rfl⟩
 ·have hc:w1.cell? ⟨w.heap.size,0,none⟩=some (.int .i64 0):=by simp [World.cell?,hb]
  have hz:w1.frozen? ⟨w.heap.size,0,none⟩=false:=by simp [World.frozen?,hb]
  clear h;refine leaves_cons (f:=56) (args:=#[.pointer (some ⟨w.heap.size,0,none⟩)]) (by simp) (by simp [go_sem]) ?_;refine (E8 ⟨w.heap.size,0,none⟩ 0 n [] _ hc hz).mono ?_;rintro e u' c ⟨rfl,rfl,rfl⟩;have a:(w1.setCell ⟨w.heap.size,0,none⟩ (.int .i64 n)).cell? ⟨w.heap.size,0,none⟩=some (.int .i64 n):=World.cell?_setCell_same' _ _ _ (by rw [hc];rfl);simp [Leaves,settle,results,results21,go_sem,a];exact ⟨_,⟨hq,hb⟩,rfl⟩

theorem eZ (n:Int) (w:World):ClZ 24 #[.bool false,.int .i64 n] w fun e w'=>e=.returned (.tuple #[])/\w'=w:=by
 delta ClZ;go_in;go_wp2;go_end0
 exact ⟨rfl,rfl⟩

theorem ia (n:Int) (w:World):ClZ 24 #[.bool true,.int .i64 n] w fun e w'=>e=.panicked [refusal n]/\w'=w:=by
 delta ClZ;go_in;go_wp2;exact ⟨rfl,rfl,rfl⟩

theorem gM (ao:OA) (n a:Nat) (w:World):ClZ 29 #[.slice ao n a,.int .i64 0] w fun e w'=>e=.returned (.slice ao n a)/\w'=w:=by
 have hR:=eZ 0 w;delta ClZ;go_in;go_wp2_with fail;refine hR.mono ?_;rintro e w' ⟨rfl,rfl⟩;go_wp2;go_ret;exact ⟨rfl,rfl⟩

theorem jz (ao bo:OA) (n ac K l bc:Nat) (w:World):ClZ 31 #[.agg #[.slice ao n ac,.int .u64 (K:Nat),.slice bo l bc],.int .i64 0] w fun e w'=>e=.returned (.agg #[.slice ao n ac,.int .u64 (K:Nat),.slice bo l bc])/\Kept aa w w':=by
 have hR:=eZ 0;obtain ⟨W,hW⟩:=aj ((w.alloc (.cells #[.slice ao n ac,.int .u64 (K:Nat),.slice bo l bc] 71)).alloc (.cells #[.slice none 0 0,.int .u64 0,.slice none 0 0] 71))
 have k0:Kept aa w W:=by rw [hW];exact ((ah aa w).alloc _).alloc _
 have b1:W.heap[w.heap.size]? = some (.cells #[.slice ao n ac,.int .u64 (K:Nat),.slice bo l bc] 71 (0,0)):=by rw [hW];exact au (heap_alloc_new _ _)
 have b2:W.heap[w.heap.size+1]? = some (.cells #[.slice none 0 0,.int .u64 0,.slice none 0 0] 71 (0,0)):=by
  rw [hW];have:=heap_alloc_new (w.alloc (.cells #[.slice ao n ac,.int .u64 (K:Nat),.slice bo l bc] 71)) (.cells #[.slice none 0 0,.int .u64 0,.slice none 0 0] 71)
  rwa [World.size_alloc] at this
 obtain ⟨c0,c1,c2⟩:=aw b1;obtain ⟨f0,f1,f2⟩:=kC b2;obtain ⟨d0,d1,d2⟩:=aw (tz b2 (.slice ao n ac) (.int .u64 (K:Nat)) (.slice bo l bc));obtain ⟨g0,g1,g2⟩:=aw b2;have a:=af (k0.next (mI W (w.heap.size+1) (.slice ao n ac) (.int .u64 (K:Nat)) (.slice bo l bc)) (fun x hx e=>by omega));have HW:=af hW;clear hW k0 b1 b2;delta ClZ;go_in;go_wp2_with (rw [<- HW.o]);refine (hR W).mono ?_;rintro e w1 ⟨rfl,rfl⟩;clear hR;go_wp2_with fail;exact bodyPost_ret (v:=.agg #[.slice ao n ac,.int .u64 (K:Nat),.slice bo l bc]) (by simp [results,results31,go_sem,d0,d1,d2]) rfl ⟨rfl,a.o⟩

theorem zK (v:Value) (xs:LN) (n:Nat) (w:World) (h:Row .u64 w v xs) (hd:Digs xs) (hn:n<=1000000) :
  ClZ 83 #[v,.int .i64 (n:Nat)] w fun e w'=>e=.returned (.slice (some ⟨w.heap.size,0,none⟩) n n)/\OwnN .u64 24 w' w.heap.size (.slice (some ⟨w.heap.size,0,none⟩) n n) n (digs (val xs) n)/\Kept aa w w':=by
 obtain ⟨i0,i,r,k,s⟩:=info_parts Tryz.info24;obtain ⟨ao,q,o,rfl,hL,_,_,_,_⟩:=h.open;have HD:=af (qu hd n);have HS:HzD (∀ W,Kept aa w W->0<((xs.take n).map fun z:Nat=>Value.int .u64 (z:Int)).length->∃ ad,ao=some ad/\∀ j u,((xs.take n).map fun z:Nat=>Value.int .u64 (z:Int))[j]? = some u->W.cell? (ad.add j)=some u):=fun W hk hp=>by
  obtain ⟨ad,e,hs⟩:=h.source hk (by rw [cH,aQ] at hp;rw [cH];omega);refine ⟨ad,e,fun j u hj=>hs j u ?_⟩;rw [List.map_take,eH] at hj
  split at hj
  ·exact hj
  ·cases hj
 have HO:=af (jC .u64 (xs.take n));have b:HzD (((xs.take n).map fun z:Nat=>Value.int .u64 (z:Int)).length=Nat.min q n):=by
  unfold HzD;rw [cH,aQ,hL.o];exact Nat.min_comm n q
 obtain ⟨CS,c⟩:=aj ((xs.take n).map (fun z:Nat=>Value.int .u64 (z:Int)))
 rw [<- c] at HS HO b;have m:HzD (CS=(xs.take n).map (fun z:Nat=>Value.int .u64 (z:Int))):=c;have t:Nat.min q n<=n:=Nat.min_le_right _ _;clear c h hd;delta ClZ;go_in
 go_wp2_with (at_make;refine wpList_make_full _ rfl _ _ 23 rfl w.heap.size 24 i0 _ 1 underlying23 i r k _ _ _ _ n rfl rfl rfl rfl (by rw [s];omega) (by unfold maxLen;omega) (leR _) ?_;intro w1 d g;rw [bw] at d;have k1:=bd g;obtain ⟨w2,p,f,k2⟩:=eC (P:=prog) 23 23 3 24 w.heap.size 0 n n (some ⟨w.heap.size,0,none⟩) ao q o _ 24 CS underlying23 (by rw [i];simp [k]) (iw d) b.o (fun hp=>⟨rfl,HS.o _ k1 hp⟩) (by have:=b.o;simp;omega) HO.o;have l:HzD _:=f;clear f d g);go_ret;have a:=l.o;rw [m.o,ie] at a;rw [HD.o] at a;have kk:=fH k1 k2 (leR _)
 exact ⟨rfl,dY a (by rw [ag]) (by unfold maxLen;omega) (leR _),kk⟩

theorem Bk (X k:Nat):dig X (k/8)/2^(8*(k%8))%256=dig X k 256:=by
 unfold dig;have e:(18446744073709551616:Nat)^(k/8)=256^(8*(k/8)):=by rw [aX]
 have e0:(2:Nat)^(8*(k%8))=256^(k%8):=by rw [aX]
 have e3:(256:Nat)^k=256^(8*(k/8))*256^(k%8):=by rw [<- aO];congr 1;omega
 rw [e,e0,e3,<- dj];generalize X/256^(8*(k/8))=x;have h:k%8=0\/k%8=1\/k%8=2\/k%8=3\/k%8=4\/k%8=5\/k%8=6\/k%8=7:=by omega
 rcases h with h | h | h | h | h | h | h | h <;> rw [h] <;> omega

theorem pZ (V n:Nat):∀ i j,j<i->(bes V n i)[j]? = some (dig V (n-1-j) 256)
 | 0,j,h=>by omega
 | i+1,j,h=>by
  unfold bes;by_cases e:j<i
  ·rw [il (by rw [ew];exact e)];exact pZ V n i j e
  ·obtain rfl:j=i:=by omega
   rw [im (by rw [ew];omega),ew,cj];rfl

def byk (X z k:Nat):LN:=List.replicate (z-k) 0 ++ (bes X z z).drop (z-k)

theorem Ei {z:Nat} (h:k<z):(byk X z k).set (z-1-k) (dig X k 256)=byk X z (k+1):=by
 refine List.ext_getElem? fun j=>?_
 unfold byk;rw [List.getElem?_set,bj,bu,cP,ew];by_cases h1:z-1-k=j
 ·rw [ai h1,bZ,im (by rw [bu];omega),bu,fd,pZ _ _ _ _ (by omega),show z-1-(z-(k+1)+(j-(z-(k+1))))=k by omega]
 ·rw [am h1];by_cases h2:j<z-(k+1)
  ·rw [il (by rw [bu];omega),il (by rw [bu];omega),eG,eG,bZ,bZ]
  ·rw [im (by rw [bu];omega),im (by rw [bu];omega),bu,bu,fd,fd]
   congr 1
   omega

theorem Gr {z:Nat} (h:k<z):(byk X z k)[z-1-k]? = some 0:=by
 unfold byk;rw [il (by rw [bu];omega),eG,bZ]

theorem Gc (xo:OA) (n xc X z:Nat) (w:World) (h:Row .u64 w (.slice xo n xc) (digs X n)) (hz:z<=8*n) (hn:n<=100000) :
  ClZ 26 #[.slice xo n xc,.int .i64 (z:Nat)] w fun e w'=>∃ vo vn vc,e=.returned (.slice vo vn vc)/\Row .u8 w' (.slice vo vn vc) (bes X z z)/\Fresh w (.slice vo vn vc)/\Kept aa w w':=by
 obtain ⟨i0,o,r,s,t⟩:=info_parts Tryz.info5;have HX:=af h;have hm:max (z:Int) 0=(z:Int):=by omega
 clear h;delta ClZ;go_in;go_wp2_with (at_make;refine wpList_make_full _ rfl _ _ 28 rfl w.heap.size 5 i0 _ 1 underlying28 o r s _ _ _ _ z rfl rfl rfl rfl (by rw [t];omega) (by unfold maxLen;omega) (leR _) ?_;intro w1 f l);rw [bw] at f;have k1:=bd l;go_loopw [11] (fun i wr=>∃ k:Nat,k<=z/\i=.int .i64 k/\OwnN .u8 5 wr w.heap.size (.slice (some ⟨w.heap.size,0,none⟩) z z) z (byk X z k)/\Kept aa w wr) (fun i _=>z-(intOf i).toNat)
 case atStart=>exact ⟨0,aP _,rfl,by rw [show byk X z 0=List.replicate z 0 by unfold byk;rw [et,kU (by rw [ew];omega),dU]];exact f,k1⟩
 case round=>
  clear f l k1;obtain ⟨k,hk,rfl,ho,c⟩:=hrel;by_cases hkn:k<z
  ·have p:(k:Int)<(z:Int):=by omega
   obtain ⟨j,hj⟩:=aj (z-1-k)
   have hJ:(z:Int)-1-(k:Int)=(j:Int):=by omega
   have y:j<z:=by omega
   have hc:wr.cell? ⟨w.heap.size,j,none⟩=some (.int .u8 0):=by
    rw [World.ownsRow.cellAt ho j (by omega),bV,hj,Gr hkn];rfl
   have hf:=World.ownsRow.frozenAt ho j;have q:=fun u=>(World.ownsRow.stored ho j u).1
   have HF:HzD ((byk X z k).set j (dig X k 256)=byk X z (k+1)):=by unfold HzD;rw [hj];exact Ei hkn
   obtain ⟨_,_,_,e1,_,_,_,_,a⟩:=(HX.o.g c).open;cases e1
   obtain ⟨b,off,rfl,v⟩:=fh (a (k/8) (by omega)) (by omega);have x:dig X (k/8)<18446744073709551616:=bk;have g:=Bk X k;have g1:(k:Int)/8<(n:Int):=by omega
   have g2:(0:Int)<=(k:Int)/8:=by omega
   have g3:((k:Int)/8).toNat=k/8:=by omega
   clear a hj;generalize dig X (k/8)=d at *;have e1:(d:Int)/2^(8*(k%8))=((d/2^(8*(k%8)):Nat):Int):=by simp
   have HB:HzD ((d:Int)/2^(8*(k%8))%256=((dig X k 256:Nat):Int)):=by unfold HzD;rw [e1,<- g];omega
   clear e1 g;go_wp2_with fail;rw [HB.o];go_roundw
   case rel=>
    refine ⟨k+1,by omega,by go_num,?_,c.setCell _ (fun h=>by simp at h) _⟩;unfold OwnN;rw [<- HF.o,cI];exact q _
   case measure=>simp [intOf];omega
  ·have p:¬ (k:Int)<(z:Int):=by omega
   have e:k=z:=by omega
   subst e;go_wp2;go_ret;have hb:byk X k k=bes X k k:=by unfold byk;simp
   refine ⟨_,_,_,rfl,Row.of_own (base:=w.heap.size) (e:=5) (by rw [ew,<- hb];exact ho),?_,c⟩;intro b m;simp [Value.ownBlock] at m;omega

structure Md (w:World) (o:Tr) (ao bo:OA) (n K mcap rcap V:Nat):Prop where
 m8:Mod8 w o ao bo n n K mcap rcap (jD V) (j4 V)
 ev:val (jD V)=V

theorem Md.did {o:Tr} {a b:Nat} (h:Md w o ao bo n K a b V) (d:Did w o m w' o'):Md w' o' ao bo n K a b V:=⟨h.m8.did d,h.ev⟩

theorem Md.g {o:Tr} {a b:Nat} (h:Md w o ao bo n K a b V) (k:Kept aa w w'):Md w' o ao bo n K a b V:=⟨h.m8.g k,h.ev⟩

def Md.off (ao bo:OA) (n mcap rcap b:Nat):Prop:=(∀ x,(Value.slice ao n mcap).ownBlock=some x->¬ x=b)/\(∀ x,(Value.slice bo n rcap).ownBlock=some x->¬ x=b)

theorem Md.kept {S:Nat->Prop} {o:Tr} {a b:Nat} (h:Md w o ao bo n K a b V) (k:Kept S w w') (h1:∀ x,(Value.slice ao n a).ownBlock=some x->¬ S x) (h2:∀ x,(Value.slice bo n b).ownBlock=some x->¬ S x):Md w' o ao bo n K a b V:=⟨⟨⟨h.m8.hm.1.kept k h1,h.m8.hm.2⟩,⟨h.m8.hr.1.kept k h2,h.m8.hr.2⟩,h.m8.hmd,h.m8.hrd,h.m8.hK,h.m8.ok⟩,h.ev⟩

theorem Md.new {o:Tr} {a b:Nat} (h:Md w o ao bo n K a c V) (hb:w.heap.size<=b):Md.off ao bo n a c b:=by
 obtain ⟨⟨f0,f1⟩,-⟩:=h.m8.a;obtain ⟨_,_,_,e1,h1,_⟩:=h.m8.hm.1.open;cases e1
 obtain ⟨_,_,_,e1,h2,_⟩:=h.m8.hr.1.open;cases e1
 have n1:jD V≠[]:=fun e=>by have:=h1.o;rw [e] at this;simp at this;omega
 have n2:j4 V≠[]:=fun e=>by have:=h2.o;rw [e] at this;simp at this;omega
 exact ⟨fun x hx e=>by have:=h.m8.hm.1.lt n1 x hx;omega,fun x hx e=>by have:=h.m8.hr.1.lt n2 x hx;omega⟩

theorem Md.a {o:Tr} {a b:Nat} (h:Md w o ao bo n K a b V):0<n/\n<=130/\2<=V/\V<18446744073709551616^n:=by
 obtain ⟨⟨f0,f1⟩,-,f3,f4,f5⟩:=h.m8.a;rw [h.ev] at f4 f5;exact ⟨f0,f1,f4,f5⟩

theorem mC {o:Tr} {v:Value} (h:U64s w v) (ht:TrIn w o) (hr:Row .u64 w v (digs X n)) (hX:X<18446744073709551616^n):NumT w o v n X:=⟨h.rowT hr ht,hX⟩

theorem vJ (o:Tr) (xo:OA) (L f:Nat) (xs:LN) (V n:Nat) (w:World) (ht:TrIn w o) (hx:Row .u64 w (.slice xo L f) xs) (hd:Digs xs) (hL:L<=1000000) (hV:V=val xs) (hE:eW V=0) (hn:n=al V) :
  ClZ 32 #[.slice xo L f] w fun e w'=>∃ ao bo K c d,e=.returned (.tuple #[.agg #[.slice ao n c,.int .u64 (K:Nat),.slice bo n d],.int .i64 0])/\Md w' o ao bo n K c d V/\(Fresh w (.slice ao n c)/\Fresh w (.slice bo n d))/\Kept aa w w':=by
 refine (pQ xo L f xs V 0 hV hE.symm w hx hd hL).mono ?_;rintro e w' ⟨a,K,b,rfl,ra,rb,hK,⟨fa,fb⟩,k⟩;obtain ⟨i,j,l,m,p,q⟩:=l9 hE hK;obtain ⟨ao,an,c,rfl,g,-⟩:=ra.open;obtain ⟨bo,bn,d,rfl,h,-⟩:=rb.open;obtain rfl:n=an:=by rw [<- g.o,j,hn]
 obtain rfl:n=bn:=by rw [<- h.o,l,hn]
 exact ⟨ao,bo,K,c,d,rfl,⟨⟨jh fa ht ra,jh fb ht rb,p,q,hK.1,i⟩,m⟩,⟨fa,fb⟩,k⟩

def uY (n:Nat):List Ev:=List.replicate 2 (1,(n:Int),0) ++ lH n

theorem kJ (h:n<=130):(uY n).length<=1000:=by
 unfold uY lH cX;simp;omega

def Fs (n:Nat):List Ev:=List.replicate 2 (1,(n:Int),0) ++ List.replicate 2 (1,(n:Int),0)

theorem gV (L M:Nat):(fi L M).length<=60000:=by
 unfold fi
 split
 ·rw [lw];omega
 ·simp

theorem De (o:Tr) (ao bo xo yo:OA) (n K a b xc yc X Y V:Nat) (w:World) (ht:TrRoom w o 5000) (hM:Md w o ao bo n K a b V) (hx:NumT w o (.slice xo n xc) n X) (hX:X<V) (hy:NumT w o (.slice yo n yc) n Y) (hY:Y<V) :
  ClZ 62 #[aN o,.agg #[.slice ao n a,.int .u64 (K:Nat),.slice bo n b],.slice xo n xc,.slice yo n yc] w fun e w'=>∃ zo zc o',e=.returned (.tuple #[.slice zo n zc,.int .i64 0])/\NumT w' o' (.slice zo n zc) n (X*Y%V)/\Did w o (uY n) w' o':=by
 obtain ⟨f0,f1,f4,f5⟩:=hM.a;refine (Lm o ao bo xo yo n n K a b n n xc yc _ _ _ _ w ht hM.m8.hm hM.m8.hr hx.1 hy.1 hM.m8.hmd hM.m8.hrd (ak (by omega) _ _) (ak (by omega) _ _) hM.m8.hK (by omega) (by omega) (by omega)).mono ?_;rintro e w' ⟨v',c,rfl,zs,m,o',hr,hl,d,hp,-⟩;rw [hM.ev,bJ hx.2,bJ hy.2] at hp;obtain ⟨⟨rfl,rfl⟩,rfl⟩:=hp ⟨hM.m8.ok,⟨rfl,hX⟩,rfl,hY⟩;have hT:=(d.room (k:=0) (ht.l (by have h:=kJ f1;unfold uY at h;omega))).1;have hN:NumT w' o' v' n (X*Y%V):=mC (hl rfl).2 hT hr (bG (bk) f5);obtain ⟨zo,zc,rfl⟩:=hN.s;exact ⟨zo,zc,o',rfl,hN,d⟩

theorem Ju (o:Tr) (ao bo xo yo:OA) (n K a b xc yc X Y V:Nat) (w:World) (ht:TrRoom w o 10) (hM:Md w o ao bo n K a b V) (hx:NumT w o (.slice xo n xc) n X) (hX:X<V) (hy:NumT w o (.slice yo n yc) n Y) (hY:Y<V) :
  ClZ 108 #[aN o,.agg #[.slice ao n a,.int .u64 (K:Nat),.slice bo n b],.slice xo n xc,.slice yo n yc] w fun e w'=>∃ zo zc o',e=.returned (.tuple #[.slice zo n zc,.int .i64 0])/\NumT w' o' (.slice zo n zc) n (ig X Y V)/\Did w o (Fs n) w' o':=by
 obtain ⟨f0,f1,f4,f5⟩:=hM.a;refine (Lp o ao bo xo yo n n K a b n n xc yc _ _ _ _ w ht hM.m8.hm hM.m8.hr hx.1 hy.1 hM.m8.hmd hM.m8.hrd (ak (by omega) _ _) (ak (by omega) _ _) hM.m8.hK (by omega) (by omega) (by omega)).mono ?_;rintro e w' ⟨v',c,rfl,zs,m,o',hr,hl,d,hp,-⟩;rw [hM.ev,bJ hx.2,bJ hy.2] at hp;obtain ⟨⟨rfl,rfl⟩,rfl⟩:=hp ⟨hM.m8.ok,⟨rfl,hX⟩,rfl,hY⟩;have hT:=(d.room (k:=0) (ht.l (by simp))).1;have hN:NumT w' o' v' n (ig X Y V):=mC (hl rfl).2 hT hr (bG (tL hX hY) f5);obtain ⟨zo,zc,rfl⟩:=hN.s;exact ⟨zo,zc,o',rfl,hN,d⟩

theorem Df (o:Tr) (ao bo xo:OA) (n K a b N1 xc X V:Nat) (w:World) (ht:TrRoom w o 60000) (hM:Md w o ao bo n K a b V) (hx:NumT w o (.slice xo N1 xc) N1 X) (hN:N1<=300) :
  ClZ 102 #[aN o,.agg #[.slice ao n a,.int .u64 (K:Nat),.slice bo n b],.slice xo N1 xc] w fun e w'=>∃ zo zc o',e=.returned (.tuple #[.slice zo n zc,.int .i64 0])/\NumT w' o' (.slice zo n zc) n (X%V)/\Did w o (fi N1 n) w' o':=by
 obtain ⟨f0,f1,f4,f5⟩:=hM.a;refine (Lo o ao bo xo n n K a b N1 xc _ _ _ w ht hM.m8.hm hM.m8.hr hx.1 hM.m8.hmd hM.m8.hrd (ak (by omega) _ _) hM.m8.hK (by omega)).mono ?_;rintro e w' ⟨v',c,rfl,zs,m,o',hr,hl,d,hp,-⟩;obtain ⟨g1,-,g3⟩:=ix (X:=X) (Y:=V) (L:=N1) (M:=n) ⟨hN,by omega⟩ (by omega);rw [hM.ev,bJ hx.2,g1,g3] at hp;obtain ⟨⟨rfl,rfl⟩,rfl⟩:=hp hM.m8.ok;rw [fg,bY] at d;have hT:=(d.room (k:=0) (ht.l (by have h:=gV N1 n;omega))).1;have hN:NumT w' o' v' n (X%V):=mC (hl rfl).2 hT hr (bG (bk) f5);obtain ⟨zo,zc,rfl⟩:=hN.s;exact ⟨zo,zc,o',rfl,hN,d⟩

def CV (n L:Nat):List Ev:=jL n ++ oG n L

theorem qX {L:Nat} (h:n<=130) (hL:L<=300):(CV n L).length<=61000000:=by
 have h1:=(iu h).2.1;have h2:=qt h hL;unfold CV;rw [bj];omega

theorem Jl (o:Tr) (ao bo xo eo:OA) (n K b f xc L a X V:Nat) (ys:LN) (w:World) (ht:TrRoom w o 70000000) (hM:Md w o ao bo n K b f V) (hx:NumT w o (.slice xo n xc) n X) (hX:X<V) (hy:RowT w o (.slice eo L a) ys) (g:Digs ys) (hL:L<=300) :
  ClZ 163 #[aN o,.agg #[.slice ao n b,.int .u64 (K:Nat),.slice bo n f],.slice xo n xc,.slice eo L a] w fun e w'=>∃ zo zc o',e=.returned (.tuple #[.slice zo n zc,.int .i64 0])/\NumT w' o' (.slice zo n zc) n (X^val ys%V)/\Did w o (CV n L) w' o':=by
 obtain ⟨f0,f1,f4,f5⟩:=hM.a;refine (LO o ao bo xo eo n n K b f n xc L a _ _ _ ys 0 w ht hM.m8.hm hM.m8.hr hx.1 hy hM.m8.hmd hM.m8.hrd (ak (by omega) _ _) g hM.m8.hK (by omega) (by rw [hM.ev,bJ hx.2];exact iff_of_true rfl ⟨hM.m8.ok,rfl,hX⟩) (by omega)).mono ?_;rintro e w' ⟨zo,zn,zc,c,rfl,(⟨-,-,rfl,⟨hr,hu⟩,o',d⟩ | ⟨h,-⟩)⟩
 ·rw [hM.ev,bJ hx.2] at hr;have hT:=(d.room (k:=0) (ht.l (by have h:=qX f1 hL;unfold CV at h;omega))).1;have hN:NumT w' o' (.slice zo zn zc) n (X^val ys%V):=mC hu hT hr (bG (bk) f5);obtain ⟨yo,yc,e1⟩:=hN.s;cases e1
  exact ⟨_,_,o',rfl,hN,d⟩
 ·omega

theorem uD (n:Nat):∀ k,(AC n k).length=12*k
 | 0=>rfl
 | k+1=>by
  unfold AC;rw [bj,uD n k,ot];omega

theorem oO (h:n<=130):(vk n).length<=400000:=by
 unfold vk tg;have h1:stp n<=30000:=by unfold stp;omega
 simp [uD];omega

theorem Jo (o:Tr) (ao bo xo:OA) (n K a b xc X V:Nat) (w:World) (ht:TrRoom w o 400000) (hM:Md w o ao bo n K a b V) (hx:NumT w o (.slice xo n xc) n X) (hX:X<V) (hg:Nat.gcd X V=1) :
  ClZ 65 #[aN o,.agg #[.slice ao n a,.int .u64 (K:Nat),.slice bo n b],.slice xo n xc] w fun e w'=>∃ zo zc T o',e=.returned (.tuple #[.slice zo n zc,.int .u64 1,.int .i64 0])/\(T<V/\X*T%V=1)/\NumT w' o' (.slice zo n zc) n T/\Did w o (vk n) w' o':=by
 obtain ⟨f0,f1,f4,f5⟩:=hM.a;refine (iOf o ao bo xo n n K a b n xc _ _ _ w ht hM.m8.hm hM.m8.hr hx.1 hM.m8.hmd hM.m8.hrd (ak (by omega) _ _) hM.m8.hK (by omega) (.inl hM.m8.ok)).mono ?_;rintro e w' ⟨v',is,c,rfl,zs,m,o',hr,hl,d,hp,-⟩;rw [hM.ev,bJ hx.2] at hp;obtain ⟨rfl,rfl,T,rfl,hi⟩:=hp ⟨hM.m8.ok,rfl,hX⟩;obtain ⟨h1,h2,rfl⟩:=hi.1 hg;have hT:=(d.room (k:=0) (ht.l (by have h:=oO f1;omega))).1;have hN:NumT w' o' v' n T:=mC (hl rfl).2 hT hr (bG h1 f5);obtain ⟨zo,zc,rfl⟩:=hN.s;exact ⟨zo,zc,T,o',rfl,⟨h1,h2⟩,hN,d⟩

theorem LH (ao bo xo:OA) (n K a b xc X V:Nat) (w:World) (hM:Md w none ao bo n K a b V) (hx:Row .u64 w (.slice xo n xc) (digs X n)) (hX:X<V) :
  ClZ 65 #[.pointer none,.agg #[.slice ao n a,.int .u64 (K:Nat),.slice bo n b],.slice xo n xc] w fun e w'=>∃ zo zn zc is,e=.returned (.tuple #[.slice zo zn zc,.int .u64 (is:Nat),.int .i64 0])/\(is=if Nat.gcd X V=1 then 1 else 0)/\Kept aa w w':=by
 obtain ⟨f0,f1,f4,f5⟩:=hM.a;have f:NumT w none (.slice xo n xc) n X:=⟨RowT.none hx,bG hX f5⟩
 refine (iOf none ao bo xo n n K a b n xc _ _ _ w (TrRoom.none w _ (by omega)) hM.m8.hm hM.m8.hr f.1 hM.m8.hmd hM.m8.hrd (ak (by omega) _ _) hM.m8.hK (by omega) (.inr rfl)).mono ?_;rintro e w' ⟨v',is,c,rfl,zs,m,o',hr,hl,d,hp,-⟩;rw [hM.ev,bJ f.2] at hp;obtain ⟨rfl,rfl,T,rfl,hi⟩:=hp ⟨hM.m8.ok,rfl,hX⟩;obtain ⟨zo,zn,zc,rfl,-⟩:=hr.open;refine ⟨zo,zn,zc,is,rfl,?_,d.none.2⟩;by_cases hg:Nat.gcd X V=1
 ·rw [ai hg];exact (hi.1 hg).2.2
 ·rw [am hg];exact (hi.2 hg).2

theorem zM (o:Tr) (ao bo xo:OA) (n K a b xc d X V:Nat) (w:World) (ht:TrIn w o) (hM:Md w o ao bo n K a b V) (hx:NumT w o (.slice xo n xc) n X) (hX:X<V) (hd:d<18446744073709551616) :
  ClZ 63 #[.agg #[.slice ao n a,.int .u64 (K:Nat),.slice bo n b],.slice xo n xc,.int .u64 (d:Nat)] w fun e w'=>∃ zo zc,e=.returned (.tuple #[.slice zo n zc,.int .i64 0])/\NumT w' o (.slice zo n zc) n (X^d%V)/\Kept aa w w':=by
 obtain ⟨f0,f1,f4,f5⟩:=hM.a;refine (JJ ao bo xo n n K a b n xc d _ _ _ 0 (by rw [hM.ev,bJ hx.2];exact iff_of_true rfl ⟨hM.m8.ok,rfl,hX⟩) (by omega) _ rfl w hM.m8.hm.1 hM.m8.hr.1 hx.1.1 hM.m8.hmd hM.m8.hrd (ak (by omega) _ _) hd hM.m8.hK (by omega)).mono ?_;rintro e w' ⟨v',rfl,⟨hr,hu⟩,k⟩;rw [ai rfl,hM.ev,bJ hx.2] at hr;have hN:NumT w' o v' n (X^d%V):=mC hu (ht.g k) hr (bG (bk) f5);obtain ⟨zo,zc,rfl⟩:=hN.s;exact ⟨zo,zc,rfl,hN,k⟩

theorem Jk (o:Tr) (u v:Value) (n m X Y:Nat) (w:World) (ht:TrRoom w o 1) (hu:NumT w o u n X) (hv:NumT w o v m Y) (hn:n<=1000) (hm:m<=1000) :
  ClZ 66 #[aN o,u,v] w fun e w'=>e=.returned (.int .u64 (dD (decide (X=Y)):Nat))/\∃ o',Did w o [(1,(max n m:Nat),0)] w' o':=by
 have h:=qG o u v _ _ w ht hu.1 hv.1 (ak (by omega) _ _) (ak (by omega) _ _) (by rw [ag];omega) (by rw [ag];omega);rw [ag,ag,bJ hu.2,bJ hv.2] at h;exact h

theorem Jt (o:Tr) (bit n X Y:Nat) (a:bit<18446744073709551616) (u v:Value) (w:World) (ht:TrRoom w o 1) (hu:NumT w o u n X) (hv:NumT w o v n Y) (hn:n<=1000) :
  ClZ 67 #[aN o,.int .u64 (bit:Nat),u,v] w fun e w'=>∃ zo zc o',e=.returned (.slice zo n zc)/\NumT w' o' (.slice zo n zc) n (cW bit X Y)/\Did w o [(1,(n:Nat),0)] w' o':=by
 have h:=nV o bit a u v _ _ w ht hu.1 hv.1 (ak (by omega) _ _) (ak (by omega) _ _) (by rw [ag];omega) (by rw [ag];omega);rw [ag,ag,ir,bJ hu.2,bJ hv.2] at h;refine h.mono ?_;rintro e w' ⟨v',rfl,ho,o',d⟩;have hN:=NumT.own ho (oo hu.2 hv.2) (d.room (k:=0) (ht.l (by simp))).1;obtain ⟨zo,zc,rfl⟩:=hN.s;exact ⟨zo,zc,o',rfl,hN,d⟩

theorem Hl (o:Tr) (bit n X:Nat) (a:bit<18446744073709551616) (u:Value) (w:World) (ht:TrRoom w o 1) (hu:NumT w o u n X) (hn:n<=1000) :
  ClZ 67 #[aN o,.int .u64 (bit:Nat),u,.slice none 0 0] w fun e w'=>∃ zo zc o',e=.returned (.slice zo n zc)/\NumT w' o' (.slice zo n zc) n (cW bit X 0)/\Did w o [(1,(n:Nat),0)] w' o':=by
 have h:=nV o bit a u (.slice none 0 0) _ [] w ht hu.1 ⟨Row.nil _ _,fun h=>absurd rfl h⟩ (ak (by omega) _ _) (Digs.nil _) (by rw [ag];omega) (by simp);rw [ag,fC,Nat.max_zero,bJ hu.2,show val []=0 from rfl] at h;refine h.mono ?_;rintro e w' ⟨v',rfl,ho,o',d⟩;have hN:=NumT.own ho (oo hu.2 (aV)) (d.room (k:=0) (ht.l (by simp))).1;obtain ⟨zo,zc,rfl⟩:=hN.s;exact ⟨zo,zc,o',rfl,hN,d⟩

theorem Js (o:Tr) (xo yo:OA) (n m xc yc X Y:Nat) (w:World) (ht:TrRoom w o 300) (hx:NumT w o (.slice xo n xc) n X) (hy:NumT w o (.slice yo m yc) m Y) (hn:n<=300) (hm:m<=300) :
  ClZ 110 #[aN o,.slice xo n xc,.slice yo m yc] w fun e w'=>∃ zo zc o',e=.returned (.slice zo (n+m) zc)/\NumT w' o' (.slice zo (n+m) zc) (n+m) (X*Y)/\Did w o (kF n m) w' o':=by
 refine (CR o xo yo n m xc yc _ _ w ht hx.1 hy.1 (ak (by omega) _ _) (ak (by omega) _ _)).mono ?_;rintro e w' ⟨v',rfl,-,-,h,o',d⟩;obtain ⟨g,-,-,ho⟩:=h ⟨hn,hm⟩;rw [bJ hx.2,bJ hy.2] at ho;have hlt:X*Y<18446744073709551616^(n+m):=by
  rw [aO];exact Nat.mul_lt_mul'' hx.2 hy.2
 have hN:=NumT.own ho hlt (d.room (k:=0) (ht.l (by unfold kF;rw [ai ⟨hn,hm⟩];simp;omega))).1;obtain ⟨zo,zc,rfl⟩:=hN.s;exact ⟨zo,zc,o',rfl,hN,d⟩

theorem Ji (o:Tr) (u v:Value) (n m X Y:Nat) (w:World) (ht:TrRoom w o 1) (hu:NumT w o u n X) (hv:NumT w o v m Y) (hn:n<=1000) (hm:m<=n) (hlt:X+Y<18446744073709551616^n) :
  ClZ 109 #[aN o,u,v] w fun e w'=>∃ zo zc c o',e=.returned (.tuple #[.slice zo n zc,.int .u64 ((c:Nat):Int)])/\NumT w' o' (.slice zo n zc) n (X+Y)/\Did w o [(1,(n:Nat),0)] w' o':=by
 have h:=IW o u v _ _ w ht hu.1 hv.1 (ak (by omega) _ _) (ak (by omega) _ _) (by rw [ag];omega) (by rw [ag];omega);rw [ag,ag,Nat.max_eq_left hm,bJ hu.2,bJ hv.2] at h;refine h.mono ?_;rintro e w' ⟨v',rfl,ho,o',d⟩;have hN:=NumT.own ho hlt (d.room (k:=0) (ht.l (by simp))).1;obtain ⟨zo,zc,rfl⟩:=hN.s;exact ⟨zo,zc,_,o',rfl,hN,d⟩

def pmV (N1 n L:Nat):List Ev:=fi N1 n ++ CV n L

theorem Jr (o:Tr) (ao bo xo eo:OA) (n K a b N1 xc L c X V:Nat) (ys:LN) (w:World) (ht:TrRoom w o 71000000) (hM:Md w o ao bo n K a b V) (hx:NumT w o (.slice xo N1 xc) N1 X) (i:N1<=300) (hy:RowT w o (.slice eo L c) ys) (j:Digs ys) (hL:L<=300) :
  ClZ 107 #[aN o,.agg #[.slice ao n a,.int .u64 (K:Nat),.slice bo n b],.slice xo N1 xc,.slice eo L c] w fun e w'=>∃ zo zc o',e=.returned (.slice zo n zc)/\NumT w' o' (.slice zo n zc) n (X^val ys%V)/\Did w o (pmV N1 n L) w' o':=by
 obtain ⟨po,g⟩:=aK o;obtain ⟨f0,f1,f4,f5⟩:=hM.a;obtain ⟨W,hW⟩:=aj (w.alloc (.cells #[.slice ao n a,.int .u64 (K:Nat),.slice bo n b] 71))
 have k0:Kept aa w W:=by rw [hW];exact (ah aa w).alloc _
 have l:W.heap[w.heap.size]? = some (.cells #[.slice ao n a,.int .u64 (K:Nat),.slice bo n b] 71 (0,0)):=by rw [hW];exact heap_alloc_new _ _
 have kd:Kept aa w W.drew:=k0.drew;have s0:Wr w o [] W.drew o (.pointer po) 71000000:=⟨Did.of_kept kd ht.1,ht.g kd,g⟩
 have M0:=hM.g kd;have Y0:=hy.g kd;have hV:0<V:=by omega
 have HE:HzD (X^val ys%V=(X%V)^val ys%V):=jt _ _ _;have c1:=Df o ao bo xo n K a b N1 xc X V W.drew (s0.room.l (by omega)) M0 (hx.g kd) i;rw [g] at c1;have HW:=af hW;rw [g];clear hM hx hy hW k0;delta ClZ;go_in;go_wp2_with (rw [<- HW.o]);refine wp_region_held_drew (S:=fun w'=>w'.heap[w.heap.size]? = some (.cells #[.slice ao n a,.int .u64 (K:Nat),.slice bo n b] 71 (0,0))) (by kernel_rfl) l (fun hS=>?_);refine aM 0 (some 9) (.pointer po) hS ?_;refine aM 1 (some 10) (.agg #[.slice ao n a,.int .u64 (K:Nat),.slice bo n b]) hS ?_ (y:=dJ fun w h=>by simp [execOp,go_sem,(aw h).1,(aw h).2.1,(aw h).2.2])
 refine aM 2 (some 11) (.pointer po) hS ?_;refine aM 3 (some 12) (.agg #[.slice ao n a,.int .u64 (K:Nat),.slice bo n b]) hS ?_ (y:=dJ fun w h=>by simp [execOp,go_sem,(aw h).1,(aw h).2.1,(aw h).2.2]);refine aM 4 (some 13) (.slice xo N1 xc) hS ?_;refine aM 9 (some 18) (.slice eo L c) hS ?_;simp only [aT];refine cf 5 (some 14) 102 [.pointer po,.agg #[.slice ao n a,.int .u64 (K:Nat),.slice bo n b],.slice xo N1 xc] (c1) ?_;rintro r w1 ⟨zo,zc,o1,rfl,X1,d1⟩;have d:=d1.cells hS s0.room.1 (by decide) (by decide);have s1:=s0.next (k:=70500000) d1 (by have h:=gV N1 n;omega)
 have M1:=M0.did d1;have Y1:=Y0.did d1;refine .inl ⟨_,rfl,d,?_⟩;refine aM 6 (some 15) (.slice zo n zc) d ?_;refine aM 7 (some 16) (.int .i64 0) d ?_;simp only [aT];refine cf 8 (some 17) 29 [.slice zo n zc,.int .i64 0] (gM zo n zc _) ?_;rintro r w2 ⟨rfl,rfl⟩;refine .inl ⟨_,rfl,d,?_⟩;simp only [aT];have c2:=Jl o1 ao bo zo eo n K a b zc L c (X%V) V ys _ (s1.room.l (by omega)) M1 X1 (aW _ hV) Y1 j hL;rw [s1.ptr] at c2;refine cf 10 (some 19) 163 [.pointer po,.agg #[.slice ao n a,.int .u64 (K:Nat),.slice bo n b],.slice zo n zc,.slice eo L c] (c2) ?_;rintro r w3 ⟨yo,yc,o3,rfl,X3,d3⟩
 have f:=d3.cells d s1.room.1 (by decide) (by decide);have s3:=s1.next (k:=9000000) d3 (by have h:=qX f1 hL;omega)
 refine .inl ⟨_,rfl,f,?_⟩;refine aM 11 (some 20) (.slice yo n yc) f ?_;refine aM 12 (some 21) (.int .i64 0) f ?_;simp only [aT];refine cf 13 (some 22) 29 [.slice yo n yc,.int .i64 0] (gM yo n yc _) ?_;rintro r w4 ⟨rfl,rfl⟩;refine .inl ⟨_,rfl,f,?_⟩;refine aM 14 (some 8) (.slice yo n yc) f ?_;simp only [aT];refine wpAnyH_done (by kernel_rfl) ?_ _;go_wp2_with fail;go_ret;exact ⟨yo,yc,o3,rfl,by rw [HE.o];exact X3,s3.did⟩

def xi (at_ k:Int) (fs:LN) (X n V:Nat):Nat:=(if at_=k then val (fs.take n) else X)%V

theorem pX {k:Int} (h:X<V):xi at_ k fs X n V=rK at_ k fs X n V:=by
 unfold xi rK
 split
 ·rfl
 ·exact aA h

def pp (n:Nat):List Ev:=[(1,((1:Nat):Int),0)] ++ [(1,(n:Int),0)] ++ fi n n

theorem jn (n:Nat):(pp n).length<=60010:=by
 have h:=gV n n;unfold pp;simp;omega

def atW (a:Int):Nat:=(a%18446744073709551616).toNat

theorem Gm (a:Int):atW a<18446744073709551616:=by unfold atW;omega

theorem Eb {a:Int} (h:AtOk a) (hk:k<=4) (h1:1<=k):k=atW a↔a=(k:Int):=by
 unfold AtOk at h;unfold atW;omega

theorem zE (W:World) (o:Tr) (x:Nat) (hx:x<18446744073709551616) (ht:TrIn W o):NumT (W.alloc (.cells #[.int .u64 (x:Nat)] 24)) o (.slice (some ⟨W.heap.size,0,none⟩) 1 1) 1 x:=by
 have hr:=World.ownsRow_lit (base:=W.heap.size) (e:=24) (size:=1) W #[.int .u64 (x:Nat)] 1 (leR _) (by unfold maxLen;omega) rfl;refine NumT.own (base:=W.heap.size) ?_ (by rw [ju];exact hx) (ht.g ((ah _ _).alloc _));unfold OwnN;rw [jp x 0 hx];exact hr

theorem jB {b:Nat} {x y:Value} (h:w.heap[b]? = some (.cells #[x,y] 32 (0,0))):w.cell? ⟨b,0,none⟩=some x/\w.cell? ⟨b,1,none⟩=some y:=⟨(cell_of_row w _ 0 _ _ _ h).trans rfl,(cell_of_row w _ 1 _ _ _ h).trans rfl⟩

theorem ol (k:Nat) (h1:1<=k) (h4:k<=4) (o:Tr) (bT bF:Nat) (at_:Int) (z:AtOk at_) (ao bo xo fo:OA) (n K c d xc fl fc X V:Nat) (fs:LN) (w:World) (ht:TrRoom w o 100000) (hM:Md w o ao bo n K c d V) (hx:NumT w o (.slice xo n xc) n X)
  (hT:Box w bT (aN o) 57) (hF:w.heap[bF]? = some (.cells #[.int .i64 at_,.slice fo fl fc] 32 (0,0))) (hf:RowT w o (.slice fo fl fc) fs) (gf:Digs fs) :
  ClZ 101 #[.int .i64 (k:Nat),.agg #[.slice ao n c,.int .u64 (K:Nat),.slice bo n d],.slice xo n xc,.pointer (some ⟨bT,0,none⟩),.pointer (some ⟨bF,0,none⟩)] w fun e w'=>∃ zo zc o',e=.returned (.slice zo n zc)/\NumT w' o' (.slice zo n zc) n (xi at_ k fs X n V)/\Did w o (pp n) w' o':=by
 obtain ⟨po,s⟩:=aK o;rw [s] at hT;obtain ⟨f0,f1,f4,f5⟩:=hM.a;obtain ⟨a,ha⟩:=aj (atW at_)
 have G:a<18446744073709551616:=by rw [ha];exact Gm _
 have H:IntKind.u64.wrap at_=(a:Int):=by rw [ha];rw [IntKind.wrap_u64];unfold atW;omega
 obtain ⟨W1,m⟩:=aj (w.alloc (.cells #[.slice ao n c,.int .u64 (K:Nat),.slice bo n d] 71))
 obtain ⟨W2,p⟩:=aj (W1.alloc (.cells #[.int .u64 (k:Nat)] 24))
 obtain ⟨W3,q⟩:=aj (W2.alloc (.cells #[.int .u64 (a:Nat)] 24))
 have z1:W1.heap.size=w.heap.size+1:=by rw [m];simp
 have z2:W2.heap.size=w.heap.size+1+1:=by rw [p];simp [z1]
 have k1:Kept aa w W1:=by rw [m];exact (ah aa w).alloc _
 have k2:Kept aa W1 W2:=by rw [p];exact (ah aa W1).alloc _
 have k3:Kept aa W2 W3:=by rw [q];exact (ah aa W2).alloc _
 have v:=k2.trans k3;have g:=k1.trans v;have t:W1.heap[w.heap.size]? = some (.cells #[.slice ao n c,.int .u64 (K:Nat),.slice bo n d] 71 (0,0)):=by rw [m];exact heap_alloc_new _ _
 have A:=(v.block _ (lt_of_block t) (fun f=>f)).trans t;have n1:NumT W2 o (.slice (some ⟨W1.heap.size,0,none⟩) 1 1) 1 k:=by rw [p];exact zE W1 o k (by omega) (ht.1.g k1)
 have n2:NumT W3 o (.slice (some ⟨W2.heap.size,0,none⟩) 1 1) 1 a:=by rw [q];exact zE W2 o a G (ht.1.g (k1.trans k2))
 rw [z1] at n1;rw [z2] at n2;have s0:Wr w o [] W3 o (.pointer po) 100000:=⟨Did.of_kept g ht.1,ht.g g,s⟩
 obtain ⟨b,hb⟩:=aj (dD (decide (k=a)))
 have I:b<=1:=by rw [hb];exact qS _
 have HB:HzD (cW b (val (fs.take n)) X=if at_=(k:Int) then val (fs.take n) else X):=by
  unfold HzD;have hi:=Eb z h4 h1;rw [<- ha] at hi;by_cases e:k=a
  ·rw [ai (hi.1 e),hb,dR e];rfl
  ·rw [am (fun h=>e (hi.2 h)),hb,cG e];rfl
 have c1:=Jk o _ _ 1 1 k a W3 (s0.room.l (by omega)) (n1.g k3) n2 (by omega) (by omega);rw [s,<- hb] at c1;have M0:=hM.g g;have X0:=hx.g g;have F0:=hf.g g;have T0:=hT.g g;have G0:=(g.block _ (lt_of_block hF) (fun f=>f)).trans hF;have F:=(hT.g k1).cell;have E:=(jB ((k2.block _ (lt_of_block ((k1.block _ (lt_of_block hF) (fun f=>f)).trans hF)) (fun f=>f)).trans ((k1.block _ (lt_of_block hF) (fun f=>f)).trans hF))).1;have B:=af m;have C:=af p;have D:=af q;have Z1:=z1;have Z2:=z2;clear hM hx hf hT hF m p q k1 k2 k3 v g z1 z2 n1 n2 hb ha t ht h1 z;delta ClZ;go_in
 go_wp2_with (first | rw [<- B.o] | rw [<- C.o] | rw [<- D.o]);refine c1.mono ?_;rintro e w4 ⟨rfl,o4,d4⟩;have dd:Did w4 o4 [] w4.drew o4:=Did.of_kept (ah aa w4).drew (s0.next (k:=99000) d4 (by simp)).room.1;have d5:=d4.trans dd;have s5:=s0.next (k:=99000) d5 (by simp)
 have M5:=M0.did d5;have X5:=X0.did d5;have F5:=F0.did d5;have x:=And.intro (d4.cells T0 s0.room.1 (by decide) (by decide)) (And.intro (d4.cells G0 s0.room.1 (by decide) (by decide)) (d4.cells A s0.room.1 (by decide) (by decide)));clear c1 M0 X0 F0 T0 G0 A F E dd Z1 Z2;go_wp2_with fail;refine wp_region_held_drew (S:=fun w'=>w'.heap[bT]? = some (.cells #[.pointer po] 57 (0,0))/\w'.heap[bF]? = some (.cells #[.int .i64 at_,.slice fo fl fc] 32 (0,0))/\w'.heap[w.heap.size]? = some (.cells #[.slice ao n c,.int .u64 (K:Nat),.slice bo n d] 71 (0,0))) (by kernel_rfl) x (fun hS=>?_)
 refine aM 0 (some 20) (.pointer po) hS ?_ (y:=dJ fun w h=>by simp [execOp,go_sem,Box.cell h.1]);refine aM 1 (some 21) (.int .u64 (b:Int)) hS ?_;refine aM 2 (some 22) (.pointer (some ⟨bF,1,none⟩)) hS ?_;refine aM 3 (some 23) (.slice fo fl fc) hS ?_ (y:=dJ fun w h=>by simp [execOp,go_sem,(jB h.2.1).2]);refine aM 4 (some 24) (.slice xo n xc) hS ?_;refine aM 5 (some 25) (.int .i64 (n:Int)) hS ?_;refine aM 7 (some 27) (.slice xo n xc) hS ?_;simp only [aT];refine cf 6 (some 26) 83 [.slice fo fl fc,.int .i64 (n:Int)] (zK _ fs n _ F5.1 gf (by omega)) ?_;rintro r w6 ⟨rfl,i,k6⟩
 have d6:Did w4.drew o4 [] w6 o4:=Did.of_kept k6 s5.room.1;have s6:=s5.next (k:=98000) d6 (by simp)
 have M6:=M5.did d6;have X6:=X5.did d6;rw [nN,<- iR (by omega) gf] at i;have F6:=NumT.own i (by rw [iR (by omega) gf];exact aW _ (aV)) s6.room.1;have j:=And.intro (d6.cells hS.1 s5.room.1 (by decide) (by decide)) (And.intro (d6.cells hS.2.1 s5.room.1 (by decide) (by decide)) (d6.cells hS.2.2 s5.room.1 (by decide) (by decide)));refine .inl ⟨_,rfl,j,?_⟩;simp only [aT];have c7:=Jt o4 b n _ X (by omega) _ _ _ (s6.room.l (by omega)) F6 X6 (by omega);rw [s6.ptr,HB.o] at c7;refine cf 8 (some 28) 67 [.pointer po,.int .u64 (b:Int),.slice (some ⟨w4.drew.heap.size,0,none⟩) n n,.slice xo n xc] (c7) ?_
 rintro r w7 ⟨zo,zc,o7,rfl,X7,d7⟩;have s7:=s6.next (k:=97000) d7 (by simp)
 have M7:=M6.did d7;have l:=And.intro (d7.cells j.1 s6.room.1 (by decide) (by decide)) (And.intro (d7.cells j.2.1 s6.room.1 (by decide) (by decide)) (d7.cells j.2.2 s6.room.1 (by decide) (by decide)));refine .inl ⟨_,rfl,l,?_⟩;refine aM 9 (some 10) (.slice zo n zc) l ?_;simp only [aT];refine wpAnyH_done (by kernel_rfl) ?_ _;have c8:=Df o7 ao bo zo n K c d n zc _ V _ (s7.room.l (by omega)) M7 X7 (by omega);rw [s7.ptr] at c8;obtain ⟨q0,q1,q2⟩:=aw l.2.2;have q3:=Box.cell l.1;clear hS x j l c7 i F5 F6 X5 X6 M5 M6 M7 X7 d4 d6 k6;go_wp2_with fail;refine c8.mono ?_;rintro e w8 ⟨yo,yc,o8,rfl,X8,d8⟩
 have s8:=s7.next (k:=10) d8 (by have h:=gV n n;omega)
 clear c8;go_wp2_with fail;refine (gM yo n yc w8).mono ?_;rintro e w9 ⟨rfl,rfl⟩;go_wp2_with fail;go_ret;refine ⟨yo,yc,o8,rfl,X8,?_⟩;have h:=s8.did;simpa [pp] using h

theorem yZ {md:Region.Mode} {g:Nat} {b:Array Bool} {a:Act} {o:Oper} (i:Nat) (d:Option Tmp) (hr:Region.ready md ops b=[i]) (hi:ops[i]? = some o) (hd:o.dst=d) (hw:Region.wanted o (yielded ops a.tmps)=true) (f:Nat) (c:Tmp) (l:Array Value) (args:List Operand) (n:Array TypeId) (k:List Value)
  (ho:o.op=.call { callee:=.value (.tmp c),args:=args.toArray,argTypes:=n }) (hcv:a.tmps[c]?.getD undef=.func (.func f) #[] l) (hv:args.map a.eval=k) (he:∀ args w,(callFunc f args).run P w=.ok (.enter f args) w) {R:Ending->World->Prop} (hc:Calls P f (k.toArray ++ l) w R)
  (h:∀ e w',R e w'->∃ v,e=.returned v/\S w'/\wpAnyH P md ops Q S g (b.setIfInBounds i true) (a.put d v) w') :
  wpAnyH P md ops Q S (g+1) b a w:=by
 subst hd;refine wpAnyH_all hr (by simp) fun j hj=>?_
 obtain rfl:j=i:=by simpa using hj
 unfold wpOp;rw [hi];dsimp only;rw [ai hw];refine .inl ?_;have m:Calls P f (k.toArray ++ l) w fun
   | .returned v,w''=>S w''/\wpAnyH P md ops Q S g (b.setIfInBounds j true) (a.put o.dst v) w''
   | .panicked chain,w''=>Q (.panic chain) a w''
   | .outgrown,_=>LetsOut Q:=hc.mono (fun e w' r=>by
  obtain ⟨v,rfl,hk⟩:=h e w' r;exact hk)
 unfold Oper.wp;simp [execOp,ho,resolve,invoke,hcv,hv,he,go_sem];exact m

theorem eh {md:Region.Mode} {b:Array Bool} {a:Act} {o:Oper} {rs:LN} (i:Nat) (d:Option Tmp) (hi:ops[i]? = some o) (hd:o.dst=d) (hw:Region.wanted o (yielded ops a.tmps)=true) (f:Nat) (args:List Operand) (l:Array TypeId) (g:List Value)
  (ho:o.op=.call { callee:=.value (.func f),args:=args.toArray,argTypes:=l }) (hv:args.map a.eval=g) (he:∀ args w,(callFunc f args).run P w=.ok (.enter f args) w) {R:Ending->World->Prop} (hc:Calls P f g.toArray w R)
  (h:∀ e w',R e w'->∃ v,e=.returned v/\S w'/\wpAnyH P md ops Q S c (b.setIfInBounds i true) (a.put d v) w') (hs:AllReadyH P md ops Q S c b a w rs) :
  AllReadyH P md ops Q S c b a w (i :: rs):=fun j hj=>by
 subst hd;rcases fL.1 hj with e | hj
 case inr=>exact hs j hj
 subst e;unfold wpOp;rw [hi];dsimp only;rw [ai hw];refine .inl ?_;have k:Calls P f g.toArray w fun
   | .returned v,w''=>S w''/\wpAnyH P md ops Q S c (b.setIfInBounds j true) (a.put o.dst v) w''
   | .panicked chain,w''=>Q (.panic chain) a w''
   | .outgrown,_=>LetsOut Q:=hc.mono (fun e w' r=>by
  obtain ⟨v,rfl,hk⟩:=h e w' r;exact hk)
 unfold Oper.wp;simp [execOp,ho,resolve,invoke,hv,he,go_sem];exact k

theorem dK {md:Region.Mode} {b:Array Bool} {a:Act} {o:Oper} {rs:LN} (i:Nat) (d:Option Tmp) (hi:ops[i]? = some o) (hd:o.dst=d) (hw:Region.wanted o (yielded ops a.tmps)=true) (ho:o.op=.alloc 71)
  (hS:S (w.alloc (.cells #[.slice none 0 0,.int .u64 0,.slice none 0 0] 71))) (h:wpAnyH prog md ops Q S c (b.setIfInBounds i true) (a.put d (.pointer (some ⟨w.heap.size,0,none⟩))) (w.alloc (.cells #[.slice none 0 0,.int .u64 0,.slice none 0 0] 71))) (hs:AllReadyH prog md ops Q S c b a w rs) :
  AllReadyH prog md ops Q S c b a w (i :: rs):=fun j hj=>by
 subst hd;rcases fL.1 hj with e | hj
 case inr=>exact hs j hj
 subst e;unfold wpOp;rw [hi];dsimp only;rw [ai hw];refine .inl ?_;unfold Oper.wp;simp [execOp,ho,go_sem];exact ⟨hS,h⟩

theorem Dz {md:Region.Mode} {d:Nat} {c:Array Bool} {a:Act} {o:Oper} (i:Nat) (hr:Region.ready md ops c=[i]) (hi:ops[i]? = some o) (hd:o.dst=none) (hw:Region.wanted o (yielded ops a.tmps)=true) (p v:Tmp) (b:Nat) (xo zo:OA) (xn xc y zn zc:Nat) (ho:o.op=.store 71 (.tmp p) (.tmp v)) (hp:a.tmps[p]?.getD undef=.pointer (some ⟨b,0,none⟩)) (hv:a.tmps[v]?.getD undef=.agg #[.slice xo xn xc,.int .u64 (y:Nat),.slice zo zn zc]) {c0 c1 c2:Value} (hb:w.heap[b]? = some (.cells #[c0,c1,c2] 71 (0,0))) (hS:S (((w.setCell ⟨b,0,none⟩ (.slice xo xn xc)).setCell ⟨b,1,none⟩ (.int .u64 (y:Nat))).setCell ⟨b,2,none⟩ (.slice zo zn zc))) (h:wpAnyH prog md ops Q S d (c.setIfInBounds i true) a (((w.setCell ⟨b,0,none⟩ (.slice xo xn xc)).setCell ⟨b,1,none⟩ (.int .u64 (y:Nat))).setCell ⟨b,2,none⟩ (.slice zo zn zc))):wpAnyH prog md ops Q S (d+1) c a w:=by
 obtain ⟨f0,f1,f2⟩:=kC hb;obtain ⟨q0,q1,q2⟩:=aw hb;refine wpAnyH_all hr (by simp) fun j hj=>?_
 obtain rfl:j=i:=by simpa using hj
 unfold wpOp;rw [hi];dsimp only;rw [ai hw];refine .inl ?_;unfold Oper.wp;simp [execOp,ho,hd,hp,hv,go_sem,f0,f1,f2,q0,q1,q2];exact ⟨hS,h⟩

theorem tD {md:Region.Mode} {b:Array Bool} {a:Act} (h:∀ G:Nat->Array Bool->Act->World->Prop,(∀ f l a w,G f l a w↔wpAnyH P md ops Q S f l a w)->G c b a w):wpAnyH P md ops Q S c b a w:=
 h (fun f l a w=>wpAnyH P md ops Q S f l a w) (fun _ _ _ _=>Iff.rfl)

theorem mH {md:Region.Mode} {e:Nat} {b:Array Bool} {a:Act} (hp:∀ c a d v w,Q (.panic c) (a.put d v) w->Q (.panic c) a w) (h:∀ Q':Exit->Act->World->Prop,(∀ c a d v w,Q' (.panic c) (a.put d v) w->Q' (.panic c) a w)->Shut (∀ a w,Q .normal a w->Q' .normal a w)->wpAnyH P md ops Q' S e b a w):wpAnyH P md ops Q S e b a w:=
 h Q hp (fun _ _ h=>h)

structure KRows (w:World) (o:Tr) (s:KS) (l:KL) (fo:OA) (fl fc:Nat) (fs:LN):Prop where
 n:RowT w o (.slice s.no s.nl s.nc) l.n
 d:RowT w o (.slice s.dO s.dl s.dc) l.d
 p:RowT w o (.slice s.po s.pl s.pc) l.p
 q:RowT w o (.slice s.qo s.ql s.qc) l.q
 dp:RowT w o (.slice s.dpo s.dpl s.dpc) l.dp
 dq:RowT w o (.slice s.dqo s.dql s.dqc) l.dq
 qi:RowT w o (.slice s.qio s.qil s.qic) l.qi
 f:RowT w o (.slice fo fl fc) fs

theorem KRows.did {o:Tr} {s:KS} {l:KL} (h:KRows w o s l fo fl fc fs) (d:Did w o m w' o'):KRows w' o' s l fo fl fc fs:=⟨h.n.did d,h.d.did d,h.p.did d,h.q.did d,h.dp.did d,h.dq.did d,h.qi.did d,h.f.did d⟩

theorem KRows.g {o:Tr} {s:KS} {l:KL} (h:KRows w o s l fo fl fc fs) (k:Kept aa w w'):KRows w' o s l fo fl fc fs:=⟨h.n.g k,h.d.g k,h.p.g k,h.q.g k,h.dp.g k,h.dq.g k,h.qi.g k,h.f.g k⟩

structure Clo (w:World) (bT bF:Nat) (tp:Value) (at_:Int) (fo:OA) (fl fc:Nat):Prop where
 t:Box w bT tp 57
 f:w.heap[bF]? = some (.cells #[.int .i64 at_,.slice fo fl fc] 32 (0,0))

theorem Clo.did {o:Tr} {bT bF:Nat} (h:Clo w bT bF tp at_ fo fl fc) (d:Did w o m w' o') (ht:TrIn w o):Clo w' bT bF tp at_ fo fl fc:=⟨d.cells h.t ht (by decide) (by decide),d.cells h.f ht (by decide) (by decide)⟩

theorem Clo.g {bT bF:Nat} (h:Clo w bT bF tp at_ fo fl fc) (k:Kept aa w w'):Clo w' bT bF tp at_ fo fl fc:=⟨h.t.g k,(k.block _ (lt_of_block h.f) (fun f=>f)).trans h.f⟩

theorem ar {b:Nat} {cs:Array Value} {t:TypeId} {fr:Nat × Nat} (h:w.heap[b]? = some (.cells cs t fr)) (k:Kept aa w w'):w'.heap[b]? = some (.cells cs t fr):=(k.block _ (lt_of_block h) (fun f=>f)).trans h

theorem LG (o:Tr) (at_:Int) (fo:OA) (fl fc:Nat) (w:World) :
  ClZ 61 #[aN o,.agg #[.int .i64 at_,.slice fo fl fc]] w fun e w'=>∃ bT bF,e=.returned (.func (.func 101) #[] #[.pointer (some ⟨bT,0,none⟩),.pointer (some ⟨bF,0,none⟩)])/\Clo w' bT bF (aN o) at_ fo fl fc/\Kept aa w w':=by
 obtain ⟨po,a⟩:=aK o;rw [a];obtain ⟨W,hW⟩:=aj ((w.alloc (.cells #[.pointer po] 57)).alloc (.cells #[.int .i64 at_,.slice fo fl fc] 32))
 have k0:Kept aa w W:=by rw [hW];exact ((ah aa w).alloc _).alloc _
 have h1:Box W w.heap.size (.pointer po) 57:=by rw [hW];exact (Box.new w _ _).alloc _
 have h2:W.heap[w.heap.size+1]? = some (.cells #[.int .i64 at_,.slice fo fl fc] 32 (0,0)):=by
  rw [hW];have:=heap_alloc_new (w.alloc (.cells #[.pointer po] 57)) (.cells #[.int .i64 at_,.slice fo fl fc] 32)
  rwa [World.size_alloc] at this
 have HW:=af hW;have HF:=af (And.intro h1 (And.intro h2 k0));clear hW k0 h1 h2;delta ClZ;go_in;go_wp2_with (rw [<- HW.o]);go_ret;exact ⟨w.heap.size,w.heap.size+1,rfl,⟨HF.o.1,HF.o.2.1⟩,HF.o.2.2⟩

end Go.Proofs.YtpkmoamgpjcdeaaGreatDoor
