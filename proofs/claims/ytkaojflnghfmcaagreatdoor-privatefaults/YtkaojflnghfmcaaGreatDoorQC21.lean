/- Put together of: Iva4 Held1. -/
import Derived.Test.YtkaojflnghfmcaaGreatDoorQC20

namespace Go.Proofs.YtkaojflnghfmcaaGreatDoor
open _root_.Go.Proofs.Tryz
set_option maxRecDepth 100000
set_option maxHeartbeats 4000000
open Go.RowKit

def yw (n:Nat):Nat->List Ev
 | 0=>[]
 | k+1=>yw n k ++ qO n

def rz (n:Nat):List Ev:=yw n (stp n) ++ (List.replicate 3 (1,((n+1:Nat):Int),0) ++ (List.replicate 3 (1,(n:Int),0) ++ List.replicate 2 (1,(n:Int),0)))

structure BtwI (w0:World) (o0:Tr) (w:World) (o:Tr) (tp:Value) (n M a pb k N:Nat) (s:Int × Int × Int) (G:Prop) (uo vo fo go:Option Addr) (uc vc fc gc U V:Nat):Prop where
 wrt:Wr w0 o0 (yw n k) w o tp (12*(N-k)+20)
 box:w.heap[pb]? = some (.cells #[.slice uo n uc,.slice vo n vc,.slice fo (n+1) fc,.slice go (n+1) gc,.int .u64 (tcN 18446744073709551616 (iK s k).1:Nat)] 217 (0,0))
 nu:NumN w o (.slice uo n uc) n U
 nv:NumN w o (.slice vo n vc) n V
 nf:NumN w o (.slice fo (n+1) fc) (n+1) (tcN (18446744073709551616^(n+1)) (iK s k).2.1)
 ng:NumN w o (.slice go (n+1) gc) (n+1) (tcN (18446744073709551616^(n+1)) (iK s k).2.2)
 co:G->CoOk M a U V (iK s k)

theorem TrIn.put {w w':World} {o:Tr} {p:Nat} (h:TrIn w o) (k:Kept (fun b=>b=p) w w') (hf:¬ cN o p):TrIn w' o:=by
 rcases o with _ | ⟨q,g,l⟩
 ·trivial
 ·exact ⟨h.1.kept k (fun e=>hf (.inl e.symm)) (fun x hx e=>hf (.inr (by rw [<- e];exact hx))),h.2⟩

theorem Cd {B:Nat} {F:Int}:cC (sgN F) (tcN B (-F)) (tcN B F)=F.natAbs:=by
 unfold cC sgN tcN;by_cases h:F<0
 ·rw [ah h,ah (by decide),ai (by omega)];omega
 ·rw [ai h,ai (by decide),ai h];omega

theorem Dh {n:Nat} {F:Int} (hF:-((18446744073709551616^n:Nat):Int)<F/\F<((18446744073709551616^n:Nat):Int)):fK 0 (tcN (18446744073709551616^(n+1)) F) (n+1)=tcN (18446744073709551616^(n+1)) (-F):=by
 unfold fK;rw [<- B64];exact FZ hF (by rw [aH];omega)

theorem CF {n M A U V D is Z Y:Nat} {s:Int × Int × Int} (k:0<n) (hn:n<=130) (hM:M<18446744073709551616^n) (f:M%2=1) (h2:2<=M) (hA:A<M) (hs:s=iK (1,(M:Int),(A:Int)) (stp n)) (j:CoOk M A U V s) (hD:D=s.2.1.natAbs) (e:is=cY (decide (D=1))) (hZ:Z=cC (sgN s.2.1) (gd 0 U M) U) (hY:Y=cC is Z 0) :
  (Nat.gcd A M=1->Y<M/\A*Y%M=1/\is=1)/\(Nat.gcd A M≠1->Y=0/\is=0):=by
 rw [B64] at hM;have he:=(Af (M:=M) (a:=A) (n:=n) k hn f (by omega) hM).2;rw [<- hs,<- hD] at he;rw [i8,<- he];constructor
 ·intro h1;rw [h1,dL rfl] at e;have c:is=1:=e;have hf:=CG (d:=s.1) (F:=s.2.1) (G:=s.2.2) j h2 (by omega);have i:Z=if s.2.1<0 then gd 0 U M else U:=by
   rw [hZ];unfold cC sgN;by_cases h:s.2.1<0
   ·rw [ah h,ah h];rfl
   ·rw [ai h,ai h];rfl
  rw [<- i] at hf;have g:Y=Z:=by rw [hY,c];rfl
  rw [g];exact ⟨hf.1,hf.2,c⟩
 ·intro h1;rw [cP h1] at e;have b:is=0:=e;exact ⟨by rw [hY,b];rfl,b⟩

theorem sG {w0:World} {o0:Tr} {m:List Ev} {tp:Value} {k:Nat} (bit n:Nat) (u v:Value) (xs ys:List Nat) {w:World} {o:Tr} (s:Wr w0 o0 m w o tp (k+1)) (hb:bit<=1) (hu:RowT w o u xs) (hv:RowT w o v ys) (a:Digs xs) (b:Digs ys) (hl:max xs.length ys.length=n) (hn:n<=1000) :
  Calls prog 94 #[tp,.int .u64 (bit:Nat),u,v] w fun e w'=>∃ (v':Value),e=.returned v'/\∃ (Z:Nat) (o':Tr),Hid (Z=cC bit (val xs) (val ys))/\NumN w' o' v' n Z/\Fresh w v'/\Did w o [(1,(n:Int),0)] w' o'/\Wr w0 o0 (m ++ [(1,(n:Int),0)]) w' o' tp k:=by
 have h:=mS o bit (by omega) u v xs ys w (s.room.less (by omega)) hu hv a b (by omega) (by omega);rw [s.ptr,hl] at h;refine h.mono ?_;rintro e w' ⟨v',rfl,ho,o',d⟩;exact ⟨v',rfl,_,o',rfl,NumN.own ho (m5 (em a (by omega)) (em b (by omega))) (d.room (k:=0) (s.room.less (by simp))).1,Fresh.own ho (leR _),d,s.next d (by simp;omega)⟩

theorem CE {w0:World} {o0:Tr} {m:List Ev} {tp:Value} {k:Nat} (n X:Nat) (u v:Value) {w:World} {o:Tr} (s:Wr w0 o0 m w o tp (k+1)) (hu:NumT w o u n X) (hv:RowT w o v [1]) (a:0<n) (hn:n<=1000) :
  Calls prog 93 #[tp,u,v] w fun e w'=>∃ c:Nat,e=.returned (.int .u64 (c:Nat))/\∃ (o':Tr),Hid (c=cY (decide (X=1)))/\c<=1/\Did w o [(1,(n:Int),0)] w' o'/\Wr w0 o0 (m ++ [(1,(n:Int),0)]) w' o' tp k:=by
 have h:=pn o u v _ [1] w (s.room.less (by omega)) hu.1 hv (ak (by omega) _ _) (Digs.one (by omega)) (by rw [ag];omega) (by simp);rw [s.ptr,ag,bG hu.2,show ([1]:List Nat).length=1 from rfl,show max n 1=n by omega,show val [1]=1 from rfl] at h;refine h.mono ?_;rintro e w' ⟨rfl,o',d⟩;exact ⟨_,rfl,o',rfl,pB _,d,s.next d (by simp;omega)⟩

theorem Ir (o:Tr) (ao bo xo:Option Addr) (n l K a c xc A:Nat) (ms rs:List Nat) (w:World) (ht:TrRoom w o (12*stp n+30)) (hm:RowT w o (.slice ao n a) ms) (hr:RowT w o (.slice bo l c) rs) (hx:NumT w o (.slice xo n xc) n A) (a9:Digs ms) (bA:Digs rs) (hK:K<18446744073709551616) (an:0<n) (hn:n<=130) (bu:okMod ms K rs\/o=none) :
  Calls prog 134 #[aL o,.agg #[.slice ao n a,.int .u64 (K:Nat),.slice bo l c],.slice xo n xc] w fun e w'=>∃ (v':Value) (is:Nat),e=.returned (.tuple #[v',.int .u64 (is:Nat)])/\∃ (Y:Nat) (m:List Ev) (o':Tr),NumN w' o' v' n Y/\Fresh w v'/\Did w o m w' o'/\(okMod ms K rs->m=rz n/\(A<val ms->(Nat.gcd A (val ms)=1->Y<val ms/\A*Y%val ms=1/\is=1)/\(Nat.gcd A (val ms)≠1->Y=0/\is=0))):=by
 obtain ⟨po,ba⟩:=aK o;obtain ⟨_,_,_,e1,bt,_,_,_,_⟩:=hm.1.open;cases e1
 obtain ⟨M,hM⟩:∃ M,M=val ms:=⟨_,rfl⟩
 have am:NumT w o (.slice ao n a) n M:=by rw [hM];exact NumT.of hm a9 bt.out
 obtain ⟨W,hW⟩:∃ W,W=w.alloc (.cells #[.slice ao n a,.int .u64 (K:Nat),.slice bo l c] 70):=⟨_,rfl⟩
 have k0:Kept af w W:=by rw [hW];exact (aj af w).alloc _
 have b1:W.heap[w.heap.size]? = some (.cells #[.slice ao n a,.int .u64 (K:Nat),.slice bo l c] 70 (0,0)):=by rw [hW];exact heap_alloc_new _ _
 have hB:=Iq n M A ao bo xo a l K c xc W o (ht.1.grew k0) (am.grew k0) (hx.grew k0) an hn;have al:=fun W'=>EX (64*(n:Int)) W'
 rw [zl an hn] at al;have bB:IntKind.i64.wrap (64*(n:Int))=64*(n:Int):=by simp [IntKind.wrap,IntKind.bits,IntKind.signed];omega
 have HW:=aa hW;have bj:=aa k0;have HT:=aa ht;have aW:=aa b1;obtain ⟨c0,c1,c2⟩:=aw b1;obtain ⟨N,hN⟩:∃ N,N=stp n:=⟨_,rfl⟩
 have bS:N<=30000:=by rw [hN];unfold stp;omega
 rw [<- hN] at al HT;have HN:=aa hN;rw [ba];clear hW k0 ht b1 hN;go_enter func134,ntmps134;go_wp2_with (rw [<- HW.out]);refine hB.mono ?_;rintro e w1 ⟨uo,uc,vo,vc,fo,fc,go,gc,rfl,nu,nv,nf,ng,k1⟩;clear hB c0 c1 c2;go_wp2_with fail;refine (al _).mono ?_;rintro e w2 ⟨rfl,aO⟩;have b2:w2.heap[w1.heap.size]? = some (.cells #[.slice uo n uc,.slice vo n vc,.slice fo (n+1) fc,.slice go (n+1) gc,.int .u64 1] 217 (0,0)):=by rw [aO];exact heap_alloc_new _ _
 have k2:Kept af w1 w2:=by rw [aO];exact (aj af w1).alloc _
 have E:=bj.out.trans k1;have aq:=HT.out.grew E;have bv:=aa (hm.grew E);have aN:=aa (am.grew E);have bz:=aa (hr.grew E);have aE:=(k1.block _ (lt_of_block aW.out) (fun f=>f)).trans aW.out;have JC:Hid (∀ W' m' o',Did w1 o m' W' o'->W'.heap[w.heap.size]? = some (.cells #[.slice ao n a,.int .u64 (K:Nat),.slice bo l c] 70 (0,0))):=fun W' m' o' d=>d.cells aE aq.1 (by decide) (by decide)
 have bx:w.heap.size≠w1.heap.size:=by have:=lt_of_block aE;omega
 obtain ⟨s0,x⟩:∃ s0:Int × Int × Int,s0=(1,(M:Int),(A:Int)):=⟨_,rfl⟩
 have X:StIn (18446744073709551616^n) 0 s0:=by
  have h1:=am.2;have h2:=hx.2;rw [x];unfold StIn;dsimp only;generalize 18446744073709551616^n=Q at *;omega
 have a0:=aa (StIn.all X);have au:Hid (okMod ms K rs->CoOk M A 0 1 s0):=fun h=>by
  have:=dm h.1;rw [<- hM] at this;rw [x];refine ⟨by omega,by omega,?_,?_⟩
  ·exact ⟨-1,by dsimp only;omega⟩
  ·exact ⟨0,by dsimp only;omega⟩
 have G:Hid (okMod ms K rs->M<18446744073709551616^n/\M%2=1/\∀ k,(iK s0 k).2.1%2=1):=fun h=>by
  have:=dm h.1;rw [<- hM] at this;refine ⟨am.2,by omega,fun k=>(rk (s:=s0) (by rw [x];dsimp only;omega) k).1⟩
 have r:BtwI w1 o w2 o (.pointer po) n M A w1.heap.size 0 N s0 (okMod ms K rs) uo vo fo go uc vc fc gc 0 1:=by
  refine ⟨⟨Did.of_kept k2 aq.1,(aq.less (by omega)).grew k2,ba⟩,?_,nu.grew k2,nv.grew k2,?_,?_,au.out⟩
  ·rw [x];exact b2
  ·rw [x];have:=nf.grew k2;rw [<- BK (18446744073709551616^(n+1)) M] at this;exact this
  ·rw [x];have:=ng.grew k2;rw [<- BK (18446744073709551616^(n+1)) A] at this;exact this
 have q:=aa r;have bm:=aa x;have a1:=aa E;clear al aO b2 k2 E aq aE X r nu nv nf ng k1 x;go_wp2_with fail;go_loopw [24] (fun i wr=>∃ (k:Nat) (o1:Tr) (uo vo fo go:Option Addr) (uc vc fc gc U V:Nat),k<=N/\i=.int .i64 (k:Int)/\Hid (BtwI w1 o wr o1 (.pointer po) n M A w1.heap.size k N s0 (okMod ms K rs) uo vo fo go uc vc fc gc U V)) (fun i _=>N-(intOf i).toNat)
 case atStart=>exact ⟨0,o,uo,vo,fo,go,uc,vc,fc,gc,0,1,by omega,rfl,q.out⟩
 case round=>
  clear q;obtain ⟨k,o1,uo,vo,fo,go,uc,vc,fc,gc,U,V,hk,rfl,HB⟩:=hrel;by_cases hkn:k<N
  ·have g1:(k:Int)<(N:Int):=by omega
   obtain ⟨c0,c1,c2⟩:=aw (JC.out wr _ o1 HB.out.wrt.did);obtain ⟨p0,p1,p2,p3,p4⟩:=il HB.out.box;have hS:=GH n M U V k A (iK s0 k).1 (iK s0 k).2.1 (iK s0 k).2.2 uo vo fo go ao bo uc vc fc gc a l K c (k:=12*(N-(k+1))+20) (HB.out.wrt.less (by omega)) (a0.out k) (by omega) (aN.out.did HB.out.wrt.did) HB.out.nu.1 HB.out.nv.1 HB.out.nf.1 HB.out.ng.1 an (by omega);have a5:dst ((iK s0 k).1,(iK s0 k).2.1,(iK s0 k).2.2)=iK s0 (k+1):=rfl;rw [a5] at hS;have aX:=aa HB.out.co;have TI:=aa HB.out.wrt.room.1;have ar:=aa HB.out.box;obtain ⟨T1,aA⟩:∃ T1,T1=tcN 18446744073709551616 (iK s0 k).1:=⟨_,rfl⟩
   rw [<- aA] at hS p4;have bp:=aa aA;clear a5 aA HB;go_wp2_with fail;refine hS.mono ?_;rintro e w5 ⟨u',v',f',g',rfl,U',V',o5,q5,aT,aU,aR,aS,d5,s5⟩;obtain ⟨ad,ac,rfl⟩:=aT.1.shape;obtain ⟨ah,ae,rfl⟩:=aU.1.shape;obtain ⟨I,H,rfl⟩:=aR.1.shape;obtain ⟨L,J,rfl⟩:=aS.1.shape;have p:=d5.cells ar.out TI.out (by decide) (by decide);rw [<- bp.out] at p;obtain ⟨f0,f1,f2,f3,f4⟩:=ri p;obtain ⟨g0,bR,g2,g3,g4⟩:=il p;obtain ⟨T2,aB⟩:∃ T2,T2=tcN 18446744073709551616 (iK s0 (k+1)).1:=⟨_,rfl⟩
   rw [<- aB];have a3:=Fz p (.slice ad n ac) (.slice ah n ae) (.slice I (n+1) H) (.slice L (n+1) J) (.int .u64 (T2:Int));have kp:=Av w5 w1.heap.size (.slice ad n ac) (.slice ah n ae) (.slice I (n+1) H) (.slice L (n+1) J) (.int .u64 (T2:Int));have aD:=aI p s5.room.1 (by decide) (by decide);have bL:=s5.room
   have av:Hid (BtwI w1 o (((((w5.setCell ⟨w1.heap.size,0,none⟩ (.slice ad n ac)).setCell ⟨w1.heap.size,1,none⟩ (.slice ah n ae)).setCell ⟨w1.heap.size,2,none⟩ (.slice I (n+1) H)).setCell ⟨w1.heap.size,3,none⟩ (.slice L (n+1) J)).setCell ⟨w1.heap.size,4,none⟩ (.int .u64 (T2:Int))) o5 (.pointer po) n M A w1.heap.size (k+1) N s0 (okMod ms K rs) ad ah I L ac ae H J U' V'):=by
    have dw:=s5.did.wroteNew kp (leR _) aD;refine ⟨⟨dw,⟨s5.room.1.put kp aD,s5.room.2⟩,s5.ptr⟩,?_,aT.put p (by decide) kp,aU.put p (by decide) kp,aR.put p (by decide) kp,aS.put p (by decide) kp,fun h=>?_⟩
    ·rw [<- aB];exact a3
    ·obtain ⟨i1,i2,i3⟩:=G.out h;exact q5.out i1 i2 (i3 k) (aX.out h)
   clear hS aT aU aR aS d5 s5 a3 kp aD bL aB q5 aX c0 c1 c2 p0 p1 p2 p3 p4;go_wp2_with fail;go_roundw
   case rel=>exact ⟨k+1,o5,ad,ah,I,L,ac,ae,H,J,U',V',by omega,by go_num,av.out⟩
   case measure=>simp [intOf];omega
  ·have g1:¬ (k:Int)<(N:Int):=by omega
   obtain rfl:k=N:=by omega
   have hF:=a0.out k;obtain ⟨F,ai⟩:∃ F,F=(iK s0 k).2.1:=⟨_,rfl⟩
   have a7:-((18446744073709551616^n:Nat):Int)<F/\F<((18446744073709551616^n:Nat):Int):=by rw [ai];exact hF.2.1
   have bb:sgN F=tcN (18446744073709551616^(n+1)) F/(9223372036854775808*18446744073709551616^n):=(xL (Q:=18446744073709551616^n) (by omega) (by rw [aH];omega) (by omega) (fI (by omega) (aC (by omega)))).symm;have y:sgN F<=1:=by unfold sgN;split <;> omega
   have nf:=HB.out.nf;rw [<- ai] at nf;have az:=Ei n _ _ _ wr o1 nf.1 (by omega) bb;have s6:=HB.out.wrt;have h7:=GI (n+1) _ _ (k:=19) (s6.less (by omega)) nf.1 (by omega);obtain ⟨c0,c1,c2⟩:=aw (JC.out wr _ o1 s6.did);obtain ⟨p0,p1,p2,p3,p4⟩:=il HB.out.box;have bl:=aa nf;have aY:=aa ai;have bi:=aa a7;obtain ⟨sg,z⟩:∃ sg,sg=sgN F:=⟨_,rfl⟩
   rw [<- z] at y az;have aZ:=aa z;have TI:=aa s6.room.1;have ar:=aa HB.out.box;clear nf ai a7 hF bb s6 z;go_wp2_with fail;refine az.mono ?_;rintro e w6 ⟨rfl,rfl⟩;clear az;go_wp2_with fail;refine h7.mono ?_;rintro e w7 ⟨v7,b7,rfl,Z7,o7,q7,n7,d7,s7⟩;have aF:=d7.cells ar.out TI.out (by decide) (by decide);have bw:=JC.out w7 _ o7 s7.did;obtain ⟨P0,P1,P2,P3,P4⟩:=il aF;have h8:=oG sg (n+1) Z7 _ v7 _ (k:=18) s7 y n7.1 (bl.out.1.did d7) (by omega);have T7:=aa s7.room.1;clear h7 n7 c0 c1 c2 p0 p1 p2 p3 p4 bw;go_wp2_with fail;refine h8.mono ?_;rintro e w8 ⟨v8,rfl,D,o8,q8,n8,d8,s8⟩;have aG:=d8.cells aF T7.out (by decide) (by decide)
   have T8:=aa s8.room.1;have kA:Kept af w8 (w8.alloc (.cells #[.int .u64 1] 24)):=(aj af w8).alloc _;have r1:Row .u64 (w8.alloc (.cells #[.int .u64 1] 24)) (.slice (some ⟨w8.heap.size,0,none⟩) 1 1) [1]:=Row.of_block (k:=.u64) (w:=w8.alloc (.cells #[.int .u64 1] 24)) (g:=w8.heap.size) (zs:=[1]) (t:=24) (heap_alloc_new _ _) rfl (by unfold maxLen;omega);have bf:RowT (w8.alloc (.cells #[.int .u64 1] 24)) o8 (.slice (some ⟨w8.heap.size,0,none⟩) 1 1) [1]:=⟨r1,fun _ b hb f=>by
    have e':w8.heap.size=b:=by simpa [Value.ownBlock] using hb
    have:=T8.out.foot b f;omega⟩
   have h9:=CE (n+1) D v8 _ (k:=17) (s8.grew kA) (n8.1.grew kA) bf (by omega) (by omega);have P:=(kA.block _ (lt_of_block aG) (fun f=>f)).trans aG;have D8:=aa ((d7.trans d8).grew kA);have bq:=aa (T8.out.grew kA);clear h8 n8 P0 P1 P2 P3 P4 r1 bf kA d7 d8 aF;go_wp2_with fail;refine h9.mono ?_;rintro e w9 ⟨is,rfl,o9,q9,aM,d9,s9⟩;have aJ:=d9.cells P bq.out (by decide) (by decide);obtain ⟨c0,c1,c2⟩:=aw (JC.out w9 _ o9 s9.did);obtain ⟨P0,P1,P2,P3,P4⟩:=il aJ;have ap:=HB.out.nu.1.did (D8.out.trans d9)
   have ay:=In o9 ao bo uo n l K a c n uc ms rs (digs U n) w9 (s9.room.less (by omega)) (bv.out.did s9.did) (bz.out.did s9.did) ap.1 a9 bA (ak (by omega) _ _) hK (by omega) (by omega);rw [s9.ptr,bG ap.2,<- hM] at ay;have T9:=aa s9.room.1;clear h9 aG P;go_wp2_with fail;refine ay.mono ?_;rintro e bh ⟨bM,bO,rfl,zs,bd,aV,be,bc,C,S,T⟩;have v:okMod ms K rs->(okMod ms K rs/\True/\U<M):=fun h=>⟨h,trivial,(HB.out.co h).1⟩
   have aP:Digs zs/\zs.length<=n/\(okMod ms K rs->zs=digs (gd 0 U M) n/\bd=List.replicate 3 (1,(n:Int),0))/\TrRoom bh aV 10:=by
    by_cases h:okMod ms K rs
    ·obtain ⟨⟨e1,_⟩,e2⟩:=S (v h);refine ⟨by rw [e1];exact ak (by omega) _ _,by rw [e1,ag];omega,fun _=>⟨e1,e2⟩,C.room ?_⟩;rw [e2];exact s9.room.less (by simp)
    ·have R:o=none:=bu.resolve_left h;obtain ⟨e1,_⟩:=T (fun hh=>h hh.1);have e9:o9=none:=by have:=s9.did;rw [R] at this;exact this.none.1
     have br:aV=none:=by have:=C;rw [e9] at this;exact this.none.1
     refine ⟨by rw [e1];exact Digs.nil _,by rw [e1];simp,fun hh=>absurd hh h,by rw [br];exact TrRoom.none _ _ (by omega)⟩
   obtain ⟨bC,bD,ab,j⟩:=aP;have HZ:=aa ab;have bJ:Wr w1 o (yw n k ++ [(1,((n+1:Nat):Int),0)] ++ [(1,((n+1:Nat):Int),0)] ++ [(1,((n+1:Nat):Int),0)] ++ bd) bh aV (.pointer po) 10:=⟨s9.did.trans C,j,C.ptr.trans s9.ptr⟩
   have O:=C.cells aJ T9.out (by decide) (by decide);obtain ⟨Q0,Q1,Q2,Q3,Q4⟩:=il O;have B:=ap.did C;have a6:=sG sg n bM _ zs (digs U n) (k:=9) bJ y ((bc rfl).2.rowT be j.1) B.1 bC (ak (by omega) _ _) (by rw [ag];omega) (by omega);have HU:=aa B.2;clear ay P0 P1 P2 P3 P4 c0 c1 c2 aJ O S T bc be ab j bD ap B v;go_wp2_with fail;refine a6.mono ?_;rintro e bV ⟨bN,rfl,a2,bT,bH,aQ,_,bP,bg⟩;have ax:=sG is n bN (.slice none 0 0) (digs a2 n) [] (k:=8) bg aM aQ.1.1 ⟨Row.nil _ _,fun h=>absurd rfl h⟩ (ak (by omega) _ _) (Digs.nil _) (by rw [ag];simp) (by omega)
   rw [bG aQ.1.2] at ax;have bn:=aa bg.did.size;clear a6 aQ Q0 Q1 Q2 Q3 Q4;go_wp2_with fail;refine ax.mono ?_;rintro e bW ⟨bU,rfl,Y,bF,bI,bE,bs,bQ,bK⟩;clear ax;go_wp2_with fail;go_ret2;refine ⟨_,_,rfl,Y,_,bF,bE,?_,Did.after a1.out bK.did,fun v=>⟨?_,fun hA=>?_⟩⟩
   ·intro b hb;have h1:=bs b hb;have h2:=bn.out;have h3:=a1.out.size;omega
   ·rw [(HZ.out v).2];unfold rz;rw [<- HN.out];simp [List.append_assoc,List.replicate]
   ·obtain ⟨i1,i2,i3⟩:=G.out v;have hE:=dm v.1;rw [<- hM] at hE hA ⊢;have a8:=HB.out.co v;have hs:iK s0 k=iK (1,(M:Int),(A:Int)) (stp n):=by rw [bm.out,<- HN.out]
    refine CF (D:=D) (is:=is) (Z:=a2) (s:=iK s0 k) an hn i1 i2 hE.2.1 hA hs a8 ?_ q9.out ?_ bI.out
    ·rw [q8.out,q7.out,Dh bi.out,aZ.out,<- aY.out];exact Cd
    ·have a4:=bH.out;rw [(HZ.out v).1,bG (bk (rV (by omega) a8.1) i1),bG HU.out,aZ.out,aY.out] at a4;exact a4

def th (n:Nat):List Ev:=(1,(n:Int),0) :: rz n

def Ea (A M Y is:Nat):Prop:=(Nat.gcd A M=1->Y<M/\A*Y%M=1/\is=1)/\(Nat.gcd A M≠1->Y=0/\is=0)

def rZ (w:World) (o:Tr) (P:Prop) (n A M:Nat) (w':World) (v':Value) (is c:Nat):Prop:=
 ∃ (zs:List Nat) (m:List Ev) (o':Tr),Row .u64 w' v' zs/\Lies true w w' v'/\Did w o m w' o'/\(P->c=0/\m=th n/\∃ Y,zs=digs Y n/\Ea A M Y is)/\(¬ P->zs=[]/\is=0/\c=1)

theorem iOf (o:Tr) (ao bo xo:Option Addr) (n l K a i N1 xc:Nat) (ms rs xs:List Nat) (w:World) (ht:TrRoom w o 400000) (hm:RowT w o (.slice ao n a) ms) (hr:RowT w o (.slice bo l i) rs) (hx:RowT w o (.slice xo N1 xc) xs) (q:Digs ms) (z:Digs rs) (J:Digs xs) (hK:K<18446744073709551616) (X:n<=1000000) (ae:okMod ms K rs\/o=none) :
  Calls prog 82 #[aL o,.agg #[.slice ao n a,.int .u64 (K:Nat),.slice bo l i],.slice xo N1 xc] w fun e w'=>∃ (v':Value) (is c:Nat),e=.returned (.tuple #[v',.int .u64 (is:Nat),.int .i64 (c:Nat)])/\rZ w o (okMod ms K rs/\(N1=n/\val xs<val ms)) n (val xs) (val ms) w' v' is c:=by
 obtain ⟨po,L⟩:=aK o;obtain ⟨_,_,_,e1,F,_,_,_,_⟩:=hm.1.open;cases e1
 obtain ⟨_,_,_,e1,G,_,_,_,_⟩:=hx.1.open;cases e1
 obtain ⟨_,_,_,e1,U,_,_,_,_⟩:=hr.1.open;cases e1
 obtain ⟨W,hW⟩:∃ W,W=w.alloc (.cells #[.slice ao n a,.int .u64 (K:Nat),.slice bo l i] 70):=⟨_,rfl⟩
 have k0:Kept af w W:=by rw [hW];exact (aj af w).alloc _
 have b1:W.heap[w.heap.size]? = some (.cells #[.slice ao n a,.int .u64 (K:Nat),.slice bo l i] 70 (0,0)):=by rw [hW];exact heap_alloc_new _ _
 obtain ⟨c0,c1,c2⟩:=aw b1;have HW:=aa hW;have ab:=aa k0;by_cases hok:0<n/\n<=130
 ·have ai:=hok.1;have hn:=hok.2;have g1:¬ (n:Int)<1:=by omega
  have g2:¬ (n:Int) > 130:=by omega
  have al:12*stp n+30+1<=400000:=by unfold stp;omega
  obtain ⟨M,hM⟩:∃ M,M=val ms:=⟨_,rfl⟩
  have V:NumT w o (.slice ao n a) n M:=by rw [hM];exact NumT.of hm q F.out
  obtain ⟨A,hA⟩:∃ A,A=val xs%18446744073709551616^n:=⟨_,rfl⟩
  have T:N1=n->A=val xs:=fun h=>by rw [hA,ax];rw [<- h,<- G.out];exact aE (by omega) J
  have D:=EW _ xs n W (hx.1.grew k0) J (by omega);rw [mI,<- hA] at D;have lA:A<18446744073709551616^n:=by rw [hA];exact ay _ (aC (by omega))
  rw [<- hM];have HM:=aa hm;have S:=aa V;have HR:=aa hr;have HT:=aa ht;have O:=aa b1;have N:=aa T;have HA:=aa hA;have R:=aa lA;rw [L];clear hW k0 b1 hm V hr ht hx G T hA lA hok;go_enter func82,ntmps82;go_wp2_with (rw [<- HW.out]);refine D.mono ?_;rintro e w1 ⟨rfl,Z,k1⟩;have C:=ab.out.trans k1;have s:=HT.out.grew C;have x:=(k1.block _ (lt_of_block O.out) (fun f=>f)).trans O.out;obtain ⟨c0,c1,c2⟩:=aw x;have nx:=NumN.own Z R.out s.1;have s1:Wr w1 o [] w1 o (.pointer po) 400000:=⟨Did.of_kept (aj af w1) s.1,s,L⟩
  have B:=qC o _ _ _ _ w1 (s.less (by omega)) nx.1.1 (S.out.grew C).1 (ak (by omega) _ _) (ak (by omega) _ _) (by rw [ag];omega) (by rw [ag];omega);rw [L,ag,ag,gI,bG R.out,bG S.out.2] at B;have JB:Hid (∀ W' m' o',Did w1 o m' W' o'->W'.heap[w.heap.size]? = some (.cells #[.slice ao n a,.int .u64 (K:Nat),.slice bo l i] 70 (0,0))):=fun W' m' o' d=>d.cells x s.1 (by decide) (by decide)
  have ac:=aa nx;have ad:=aa s1;have m:=aa C;obtain ⟨bl,I⟩:∃ bl,bl=cY (decide (A<M)):=⟨_,rfl⟩
  rw [<- I] at B;have P:=aa I;clear D Z k1 C s x nx s1 I;go_wp2_with fail;refine B.mono ?_;rintro e w2 ⟨rfl,o2,d2⟩;have s2:=ad.out.next (k:=12*stp n+30) d2 (by simp;omega)
  have E:=Ir o2 ao bo _ n l K a i n A ms rs w2 s2.room ((HM.out.grew m.out).did d2) ((HR.out.grew m.out).did d2) (ac.out.1.did d2) q z hK ai hn (ae.elim Or.inl (fun h=>.inr (by have:=d2;rw [h] at this;exact this.none.1)));rw [s2.ptr,<- hM] at E;obtain ⟨c0,c1,c2⟩:=aw (JB.out w2 _ o2 d2);clear B;go_wp2_with fail;refine E.mono ?_;rintro e w3 ⟨v3,is,rfl,Y,m3,o3,n3,f3,d3,hY⟩;have t:=d2.trans d3;obtain ⟨p0,p1,p2⟩:=aw (JB.out w3 _ o3 t);have p:=((HM.out.grew m.out).did t).1;have r:=((HR.out.grew m.out).did t).1;have Q:=aa (Did.after m.out t)
  have j:Hid (∀ w':World,Kept af w3 w'->¬ (okMod ms K rs/\(N1=n/\val xs<M))->rZ w o (okMod ms K rs/\(N1=n/\val xs<M)) n (val xs) M w' (.slice none 0 0) 0 1):=fun w' k h=>⟨[],_,o3,Row.nil _ _,Lies.nil _ _ _,Q.out.grew k,fun hp=>absurd hp h,fun _=>⟨rfl,rfl,rfl⟩⟩
  have g:Hid (∀ w':World,Kept af w3 w'->okMod ms K rs->N1=n->A<M->rZ w o (okMod ms K rs/\(N1=n/\val xs<M)) n (val xs) M w' v3 is 0):=fun w' k h1 h2 h3=>by
   have eA:=N.out h2;obtain ⟨e1,e2⟩:=hY h1;refine ⟨digs Y n,_,o3,(n3.1.grew k).1.1,fun _=>⟨?_,n3.2.grew k⟩,Q.out.grew k,fun _=>⟨rfl,?_,Y,rfl,?_⟩,fun hp=>absurd ⟨h1,h2,by rw [<- eA];exact h3⟩ hp⟩
   ·intro b hb;have q1:=f3 b hb;have q2:=d2.size;have q3:=m.out.size;omega
   ·rw [e1];rfl
   ·rw [<- eA];exact e2 h3
  clear E c0 c1 c2 n3 f3 d3 t hY s2 d2;by_cases hN:N1=n
  ·by_cases hlt:A<M
   ·have x:bl=1:=by rw [P.out,dL hlt];rfl
    subst x;by_cases hmd2:okMod ms K rs
    ·have v:=nE ao bo n l K a i ms rs true (by simp [hmd2]) w3 p r q z hK X;have HF:=aa (fun w' k=>g.out w' k hmd2 hN hlt);have H:(N1:Int)=(n:Int):=by omega
     clear g j p r hN;go_wp2_with fail;refine v.mono ?_;rintro e w4 ⟨rfl,k4⟩;clear v;go_wp2_with fail;go_ret3
     exact ⟨_,_,_,rfl,HF.out _ k4⟩
    ·have v:=nE ao bo n l K a i ms rs false (by simp [hmd2]) w3 p r q z hK X;have HF:=aa (fun w' k=>j.out w' k (fun h=>hmd2 h.1));have H:(N1:Int)=(n:Int):=by omega
     clear g j p r hN;go_wp2_with fail;refine v.mono ?_;rintro e w4 ⟨rfl,k4⟩;clear v;go_wp2_with fail;go_ret3
     exact ⟨_,0,1,rfl,HF.out _ k4⟩
   ·have ah:bl=0:=by rw [P.out,cP hlt];rfl
    subst ah;have HF:=aa (j.out w3 (aj _ _) (fun h=>hlt (by rw [N.out h.2.1];exact h.2.2)));have H:(N1:Int)=(n:Int):=by omega
    clear g j p r hN;go_wp2_with fail;go_ret3
    exact ⟨_,0,1,rfl,HF.out⟩
  ·have HF:=aa (j.out w3 (aj _ _) (fun h=>hN h.2.1));have H:¬ (N1:Int)=(n:Int):=by omega
   clear g j p r hN;go_wp2_with fail;go_ret3
   exact ⟨_,0,1,rfl,HF.out⟩
 ·have y:¬ (okMod ms K rs/\(N1=n/\val xs<val ms)):=fun h=>by
   obtain ⟨_,f2,f3,_⟩:=h.1.facts F.out U.out q z hK;exact hok ⟨f2,f3⟩
  have HF:Hid (rZ w o (okMod ms K rs/\(N1=n/\val xs<val ms)) n (val xs) (val ms) W (.slice none 0 0) 0 1):=⟨[],[],o,Row.nil _ _,Lies.nil _ _ _,Did.of_kept k0 ht.1,fun hp=>absurd hp y,fun _=>⟨rfl,rfl,rfl⟩⟩
  generalize aL o=tp at *;clear hm hr hx ht q z J y k0 b1 F G U hW;by_cases h0:n<1
  ·have g1:(n:Int)<1:=by omega
   clear hok;go_enter func82,ntmps82;go_wp2_with (rw [<- HW.out]);go_ret3
   exact ⟨_,0,1,rfl,HF.out⟩
  ·have g1:¬ (n:Int)<1:=by omega
   have g2:(n:Int) > 130:=by omega
   clear hok h0;go_enter func82,ntmps82;go_wp2_with (rw [<- HW.out]);go_ret3
   exact ⟨_,0,1,rfl,HF.out⟩

theorem D4 {P:Program} {md:Region.Mode} {ops:Array Oper} {Q:Exit->Act->World->Prop} {S:World->Prop} {c:Nat} {b:Array Bool} {a:Act} {w:World} (i:Nat) {o:Oper} (hr:Region.ready md ops b=[i]) (hi:ops[i]? = some o) (hg:o.guard=none) (f:Nat) (args:List Operand) (k:Array TypeId) (d:List Value)
  (ho:o.op=.call { callee:=.value (.func f),args:=args.toArray,argTypes:=k }) (hv:args.map a.eval=d) (he:∀ args w,(callFunc f args).run P w=.ok (.enter f args) w) {R:Ending->World->Prop} (hc:Calls P f d.toArray w R)
  (h:∀ e w',R e w'->(∃ v,e=.returned v/\S w'/\wpAnyH P md ops Q S c (b.setIfInBounds i true) (a.put o.dst v) w')\/∃ ch,e=.panicked ch/\Q (.panic ch) a w') :
  wpAnyH P md ops Q S (c+1) b a w:=by
 refine wpAnyH_all hr (by simp) fun j hj=>?_
 obtain rfl:j=i:=by simpa using hj
 have hw:Region.wanted o (yielded ops a.tmps)=true:=by simp [Region.wanted,hg]
 unfold wpOp;rw [hi];dsimp only;rw [ah hw];refine .inl ?_;have g:Calls P f d.toArray w fun
   | .returned v,w''=>S w''/\wpAnyH P md ops Q S c (b.setIfInBounds j true) (a.put o.dst v) w''
   | .panicked chain,w''=>Q (.panic chain) a w''
   | .outgrown,_=>LetsOut Q:=hc.mono (fun e w' r=>by
  rcases h e w' r with ⟨v,rfl,hk⟩ | ⟨ch,rfl,hk⟩
  ·exact hk
  ·exact hk)
 unfold Oper.wp;simp [execOp,ho,resolve,invoke,hv,he,go_sem];exact g

theorem tQ {P:Program} {md:Region.Mode} {ops:Array Oper} {Q:Exit->Act->World->Prop} {S:World->Prop} {c:Nat} {b:Array Bool} {a:Act} {w:World} (i:Nat) {o:Oper} (hr:Region.ready md ops b=[i]) (hi:ops[i]? = some o)
  (hw:Region.wanted o (yielded ops a.tmps)=false) (hS:S w) (h:wpAnyH P md ops Q S c (b.setIfInBounds i true) (a.put o.dst undef) w):wpAnyH P md ops Q S (c+1) b a w:=by
 refine wpAnyH_all hr (by simp) fun j hj=>?_
 obtain rfl:j=i:=by simpa using hj
 unfold wpOp;rw [hi];dsimp only;rw [ai (by rw [hw];decide)];exact ⟨hS,h⟩

theorem Ey {P:Program} {md:Region.Mode} {ops:Array Oper} {Q:Exit->Act->World->Prop} {S:World->Prop} {e:Nat} {b:Array Bool} {a:Act} {w:World} {oi:Oper} (i:Nat) (d:Option Tmp) (v:Value) (hi:ops[i]? = some oi) (hd:oi.dst=d)
  (hs:Region.noSelect ops=true) (hf:Region.free md ops b i=true) (hr:(Region.ready md ops b).contains i=true)
  (hQ:∀ c a w,Q (.panic c) (a.put d v) w->Q (.panic c) a w) (hy:YieldsIf P ops S oi v a) (hS:S w)
  (h:wpAnyH P md ops Q S e (b.setIfInBounds i true) (a.put d v) w):wpAnyH P md ops Q S (e+1) b a w:=by
 subst hd;exact wpAnyH_take hi hs hf hr hQ hy hS h

theorem H7 {P:Program} {md:Region.Mode} {ops:Array Oper} {Q:Exit->Act->World->Prop} {S:World->Prop} {c:Nat} {b:Array Bool} {a:Act} {w:World} {o:Oper} (i:Nat) (d:Option Tmp) (hr:Region.ready md ops b=[i]) (hi:ops[i]? = some o) (hd:o.dst=d)
  (hw:Region.wanted o (yielded ops a.tmps)=false) (hS:S w) (h:wpAnyH P md ops Q S c (b.setIfInBounds i true) (a.put d undef) w):wpAnyH P md ops Q S (c+1) b a w:=by
 subst hd;exact tQ i hr hi hw hS h

theorem Gv {P:Program} {md:Region.Mode} {ops:Array Oper} {Q:Exit->Act->World->Prop} {S:World->Prop} {c:Nat} {b:Array Bool} {a:Act} {w:World} {o:Oper} (i:Nat) (d:Option Tmp) (hr:Region.ready md ops b=[i]) (hi:ops[i]? = some o) (hd:o.dst=d) (hw:Region.wanted o (yielded ops a.tmps)=true) (f:Nat) (args:List Operand) (l:Array TypeId) (g:List Value)
  (ho:o.op=.call { callee:=.value (.func f),args:=args.toArray,argTypes:=l }) (hv:args.map a.eval=g) (he:∀ args w,(callFunc f args).run P w=.ok (.enter f args) w) {R:Ending->World->Prop} (hc:Calls P f g.toArray w R)
  (h:∀ e w',R e w'->(∃ v,e=.returned v/\S w'/\wpAnyH P md ops Q S c (b.setIfInBounds i true) (a.put d v) w')\/∃ ch,e=.panicked ch/\Q (.panic ch) a w') :
  wpAnyH P md ops Q S (c+1) b a w:=by
 subst hd;refine wpAnyH_all hr (by simp) fun j hj=>?_
 obtain rfl:j=i:=by simpa using hj
 unfold wpOp;rw [hi];dsimp only;rw [ah hw];refine .inl ?_;have k:Calls P f g.toArray w fun
   | .returned v,w''=>S w''/\wpAnyH P md ops Q S c (b.setIfInBounds j true) (a.put o.dst v) w''
   | .panicked chain,w''=>Q (.panic chain) a w''
   | .outgrown,_=>LetsOut Q:=hc.mono (fun e w' r=>by
  rcases h e w' r with ⟨v,rfl,hk⟩ | ⟨ch,rfl,hk⟩
  ·exact hk
  ·exact hk)
 unfold Oper.wp;simp [execOp,ho,resolve,invoke,hv,he,go_sem];exact k

theorem aT {P:Program} {md:Region.Mode} {ops:Array Oper} {Q:Exit->Act->World->Prop} {S:World->Prop} {e:Nat} {b:Array Bool} {a:Act} {w:World} {oi:Oper} (i:Nat) (d:Option Tmp) (v:Value) (s:S w) (k:wpAnyH P md ops Q S e (b.setIfInBounds i true) (a.put d v) w) (hi:ops[i]? = some oi:=by exact rfl) (hd:oi.dst=d:=by exact rfl)
  (hs:Region.noSelect ops=true:=by kernel_rfl) (hf:Region.free md ops b i=true:=by kernel_rfl) (hr:(Region.ready md ops b).contains i=true:=by kernel_rfl)
  (hQ:∀ c a w,Q (.panic c) (a.put d v) w->Q (.panic c) a w:=by exact fun _ _ _ h=>h) (y:YieldsIf P ops S oi v a:=by exact .inl ⟨by rfl,fun w h=>by simp [execOp,go_sem]⟩):wpAnyH P md ops Q S (e+1) b a w:=Ey i d v hi hd hs hf hr hQ y s k

theorem aS {P:Program} {md:Region.Mode} {ops:Array Oper} {Q:Exit->Act->World->Prop} {S:World->Prop} {e:Nat} {b:Array Bool} {a:Act} {w:World} {oi:Oper} (hQ:∀ c a (d:Option Tmp) (v:Value) w,Q (.panic c) (a.put d v) w->Q (.panic c) a w) (i:Nat) (d:Option Tmp) (v:Value) (s:S w) (k:wpAnyH P md ops Q S e (b.setIfInBounds i true) (a.put d v) w) (hi:ops[i]? = some oi:=by exact rfl) (hd:oi.dst=d:=by exact rfl)
  (hs:Region.noSelect ops=true:=by kernel_rfl) (hf:Region.free md ops b i=true:=by kernel_rfl) (hr:(Region.ready md ops b).contains i=true:=by kernel_rfl)
  (y:YieldsIf P ops S oi v a:=by exact .inl ⟨by rfl,fun w h=>by simp [execOp,go_sem]⟩):wpAnyH P md ops Q S (e+1) b a w:=Ey i d v hi hd hs hf hr (fun c a w=>hQ c a _ _ w) y s k

theorem H8 {P:Program} {md:Region.Mode} {ops:Array Oper} {Q:Exit->Act->World->Prop} {S:World->Prop} {c:Nat} {b:Array Bool} {a:Act} {w:World} {o:Oper} (i:Nat) (d:Option Tmp) (s:S w) (k:wpAnyH P md ops Q S c (b.setIfInBounds i true) (a.put d undef) w) (hr:Region.ready md ops b=[i]:=by kernel_rfl) (hi:ops[i]? = some o:=by exact rfl) (hd:o.dst=d:=by exact rfl)
  (hw:Region.wanted o (yielded ops a.tmps)=false:=by rfl):wpAnyH P md ops Q S (c+1) b a w:=H7 i d hr hi hd hw s k

theorem bV {P:Program} {md:Region.Mode} {ops:Array Oper} {Q:Exit->Act->World->Prop} {S:World->Prop} {g:Nat} {b:Array Bool} {a:Act} {w:World} {o:Oper} (i:Nat) (d:Option Tmp) (f:Nat) {args:List Operand} {j:Array TypeId} (c:List Value) {R:Ending->World->Prop} (hc:Calls P f c.toArray w R)
  (h:∀ e w',R e w'->(∃ v,e=.returned v /\ S w' /\ wpAnyH P md ops Q S g (b.setIfInBounds i true) (a.put d v) w') \/ ∃ ch,e=.panicked ch /\ Q (.panic ch) a w') (hr:Region.ready md ops b=[i]:=by kernel_rfl) (hi:ops[i]? = some o:=by exact rfl) (hd:o.dst=d:=by exact rfl) (hw:Region.wanted o (yielded ops a.tmps)=true:=by rfl)
  (ho:o.op=.call {callee:=.value (.func f),args:=args.toArray,argTypes:=j}:=by exact rfl) (hv:args.map a.eval=c:=by exact rfl) (he:∀ args w,(callFunc f args).run P w=.ok (.enter f args) w:=by exact fun _ _=>by simp [go_sem]):wpAnyH P md ops Q S (g+1) b a w:=Gv i d hr hi hd hw f args j c ho hv he hc h

end Go.Proofs.YtkaojflnghfmcaaGreatDoor
