/- Put together of: Pro1 MonA Pro0. -/
import Derived.Test.YtkaojflnghfmcaaGreatDoorQC5
import Derived.Defers
import Derived.Recover

namespace Go.Proofs.YtkaojflnghfmcaaGreatDoor
open _root_.Go.Proofs.Tryz
set_option maxRecDepth 100000
set_option maxHeartbeats 4000000
open Go.RowKit

theorem xV (a b c d:Nat) (ha:a<18446744073709551616) (hb:b<18446744073709551616) (hc:c<18446744073709551616) (hd:d<18446744073709551616) (w:World) :
  Calls prog 252 #[.int .u64 (a:Nat),.int .u64 (b:Nat),.int .u64 (c:Nat),.int .u64 (d:Nat)] w fun e w'=>∃ h l:Nat,e=.returned (.tuple #[.int .u64 (h:Nat),.int .u64 (l:Nat)])/\h<18446744073709551616/\l<18446744073709551616/\l+18446744073709551616*h=a*b+c+d/\w'=w:=by
 refine (IQ (a:Int) (b:Int) (c:Int) (d:Int) (by omega) (by omega) (by omega) (by omega) (by omega) (by omega) (by omega) (by omega) w).mono ?_;rintro e w' ⟨rfl,rfl⟩;have hp:a*b<=18446744073709551615*18446744073709551615:=fh (by omega) (by omega);have e1:(a:Int)*(b:Int)=((a*b:Nat):Int):=by simp
 rw [e1];generalize a*b=p at *;refine ⟨(p+c+d)/18446744073709551616,(p+c+d)%18446744073709551616,lI ?_ ?_,by omega,ay _ (by omega),by omega,rfl⟩ <;> omega

theorem nF {B X Y W k c z c':Nat} {os:List Nat} (hl:os.length=k) (h:val os B+B^k*c=X%B^k+Y%B^k*W) (hz:z+B*c'=dig Y k B*W+dig X k B+c) :
  val (os ++ [z]) B+B^(k+1)*c'=X%B^(k+1)+Y%B^(k+1)*W:=by
 rw [cZ,hl,eK,eK,aH,bf,cJ,bf];have e:B^k*(z+B*c')=B^k*(dig Y k B*W+dig X k B+c):=by rw [hz]
 rw [aJ,aJ,aJ] at e;omega

theorem rR {B n S c:Nat} {os:List Nat} (hB:0<B) (hl:os.length=n) (hd:Digs os B) (h:val os B+B^n*c=S):os=digs S n B/\c=S/B^n:=by
 have hv:=aE hB hd;rw [hl] at hv;refine ⟨b8 hB hd hl ?_,?_⟩
 ·rw [<- h,eW,ax hv]
 ·rw [<- h,jm _ _ (aC hB),bj hv,dz]

theorem jU (zs os:List Nat) (j k z:Nat) (hl:os.length=k) (hk:j+k<zs.length):(zs.take j ++ (os ++ zs.drop (j+k))).set (j+k) z=zs.take j ++ ((os ++ [z]) ++ zs.drop (j+(k+1))):=by
 have h1:(zs.take j).length=j:=by rw [aO];omega
 rw [gH _ _ (by omega),h1,oy,gH _ _ (by omega),hl,bJ,dU hk,lsZ,dr];rfl

theorem jt {w:World} {base g N a j k:Nat} {t:TypeId} {zs os:List Nat} (h:OwnN .u64 t w base (.slice (some ⟨g,0,none⟩) N a) N (zs.take j ++ (os ++ zs.drop (j+k)))) (b:zs.length=N) (hl:os.length=k) (hk:j+k<N):w.cell? ⟨g,j+k,none⟩=some (.int .u64 (zs.getD (j+k) 0:Nat)):=by
 have h1:(zs.take j).length=j:=by rw [aO];omega
 rw [World.ownsRow.cellAt h (j+k) (by omega),bu,ig (by omega),h1,oy,ig (by omega),hl,bJ,et,aU,aA,aQ (by omega)];rfl

theorem pE {zs:List Nat} {j n k:Nat} (hd:Digs zs) (hk:k<n):dig (val ((zs.drop j).take n)) k=zs.getD (j+k) 0:=by
 rw [cS (by omega) ((hd.drop j).take n),aA,dV,ah hk,et,<- aA]

theorem oK {zs:List Nat} {j n:Nat} (hd:Digs zs):val ((zs.drop j).take n)<18446744073709551616^n:=
 bd (aE (by omega) ((hd.drop j).take n)) (aY (by omega) (by rw [aO];omega))

theorem eN {w:World} {base size g N a n:Nat} {e:TypeId} {xs:List Value} (ho:w.ownsRow base e size (.slice (some ⟨g,0,none⟩) N a) n xs):g<w.heap.size:=by
 rcases ho.2 with ⟨h',_⟩ | ⟨g',cap',cur,h',_,hgg,_⟩
 ·simp at h'
 ·simp only [Value.slice.injEq,ik,Addr.mk.injEq,and_true] at h';obtain ⟨rfl,_,_⟩:=h';exact lt_of_block hgg

theorem rH (g base N f j n c W:Nat) (zs ys:List Nat) (v:Value) (w:World) (ho:OwnN .u64 24 w base (.slice (some ⟨g,0,none⟩) N f) N zs) (E:zs.length=N) (o:Digs zs) (hj:j+n<=N)
  (hv:Row .u64 w v ys) (t:ys.length=n) (l:Digs ys) (C:ys≠[]->∀ b,v.ownBlock=some b->b≠g) (hW:W<18446744073709551616) (R S:Nat) (hS:S=val ((zs.drop j).take n)+val ys*W) (hR:R=S/18446744073709551616^n) :
  Calls prog 244 #[.slice (some ⟨g,j,none⟩) n c,v,.int .u64 (W:Nat)] w fun e w'=>e=.returned (.int .u64 (R:Nat)) /\
   OwnN .u64 24 w' base (.slice (some ⟨g,0,none⟩) N f) N (zs.take j ++ (digs S n ++ zs.drop (j+n)))/\Kept (fun b=>b=g) w w':=by
 have hX:=oK (j:=j) (n:=n) o;have hY:val ys<18446744073709551616^n:=by rw [<- t];exact aE (by omega) l
 have p:Hid (∀ k,k<n->dig (val ((zs.drop j).take n)) k=zs.getD (j+k) 0):=fun k hk=>pE o hk
 have q:Hid (∀ k,dig (val ys) k=ys.getD k 0):=fun k=>cS (by omega) l k
 have A:Hid (∀ k,zs.getD (j+k) 0<18446744073709551616):=fun k=>o.getD (by omega) _
 have s:Hid (∀ k,ys.getD k 0<18446744073709551616):=fun k=>l.getD (by omega) _
 have a:Hid (∀ W',Kept (fun b=>b=g) w W'->Row .u64 W' v ys):=fun W' k=>hv.kept' k C
 generalize val ((zs.drop j).take n)=X at *;generalize val ys=Y at *;have HX:=aa hX;have HY:=aa hY;have HS:=aa hS;have HR:=aa hR;have B:=aa E;have HO:=aa ho;have hlt:=eN ho;obtain ⟨bo,m,bc,rfl,hM,_,_,_,_⟩:=hv.open;obtain rfl:m=n:=hM.out.symm.trans t;clear ho E hX hY hS hR t l o C hv hM;go_enter func244,ntmps244;go_wp2_with fail;go_loopw [7,11] (fun ab i wr=>∃ (k c':Nat) (os:List Nat),k<=m/\c'<18446744073709551616/\i=.int .i64 (k:Int)/\ab=.int .u64 (c':Int)/\Hid (os.length=k)/\Digs os/\OwnN .u64 24 wr base (.slice (some ⟨g,0,none⟩) N f) N (zs.take j ++ (os ++ zs.drop (j+k)))/\Kept (fun b=>b=g) w wr /\
   Hid (val os+18446744073709551616^k*c'=X%18446744073709551616^k+Y%18446744073709551616^k*W)) (fun _ i _=>m-(intOf i).toNat)
 case atStart=>exact ⟨0,0,[],aP _,by omega,rfl,rfl,rfl,Digs.nil _,by rw [aU,bw,jD];exact HO.out,aj _ _,by unfold Hid;simp [val,gM]⟩
 case round=>
  obtain ⟨k,c',os,hk,hc,rfl,rfl,HL,D,ho,r,HV⟩:=hrel;by_cases hkn:k<m
  ·have Q:(0:Int)<=(k:Int):=bY _;have I:(k:Int)<(m:Int):=by omega
   have O:=jt ho B.out HL.out (by omega);obtain ⟨_,_,_,e2,_,_,_,_,d⟩:=(a.out wr r).open;cases e2
   obtain ⟨b2,M,rfl,P⟩:=d k hkn;have hf:=World.ownsRow.frozenAt ho (j+k);have hx:=A.out k;have hy:=s.out k;have F:Hid (∀ z c2,z+18446744073709551616*c2=ys.getD k 0*W+zs.getD (j+k) 0+c'->val (os ++ [z])+18446744073709551616^(k+1)*c2=X%18446744073709551616^(k+1)+Y%18446744073709551616^(k+1)*W):=fun z c2 h=>nF HL.out HV.out (by rw [p.out k hkn,q.out k];exact h)
   have G:Hid (∀ u:Nat,OwnN .u64 24 (wr.setCell ⟨g,j+k,none⟩ (.int .u64 (u:Int))) base (.slice (some ⟨g,0,none⟩) N f) N (zs.take j ++ ((os ++ [u]) ++ zs.drop (j+(k+1))))):=fun u=>by
    have:=(World.ownsRow.stored ho (j+k) (.int .u64 (u:Int))).1;unfold OwnN;rw [<- jU zs os j k u HL.out (by have:=B.out;omega),bZ];exact this
   clear HV a d p q A s HO HX HY HS HR;generalize zs.getD (j+k) 0=x at *;generalize ys.getD k 0=y at *;go_wp2_with fail;go_region_with (go_at_call 252;refine (xV y W x c' hy hW hx hc _).mono ?_;rintro e w7 ⟨h2,l2,rfl,H,J,L,rfl⟩)
   all_goals
    go_wp2_with fail;go_roundw
    case rel=>exact ⟨k+1,h2,os ++ [l2],by omega,H,by go_num,rfl,by unfold Hid;rw [aZ,HL.out];rfl,D.append (Digs.one J),G.out l2,(r.setCell _ (fun _=>rfl) _).drew,F.out l2 h2 L⟩
    case measure=>simp [intOf];omega
  ·have I:¬ (k:Int)<(m:Int):=by omega
   obtain rfl:k=m:=by omega
   have e:=HV.out;rw [ax HX.out,ax HY.out,<- HS.out] at e;obtain ⟨e1,e2⟩:=rR (by omega) HL.out D e;have E1:=aa e1;have E2:=aa (e2.trans HR.out.symm);clear e e1 e2 HV a p q A s HO HX HY HS HR;go_wp2_with fail;go_ret;rw [<- E1.out,<- E2.out];exact ⟨rfl,ho,r⟩

theorem iz {B:Nat} (hB:0<B) {zs:List Nat} (hd:Digs zs B) (k:Nat):val (zs.take k) B=val zs B%B^k:=by
 by_cases h:k<=zs.length
 ·have e:=aW B zs k h;have a:val (zs.take k) B<B^k:=by
   have:=aE hB (hd.take k)
   rwa [aO,cL h] at this
  rw [e,eW,ax a]
 ·rw [dJ (by omega),ax];exact bd (aE hB hd) (aY hB (by omega))

theorem jW {B:Nat} (hB:0<B) {zs:List Nat} (hd:Digs zs B) (k:Nat):val (zs.drop k) B=val zs B/B^k:=by
 by_cases h:k<=zs.length
 ·have e:=aW B zs k h;have a:val (zs.take k) B<B^k:=by
   have:=aE hB (hd.take k)
   rwa [aO,cL h] at this
  rw [e,jm _ _ (aC hB),bj a,dz]
 ·rw [dZ (by omega)];have h1:=aE hB hd;have h2:B^zs.length<=B^k:=aY hB (by omega);rw [bj (by omega)];rfl

theorem tL {B:Nat} (hB:0<B) {zs:List Nat} (hd:Digs zs B) (j n:Nat):val ((zs.drop j).take n) B=val zs B/B^j%B^n:=by
 rw [iz hB (hd.drop j),jW hB hd]

theorem tM {B:Nat} (hB:0<B) {zs os:List Nat} {j k:Nat} (hd:Digs zs B) (hl:os.length=k) (hj:j<=zs.length):val (zs.take j ++ (os ++ zs.drop (j+k))) B=val zs B%B^j+B^j*(val os B+B^k*(val zs B/B^(j+k))):=by
 have h1:(zs.take j).length=j:=by rw [aO];omega
 rw [dX,dX,h1,hl,iz hB hd,jW hB hd]

theorem jM {B:Nat} {zs os:List Nat} {j k:Nat} (hd:Digs zs B) (ho:Digs os B):Digs (zs.take j ++ (os ++ zs.drop (j+k))) B:=(hd.take j).append (ho.append (hd.drop _))

theorem rD {zs os:List Nat} {j k N:Nat} (hl:zs.length=N) (ho:os.length=k) (hj:j+k<=N):(zs.take j ++ (os ++ zs.drop (j+k))).length=N:=by
 simp [ho,hl];omega

theorem zh {B X Y M N k S:Nat} {zs:List Nat} (hB:0<B) (hY:Y<B^M) (hk:k+M<N) (hz:zs=digs (X%B^k*Y) N B) (hS:S=val ((zs.drop k).take M) B+Y*dig X k B) :
  zs.take k ++ ((digs S M B ++ [S/B^M]) ++ zs.drop (k+(M+1)))=digs (X%B^(k+1)*Y) N B/\S/B^M<B:=by
 have d:0<B^k:=aC hB;have hP:X%B^k*Y<B^(k+M):=by
  rw [aN];exact lu (ay _ d) (fE hY) (aC hB)
 have g:X%B^k*Y<B^N:=bd hP (aY hB (by omega));have i:zs.length=N:=by rw [hz,ag]
 have a:Digs zs B:=by rw [hz];exact ak hB _ _
 have e:val zs B=X%B^k*Y:=by rw [hz,aB,ax g]
 clear hz;rw [tL hB a,e] at hS;have e2:X%B^(k+1)*Y=X%B^k*Y+B^k*(Y*dig X k B):=by
  rw [aH,j7,cJ,dig,bf,aF (X/B^k%B) Y]
 have f:X%B^(k+1)*Y<B^N:=by
  have h1:X%B^(k+1)*Y<B^(k+1)*B^M:=lu (ay _ (aC hB)) (fE hY) (aC hB);rw [<- aN] at h1;exact bd h1 (aY hB (by omega))
 generalize hPP:X%B^k*Y=P at *;have h:P/B^k<B^M:=by rw [cj d,aF,<- aN];exact hP
 rw [ax h] at hS;have hx:dig X k B<B:=ay _ hB;have b:S/B^M<B:=by
  rw [cj (aC hB),hS];have h1:Y*dig X k B<=B^M*dig X k B:=bI _ (fE hY);have h2:B^M*(dig X k B+1)<=B^M*B:=bi _ hx;rw [aJ,bD] at h2;rw [aF B];omega
 refine ⟨?_,b⟩;have c:(digs S M B ++ [S/B^M]).length=M+1:=by simp [ag]
 refine b8 hB (jM a ((ak hB _ _).append (Digs.one b))) (rD i c (by omega)) ?_;rw [tM hB a c (by omega),cZ,ag,aB,e,ax f,e2];have e3:P/B^(k+(M+1))=0:=by
  apply bj;exact bd hP (aY hB (by omega))
 rw [e3,cG,aU,iH,hS,aJ,<- iG,iH]

theorem ni (B:Nat):∀ n,digs 0 n B=List.replicate n 0
 | 0=>rfl
 | n+1=>by rw [digs,ni B n,gG,dig];simp

theorem lU {w w':World} {v:Value} {xs:List Nat} {g:Nat} (h:Row .u64 w v xs) (hg:w.heap.size<=g) (_:w.heap.size<=w'.heap.size):xs≠[]->∀ b,v.ownBlock=some b->b≠g:=fun a b hb e=>by
 have:=h.lt a b hb;omega

theorem Hj (o:Tr) (u v:Value) (xs ys:List Nat) (w:World) (ht:TrRoom w o xs.length) (hu:RowT w o u xs) (hv:RowT w o v ys) (n:Digs xs) (y:Digs ys) (hL:xs.length<=100000) (hM:ys.length<=100000) :
  Calls prog 208 #[aL o,u,v] w fun e w'=>∃ v',e=.returned v'/\v'=.slice (some ⟨w.heap.size,0,none⟩) (xs.length+ys.length) (xs.length+ys.length) /\
   OwnN .u64 24 w' w.heap.size v' (xs.length+ys.length) (digs (val xs*val ys) (xs.length+ys.length))/\∃ o',Did w o (List.replicate xs.length (1,(ys.length:Nat),0)) w' o':=by
 obtain ⟨i0,ae,al,am,an⟩:=info_parts Tryz.info24;obtain ⟨ao,L,ar,rfl,F,_,_,_,_⟩:=hu.1.open;obtain ⟨bo,M,V,rfl,G,_,_,_,_⟩:=hv.1.open;have eL:=F.out;have eM:=G.out;have hX:Hid (val xs<18446744073709551616^L):=by have:=aE (by omega) n;rw [eL] at this;exact this
 have hY:Hid (val ys<18446744073709551616^M):=by have:=aE (by omega) y;rw [eM] at this;exact this
 have a:Hid (∀ k,dig (val xs) k=xs.getD k 0):=fun k=>cS (by omega) n k
 have B:Hid (∀ k,xs.getD k 0<18446744073709551616):=fun k=>n.getD (by omega) _
 rw [eL] at hL ht ⊢;rw [eM] at hM ⊢;have HU:=aa hu;have HV:=aa hv;have HT:=aa ht;have HM:=aa eM;have r:=aa y;obtain ⟨Y,t⟩:∃ Y,Y=val ys:=⟨_,rfl⟩
 rw [<- t] at hY ⊢;have s:=aa t;obtain ⟨tp,A⟩:∃ tp,tp=aL o:=⟨_,rfl⟩
 rw [<- A];have U:=aa A;clear hu hv ht F G eL eM n y A t;generalize val xs=X at *;obtain ⟨N,hN⟩:∃ N,N=L+M:=⟨_,rfl⟩
 have E:(L:Int)+(M:Int)=(N:Int):=by omega
 rw [<- hN];have av:N<=200000:=by omega
 have HN:=aa hN;clear hN;go_enter func208,ntmps208;go_wp2_with (at_make;refine wpList_make_full _ rfl _ _ 23 rfl w.heap.size 24 i0 _ 1 underlying23 ae al am _ _ _ _ N rfl rfl (by first | exact E | rfl) (by first | exact E | rfl) (by rw [an];omega) (by unfold maxLen;omega) (leR _) ?_;intro w1 p J);rw [bg] at p;have k1:=aV J;clear J;rw [<- ni 18446744073709551616 N] at p;go_loopw [18] (fun i wr=>∃ (k:Nat) (o':Tr),k<=L/\i=.int .i64 (k:Int)/\Hid (Did w o (List.replicate k (1,(M:Int),0)) wr o')/\OwnN .u64 24 wr w.heap.size (.slice (some ⟨w.heap.size,0,none⟩) N N) N (digs (X%18446744073709551616^k*Y) N)) (fun i _=>L-(intOf i).toNat)
 case atStart=>exact ⟨0,o,aP _,rfl,Did.of_kept k1 (HT.out.1),by rw [cw,gM,ja];exact p⟩
 case round=>
  obtain ⟨k,o1,hk,rfl,HD,ho⟩:=hrel;clear p k1;by_cases hkn:k<L
  ·have aA:(0:Int)<=(k:Int):=bY _;have ah:(k:Int)<(L:Int):=by omega
   have c:TrRoom wr o1 (L-k):=HD.out.room (by rw [be,show k+(L-k)=L by omega];exact HT.out);have hS:=fz o1 (M:Int) wr c.1;rw [HD.out.ptr,<- U.out] at hS;go_wp2_with fail;refine hS.mono ?_;rintro e w2 ⟨rfl,o2,d2⟩;have q:=d2.kept.own ho (eG ho c.1);have d:=aa (HD.out.trans d2);have P:=HU.out.did d.out;have Q:=HV.out.did d.out;clear hS ho d2 c HD;obtain ⟨_,_,_,e2,_,_,_,_,l⟩:=P.1.open;cases e2
   obtain ⟨b2,ap,rfl,aw⟩:=l k hkn;have ai:=B.out k;obtain ⟨zs,m⟩:∃ zs,zs=digs (X%18446744073709551616^k*Y) N:=⟨_,rfl⟩
   rw [<- m] at q;have C:zs.length=N:=by rw [m,ag]
   have T:Digs zs:=by rw [m];exact ak (by omega) _ _
   obtain ⟨S,hS⟩:∃ S,S=val ((zs.drop k).take M)+Y*xs.getD k 0:=⟨_,rfl⟩
   obtain ⟨R,hR⟩:∃ R,R=S/18446744073709551616^M:=⟨_,rfl⟩
   have O:k+M<N:=by have:=HN.out;omega
   obtain ⟨D,aq⟩:=zh (S:=S) (by omega) hY.out O m (by rw [a.out k];exact hS);rw [<- hR] at D aq;have H:S=val ((zs.drop k).take M)+val ys*xs.getD k 0:=by rw [<- s.out];exact hS
   have I:=lU (w':=w2) (g:=w.heap.size) HV.out.1 (leR _) d.out.size;have HA:=fun W' (kk:Kept af w2 W')=>rH w.heap.size w.heap.size N N k M (N-k) (xs.getD k 0) zs ys (.slice bo M V) W' (kk.own q (fun _ _ f=>f)) C T (by omega) (Q.1.grew kk) HM.out r.out I ai R S H hR
   have ad:Hid (∀ W',OwnN .u64 24 W' w.heap.size (.slice (some ⟨w.heap.size,0,none⟩) N N) N (zs.take k ++ (digs S M ++ zs.drop (k+M)))->OwnN .u64 24 (W'.setCell ⟨w.heap.size,k+M,none⟩ (.int .u64 (R:Int))) w.heap.size (.slice (some ⟨w.heap.size,0,none⟩) N N) N (digs (X%18446744073709551616^(k+1)*Y) N)):=fun W' h=>by
    have:=(World.ownsRow.stored h (k+M) (.int .u64 (R:Int))).1;unfold OwnN;rw [<- D,<- jU zs _ k M R (ag _ _ _) (by omega),bZ];exact this
   have j:∀ W',OwnN .u64 24 W' w.heap.size (.slice (some ⟨w.heap.size,0,none⟩) N N) N (zs.take k ++ (digs S M ++ zs.drop (k+M)))->W'.cell? ⟨w.heap.size,k+M,none⟩=some (.int .u64 (zs.getD (k+M) 0:Nat)):=fun W' h=>jt h C (ag _ _ _) O
   have ac:∀ W',OwnN .u64 24 W' w.heap.size (.slice (some ⟨w.heap.size,0,none⟩) N N) N (zs.take k ++ (digs S M ++ zs.drop (k+M)))->W'.frozen? ⟨w.heap.size,k+M,none⟩=false:=fun W' h=>World.ownsRow.frozenAt h (k+M)
   have ab:¬ cN o2 w.heap.size:=eG q (d.out.room (k:=0) (by rw [aZ,be];exact HT.out.less (by simp;omega))).1 _ rfl;clear hS H hR m T C P Q l B a r s I D q;generalize xs.getD k 0=x at *;generalize zs.getD (k+M) 0=zz at *;generalize zs.take k ++ (digs S M ++ zs.drop (k+M))=zs' at *;have au:(k:Int)+(M:Int)<(N:Int):=by omega
   have W:(0:Int)<=(k:Int)+(M:Int):=by omega
   have Z:((k:Int)+(M:Int)).toNat=k+M:=by omega
   go_wp2_with fail;go_region_with (go_at_call 244;refine (HA _ ((aj _ _).drew)).mono ?_;rintro e w3 ⟨rfl,z,k3⟩;have ay:=j _ z;have az:=ac _ z)
   all_goals
    go_wp2_with fail;go_roundw
    case rel=>
     have k4:Kept (fun b=>b=w.heap.size) w2 (w3.setCell ⟨w.heap.size,k+M,none⟩ (.int .u64 (R:Int))):=(((aj _ _).drew).trans k3).setCell _ (fun _=>rfl) _;exact ⟨k+1,o2,by omega,by go_num,by unfold Hid;rw [gG];exact d.out.wroteNew k4 (leR _) ab,ad.out _ z⟩
    case measure=>simp [intOf];omega
  ·have ah:¬ (k:Int)<(L:Int):=by omega
   obtain rfl:k=L:=by omega
   rw [ax hX.out] at ho;clear B a r s;go_wp2_with fail;go_ret;exact ⟨_,rfl,by rw [HN.out];rfl,ho,o1,HD.out⟩

theorem aw {W:World} {p:Nat} {a b c:Value} {t:TypeId} {fr:Nat × Nat} (h:W.heap[p]? = some (.cells #[a,b,c] t fr)):W.cell? ⟨p,0,none⟩=some a/\W.cell? ⟨p,1,none⟩=some b/\W.cell? ⟨p,2,none⟩=some c:=
 ⟨(cell_of_row W p 0 _ _ _ h).trans rfl,(cell_of_row W p 1 _ _ _ h).trans rfl,(cell_of_row W p 2 _ _ _ h).trans rfl⟩

theorem Dx {P Pn B V X Q q c c2 z R d a low rest Sl A:Nat}
 (hA:A=low+P*(a+Pn*(d+B*rest))) (hv:A+P*Pn*c=X+V*Q)
 (hS:a+V*q=Sl+Pn*R) (hz:z+B*c2=d+R+c) :
 low+P*(Sl+Pn*z+Pn*B*rest)+P*Pn*B*c2=X+V*(Q+P*q):=by grind

theorem FG {Q P q B:Nat} (h:Q<P) (hq:q<B):Q+P*q<P*B:=by
 have:P*(q+1)<=P*B:=bi _ hq
 grind

theorem AC {B V K d q a:Nat} (hg:(V*K+1)%B=0) (hq:q=d*K%B) (hp:a%B=d):(a+V*q)%B=0:=by
 obtain ⟨t,ht⟩:=lr hg;have e1:d*K=B*(d*K/B)+q:=by rw [hq];exact (ef _ _).symm
 have e2:a=B*(a/B)+d:=by rw [<- hp];exact (ef _ _).symm
 apply Nat.mod_eq_zero_of_dvd;have h3:B ∣ a+V*q+B*(V*(d*K/B)):=by
  refine ⟨a/B+d*t,?_⟩;generalize a/B=pb at *;generalize d*K/B=kb at *
  grind
 exact (Nat.dvd_add_left ⟨_,rfl⟩).1 h3

theorem Dw {P V X Q T c A:Nat} (hA:A=P*T) (hv:A+P*P*c=X+V*Q) (hQ:Q<P) (hX:X<V*P):T+P*c<2*V/\(P*(T+P*c))%V=X%V:=by
 have e:P*(T+P*c)=X+V*Q:=by rw [<- hv,hA];grind
 refine ⟨?_,by rw [e,eW]⟩;apply Nat.lt_of_mul_lt_mul_left (a:=P);rw [e];have:V*(Q+1)<=V*P:=bi _ hQ
 grind

theorem CR {Z V:Nat} (h:Z<2*V):(if V<=Z then Z-V else Z)=Z%V:=by
 split
 ·rename_i h1
  rw [Nat.mod_eq_sub_mod h1,ax (by omega)]
 ·rw [ax (by omega)]

theorem BN {V P Q Q' a:Nat} (hc:Nat.Coprime V P) (hQ:Q<P) (c:Q'<P) (h:(a+V*Q)%P=(a+V*Q')%P):Q=Q':=by
 have b:∀ x y:Nat,x<=y->y<P->(a+V*x)%P=(a+V*y)%P->x=y:=by
  intro x y f hy he;have hd:P ∣ (a+V*y)-(a+V*x):=lr (oC he.symm);have e:(a+V*y)-(a+V*x)=V*(y-x):=by rw [j8];omega
  rw [e] at hd;have d:=(Nat.Coprime.symm hc).dvd_of_dvd_mul_left hd;have:=Nat.eq_zero_of_dvd_of_lt d (by omega);omega
 rcases Nat.le_total Q Q' with h1 | h1
 ·exact b _ _ h1 c h
 ·exact (b _ _ h1 hQ h.symm).symm

theorem A6 {V R P1 Q W E A c:Nat} (hR:R<V) (hQ:Q<P1) (hE:V*P1<=E) (hv:A+E*c=R+V*Q) (hA:A%P1=0) (hc:Nat.Coprime V P1) (hW:W%P1=0) (d:W/V<P1):A=W↔R=W%V:=by
 have hlt:R+V*Q<E:=by
  have:V*(Q+1)<=V*P1:=bi _ hQ
  grind
 have e:c=0:=by
  rcases cF c with h | h
  ·exact h
  ·have:E*1<=E*c:=bi _ h;omega
 subst e;rw [cG,aU] at hv;constructor
 ·intro h;rw [<- h,hv,eW,ax hR]
 ·intro h;have b:R+V*(W/V)=W:=by rw [h];exact iH _ _
  have:=BN (a:=R) hc hQ d (by rw [b,<- hv,hA,hW]);rw [hv,this,b]

theorem iP {P V Y Z:Nat} (hc:Nat.Coprime P V) (h:P*Y%V=P*Z%V):Y%V=Z%V:=by
 have a:∀ x y:Nat,x<=y->P*x%V=P*y%V->x%V=y%V:=by
  intro x y b he;have hd:V ∣ P*y-P*x:=lr (oC he.symm);rw [<- j8] at hd;obtain ⟨t,ht⟩:=(Nat.Coprime.symm hc).dvd_of_dvd_mul_left hd;have:y=x+V*t:=by omega
  rw [this,eW]
 rcases Nat.le_total Y Z with h1 | h1
 ·exact a _ _ h1 h
 ·exact (a _ _ h1 h.symm).symm

theorem FV {P V Y e:Nat} (hc:Nat.Coprime P V) (hY:Y<V) (h:P*Y%V=(P*2^e%V)*(P*2^e%V)%V):Y=P*2^(2*e)%V:=by
 rw [<- ax hY];apply iP hc;rw [h,<- eh,Nat.two_mul,aN]
 congr 1
 grind

theorem vH {V a:Nat}:2*(a%V)%V=2*a%V:=by
 rw [eh,fG,<- eh]

theorem fT {V k:Nat} (h:V%2=1):Nat.Coprime V (2^k):=by
 apply Nat.Coprime.pow_right;rw [Nat.Coprime,i8,Nat.gcd_rec,h];rfl

theorem Bn {X V n N k Q q R S z c c2 K:Nat} {zs:List Nat} (e:Digs zs) (t:zs.length=N) (w:k+n<N) (hv:val zs+18446744073709551616^(k+n)*c=X+V*Q) (hQ:Q<18446744073709551616^k) (hq:q=zs.getD k 0*K%18446744073709551616)
  (hS:S=val ((zs.drop k).take n)+V*q) (hR:R=S/18446744073709551616^n) (hz:z+18446744073709551616*c2=zs.getD (k+n) 0+R+c) (o:z<18446744073709551616) (f:(V*K+1)%18446744073709551616=0->0<n->val zs%18446744073709551616^k=0) :
  val (zs.take k ++ ((digs S n ++ [z]) ++ zs.drop (k+(n+1))))+18446744073709551616^(k+1+n)*c2=X+V*(Q+18446744073709551616^k*q)/\Q+18446744073709551616^k*q<18446744073709551616^(k+1)/\((V*K+1)%18446744073709551616=0->0<n->val (zs.take k ++ ((digs S n ++ [z]) ++ zs.drop (k+(n+1))))%18446744073709551616^(k+1)=0) /\
  Digs (zs.take k ++ ((digs S n ++ [z]) ++ zs.drop (k+(n+1))))/\(zs.take k ++ ((digs S n ++ [z]) ++ zs.drop (k+(n+1)))).length=N:=by
 have hB:0<18446744073709551616:=by omega
 have g:(digs S n ++ [z]).length=n+1:=by simp [ag]
 have m:q<18446744073709551616:=by rw [hq];exact ay _ hB
 have b:=tM (j:=k) (k:=n+1) hB e g (by omega);rw [cZ,ag,aB] at b;have a:=tL hB e k n;have l:zs.getD (k+n) 0=val zs/18446744073709551616^(k+n)%18446744073709551616:=by rw [<- cS hB e (k+n)];rfl
 have i:zs.getD k 0=val zs/18446744073709551616^k%18446744073709551616:=by rw [<- cS hB e k];rfl
 have hA:val zs=val zs%18446744073709551616^k+18446744073709551616^k*(val zs/18446744073709551616^k%18446744073709551616^n+18446744073709551616^n*(val zs/18446744073709551616^(k+n)%18446744073709551616+18446744073709551616*(val zs/18446744073709551616^(k+(n+1))))):=by
  have e1:val zs/18446744073709551616^(k+n)=val zs/18446744073709551616^k/18446744073709551616^n:=by rw [aN,cK]
  have e2:val zs/18446744073709551616^(k+(n+1))=val zs/18446744073709551616^k/18446744073709551616^n/18446744073709551616:=by rw [<- iG,aH,aN,cK,cK,bf]
  rw [e1,e2,iH,iH,iH]
 have h:val zs/18446744073709551616^k%18446744073709551616^n+V*q=S%18446744073709551616^n+18446744073709551616^n*R:=by rw [<- a,<- hS,hR,iH]
 rw [aN] at hv;rw [l] at hz;have v:=Dx hA hv h hz;refine ⟨?_,?_,?_,jM e ((ak hB _ _).append (Digs.one o)),rD t g (by omega)⟩
 ·have e4:18446744073709551616^(k+1+n)=18446744073709551616^k*18446744073709551616^n*18446744073709551616:=by rw [show k+1+n=k+n+1 by omega,aH,aN]
  have e5:18446744073709551616^(n+1)=18446744073709551616^n*18446744073709551616:=aH _ _;rw [b,e4,e5];exact v
 ·rw [aH];exact FG hQ m
 ·intro hg hn;have e6:18446744073709551616^(k+1)=18446744073709551616^k*18446744073709551616:=aH _ _;rw [b,f hg hn,dz,e6,oB];obtain ⟨n',rfl⟩:∃ n',n=n'+1:=⟨n-1,by omega⟩
  have h0:S%18446744073709551616=0:=by
   rw [hS,a];refine AC hg (d:=zs.getD k 0) hq ?_;rw [aH,Nat.mod_mul_left_mod,<- i]
  have h1:(S%18446744073709551616^(n'+1)+18446744073709551616^(n'+1)*z+18446744073709551616^(n'+1+1)*(val zs/18446744073709551616^(k+(n'+1+1))))%18446744073709551616=0:=by
   rw [aH 18446744073709551616 (n'+1),aH 18446744073709551616 n'];have e3:S%(18446744073709551616^n'*18446744073709551616)+18446744073709551616^n'*18446744073709551616*z+18446744073709551616^n'*18446744073709551616*18446744073709551616*(val zs/18446744073709551616^(k+(n'+1+1)))=S%(18446744073709551616^n'*18446744073709551616)+18446744073709551616*(18446744073709551616^n'*z+18446744073709551616^n'*18446744073709551616*(val zs/18446744073709551616^(k+(n'+1+1)))):=by
    generalize 18446744073709551616^n'=p;generalize val zs/18446744073709551616^(k+(n'+1+1))=r;generalize S%(p*18446744073709551616)=s
    grind
   rw [e3,eW,Nat.mod_mul_left_mod,h0]
  rw [h1,cG]

theorem CU (g base N f j n c W:Nat) (zs ys:List Nat) (v:Value) (w:World) (ho:OwnN .u64 24 w base (.slice (some ⟨g,0,none⟩) N f) N zs) (E:zs.length=N) (o:Digs zs) (hj:j+n<=N)
  (hv:Row .u64 w v ys) (t:ys.length=n) (l:Digs ys) (C:ys≠[]->∀ b,v.ownBlock=some b->b≠g) (hW:W<18446744073709551616) (R S:Nat) (hS:S=val ((zs.drop j).take n)+val ys*W) (hR:R=S/18446744073709551616^n) :
  Calls prog 224 #[.slice (some ⟨g,j,none⟩) n c,v,.int .u64 (W:Nat)] w fun e w'=>e=.returned (.int .u64 (R:Nat)) /\
   OwnN .u64 24 w' base (.slice (some ⟨g,0,none⟩) N f) N (zs.take j ++ (digs S n ++ zs.drop (j+n)))/\Kept (fun b=>b=g) w w':=by
 have hX:=oK (j:=j) (n:=n) o;have hY:val ys<18446744073709551616^n:=by rw [<- t];exact aE (by omega) l
 have p:Hid (∀ k,k<n->dig (val ((zs.drop j).take n)) k=zs.getD (j+k) 0):=fun k hk=>pE o hk
 have q:Hid (∀ k,dig (val ys) k=ys.getD k 0):=fun k=>cS (by omega) l k
 have A:Hid (∀ k,zs.getD (j+k) 0<18446744073709551616):=fun k=>o.getD (by omega) _
 have s:Hid (∀ k,ys.getD k 0<18446744073709551616):=fun k=>l.getD (by omega) _
 have a:Hid (∀ W',Kept (fun b=>b=g) w W'->Row .u64 W' v ys):=fun W' k=>hv.kept' k C
 generalize val ((zs.drop j).take n)=X at *;generalize val ys=Y at *;have HX:=aa hX;have HY:=aa hY;have HS:=aa hS;have HR:=aa hR;have B:=aa E;have HO:=aa ho;have hlt:=eN ho;obtain ⟨bo,m,bc,rfl,hM,_,_,_,_⟩:=hv.open;obtain rfl:m=n:=hM.out.symm.trans t;clear ho E hX hY hS hR t l o C hv hM;go_enter func224,ntmps224;go_wp2_with fail;go_loopw [7,11] (fun ab i wr=>∃ (k c':Nat) (os:List Nat),k<=m/\c'<18446744073709551616/\i=.int .i64 (k:Int)/\ab=.int .u64 (c':Int)/\Hid (os.length=k)/\Digs os/\OwnN .u64 24 wr base (.slice (some ⟨g,0,none⟩) N f) N (zs.take j ++ (os ++ zs.drop (j+k)))/\Kept (fun b=>b=g) w wr /\
   Hid (val os+18446744073709551616^k*c'=X%18446744073709551616^k+Y%18446744073709551616^k*W)) (fun _ i _=>m-(intOf i).toNat)
 case atStart=>exact ⟨0,0,[],aP _,by omega,rfl,rfl,rfl,Digs.nil _,by rw [aU,bw,jD];exact HO.out,aj _ _,by unfold Hid;simp [val,gM]⟩
 case round=>
  obtain ⟨k,c',os,hk,hc,rfl,rfl,HL,D,ho,r,HV⟩:=hrel;by_cases hkn:k<m
  ·have Q:(0:Int)<=(k:Int):=bY _;have I:(k:Int)<(m:Int):=by omega
   have O:=jt ho B.out HL.out (by omega);obtain ⟨_,_,_,e2,_,_,_,_,d⟩:=(a.out wr r).open;cases e2
   obtain ⟨b2,M,rfl,P⟩:=d k hkn;have hf:=World.ownsRow.frozenAt ho (j+k);have hx:=A.out k;have hy:=s.out k;have F:Hid (∀ z c2,z+18446744073709551616*c2=ys.getD k 0*W+zs.getD (j+k) 0+c'->val (os ++ [z])+18446744073709551616^(k+1)*c2=X%18446744073709551616^(k+1)+Y%18446744073709551616^(k+1)*W):=fun z c2 h=>nF HL.out HV.out (by rw [p.out k hkn,q.out k];exact h)
   have G:Hid (∀ u:Nat,OwnN .u64 24 (wr.setCell ⟨g,j+k,none⟩ (.int .u64 (u:Int))) base (.slice (some ⟨g,0,none⟩) N f) N (zs.take j ++ ((os ++ [u]) ++ zs.drop (j+(k+1))))):=fun u=>by
    have:=(World.ownsRow.stored ho (j+k) (.int .u64 (u:Int))).1;unfold OwnN;rw [<- jU zs os j k u HL.out (by have:=B.out;omega),bZ];exact this
   clear HV a d p q A s HO HX HY HS HR;generalize zs.getD (j+k) 0=x at *;generalize ys.getD k 0=y at *;go_wp2_with fail;go_region_with (go_at_call 252;refine (xV y W x c' hy hW hx hc _).mono ?_;rintro e w7 ⟨h2,l2,rfl,H,J,L,rfl⟩)
   all_goals
    go_wp2_with fail;go_roundw
    case rel=>exact ⟨k+1,h2,os ++ [l2],by omega,H,by go_num,rfl,by unfold Hid;rw [aZ,HL.out];rfl,D.append (Digs.one J),G.out l2,(r.setCell _ (fun _=>rfl) _).drew,F.out l2 h2 L⟩
    case measure=>simp [intOf];omega
  ·have I:¬ (k:Int)<(m:Int):=by omega
   obtain rfl:k=m:=by omega
   have e:=HV.out;rw [ax HX.out,ax HY.out,<- HS.out] at e;obtain ⟨e1,e2⟩:=rR (by omega) HL.out D e;have E1:=aa e1;have E2:=aa (e2.trans HR.out.symm);clear e e1 e2 HV a p q A s HO HX HY HS HR;go_wp2_with fail;go_ret;rw [<- E1.out,<- E2.out];exact ⟨rfl,ho,r⟩

abbrev refusal (n:Int):PanicEntry:={ v:=.iface 32 (.int .i64 n),recovered:=false }

theorem uO (p:Addr) (w:World) :
  CallsD prog 243 #[.pointer (some p)] .returning w fun e u' w'=>e=.returned (.tuple #[])/\u'=.returning/\w'=w:=by
 refine callsD_of_wpS func243 rfl fun c₀ cs hu=>?_
 apply wpS_seq;apply wpS_region;simp [wpOpsS,go_sem,recoverD,hu,ntmps243,Exit.thenS];apply wpS_seq;apply wpS_seq;apply wpS_region;simp [wpOpsS,go_sem,Exit.thenS];refine wpS_cond (t:=true) (by simp [Act.eval,Array.replicate]) ?_;simp only [if_true];refine wpS_of_wp (wp_ret ?_);cases c₀
 simp_all [bodyPostS,results,results243,Exit.thenS]

theorem Fu (p:Addr) (x n:Int) (a:List PanicEntry) (w:World) (hc:w.cell? p=some (.int .i64 x)) (hz:w.frozen? p=false) :
  CallsD prog 243 #[.pointer (some p)] (.panicking (refusal n :: a)) w fun e u' w'=>
   e=.returned (.tuple #[])/\u'=.panicking ({ refusal n with recovered:=true } :: a)/\w'=w.setCell p (.int .i64 n):=by
 refine callsD_of_wpS func243 rfl fun c₀ cs hu=>?_
 apply wpS_seq;apply wpS_region;simp [wpOpsS,go_sem,recoverD,hu,ntmps243,Exit.thenS];apply wpS_seq;apply wpS_seq;apply wpS_region;simp [wpOpsS,go_sem,Exit.thenS];refine wpS_cond (t:=false) (by simp [Act.eval,Array.replicate]) ?_;simp only [kZ,if_false];refine wpS_of_wp (wp_skip ?_);simp only [Exit.thenS];refine wpS_of_wp ?_;have c:∀ w:World,(Instr.typeAssert (.iface 32 (.int .i64 n)) 20 32 true).run prog w=.ok (.tuple #[.int .i64 n,.bool true]) w:=fun w=>by kernel_rfl
 have b:∀ (x:Bool) (w:World),(Op.unary .not (.bool x)).run prog w=.ok (.bool (!x)) w:=fun _ _=>rfl
 have e:(#[Value.pointer (some p)] ++ ((((Array.replicate 15 undef).setIfInBounds 3 (Value.iface 32 (Value.int IntKind.i64 n))).setIfInBounds 0 (Value.iface 32 (Value.int IntKind.i64 n))).setIfInBounds 4 (Value.iface 32 (Value.int IntKind.i64 n))).setIfInBounds 5 (Value.bool false):Array Value)=#[.pointer (some p),.iface 32 (.int .i64 n),undef,undef,.iface 32 (.int .i64 n),.iface 32 (.int .i64 n),.bool false,undef,undef,undef,undef,undef,undef,undef,undef,undef]:=rfl;rw [e];clear e;go_wp2;simp [bodyPostS,results,results243]

theorem mW (f:Nat) (b:Array Value) (w:World) (Q:Int->World->Prop) (he:∀ args w,(callFunc f args).run prog w=.ok (.enter f args) w)
  (h:Calls prog f b (w.alloc (.cells #[.int .i64 0] 32)) fun e w'=>w'.heap[w.heap.size]? = some (.cells #[.int .i64 0] 32 (0,0)) /\
   ((e=.returned (.tuple #[])/\Q 0 w')\/∃ n,e=.panicked [refusal n]/\Q n w')) :
  Calls prog 205 #[.func (.func f) #[] b] w fun e w'=>∃ n w1,e=.returned (.int .i64 n)/\(Q n w1/\w1.heap[w.heap.size]? = some (.cells #[.int .i64 0] 32 (0,0)))/\w'=w1.setCell ⟨w.heap.size,0,none⟩ (.int .i64 n):=by
 have d:=im;go_enter_defers func205,ntmps205
 go_wp2_with fail;refine h.mono ?_;rintro e w1 ⟨hb,(⟨rfl,hq⟩ | ⟨n,rfl,hq⟩)⟩
 ·have hc:w1.cell? ⟨w.heap.size,0,none⟩=some (.int .i64 0):=by simp [World.cell?,hb]
  have hz:w1.frozen? ⟨w.heap.size,0,none⟩=false:=by simp [World.frozen?,hb]
  clear h;go_wp2_with fail;refine leaves_cons (f:=243) (args:=#[.pointer (some ⟨w.heap.size,0,none⟩)]) (by simp) (by simp [go_sem]) ?_;refine (uO ⟨w.heap.size,0,none⟩ _).mono ?_;rintro e u' c ⟨rfl,rfl,rfl⟩;have a:(w1.setCell ⟨w.heap.size,0,none⟩ (.int .i64 0)).cell? ⟨w.heap.size,0,none⟩=some (.int .i64 0):=World.cell?_setCell_same' _ _ _ (by rw [hc];rfl);simp [Leaves,settle,results,results205,go_sem,a];exact ⟨_,⟨hq,hb⟩,rfl⟩
 ·have hc:w1.cell? ⟨w.heap.size,0,none⟩=some (.int .i64 0):=by simp [World.cell?,hb]
  have hz:w1.frozen? ⟨w.heap.size,0,none⟩=false:=by simp [World.frozen?,hb]
  clear h;refine leaves_cons (f:=243) (args:=#[.pointer (some ⟨w.heap.size,0,none⟩)]) (by simp) (by simp [go_sem]) ?_;refine (Fu ⟨w.heap.size,0,none⟩ 0 n [] _ hc hz).mono ?_;rintro e u' c ⟨rfl,rfl,rfl⟩;have a:(w1.setCell ⟨w.heap.size,0,none⟩ (.int .i64 n)).cell? ⟨w.heap.size,0,none⟩=some (.int .i64 n):=World.cell?_setCell_same' _ _ _ (by rw [hc];rfl);simp [Leaves,settle,results,results205,go_sem,a];exact ⟨_,⟨hq,hb⟩,rfl⟩

theorem nH (n:Int) (w:World):Calls prog 238 #[.bool false,.int .i64 n] w fun e w'=>e=.returned (.tuple #[])/\w'=w:=by
 go_enter func238,ntmps238;go_wp2;go_end0
 exact ⟨rfl,rfl⟩

theorem mg (n:Int) (w:World):Calls prog 238 #[.bool true,.int .i64 n] w fun e w'=>e=.panicked [refusal n]/\w'=w:=by
 go_enter func238,ntmps238;go_wp2;exact ⟨rfl,rfl,rfl⟩

theorem xq (ao bo:Option Addr) (L M a b:Nat) (w:World) :
  Calls prog 207 #[.slice ao L a,.slice bo M b] w fun e w'=>((L<=300/\M<=300/\e=.returned (.tuple #[]))\/(¬ (L<=300/\M<=300)/\e=.panicked [refusal 2]))/\w'=w:=by
 have hN:=nH 2 w;have hY:=mg 2 w;by_cases h:L<=300/\M<=300
 ·have g:¬ max (L:Int) (M:Int) > 300:=by omega
  go_enter func207,ntmps207;go_wp2_with fail;refine hN.mono ?_;rintro e w' ⟨rfl,rfl⟩;go_wp2;go_end0
  exact ⟨.inl ⟨h.1,h.2,rfl⟩,rfl⟩
 ·have g:max (L:Int) (M:Int) > 300:=by omega
  go_enter func207,ntmps207;go_wp2_with fail;refine hY.mono ?_;rintro e w' ⟨rfl,rfl⟩;exact ⟨rfl,.inr ⟨h,rfl⟩,rfl⟩

def Box (w:World) (b:Nat) (v:Value) (t:TypeId):Prop:=w.heap[b]? = some (.cells #[v] t (0,0))

theorem Box.cell {w:World} {b:Nat} {v:Value} {t:TypeId} (h:Box w b v t):w.cell? ⟨b,0,none⟩=some v:=by
 unfold Box at h;simp [World.cell?,h]

theorem Box.free {w:World} {b:Nat} {v:Value} {t:TypeId} (h:Box w b v t):w.frozen? ⟨b,0,none⟩=false:=by
 unfold Box at h;simp [World.frozen?,h]

theorem Box.lt {w:World} {b:Nat} {v:Value} {t:TypeId} (h:Box w b v t):b<w.heap.size:=lt_of_block h

theorem Box.new (w:World) (v:Value) (t:TypeId):Box (w.alloc (.cells #[v] t)) w.heap.size v t:=heap_alloc_new w _

theorem Box.kept {S:Nat->Prop} {w w':World} {b:Nat} {v:Value} {t:TypeId} (h:Box w b v t) (k:Kept S w w') (hs:¬ S b):Box w' b v t:=(k.block b h.lt hs).trans h

theorem Box.grew {w w':World} {b:Nat} {v:Value} {t:TypeId} (h:Box w b v t) (k:Kept af w w'):Box w' b v t:=h.kept k (fun f=>f)

theorem Box.alloc {w:World} {b:Nat} {v:Value} {t:TypeId} (h:Box w b v t) (o:Obj):Box (w.alloc o) b v t:=au h

theorem Box.set {w:World} {b:Nat} {v:Value} {t:TypeId} (h:Box w b v t) (u:Value):Box (w.setCell ⟨b,0,none⟩ u) b u t:=by
 have:=heap_setCell_same w b 0 #[v] t u h;simpa [Box] using this

theorem Box.other {w:World} {b:Nat} {v:Value} {t:TypeId} (h:Box w b v t) (a:Addr) (c:b≠a.block) (u:Value):Box (w.setCell a u) b v t:=fM h c u

theorem aD (w:World) (b:Nat) (u:Value):Kept (fun x=>x=b) w (w.setCell ⟨b,0,none⟩ u):=(aj (fun x=>x=b) w).setCell ⟨b,0,none⟩ (fun _=>rfl) u

theorem EK (w:World) (v1:Value) (t1:TypeId):Kept af w (w.alloc (.cells #[v1] t1))/\Box (w.alloc (.cells #[v1] t1)) w.heap.size v1 t1/\(w.alloc (.cells #[v1] t1)).heap.size=w.heap.size+1:=by
 exact ⟨(aj af w).alloc _,Box.new w _ _,by simp⟩

theorem EL (w:World) (v1 v2:Value) (t1 t2:TypeId):Kept af w ((w.alloc (.cells #[v1] t1)).alloc (.cells #[v2] t2))/\Box ((w.alloc (.cells #[v1] t1)).alloc (.cells #[v2] t2)) w.heap.size v1 t1/\Box ((w.alloc (.cells #[v1] t1)).alloc (.cells #[v2] t2)) (w.heap.size+1) v2 t2/\((w.alloc (.cells #[v1] t1)).alloc (.cells #[v2] t2)).heap.size=w.heap.size+1+1:=by
 obtain ⟨k0,b1,hs⟩:=EK w v1 t1;exact ⟨k0.alloc _,b1.alloc _,by rw [<- hs];exact Box.new _ _ _,by rw [<- hs];simp⟩

theorem tV (w:World) (v1 v2 v3:Value) (t1 t2 t3:TypeId):Kept af w (((w.alloc (.cells #[v1] t1)).alloc (.cells #[v2] t2)).alloc (.cells #[v3] t3))/\Box (((w.alloc (.cells #[v1] t1)).alloc (.cells #[v2] t2)).alloc (.cells #[v3] t3)) w.heap.size v1 t1/\Box (((w.alloc (.cells #[v1] t1)).alloc (.cells #[v2] t2)).alloc (.cells #[v3] t3)) (w.heap.size+1) v2 t2/\Box (((w.alloc (.cells #[v1] t1)).alloc (.cells #[v2] t2)).alloc (.cells #[v3] t3)) (w.heap.size+1+1) v3 t3/\(((w.alloc (.cells #[v1] t1)).alloc (.cells #[v2] t2)).alloc (.cells #[v3] t3)).heap.size=w.heap.size+1+1+1:=by
 obtain ⟨k0,b1,b2,hs⟩:=EL w v1 v2 t1 t2;exact ⟨k0.alloc _,b1.alloc _,b2.alloc _,by rw [<- hs];exact Box.new _ _ _,by rw [<- hs];simp⟩

theorem re (w:World) (v1 v2 v3 v4:Value) (t1 t2 t3 t4:TypeId):Kept af w ((((w.alloc (.cells #[v1] t1)).alloc (.cells #[v2] t2)).alloc (.cells #[v3] t3)).alloc (.cells #[v4] t4))/\Box ((((w.alloc (.cells #[v1] t1)).alloc (.cells #[v2] t2)).alloc (.cells #[v3] t3)).alloc (.cells #[v4] t4)) w.heap.size v1 t1/\Box ((((w.alloc (.cells #[v1] t1)).alloc (.cells #[v2] t2)).alloc (.cells #[v3] t3)).alloc (.cells #[v4] t4)) (w.heap.size+1) v2 t2/\Box ((((w.alloc (.cells #[v1] t1)).alloc (.cells #[v2] t2)).alloc (.cells #[v3] t3)).alloc (.cells #[v4] t4)) (w.heap.size+1+1) v3 t3/\Box ((((w.alloc (.cells #[v1] t1)).alloc (.cells #[v2] t2)).alloc (.cells #[v3] t3)).alloc (.cells #[v4] t4)) (w.heap.size+1+1+1) v4 t4/\((((w.alloc (.cells #[v1] t1)).alloc (.cells #[v2] t2)).alloc (.cells #[v3] t3)).alloc (.cells #[v4] t4)).heap.size=w.heap.size+1+1+1+1:=by
 obtain ⟨k0,b1,b2,b3,hs⟩:=tV w v1 v2 v3 t1 t2 t3;exact ⟨k0.alloc _,b1.alloc _,b2.alloc _,b3.alloc _,by rw [<- hs];exact Box.new _ _ _,by rw [<- hs];simp⟩

theorem zZ (w:World) (v1 v2 v3 v4 v5:Value) (t1 t2 t3 t4 t5:TypeId):Kept af w (((((w.alloc (.cells #[v1] t1)).alloc (.cells #[v2] t2)).alloc (.cells #[v3] t3)).alloc (.cells #[v4] t4)).alloc (.cells #[v5] t5))/\Box (((((w.alloc (.cells #[v1] t1)).alloc (.cells #[v2] t2)).alloc (.cells #[v3] t3)).alloc (.cells #[v4] t4)).alloc (.cells #[v5] t5)) w.heap.size v1 t1/\Box (((((w.alloc (.cells #[v1] t1)).alloc (.cells #[v2] t2)).alloc (.cells #[v3] t3)).alloc (.cells #[v4] t4)).alloc (.cells #[v5] t5)) (w.heap.size+1) v2 t2/\Box (((((w.alloc (.cells #[v1] t1)).alloc (.cells #[v2] t2)).alloc (.cells #[v3] t3)).alloc (.cells #[v4] t4)).alloc (.cells #[v5] t5)) (w.heap.size+1+1) v3 t3/\Box (((((w.alloc (.cells #[v1] t1)).alloc (.cells #[v2] t2)).alloc (.cells #[v3] t3)).alloc (.cells #[v4] t4)).alloc (.cells #[v5] t5)) (w.heap.size+1+1+1) v4 t4/\Box (((((w.alloc (.cells #[v1] t1)).alloc (.cells #[v2] t2)).alloc (.cells #[v3] t3)).alloc (.cells #[v4] t4)).alloc (.cells #[v5] t5)) (w.heap.size+1+1+1+1) v5 t5/\(((((w.alloc (.cells #[v1] t1)).alloc (.cells #[v2] t2)).alloc (.cells #[v3] t3)).alloc (.cells #[v4] t4)).alloc (.cells #[v5] t5)).heap.size=w.heap.size+1+1+1+1+1:=by
 obtain ⟨k0,b1,b2,b3,b4,hs⟩:=re w v1 v2 v3 v4 t1 t2 t3 t4;exact ⟨k0.alloc _,b1.alloc _,b2.alloc _,b3.alloc _,b4.alloc _,by rw [<- hs];exact Box.new _ _ _,by rw [<- hs];simp⟩

theorem EM (w:World) (v1 v2 v3 v4 v5 v6:Value) (t1 t2 t3 t4 t5 t6:TypeId):Kept af w ((((((w.alloc (.cells #[v1] t1)).alloc (.cells #[v2] t2)).alloc (.cells #[v3] t3)).alloc (.cells #[v4] t4)).alloc (.cells #[v5] t5)).alloc (.cells #[v6] t6))/\Box ((((((w.alloc (.cells #[v1] t1)).alloc (.cells #[v2] t2)).alloc (.cells #[v3] t3)).alloc (.cells #[v4] t4)).alloc (.cells #[v5] t5)).alloc (.cells #[v6] t6)) w.heap.size v1 t1/\Box ((((((w.alloc (.cells #[v1] t1)).alloc (.cells #[v2] t2)).alloc (.cells #[v3] t3)).alloc (.cells #[v4] t4)).alloc (.cells #[v5] t5)).alloc (.cells #[v6] t6)) (w.heap.size+1) v2 t2/\Box ((((((w.alloc (.cells #[v1] t1)).alloc (.cells #[v2] t2)).alloc (.cells #[v3] t3)).alloc (.cells #[v4] t4)).alloc (.cells #[v5] t5)).alloc (.cells #[v6] t6)) (w.heap.size+1+1) v3 t3/\Box ((((((w.alloc (.cells #[v1] t1)).alloc (.cells #[v2] t2)).alloc (.cells #[v3] t3)).alloc (.cells #[v4] t4)).alloc (.cells #[v5] t5)).alloc (.cells #[v6] t6)) (w.heap.size+1+1+1) v4 t4/\Box ((((((w.alloc (.cells #[v1] t1)).alloc (.cells #[v2] t2)).alloc (.cells #[v3] t3)).alloc (.cells #[v4] t4)).alloc (.cells #[v5] t5)).alloc (.cells #[v6] t6)) (w.heap.size+1+1+1+1) v5 t5/\Box ((((((w.alloc (.cells #[v1] t1)).alloc (.cells #[v2] t2)).alloc (.cells #[v3] t3)).alloc (.cells #[v4] t4)).alloc (.cells #[v5] t5)).alloc (.cells #[v6] t6)) (w.heap.size+1+1+1+1+1) v6 t6/\((((((w.alloc (.cells #[v1] t1)).alloc (.cells #[v2] t2)).alloc (.cells #[v3] t3)).alloc (.cells #[v4] t4)).alloc (.cells #[v5] t5)).alloc (.cells #[v6] t6)).heap.size=w.heap.size+1+1+1+1+1+1:=by
 obtain ⟨k0,b1,b2,b3,b4,b5,hs⟩:=zZ w v1 v2 v3 v4 v5 t1 t2 t3 t4 t5;exact ⟨k0.alloc _,b1.alloc _,b2.alloc _,b3.alloc _,b4.alloc _,b5.alloc _,by rw [<- hs];exact Box.new _ _ _,by rw [<- hs];simp⟩

end Go.Proofs.YtkaojflnghfmcaaGreatDoor
