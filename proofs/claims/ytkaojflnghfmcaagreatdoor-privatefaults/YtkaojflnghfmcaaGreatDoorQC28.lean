/- Put together of: Quo1. -/
import Derived.Test.YtkaojflnghfmcaaGreatDoorQC15
import Derived.Test.YtkaojflnghfmcaaGreatDoorQC27

namespace Go.Proofs.YtkaojflnghfmcaaGreatDoor
open _root_.Go.Proofs.Tryz
set_option maxRecDepth 100000
set_option maxHeartbeats 4000000
open Go.RowKit

theorem yp {B:Nat} {a qs:List Nat} {i r d:Nat} (hi:i<a.length) (h:d*val qs B+r=val (a.drop (i+1)) B) :
  d*val ((r*B+a.getD i 0)/d :: qs) B+(r*B+a.getD i 0)%d=val (a.drop i) B:=by
 rw [fj hi,<- h];simp only [val];generalize a.getD i 0=x;have e:=ef (r*B+x) d;rw [aJ,gO d B,aJ,aF B r];omega

theorem nL {zs qs:List Nat} {j q:Nat} (h:j<zs.length):(zs.take (j+1) ++ qs).set j q=zs.take j ++ q :: qs:=by
 rw [List.set_append_left _ _ (by rw [aO];omega),ox h,gH _ _ (by rw [aO];omega),aO,show j-min j zs.length=0 by omega];simp

theorem Hi (g base L cp:Nat) (ao:Option Addr) (o:Nat) (xs zs:List Nat) (X D R:Nat) (hX:X=val xs) (hR:R=X%D) (hD:D<18446744073709551616) (p:0<D) (w:World) (ho:OwnN .u64 24 w base (.slice (some ⟨g,0,none⟩) L cp) L zs) (F:zs.length=L) (hu:Row .u64 w (.slice ao L o) xs) (q:Digs xs) (J:xs≠[]->∀ b,(Value.slice ao L o).ownBlock=some b->b≠g) (hL:L<=1000000) :
  Calls prog 264 #[.slice (some ⟨g,0,none⟩) L cp,.slice ao L o,.int .u64 (D:Nat)] w fun e w'=>e=.returned (.int .u64 (R:Nat))/\OwnN .u64 24 w' base (.slice (some ⟨g,0,none⟩) L cp) L (digs (X/D) L)/\Kept (fun b=>b=g) w w':=by
 obtain ⟨_,_,_,e1,y,_,_,_,_⟩:=hu.open;cases e1
 have eL:=aa y.out;have HU:=aa hu;have t:Hid (∀ k,xs.getD k 0<18446744073709551616):=fun k=>q.getD (by omega) _
 have HX:=aa hX;have HR:=aa hR;have v:=aa F;have HO:=aa ho;have S:=aa q;clear hu q y hX hR F ho;go_enter func264,ntmps264;go_wp2_with fail;go_loopw [7,12] (fun ra i wr=>∃ (k r:Nat) (qs:List Nat),k<=L/\r<D/\i=.int .i64 (k:Int)/\ra=.int .u64 (r:Int)/\Hid (qs.length=k)/\Digs qs/\OwnN .u64 24 wr base (.slice (some ⟨g,0,none⟩) L cp) L (zs.take (L-k) ++ qs)/\Kept (fun b=>b=g) w wr/\Hid (D*val qs+r=val (xs.drop (L-k)))) (fun _ i _=>L-(intOf i).toNat)
 case atStart=>exact ⟨0,0,[],aP _,p,rfl,rfl,rfl,Digs.nil _,by rw [dK,dI,dJ (by rw [v.out];exact leR _)];exact HO.out,aj _ _,by unfold Hid;rw [dK,dZ (by rw [eL.out];exact leR _)];rfl⟩
 case round=>
  obtain ⟨k,r,qs,hk,hr,rfl,rfl,HL,s,ho,l,HV⟩:=hrel;by_cases hkn:k<L
  ·have Z:(0:Int)<=(k:Int):=bY _;have N:(k:Int)<(L:Int):=by omega
   obtain ⟨j,hj⟩:∃ j,j=L-1-k:=⟨_,rfl⟩
   have gj:(L:Int)-1-(k:Int)=(j:Int):=by omega
   have U:(j:Int)<(L:Int):=by omega
   obtain ⟨_,_,_,e2,_,_,_,_,c⟩:=(HU.out.kept' l J).open;cases e2
   obtain ⟨b2,P,rfl,V⟩:=c j (by omega);have hx:=t.out j;have M:j<xs.length:=by rw [eL.out];omega
   have C:j<zs.length:=by rw [v.out];omega
   have f:L-k=j+1:=by omega
   have a:L-(k+1)=j:=by omega
   have E:=yp (B:=18446744073709551616) (i:=j) (r:=r) (d:=D) (qs:=qs) M (by rw [<- f];exact HV.out);have A:wr.cell? ⟨g,j,none⟩=some (.int .u64 (zs.getD j 0:Nat)):=by
    rw [World.ownsRow.cellAt ho j (by omega),bu,gD (by rw [aO];omega),dV,ah (by omega),aA,aQ C];rfl
   have Y:=World.ownsRow.frozenAt ho j;have H:=fun W=>Gr r (xs.getD j 0) D hx hD hr W
   have ab:(r*18446744073709551616+xs.getD j 0)/D<18446744073709551616:=rK hx hr;have O:(r*18446744073709551616+xs.getD j 0)%D<D:=ay _ p;have I:Hid (∀ z:Nat,OwnN .u64 24 (wr.setCell ⟨g,j,none⟩ (.int .u64 (z:Int))) base (.slice (some ⟨g,0,none⟩) L cp) L (zs.take j ++ z :: qs)):=fun z=>by
    have:=(World.ownsRow.stored ho j (.int .u64 (z:Int))).1;unfold OwnN;rw [<- nL C,<- f,bZ];exact this
   have n:=aa E;clear E c t hj;generalize (r*18446744073709551616+xs.getD j 0)/D=Q at *;generalize (r*18446744073709551616+xs.getD j 0)%D=R2 at *;generalize xs.getD j 0=x at *;generalize zs.getD j 0=z0 at *;have H1:=aa f;have H2:=aa a;have T:=aa ho;have G:=aa l;clear f a ho l;go_wp2_with fail;refine (H _).mono ?_;rintro e w7 ⟨rfl,m,rfl⟩;go_wp2_with fail;go_roundw
   case rel=>exact ⟨k+1,R2,Q :: qs,by omega,O,by go_num,rfl,by unfold Hid;rw [cI,HL.out],(fun d hd=>by rcases fC.1 hd with h | h;omega;exact s d h),by rw [H2.out];exact I.out Q,(G.out.setCell ⟨g,j,none⟩ (fun _=>rfl) _).drewN m,by unfold Hid;rw [H2.out];exact n.out⟩
   case measure=>simp [intOf];omega
  ·have N:¬ (k:Int)<(L:Int):=by omega
   obtain rfl:k=L:=by omega
   have e:=HV.out;rw [bJ,gC,<- HX.out] at e;rw [bJ,mx,bw] at ho;have e1:val qs=X/D:=by rw [<- e,fH p,bj hr,aU]
   have e2:r=R:=by rw [HR.out,<- e,i9,ax hr]
   have e3:qs=digs (X/D) k:=b8 (by omega) s HL.out (by rw [<- e1,ax];have:=aE (by omega) s;rwa [HL.out] at this);have E2:=aa e2;have E3:=aa e3;clear t e e1 e2 e3 HV;go_wp2_with fail;go_ret;rw [<- E2.out,<- E3.out];exact ⟨rfl,ho,l⟩

theorem og {x c s:Nat} (hs:s<=63) (hx:x<18446744073709551616) (hc:c<2^s) :
  bits .or .u64 (IntKind.u64.wrap ((x:Int)*2^s)) (c:Int)=(((x*2^s)%18446744073709551616+c:Nat):Int)/\(x*2^s)%18446744073709551616+c<18446744073709551616/\(x*2^s)%18446744073709551616+c+18446744073709551616*(x/2^(64-s))=x*2^s+c/\x/2^(64-s)<2^s:=by
 have hp:(18446744073709551616:Nat)=2^(64-s)*2^s:=by rw [<- aN,show 64-s+s=64 by omega]
 have h1:(x*2^s)%18446744073709551616=2^s*(x%2^(64-s)):=by
  rw [hp,Nat.mul_mod_mul_right,aF]
 have h2:x*2^s/18446744073709551616=x/2^(64-s):=by
  rw [hp,Nat.mul_div_mul_right _ _ (aC (by omega))]
 have h3:x%2^(64-s)+1<=2^(64-s):=ay _ (aC (by omega));have h4:2^s*(x%2^(64-s)+1)<=18446744073709551616:=by
  rw [hp,aF (2^(64-s))];exact bi _ h3
 rw [aJ,bD] at h4;have a:(x*2^s)%18446744073709551616+c<18446744073709551616:=by rw [h1];omega
 refine ⟨?_,a,?_,?_⟩
 ·rw [show (x:Int)*2^s=((x*2^s:Nat):Int) by simp,IntKind.wrap_u64,show ((x*2^s:Nat):Int)%18446744073709551616=(((x*2^s)%18446744073709551616:Nat):Int) by omega,u64_or_nat _ _ (by omega) (by omega),h1,<- ki hc]
 ·rw [<- h2];generalize x*2^s=y;omega
 ·rw [cj (aC (by omega)),<- aN,show s+(64-s)=64 by omega];exact hx

theorem rI (ao:Option Addr) (L r:Nat) (xs:List Nat) (X s n:Nat) (hX:X=val xs) (hs:s<=63) (w:World) (hu:Row .u64 w (.slice ao L r) xs) (f:Digs xs) (hn:n<=1000000) (A:L<=n) :
  Calls prog 266 #[.slice ao L r,.int .i64 (s:Nat),.int .i64 (n:Nat)] w fun e w'=>e=.returned (.slice (some ⟨w.heap.size,0,none⟩) n n)/\OwnN .u64 24 w' w.heap.size (.slice (some ⟨w.heap.size,0,none⟩) n n) n (digs (X*2^s) n)/\Kept af w w':=by
 obtain ⟨i0,E,J,M,N⟩:=info_parts Tryz.info24;obtain ⟨_,_,_,e1,l,_,_,_,_⟩:=hu.open;cases e1
 have B:Hid (X<18446744073709551616^n):=by unfold Hid;rw [hX];exact em f (by rw [l.out];exact A)
 have a:Hid (∀ k,dig X k=xs.getD k 0):=fun k=>by rw [hX];exact cS (by omega) f k
 have j:Hid (∀ k,xs.getD k 0<18446744073709551616):=fun k=>f.getD (by omega) _
 have HU:=aa hu;have eL:=aa l.out;clear hX hu f l;go_enter func266,ntmps266;go_wp2_with (at_make;refine wpList_make_full _ rfl _ _ 23 rfl w.heap.size 24 i0 _ 1 underlying23 E J M _ _ _ _ n rfl rfl rfl rfl (by rw [N];omega) (by unfold maxLen;omega) (leR _) ?_;intro w1 m t);rw [bg] at m;have k1:=aV t;clear t;obtain ⟨s2,v⟩:∃ s2,s2=64-s:=⟨_,rfl⟩
 have P:(s:Int)<=64:=by omega
 have Q:IntKind.i64.wrap (64-(s:Int))=(s2:Int):=by rw [IntKind.wrap_i64];omega
 have R:(s2:Int)<=64:=by omega
 have p:=aa v;clear v;go_loopw [8,14] (fun bl i wr=>∃ (k x':Nat) (os:List Nat),k<=n/\x'<18446744073709551616/\i=.int .i64 (k:Int)/\bl=.int .u64 (x':Int)/\Hid (os.length=k)/\Digs os/\OwnN .u64 24 wr w.heap.size (.slice (some ⟨w.heap.size,0,none⟩) n n) n (os ++ List.replicate (n-k) 0)/\Kept af w wr /\
   Hid (val os+18446744073709551616^k*(x'/2^s2)=0%18446744073709551616^k+X%18446744073709551616^k*2^s)) (fun _ i _=>n-(intOf i).toNat)
 case atStart=>exact ⟨0,0,[],aP _,by omega,rfl,rfl,rfl,Digs.nil _,by rw [bw,dK];exact m,k1,by unfold Hid;simp [val,Nat.mod_one]⟩
 case round=>
  clear m k1;obtain ⟨k,x',os,hk,H,rfl,rfl,HL,o,ho,g,HV⟩:=hrel;by_cases hkn:k<n
  ·have T:(0:Int)<=(k:Int):=bY _;have F:(k:Int)<(n:Int):=by omega
   have S:=iR ho HL.out hkn;have hf:=World.ownsRow.frozenAt ho k;have q:Hid (∀ u:Nat,OwnN .u64 24 (wr.setCell ⟨w.heap.size,k,none⟩ (.int .u64 (u:Int))) w.heap.size (.slice (some ⟨w.heap.size,0,none⟩) n n) n ((os ++ [u]) ++ List.replicate (n-(k+1)) 0)):=fun u=>by
    have:=(World.ownsRow.stored ho k (.int .u64 (u:Int))).1;unfold OwnN;rw [<- jV os n k u HL.out hkn,bZ];exact this
   obtain ⟨c,hc⟩:∃ c,c=x'/2^s2:=⟨_,rfl⟩
   have ec:(x':Int)/2^s2=(c:Int):=by rw [hc];simp
   have D:c<2^s:=by rw [hc,p.out];exact (og hs H (c:=0) (aC (by omega))).2.2.2
   obtain ⟨x,b⟩:∃ x,x=xs.getD k 0:=⟨_,rfl⟩
   have hx:x<18446744073709551616:=by rw [b];exact j.out k
   obtain ⟨s1,s3,s4,_⟩:=og hs hx D;obtain ⟨z,y⟩:∃ z,z=(x*2^s)%18446744073709551616+c:=⟨_,rfl⟩
   rw [<- y] at s1 s3 s4;have hz:=s3;have HS:Hid (val (os ++ [z])+18446744073709551616^(k+1)*(x/2^s2)=0%18446744073709551616^(k+1)+X%18446744073709551616^(k+1)*2^s):=nF (c:=c) HL.out (by rw [hc];exact HV.out) (by rw [a.out k,<- b,show dig 0 k=0 by simp [dig],p.out,s4,aU]);clear hc y s3 s4 HV;by_cases hkL:k<L
   ·have G:(k:Int)<(L:Int):=by omega
    obtain ⟨_,_,_,e2,_,_,_,_,d⟩:=(HU.out.grew g).open;cases e2
    obtain ⟨b2,O,rfl,C⟩:=d k hkL;rw [<- b] at C;clear d b j a;go_wp2_with fail;go_region
    all_goals
     go_wp2_with fail;go_roundw
     case rel=>exact ⟨k+1,x,os ++ [z],by omega,hx,by go_num,rfl,by unfold Hid;rw [aZ,HL.out];rfl,o.append (Digs.one hz),q.out z,(g.setCell _ (fun h=>by simp at h) _).drew,HS.out⟩
     case measure=>simp [intOf];omega
   ·have G:¬ (k:Int)<(L:Int):=by omega
    have I:x=0:=by rw [b,aA,gF (by rw [eL.out];omega)];rfl
    subst I;have s5:bits .or .u64 0 (c:Int)=(z:Int):=by rw [<- s1];simp [IntKind.wrap_u64]
    clear b j a;go_wp2_with fail;go_region
    all_goals
     go_wp2_with fail;go_roundw
     case rel=>exact ⟨k+1,0,os ++ [z],by omega,hx,by go_num,rfl,by unfold Hid;rw [aZ,HL.out];rfl,o.append (Digs.one hz),q.out z,(g.setCell _ (fun h=>by simp at h) _).drew,HS.out⟩
     case measure=>simp [intOf];omega
  ·have F:¬ (k:Int)<(n:Int):=by omega
   obtain rfl:k=n:=by omega
   have e:=HV.out;rw [iI,dz,ax B.out] at e;rw [bJ,eH,dI] at ho;obtain ⟨e1,_⟩:=rR (by omega) HL.out o e;have E1:=aa e1;clear e e1 j a HV;go_wp2_with fail;go_ret;rw [<- E1.out];exact ⟨rfl,ho,g⟩

theorem zq {B U V Q k a b l a' z b':Nat} {os:List Nat} (hl:os.length=k) (h:val os B+V%B^k*Q=U%B^k+B^k*(a+b)) (h1:l+B*a'=dig V k B*Q+a) (h2:z+l+b=dig U k B+B*b') :
  val (os ++ [z]) B+V%B^(k+1)*Q=U%B^(k+1)+B^(k+1)*(a'+b'):=by
 rw [cZ,hl,eK,eK,aH,bf,cJ,bf];have e1:B^k*(l+B*a')=B^k*(dig V k B*Q+a):=by rw [h1]
 have e2:B^k*(z+l+b)=B^k*(dig U k B+B*b'):=by rw [h2]
 rw [aJ] at h;rw [aJ,aJ] at e1;rw [aJ,aJ,aJ] at e2;rw [aJ B,aJ];omega

theorem BF {B U V Q n a b z b':Nat} {os:List Nat} (hl:os.length=n) (hV:V<B^n) (hU:U<B^(n+1)) (h:val os B+V%B^n*Q=U%B^n+B^n*(a+b)) (h2:z+a+b=dig U n B+B*b') :
  val (os ++ [z]) B+V*Q=U+B^(n+1)*b':=by
 have e3:U%B^(n+1)=U:=ax hU;rw [eK] at e3;rw [cZ,hl];rw [ax hV] at h;have e2:B^n*(z+a+b)=B^n*(dig U n B+B*b'):=by rw [h2]
 rw [aJ,aJ,aJ,<- bf,<- aH] at e2;simp only [Nat.succ_eq_add_one] at e2;rw [aJ] at h;omega

theorem Dk (g base N o j n c Q:Nat) (zs ys:List Nat) (v:Value) (w:World) (ho:OwnN .u64 24 w base (.slice (some ⟨g,0,none⟩) N o) N zs) (J:zs.length=N) (r:Digs zs) (hj:j+(n+1)<=N) (hN:N<=100000000)
  (hv:Row .u64 w v ys) (D:ys.length=n) (q:Digs ys) (H:ys≠[]->∀ b,v.ownBlock=some b->b≠g) (hQ:Q<18446744073709551616) :
  Calls prog 276 #[.slice (some ⟨g,j,none⟩) (n+1) c,v,.int .u64 (Q:Nat)] w fun e w'=>∃ b:Nat,e=.returned (.int .u64 (b:Nat))/\b<=1/\∃ os:List Nat,os.length=n+1/\Digs os/\val os+val ys*Q=val ((zs.drop j).take (n+1))+18446744073709551616^(n+1)*b /\
   OwnN .u64 24 w' base (.slice (some ⟨g,0,none⟩) N o) N (zs.take j ++ (os ++ zs.drop (j+(n+1))))/\Kept (fun b=>b=g) w w':=by
 have hX:=oK (j:=j) (n:=n+1) r;have hY:val ys<18446744073709551616^n:=by rw [<- D];exact aE (by omega) q
 have p:Hid (∀ k,k<n+1->dig (val ((zs.drop j).take (n+1))) k=zs.getD (j+k) 0):=fun k hk=>pE r hk
 have A:Hid (∀ k,dig (val ys) k=ys.getD k 0):=fun k=>cS (by omega) q k
 have E:Hid (∀ k,zs.getD (j+k) 0<18446744073709551616):=fun k=>r.getD (by omega) _
 have C:Hid (∀ k,ys.getD k 0<18446744073709551616):=fun k=>q.getD (by omega) _
 have d:Hid (∀ W',Kept (fun b=>b=g) w W'->Row .u64 W' v ys):=fun W' k=>hv.kept' k H
 generalize val ((zs.drop j).take (n+1))=X at *;generalize val ys=Y at *;have HX:=aa hX;have HY:=aa hY;have G:=aa J;have HO:=aa ho;obtain ⟨bo,m,bc,rfl,hM,_,_,_,_⟩:=hv.open;obtain rfl:m=n:=hM.out.symm.trans D;clear ho J hX hY D q r H hv hM;go_enter func276,ntmps276;go_wp2_with fail;go_loopw [7,9,13] (fun av bv i wr=>∃ (k a b:Nat) (os:List Nat),k<=m/\a<18446744073709551616/\b<=1/\i=.int .i64 (k:Int)/\av=.int .u64 (a:Int)/\bv=.int .u64 (b:Int)/\Hid (os.length=k)/\Digs os/\OwnN .u64 24 wr base (.slice (some ⟨g,0,none⟩) N o) N (zs.take j ++ (os ++ zs.drop (j+k)))/\Kept (fun b=>b=g) w wr /\
   Hid (val os+Y%18446744073709551616^k*Q=X%18446744073709551616^k+18446744073709551616^k*(a+b))) (fun _ _ i _=>m-(intOf i).toNat)
 case atStart=>exact ⟨0,0,0,[],aP _,by omega,by omega,rfl,rfl,rfl,rfl,Digs.nil _,by rw [aU,bw,jD];exact HO.out,aj _ _,by unfold Hid;simp [val,Nat.mod_one]⟩
 case round=>
  obtain ⟨k,a,b,os,hk,ha,hb,rfl,rfl,rfl,HL,I,ho,B,HV⟩:=hrel;have S:=jt ho G.out HL.out (by omega);have hf:=World.ownsRow.frozenAt ho (j+k);have hx:=E.out k;have F:Hid (∀ u:Nat,OwnN .u64 24 (wr.setCell ⟨g,j+k,none⟩ (.int .u64 (u:Int))) base (.slice (some ⟨g,0,none⟩) N o) N (zs.take j ++ ((os ++ [u]) ++ zs.drop (j+(k+1))))):=fun u=>by
   have:=(World.ownsRow.stored ho (j+k) (.int .u64 (u:Int))).1;unfold OwnN;rw [<- jU zs os j k u HL.out (by have:=G.out;omega),bZ];exact this
  by_cases hkn:k<m
  ·have U:(0:Int)<=(k:Int):=bY _;have O:(k:Int)<(m:Int):=by omega
   have P:(k:Int)<(m:Int)+1:=by omega
   obtain ⟨_,_,_,e2,_,_,_,_,h⟩:=(d.out wr B).open;cases e2
   obtain ⟨b2,R,rfl,T⟩:=h k hkn;have hy:=C.out k;have s:Hid (∀ l a' z b',l+18446744073709551616*a'=ys.getD k 0*Q+a->z+l+b=zs.getD (j+k) 0+18446744073709551616*b'->val (os ++ [z])+Y%18446744073709551616^(k+1)*Q=X%18446744073709551616^(k+1)+18446744073709551616^(k+1)*(a'+b')):=fun l a' z b' h1 h2=>zq HL.out HV.out (by rw [A.out k];exact h1) (by rw [p.out k (by omega)];exact h2)
   clear HV d h p A E C HO HX HY;generalize zs.getD (j+k) 0=x at *;generalize ys.getD k 0=y at *;go_wp2_with fail;refine (xV y Q a 0 hy hQ ha (by omega) _).mono ?_;rintro e w7 ⟨a',l,rfl,M,hl,L,rfl⟩;rw [aU] at L;go_wp2_with fail;refine (xW x l b hx hl hb _).mono ?_;rintro e w8 ⟨z,b',rfl,hz,t,f,rfl⟩;go_wp2_with fail;go_roundw
   case rel=>exact ⟨k+1,a',b',os ++ [z],by omega,M,t,by go_num,rfl,rfl,by unfold Hid;rw [aZ,HL.out];rfl,I.append (Digs.one hz),F.out z,B.setCell _ (fun _=>rfl) _,s.out l a' z b' L f⟩
   case measure=>simp [intOf];omega
  ·have O:¬ (k:Int)<(m:Int):=by omega
   obtain rfl:k=m:=by omega
   have P:(k:Int)<(k:Int)+1:=by omega
   have s:Hid (∀ z b',z+a+b=zs.getD (j+k) 0+18446744073709551616*b'->val (os ++ [z])+Y*Q=X+18446744073709551616^(k+1)*b'):=fun z b' h2=>BF HL.out HY.out HX.out HV.out (by rw [p.out k (by omega)];exact h2)
   clear HV d p A E C HO HX HY;generalize zs.getD (j+k) 0=x at *;go_wp2_with fail;refine (xW x a b hx ha hb _).mono ?_;rintro e w8 ⟨z,b',rfl,hz,t,f,rfl⟩;go_wp2_with fail;go_ret;exact ⟨b',rfl,t,os ++ [z],by rw [aZ,HL.out];rfl,I.append (Digs.one hz),s.out z b' f,F.out z,B.setCell _ (fun _=>rfl) _⟩

theorem xY {p u l h lo:Nat} (a:lo<18446744073709551616) (hl:l<18446744073709551616) (e:lo+18446744073709551616*h=p):(u*18446744073709551616+l<p)↔(u<h\/(h=u/\l<lo)):=by
 constructor <;> intro hh <;> omega

theorem Ft (a b u l:Nat) (ha:a<18446744073709551616) (hb:b<18446744073709551616) (hl:l<18446744073709551616) (R:Bool) (hR:R=decide (u*18446744073709551616+l<a*b)) (w:World) :
  Calls prog 278 #[.int .u64 (a:Nat),.int .u64 (b:Nat),.int .u64 (u:Nat),.int .u64 (l:Nat)] w fun e w'=>e=.returned (.bool R)/\w'=w:=by
 have hM:=xV a b 0 0 ha hb (by omega) (by omega);have HR:=aa hR;clear hR;go_enter func278,ntmps278;go_wp2_with fail;refine (hM _).mono ?_;rintro e w1 ⟨h,lo,rfl,hh,c,d,rfl⟩;have hi:=xY (u:=u) (p:=a*b) c hl (by omega);clear d hM;by_cases c1:u<h
 ·have g1:(u:Int)<(h:Int):=by omega
  have hT:Hid (R=true):=by unfold Hid;rw [HR.out];exact dL (hi.2 (.inl c1))
  clear hi;go_wp2_with fail;go_ret;rw [hT.out];exact ⟨rfl,rfl⟩
 ·have g1:¬ (u:Int)<(h:Int):=by omega
  by_cases c2:h=u
  ·subst c2;have g2:((h:Int) == (h:Int))=true:=by simp
   have hT:Hid (R=decide (l<lo)):=by unfold Hid;rw [HR.out];exact decide_eq_decide.2 (hi.trans ⟨fun x=>by omega,fun x=>.inr ⟨rfl,x⟩⟩)
   clear hi;by_cases c3:l<lo
   ·have g3:(l:Int)<(lo:Int):=by omega
    rw [dL c3] at hT;go_wp2_with fail;go_ret;rw [hT.out];exact ⟨rfl,rfl⟩
   ·have g3:¬ (l:Int)<(lo:Int):=by omega
    rw [cP c3] at hT;go_wp2_with fail;go_ret;rw [hT.out];exact ⟨rfl,rfl⟩
  ·have g2:((h:Int) == (u:Int))=false:=by simp;omega
   have hT:Hid (R=false):=by unfold Hid;rw [HR.out];exact cP (fun x=>by have:=hi.1 x;omega)
   clear hi;go_wp2_with fail;go_ret;rw [hT.out];exact ⟨rfl,rfl⟩

theorem Fv (u2 u1 u0 v1 v0:Nat) (h1:u1<18446744073709551616) (h0:u0<18446744073709551616) (p:v1<18446744073709551616) (l:v0<18446744073709551616) (hn:9223372036854775808<=v1) (w:World) :
  Calls prog 275 #[.int .u64 (u2:Nat),.int .u64 (u1:Nat),.int .u64 (u0:Nat),.int .u64 (v1:Nat),.int .u64 (v0:Nat)] w fun e w'=>∃ q:Nat,e=.returned (.int .u64 (q:Nat))/\q<18446744073709551616/\((v1<=u2/\q=18446744073709551615)\/(u2<v1/\q=(((u2*18446744073709551616+u1)*18446744073709551616+u0)/(v1*18446744073709551616+v0))))/\∃ m,w'=w.drewN m:=by
 by_cases hc:v1<=u2
 ·have g:(v1:Int)<=(u2:Int):=by omega
  go_enter func275,ntmps275;go_wp2_with fail;go_ret;exact ⟨18446744073709551615,rfl,by omega,.inl ⟨hc,rfl⟩,0,rfl⟩
 ·have g:¬ (v1:Int)<=(u2:Int):=by omega
  have i:=Gr u2 u1 v1 h1 p (by omega) w;have hU:u2*18446744073709551616+u1<v1*18446744073709551616+v0:=by
   have:(u2+1)*18446744073709551616<=v1*18446744073709551616:=bI _ (by omega);omega
  have hG:=Gss.start (B:=18446744073709551616) (U:=u2*18446744073709551616+u1) (u:=u0) (y1:=v1) (y0:=v0) (by omega) h0 (by omega) l hU;have o:(u2*18446744073709551616+u1)/v1<18446744073709551616:=rK h1 (by omega);have v:(u2*18446744073709551616+u1)%v1<v1:=ay _ (by omega);obtain ⟨q0,b⟩:∃ q0,q0=(u2*18446744073709551616+u1)/v1:=⟨_,rfl⟩
  obtain ⟨r0,k⟩:∃ r0,r0=(u2*18446744073709551616+u1)%v1:=⟨_,rfl⟩
  rw [<- b,<- k] at i hG;rw [<- b] at o;rw [<- k] at v;clear b k;have HG:=aa hG;have HU:=aa hU;have h:Hid (u2<v1):=by unfold Hid;omega
  clear hG hU;go_enter func275,ntmps275;go_wp2_with fail;refine i.mono ?_;rintro e w1 ⟨rfl,m,rfl⟩;clear i;go_wp2_with fail;go_loop [11,12,13] (fun qv rv cv=>∃ q r c:Nat,q<18446744073709551616/\r<18446744073709551616/\c<=1/\qv=.int .u64 (q:Int)/\rv=.int .u64 (r:Int)/\cv=.int .u64 (c:Int)/\Hid (Gss 18446744073709551616 (u2*18446744073709551616+u1) u0 v1 v0 q (r+18446744073709551616*c))) (fun qv _ _=>(intOf qv).toNat)
  case atStart=>exact ⟨q0,r0,0,o,by omega,by omega,rfl,rfl,rfl,by rw [cG,aU];exact HG⟩
  case round=>
   clear HG;obtain ⟨q,r,c,hq,hr,y,rfl,rfl,rfl,HG⟩:=hrel;by_cases c0:c=0
   ·subst c0;have a:=HG.out;rw [cG,aU] at a;have f:=Ft q v0 r u0 hq l h0;by_cases ct:r*18446744073709551616+u0<q*v0
    ·have hA:=fun W=>f true (dL ct).symm W
     obtain ⟨b,j⟩:=a.next h0 HU.out (.inr (by rw [aF];exact ct));obtain ⟨q',n⟩:∃ q',q=q'+1:=⟨q-1,by omega⟩
     rw [show q-1=q' by omega] at j;have k8:IntKind.u64.wrap ((q:Int)-1)=(q':Int):=by rw [IntKind.wrap_u64];omega
     have HQ:=aa n;have s:=aa j;clear f HG a j b ct n;go_wp2_with fail;refine (hA _).mono ?_;rintro e w2 ⟨rfl,rfl⟩;clear hA;go_wp2_with fail;refine (BQ r v1 0 hr p (by omega) _).mono ?_;rintro e w3 ⟨z,c',rfl,hz,t,x,rfl⟩;go_wp2_with fail;go_round
     case rel=>exact ⟨q',z,c',by have:=HQ.out;omega,hz,t,rfl,rfl,rfl,by rw [x,aU];exact s⟩
     case measure=>have:=HQ.out;simp [intOf];omega
    ·have hA:=fun W=>f false (cP ct).symm W
     have d:=aa (a.stop (by omega) (by rw [aF 18446744073709551616 r];omega));clear f HG a ct;go_wp2_with fail;refine (hA _).mono ?_;rintro e w2 ⟨rfl,rfl⟩;clear hA;go_wp2_with fail;go_ret;exact ⟨q,rfl,hq,(by first | exact .inr ⟨h.out,d.out⟩ | exact ⟨h.out,d.out⟩),m,rfl⟩
   ·have c1:c=1:=by omega
    subst c1;have d:=aa (HG.out.stop (by omega) (Gss.over (by omega) l (by omega)));clear HG;go_wp2_with fail;go_ret;exact ⟨q,rfl,hq,(by first | exact .inr ⟨h.out,d.out⟩ | exact ⟨h.out,d.out⟩),m,rfl⟩

theorem uY {B:Nat} (hB:0<B) {us:List Nat} (hd:Digs us B) {n:Nat} (hl:us.length=n+3) :
  val us B=((us.getD (n+2) 0*B+us.getD (n+1) 0)*B+us.getD n 0)*B^n+val (us.take n) B/\val (us.take n) B<B^n:=by
 have h0:=aW B us n (by omega);have hlt:=aE hB (hd.take n);rw [aO,cL (by omega)] at hlt;refine ⟨?_,hlt⟩;rw [fj (by omega),fj (by omega),fj (by omega),dZ (by omega)] at h0;simp only [val,cG,aU] at h0;rw [h0,j6]
 congr 1
 rw [aF (B^n)]
 congr 1
 rw [aJ,cJ,aF B (us.getD (n+1) 0),aF B (us.getD (n+2) 0),aF B (us.getD (n+2) 0*B)];omega

theorem tH {B:Nat} (hB:0<B) {vs:List Nat} (hd:Digs vs B) {n:Nat} (hl:vs.length=n+2) :
  val vs B=(vs.getD (n+1) 0*B+vs.getD n 0)*B^n+val (vs.take n) B/\val (vs.take n) B<B^n:=by
 have h0:=aW B vs n (by omega);have hlt:=aE hB (hd.take n);rw [aO,cL (by omega)] at hlt;refine ⟨?_,hlt⟩;rw [fj (by omega),fj (by omega),dZ (by omega)] at h0;simp only [val,cG,aU] at h0;rw [h0,j6]
 congr 1
 rw [aF (B^n)]
 congr 1
 rw [aF B (vs.getD (n+1) 0)];omega

theorem CT {B v0 vl n:Nat} (h:v0<B) (hl:vl<B^n):v0*B^n+vl<B^(n+1):=by
 have h1:(v0+1)*B^n<=B*B^n:=bI _ h;rw [cJ,jF] at h1;rw [aH,aF (B^n)];omega

theorem BO (B a b n ul:Nat):(a*B+b)*B^n+ul=a*B^(n+1)+(b*B^n+ul):=by
 rw [cJ,bf a,aH,aF (B^n) B,iG]

theorem An {us vs:List Nat} {n q:Nat} (a:Digs us) (c:Digs vs) (f:us.length=n+3) (g:vs.length=n+2) (hn:9223372036854775808<=vs.getD (n+1) 0) (hlt:val us<val vs*18446744073709551616)
  (hq:q<18446744073709551616) (h:(vs.getD (n+1) 0<=us.getD (n+2) 0/\q=18446744073709551615)\/(us.getD (n+2) 0<vs.getD (n+1) 0/\q=((us.getD (n+2) 0*18446744073709551616+us.getD (n+1) 0)*18446744073709551616+us.getD n 0)/(vs.getD (n+1) 0*18446744073709551616+vs.getD n 0))) :
  val us/val vs<=q/\q<=val us/val vs+1:=by
 have d:18446744073709551616<=2*vs.getD (n+1) 0:=by omega
 have e:18446744073709551616<=vs.getD (n+1) 0*18446744073709551616+vs.getD n 0:=by omega
 obtain ⟨e1,l1⟩:=uY (by omega) a f;obtain ⟨e2,l2⟩:=tH (by omega) c g;have b0:=a.getD (by omega) n;have b1:=a.getD (by omega) (n+1);have b2:=c.getD (by omega) n;generalize val us=U at *;generalize val vs=V at *;generalize val (us.take n)=ul at *;generalize val (vs.take n)=vl at *;generalize us.getD (n+2) 0=u2 at *;generalize us.getD (n+1) 0=u1 at *;generalize us.getD n 0=u0 at *;generalize vs.getD (n+1) 0=v1 at *;generalize vs.getD n 0=v0 at *;rcases h with ⟨h1,rfl⟩ | ⟨h1,h2⟩
 ·have hU:U=(u2*18446744073709551616+u1)*(18446744073709551616^(n+1))+(u0*18446744073709551616^n+ul):=by
   rw [e1];exact BO _ _ _ _ _
  have hV:V=v1*18446744073709551616^(n+1)+(v0*18446744073709551616^n+vl):=by
   rw [e2];exact BO _ _ _ _ _
  have b:v0*18446744073709551616^n+vl<18446744073709551616^(n+1):=CT b2 l2;have h3:v1*18446744073709551616<=u2*18446744073709551616+u1:=by
   exact aR (bI _ h1) (Nat.le_add_right _ _)
  exact uC hU hV b hlt d (by decide) h3
 ·have hQ:((u2*18446744073709551616+u1)*18446744073709551616+u0)/(v1*18446744073709551616+v0)<=18446744073709551616:=by rw [<- h2];exact fE hq
  have:=yB (B:=18446744073709551616) e1 l1 e2 l2 e (by decide) hQ;rw [<- h2] at this;exact this

theorem zF {B:Nat} (hB:0<B) {os:List Nat} {V U q R M:Nat} (f:os.length=M+1) (c:Digs os B) (hV:V<B^M) (a:val os B+V*(q+1)=U+B^(M+1)) (hR:V*q+R=U) (e:R<V) :
  os.getD M 0+(val (os.take M) B+V)/B^M=B/\digs (val (os.take M) B+V) M B=digs R M B/\digs R (M+1) B=digs R M B ++ [0]:=by
 have e1:=aW B os M (by omega);rw [fj (by omega),dZ (by omega)] at e1;simp only [val,cG,aU] at e1;have hlt:=aE hB (c.take M);rw [aO,cL (by omega)] at hlt;have ht:os.getD M 0<B:=c.getD hB M;generalize val (os.take M) B=lo at *;generalize os.getD M 0=top at *;rw [e1,aJ,bD,aH] at a;have hp:0<B^M:=aC hB;have b:R<B^M:=by omega
 generalize hP:B^M=P at *;have hS:lo+V=R+P*(B-top):=by
  have h1:P*(B-top)=P*B-P*top:=j8 P B top;have h2:P*top<=P*B:=bi _ (by omega);omega
 have d:(lo+V)/P=B-top:=by rw [hS,jm _ _ hp,bj b,dz]
 refine ⟨by rw [d];omega,?_,?_⟩
 ·refine b8 hB (ak hB _ _) (ag _ _ _) ?_;rw [aB,hP,hS,eW]
 ·rw [digs]
  congr 1
  rw [dig,hP,bj b,iI]

theorem Eu (g base N l j n n1 M c:Nat) (J:n1=n+1) (hM:M=n+2) (zs vs:List Nat) (bo:Option Addr) (bc U V Q R:Nat) (w:World) (ho:OwnN .u64 24 w base (.slice (some ⟨g,0,none⟩) N l) N zs) (T:zs.length=N) (s:Digs zs) (hj:j+(M+1)<=N) (hN:N<=100000000) (aR:M+1<=c)
  (hv:Row .u64 w (.slice bo M bc) vs) (x:Digs vs) (ad:∀ b,(Value.slice bo M bc).ownBlock=some b->b≠g) (hn:9223372036854775808<=vs.getD n1 0) (hU:U=val ((zs.drop j).take (M+1))) (hV:V=val vs) (hlt:U<V*18446744073709551616) (hQ:Q=U/V) (hR:R=U%V) :
  Calls prog 267 #[.slice (some ⟨g,j,none⟩) (M+1) c,.slice bo M bc] w fun e w'=>e=.returned (.int .u64 (Q:Nat)) /\
   OwnN .u64 24 w' base (.slice (some ⟨g,0,none⟩) N l) N (zs.take j ++ (digs R (M+1) ++ zs.drop (j+(M+1))))/\Kept (fun b=>b=g) w w':=by
 obtain ⟨_,_,_,e1,E,_,_,_,o⟩:=hv.open;cases e1
 have eV:=aa E.out;have al:((zs.drop j).take (M+1)).length=n+3:=by rw [aO,b9,T];omega
 have ak:Digs ((zs.drop j).take (M+1)):=(s.drop j).take _;have z:∀ k,k<M+1->((zs.drop j).take (M+1)).getD k 0=zs.getD (j+k) 0:=fun k hk=>by rw [aA,dV,ah hk,et,<- aA]
 have y:∀ k,k<M+1->w.cell? ⟨g,j+k,none⟩=some (.int .u64 (zs.getD (j+k) 0:Nat)):=fun k hk=>by
  rw [World.ownsRow.cellAt ho (j+k) (by omega),bu,aA,aQ (by omega)];rfl
 have F:=aa (fun q hq h=>An (q:=q) (n:=n) ak x al (E.out.trans hM) (by rw [<- J];exact hn) (by rw [<- hU,<- hV];exact hlt) hq h);rw [<- hU,<- hV,<- hM,<- J,z M (by omega),z n1 (by omega),z n (by omega)] at F;have av:=y M (by omega);have au:=y n1 (by omega);have ar:=y n (by omega);obtain ⟨b2,p,rfl,az⟩:=o n1 (by omega);obtain ⟨_,_,e2,aw⟩:=o n (by omega);cases e2
 have aK:=s.getD (by omega) (j+M);have aq:=s.getD (by omega) (j+n1);have ap:=s.getD (by omega) (j+n);have aC:=x.getD (by omega) n1;have aB:=x.getD (by omega) n;have hG:=fun W=>Fv (zs.getD (j+M) 0) (zs.getD (j+n1) 0) (zs.getD (j+n) 0) (vs.getD n1 0) (vs.getD n 0) aq ap aC aB hn W
 have ac:0<V:=by
  rcases cF V with h | h
  ·rw [h] at hlt;omega
  ·exact h
 have aL:IntKind.i64.wrap ((M:Int)-1)=(n1:Int):=by rw [IntKind.wrap_i64];omega
 have aM:IntKind.i64.wrap ((M:Int)-2)=(n:Int):=by rw [IntKind.wrap_i64];omega
 have g1:(M:Int)<(M:Int)+1:=by omega
 have g2:(n1:Int)<(M:Int)+1:=by omega
 have g3:(n:Int)<(M:Int)+1:=by omega
 have g4:(n1:Int)<(M:Int):=by omega
 have g5:(n:Int)<(M:Int):=by omega
 have HO:=aa ho;have D:=aa T;have X:=aa s;have HV:=aa hv;have B:=aa x;have HU:=aa hU;have C:=aa hV;have HQ:=aa hQ;have HR:=aa hR;have A:=aa ad;have HM:=aa hM;clear ho T s hv x hU hV hQ hR E o al ak z y hn ad J hM;generalize zs.getD (j+M) 0=u2 at *;generalize zs.getD (j+n1) 0=u1 at *;generalize zs.getD (j+n) 0=u0 at *;generalize vs.getD n1 0=v1 at *;generalize vs.getD n 0=v0 at *;go_enter func267,ntmps267;go_wp2_with fail;go_still_tail 24,(by kernel_rfl)
 change wpList _ _ _ _ _ w.drew
 go_wp2_with fail;refine (hG _).mono ?_;rintro e w1 ⟨q,rfl,hq,ai,m,rfl⟩;obtain ⟨t1,t2⟩:=F.out q hq ai;have hS:=Dk g base N l j M c q zs vs (.slice (some ⟨b2,p,none⟩) M bc) (w.drew.drewN m) (((aj af w).drew.drewN m).own HO.out (fun _ _ f=>f)) D.out X.out hj hN (HV.out.grew ((aj af w).drew.drewN m)) eV.out B.out (fun _=>A.out) hq;rw [<- HU.out,<- C.out] at hS;have k1:=(aj (fun b=>b=g) w).drew.drewN m;generalize w.drew.drewN m=W1 at *;clear hG F ai av au ar az aw;go_wp2_with fail;refine hS.mono ?_;rintro e w2 ⟨b,rfl,hb,os,r,v,d,t,k2⟩;clear hS;by_cases hb1:b=1
 ·subst hb1;rw [bD] at d;have ab:V<18446744073709551616^M:=by
   rw [C.out,<- eV.out];exact aE (by omega) B.out
  have H:=ef U V;rw [<- HQ.out,<- HR.out] at H;rw [<- HQ.out] at t1 t2;have Z:R<V:=by rw [HR.out];exact ay _ ac
  have O:val os<18446744073709551616^(M+1):=by
   have:=aE (by omega) v
   rwa [r] at this
  have aJ:q=Q+1:=by
   have h1:q≠Q:=fun e=>by
    rw [e] at d;exact absurd d (Nat.ne_of_lt (by omega))
   exact Nat.le_antisymm t2 (by omega)
  subst aJ;obtain ⟨a1,a2,a3⟩:=zF (by omega) r v ab d H Z;obtain ⟨a,i⟩:∃ a,a=zs.take j ++ (os ++ zs.drop (j+(M+1))):=⟨_,rfl⟩
  have I:(zs.take j).length=j:=by rw [aO,D.out];omega
  have z1:a.length=N:=by rw [i];exact rD D.out r hj
  have z2:Digs a:=by rw [i];exact jM X.out v
  have z3:a.take j=zs.take j:=by rw [i,List.take_left' I]
  have z4:a.drop j=os ++ zs.drop (j+(M+1)):=by rw [i,List.drop_left' I]
  have z5:a.drop (j+(M+1))=zs.drop (j+(M+1)):=by rw [<- iY,z4,List.drop_left' r]
  have z6:(a.drop j).take M=os.take M:=by rw [z4,List.take_append_of_le_length (by omega)]
  have z7:a.getD (j+M) 0=os.getD M 0:=by
   rw [aA,<- et,z4,gD (by omega),<- aA]
  rw [<- i] at t;obtain ⟨S,hS⟩:∃ S,S=val (os.take M)+V:=⟨_,rfl⟩
  rw [<- hS] at a1 a2;obtain ⟨R2,G⟩:∃ R2,R2=S/18446744073709551616^M:=⟨_,rfl⟩
  rw [<- G,<- z7] at a1;have Y:=fun W (kk:Kept af w2 W)=>rH g base N l j M c 1 a vs (.slice (some ⟨b2,p,none⟩) M bc) W (kk.own t (fun _ _ f=>f)) z1 z2 (by omega) ((HV.out.kept' (k1.trans k2) (fun _=>A.out)).grew kk) eV.out B.out (fun _=>A.out) (by omega) R2 S (by rw [z6,bD,<- C.out];exact hS) G
  have aP:w2.cell? ⟨g,j+M,none⟩=some (.int .u64 (a.getD (j+M) 0:Nat)):=by
   rw [World.ownsRow.cellAt t (j+M) (by omega),bu,aA,aQ (by omega)];rfl
  have aD:∀ W',OwnN .u64 24 W' base (.slice (some ⟨g,0,none⟩) N l) N (a.take j ++ (digs S M ++ a.drop (j+M)))->W'.cell? ⟨g,j+M,none⟩=some (.int .u64 (a.getD (j+M) 0:Nat)):=fun W' h=>jt h z1 (ag _ _ _) (by omega)
  have aF:∀ W',OwnN .u64 24 W' base (.slice (some ⟨g,0,none⟩) N l) N (a.take j ++ (digs S M ++ a.drop (j+M)))->W'.frozen? ⟨g,j+M,none⟩=false:=fun W' h=>World.ownsRow.frozenAt h (j+M)
  have aG:Hid (∀ W',OwnN .u64 24 W' base (.slice (some ⟨g,0,none⟩) N l) N (a.take j ++ (digs S M ++ a.drop (j+M)))->OwnN .u64 24 (W'.setCell ⟨g,j+M,none⟩ (.int .u64 0)) base (.slice (some ⟨g,0,none⟩) N l) N (zs.take j ++ (digs R (M+1) ++ zs.drop (j+(M+1))))):=fun W' h=>by
   have:=(World.ownsRow.stored h (j+M) (.int .u64 0)).1;unfold OwnN;rw [a3,<- a2,<- z3,<- z5,<- jU a _ j M 0 (ag _ _ _) (by omega),bZ];exact this
  have aH:IntKind.u64.wrap ((a.getD (j+M) 0:Nat)+(R2:Int))=0:=by rw [IntKind.wrap_u64];omega
  change ∀ W,Kept af w2 W->Calls prog 244 #[.slice (some ⟨g,j,none⟩) M c,.slice (some ⟨b2,p,none⟩) M bc,.int .u64 1] W _ at Y
  have gc:(M:Int)<=(c:Int):=by omega
  have ao:=aa (k1.trans k2);clear d H Z O a1 a2 a3 i z1 z2 z3 z4 z5 z6 z7 hS G t k1 k2 I t1 t2 ab;generalize a.getD (j+M) 0=tp at *;generalize a.take j ++ (digs S M ++ a.drop (j+M))=zs3 at *;go_wp2_with fail;go_region_with (go_at_call 244;refine (Y _ ((aj _ _).drew)).mono ?_;rintro e w3 ⟨rfl,L,k3⟩;have aN:=aD _ L;have aS:=aF _ L)
  all_goals
   go_wp2_with fail;go_ret;exact ⟨rfl,aG.out _ L,(((ao.out.drew).trans k3).setCell _ (fun _=>rfl) _)⟩
 ·have aI:b=0:=by omega
  subst aI;rw [cG,aU] at d;have P:q=Q:=by
   rw [HQ.out];exact xy ac t1 (by omega)
  have ae:os=digs R (M+1):=b8 (by omega) v r (by
   have h1:val os=R:=by
    rw [HR.out];have:=ef U V;rw [<- HQ.out,<- P] at this;omega
   rw [<- h1,ax];have:=aE (by omega) v
   rwa [r] at this)
  have an:=aa P;have am:=aa ae;clear P ae d t1 t2;go_wp2_with fail;go_ret;rw [<- an.out,<- am.out];exact ⟨rfl,t,k1.trans k2⟩

theorem oV {B:Nat} (hB:0<B) {zs a qs:List Nat} {V n j N:Nat} (hd:Digs zs B) (hl:zs.length=N) (s:a.length=N) (hj:j+(n+1)<=N) (hV:V<B^n) (l:0<V) (hR:val (zs.drop (j+1)) B<V) (c:zs.take (j+1)=a.take (j+1))
  (hinv:V*val qs B+val (zs.drop (j+1)) B=val (a.drop (j+1)) B) (U:Nat) (hU:U=val ((zs.drop j).take (n+1)) B) :
  U<V*B /\
  ∀ b,b=zs.take j ++ (digs (U%V) (n+1) B ++ zs.drop (j+(n+1))) ->
   b.length=N/\Digs b B/\b.take j=a.take j/\val (b.drop j) B<V/\V*val (U/V :: qs) B+val (b.drop j) B=val (a.drop j) B:=by
 have e1:=aW B (zs.drop (j+1)) n (by rw [b9];omega);rw [iY] at e1;have hz:val (zs.drop (j+1+n)) B=0:=by
  rcases cF (val (zs.drop (j+1+n)) B) with h | h
  ·exact h
  ·have:B^n*1<=B^n*val (zs.drop (j+1+n)) B:=bi _ h;omega
 have e2:=aW B (zs.drop j) (n+1) (by rw [b9];omega);rw [iY,show j+(n+1)=j+1+n by omega,hz,cG,aU,<- hU] at e2;have e3:=fj (B:=B) (zs:=zs) (j:=j) (by omega);have o:zs.getD j 0=a.getD j 0:=by
  have h1:(zs.take (j+1)).getD j 0=(a.take (j+1)).getD j 0:=by rw [c]
  rw [aA,aA,dV,dV,ah (by omega),ah (by omega)] at h1;rw [aA,aA];exact h1
 have p:=hd.getD hB j;have i:U=zs.getD j 0+B*val (zs.drop (j+1)) B:=e2.symm.trans e3;have k:U<V*B:=by
  rw [i];have:B*(val (zs.drop (j+1)) B+1)<=B*V:=bi _ hR;rw [aJ,bD] at this;rw [aF V];omega
 refine ⟨k,fun b e=>?_⟩;have g:(zs.take j).length=j:=by rw [aO];omega
 have d:b.drop j=digs (U%V) (n+1) B ++ zs.drop (j+(n+1)):=by rw [e,List.drop_left' g]
 have m:=ay U l;have f:val (b.drop j) B=U%V:=by
  rw [d,dX,aB,show j+(n+1)=j+1+n by omega,hz,cG,aU];apply ax;have h1:B^n<=B^(n+1):=aY hB (by omega);omega
 refine ⟨by rw [e];simp [ag];omega,by rw [e];exact (hd.take j).append ((ak hB _ _).append (hd.drop _)),?_,by omega,?_⟩
 ·rw [e,List.take_left' g];have h1:(zs.take (j+1)).take j=(a.take (j+1)).take j:=by rw [c]
  rwa [mw,mw,cL (by omega)] at h1
 ·rw [f,fj (zs:=a) (j:=j) (by omega),<- o,<- hinv];simp only [val];have h1:=ef U V;rw [aJ,gO V B,aJ];generalize U/V=q at *;generalize U%V=r at *;generalize V*val qs B=y at *;omega

theorem tf {Y K t s:Nat} (hY:Y<18446744073709551616^(K+1)) (ht:t=Y/18446744073709551616^K) (g:0<t) (hs:s=64-aM t) :
  s<=63/\Y*2^s<18446744073709551616^(K+1)/\9223372036854775808<=dig (Y*2^s) K/\9223372036854775808*18446744073709551616^K<=Y*2^s:=by
 have hp:0<18446744073709551616^K:=aC (by omega);have h:t<18446744073709551616:=by
  rw [ht,cj hp,<- j9];exact hY
 obtain ⟨f1,f2,f3⟩:=sP g h;rw [<- hs] at f1 f2 f3;have f:0<2^s:=aC (by omega);have b:t*2^s+2^s<=18446744073709551616:=by
  have c:(18446744073709551616:Nat)=2^(64-s)*2^s:=by rw [<- aN,show 64-s+s=64 by omega]
  have h1:t<2^(64-s):=Nat.lt_of_mul_lt_mul_right (a:=2^s) (by rw [<- c];exact f2);have h2:(t+1)*2^s<=2^(64-s)*2^s:=bI _ h1;rw [<- c,cJ,jF] at h2;exact h2
 have e:=ef Y (18446744073709551616^K);rw [<- ht] at e;have hm:=ay Y hp;have d:t*2^s*18446744073709551616^K<=Y*2^s:=by
  have:18446744073709551616^K*t<=Y:=by rw [<- e];exact Nat.le_add_right _ _
  have:=bI (2^s) this;rw [aF (t*2^s),<- bf];exact this
 have hlt:Y*2^s<18446744073709551616^(K+1):=by
  have h1:Y+1<=18446744073709551616^K*(t+1):=by
   rw [aJ,bD];omega
  have h2:(Y+1)*2^s<=18446744073709551616^K*(t+1)*2^s:=bI _ h1;have h3:18446744073709551616^K*((t+1)*2^s)<=18446744073709551616^K*18446744073709551616:=bi _ (by rw [cJ,jF];exact b);rw [bf] at h2;have h4:Y*2^s<(Y+1)*2^s:=mA (Nat.lt_succ_self _) f;rw [aH];exact bd h4 (aR h2 h3)
 refine ⟨f1,hlt,?_,aR (bI _ f3) d⟩;have hq:Y*2^s/18446744073709551616^K<18446744073709551616:=by
  rw [cj hp,<- j9];exact hlt
 rw [dig,ax hq];exact aR f3 ((mz hp).2 d)

theorem oY {Z s i:Nat} (hs:s<=63) :
  bits .or .u64 ((dig Z i/2^s:Nat):Int) (IntKind.u64.wrap ((dig Z (i+1):Int)*2^(64-s)))=(dig (Z/2^s) i:Int):=by
 have a:(18446744073709551616:Nat)=2^(64-s)*2^s:=by rw [<- aN,show 64-s+s=64 by omega]
 have hp:0<2^s:=aC (by omega);have l:0<2^(64-s):=aC (by omega);have b:dig Z i/2^s<2^(64-s):=by
  rw [cj hp,<- a];exact ay _ (by omega)
 have f:dig Z (i+1)=Z/18446744073709551616^i/18446744073709551616%18446744073709551616:=by
  rw [dig,aH,cK]
 have g:dig (Z/2^s) i=Z/18446744073709551616^i/2^s%18446744073709551616:=by
  rw [dig,cK,aF,<- cK]
 have c:dig Z i=Z/18446744073709551616^i%18446744073709551616:=rfl;generalize Z/18446744073709551616^i=A at *;have hA:A/2^s=2^(64-s)*(A/18446744073709551616)+A%18446744073709551616/2^s:=by
  have e:=ef A 18446744073709551616;have:A=2^s*(2^(64-s)*(A/18446744073709551616))+A%18446744073709551616:=by
   rw [<- bf,aF (2^s),<- a];exact e.symm
  rw [this,fH hp,<- this]
 have hlt:A%18446744073709551616/2^s<2^(64-s):=by rw [<- c];exact b
 have d:A/2^s%18446744073709551616=2^(64-s)*(A/18446744073709551616%2^s)+A%18446744073709551616/2^s:=by
  rw [hA];clear hA c f g b;generalize A/18446744073709551616=A1 at *;generalize A%18446744073709551616/2^s=a0 at *;rw [show (2^(64-s)*A1+a0)%18446744073709551616=(2^(64-s)*A1+a0)%(2^(64-s)*2^s) by rw [<- a],j7,i9,ax hlt,fH l,bj hlt,aU,j6]
 have h:dig Z (i+1)*2^(64-s)%18446744073709551616=2^(64-s)*(A/18446744073709551616%2^s):=by
  rw [f,aF];generalize A/18446744073709551616=A1;rw [show 2^(64-s)*(A1%18446744073709551616)%18446744073709551616=2^(64-s)*(A1%18446744073709551616)%(2^(64-s)*2^s) by rw [<- a],oB,Nat.mod_mod_of_dvd];exact ⟨2^(64-s),by rw [aF];exact a⟩
 rw [g,d,<- c];generalize dig Z i/2^s=lo at *;generalize dig Z (i+1)=d1 at *;rw [show (d1:Int)*2^(64-s)=((d1*2^(64-s):Nat):Int) by simp,IntKind.wrap_u64,show ((d1*2^(64-s):Nat):Int)%18446744073709551616=((d1*2^(64-s)%18446744073709551616:Nat):Int) by simp,h];have j:2^(64-s)*(A/18446744073709551616%2^s)<18446744073709551616:=by rw [<- h];exact ay _ (by omega)
 have k:lo<18446744073709551616:=bd b (by rw [show (18446744073709551616:Nat)=2^64 from rfl];exact aY (by omega) (by omega));rw [u64_or_nat _ _ k j,Nat.or_comm,ki b]

theorem tJ {Z s L N:Nat} (h:Z<2^s*18446744073709551616^L) (hs:s<=63) (hN:L+1<=N):Z<18446744073709551616^N:=by
 have h1:2^s<=18446744073709551616:=by rw [show (18446744073709551616:Nat)=2^64 from rfl];exact aY (by omega) (by omega)
 have h2:2^s*18446744073709551616^L<=18446744073709551616*18446744073709551616^L:=bI _ h1;have h3:18446744073709551616*18446744073709551616^L=18446744073709551616^(L+1):=(j9 ..).symm;rw [h3] at h2;exact bd h (aR h2 (aY (by omega) hN))

theorem oh {Z s L T nk V:Nat} (h:Z<2^s*18446744073709551616^L) (hs:s<=63) (hV:9223372036854775808*18446744073709551616^nk<=V) (hT:L<=nk+T):Z/18446744073709551616^T<V:=by
 rw [cj (aC (by omega))];have h1:2^s<=9223372036854775808:=by rw [show (9223372036854775808:Nat)=2^63 from rfl];exact aY (by omega) hs
 have h2:18446744073709551616^L<=18446744073709551616^(nk+T):=aY (by omega) hT;have h3:2^s*18446744073709551616^L<=9223372036854775808*18446744073709551616^(nk+T):=fh h1 h2;rw [aN,<- bf] at h3;exact bd h (aR h3 (bI _ hV))

end Go.Proofs.YtkaojflnghfmcaaGreatDoor
