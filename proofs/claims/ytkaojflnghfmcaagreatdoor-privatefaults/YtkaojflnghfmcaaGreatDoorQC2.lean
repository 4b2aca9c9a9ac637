/- Put together of: Base2. -/
import Derived.Test.YtkaojflnghfmcaaGreatDoorQC1

namespace Go.Proofs.YtkaojflnghfmcaaGreatDoor
open _root_.Go.Proofs.Tryz
set_option maxRecDepth 100000
set_option maxHeartbeats 4000000
open Go.RowKit

theorem eR (B:Nat) (l:List Nat) (k:Nat):val (l.take (k+1)) B=val (l.take k) B+B^k*l.getD k 0:=by
 by_cases h:k<l.length
 ·rw [ox h,cZ,aO,cL (by omega),aA,aQ h];rfl
 ·rw [dJ (by omega),dJ (by omega),aA,gF (by omega)];simp

theorem lY (p B t:Nat):p*(t%B)+p*B*(t/B)=p*t:=by
  have h:=iH t B
  calc p*(t%B)+p*B*(t/B)=p*(t%B+B*(t/B)):=by rw [aJ,bf]
    _=p*t:=by rw [h]

theorem io (w:World) (x:Value) (e:TypeId):∀ j u,[x][j]? = some u->(w.alloc (.cells #[x] e)).cell? ((⟨w.heap.size,0,none⟩:Addr).add j)=some u:=
 World.news_of_block (cs:=#[x]) (t:=e) (fr:=(0,0)) (Go.heap_alloc_new w _)

theorem zG {a b os:List Nat} {k c x y:Nat} (hl:os.length=k) (h:val os 4294967296+4294967296^k*c=val (a.take k) 4294967296+val (b.take k) 4294967296) (hx:a.getD k 0=x) (hy:b.getD k 0=y) :
  val (os ++ [(c+(x+y))%4294967296]) 4294967296+4294967296^(k+1)*((c+(x+y))/4294967296)=val (a.take (k+1)) 4294967296+val (b.take (k+1)) 4294967296:=by
 rw [cZ,hl,eR,eR,hx,hy,aH,iG,lY,aJ,aJ];omega

theorem IV (u v:Value) (A B:Nat) (w:World) (hu:IsBig w u A) (hv:IsBig w v B) (g:dj A<=100000000) (d:dj B<=100000000) :
  Calls prog 139 #[u,v] w fun r w'=>∃ v',r=.returned v'/\IsBig w' v' (A+B)/\(∀ b,v'.ownBlock=some b->w.heap.size<=b)/\Kept af w w':=by
 obtain ⟨i0,q,D,E,F⟩:=info_parts Tryz.info91;obtain ⟨a,ra,da,ta,rfl,la⟩:=hu;obtain ⟨b,rb,db,tb,rfl,lb⟩:=hv;have N:a.length<=100000000:=by rw [fq da ta];exact g
 have O:b.length<=100000000:=by rw [fq db tb];exact d
 have HA:=fun i W (hk:Kept af w W)=>nI u a i W (ra.grew hk)
 have HB:=fun i W (hk:Kept af w W)=>nI v b i W (rb.grew hk)
 have xa:=fun i=>da.getD (by omega) i
 have xb:=fun i=>db.getD (by omega) i
 obtain ⟨ao,n,ac,rfl,hN,_,_,_,_⟩:=ra.open;obtain ⟨bo,m,bc,rfl,hM,_,_,_,_⟩:=rb.open;rw [hN.out] at N;rw [hM.out] at O;clear ra rb la lb g d da db ta tb;go_enter func139,ntmps139;go_wp2_with fail;go_loopw [5,6,7] (fun o c i wr=>∃ (k c':Nat) (os:List Nat),k<=max n m/\c'<=1/\i=.int .i64 k/\c=.int .u64 (c':Nat)/\os.length=k/\Digs os 4294967296/\OwnN .u32 91 wr w.heap.size o k os/\Kept af w wr /\
   val os 4294967296+4294967296^k*c'=val (a.take k) 4294967296+val (b.take k) 4294967296) (fun _ _ i _=>max n m-(intOf i).toNat)
 case atStart=>exact ⟨0,0,[],aP _,by omega,rfl,rfl,rfl,Digs.nil _,World.ownsRow_nil _ _ _ _,aj _ _,by simp [val]⟩
 case round=>
  obtain ⟨k,c,os,hk,hc,rfl,rfl,t,s,ho,f,j⟩:=hrel;have HV:Hid (val os 4294967296+4294967296^k*c=val (a.take k) 4294967296+val (b.take k) 4294967296):=j;have HL:Hid (os.length=k):=t;clear j t;by_cases hlt:k<max n m
  ·have hA:=HA k wr f;have hB:=HB k wr f;have hx:=xa k;have hy:=xb k;have HS:=fun x y hx hy=>zG (a:=a) (b:=b) (os:=os) (k:=k) (c:=c) (x:=x) (y:=y) HL.out HV.out hx hy
   have G:Hid (val (os ++ [(c+(a.getD k 0+b.getD k 0))%4294967296]) 4294967296+4294967296^(k+1)*((c+(a.getD k 0+b.getD k 0))/4294967296)=val (a.take (k+1)) 4294967296+val (b.take (k+1)) 4294967296):=HS _ _ rfl rfl;clear HA HB xa xb HS HV;generalize a.getD k 0=x at *;generalize b.getD k 0=y at *;have e1:((c:Int)+((x:Int)+(y:Int)))%4294967296=(((c+(x+y))%4294967296:Nat):Int):=by omega
   have e2:((c:Int)+((x:Int)+(y:Int)))/4294967296=(((c+(x+y))/4294967296:Nat):Int):=by omega
   have E1:Hid (((c:Int)+((x:Int)+(y:Int)))%4294967296=(((c+(x+y))%4294967296:Nat):Int)):=e1;have E2:Hid (((c:Int)+((x:Int)+(y:Int)))/4294967296=(((c+(x+y))/4294967296:Nat):Int)):=e2;clear e1 e2;by_cases hkn:k<n
   all_goals
    have g1:(k:Int)<(n:Int)\/(¬ (k:Int)<(n:Int)/\(k:Int)<(m:Int)):=by omega
    rcases g1 with g1 | ⟨g1,g2⟩
    all_goals first | (exfalso;omega) | skip
    all_goals
     go_wp2_with fail;refine hA.mono ?_;rintro e w' ⟨rfl,rfl⟩;go_wp2_with fail;refine hB.mono ?_;rintro e w' ⟨rfl,rfl⟩;go_wp2_with (at_builtin;refine wpList_append_lies _ rfl _ _ 76 rfl w.heap.size 91 i0 _ 1 4 underlying76 q D E F rfl (by omega) _ _ _ rfl (ho.alloc _) ⟨w'.heap.size,0,none⟩ 1 1 [.int .u32 (((c:Int)+((x:Int)+(y:Int)))%4294967296)] rfl rfl (io w' _ _) (by simp [Value.oneCell']) (by omega) (by unfold maxLen;omega) (by omega) (by have:=f.size;simp;omega) (w'.heap.size+1) (by simp) ?_;intro gg c' w4 h hg H I);have l:Kept af w w4:=(f.alloc _).grown hg (fun b hb hlt=>by have:=(ho.lt b hb).1;omega);rw [E1.out] at h;rw [E2.out];go_roundw
     case rel=>exact ⟨k+1,(c+(x+y))/4294967296,os ++ [(c+(x+y))%4294967296],by omega,by omega,by go_num,rfl,by rw [aZ,HL.out];rfl,s.append (Digs.one (ay _ (by omega))),by unfold OwnN;rw [dt];exact h,l,G.out⟩
     case measure=>simp [intOf];omega
  ·have e:k=max n m:=by omega
   have z:a.take k=a:=dJ (by have:=hN.out;omega);have C:b.take k=b:=dJ (by have:=hM.out;omega);have M:Hid (val (os ++ [c]) 4294967296=val a 4294967296+val b 4294967296):=by
    unfold Hid;rw [cZ,HL.out];have:=HV.out;rw [z,C] at this;exact this
   clear HA HB xa xb HV z C e;have g1:¬ (k:Int)<(n:Int):=by omega
   have g2:¬ (k:Int)<(m:Int):=by omega
   have g3:k<=100000000:=by omega
   go_wp2_with (at_builtin;refine wpList_append_lies _ rfl _ _ 76 rfl w.heap.size 91 i0 _ 1 4 underlying76 q D E F rfl (by omega) _ _ _ rfl (ho.alloc _) ⟨wr.heap.size,0,none⟩ 1 1 [.int .u32 (c:Int)] rfl rfl (io wr _ _) (by simp [Value.oneCell']) (by omega) (by unfold maxLen;omega) (by omega) (by have:=f.size;simp;omega) (wr.heap.size+1) (by simp) ?_;intro gg c' w4 h hg H I);have l:Kept af w w4:=(f.alloc _).grown hg (fun b hb hlt=>by have:=(ho.lt b hb).1;omega);have J:(os ++ [c]).length=k+1:=by rw [aZ,HL.out];rfl
   have hr:Row .u32 w4 _ (os ++ [c]):=Row.of_own (base:=w.heap.size) (e:=91) (by rw [J,dt];exact h);have ht:=fu _ _ _ hr (s.append (Digs.one (by omega))) (by omega);rw [M.out] at ht;refine ht.mono ?_;rintro e w' ⟨v',rfl,hb,L,rfl⟩;go_wp2;go_ret;exact ⟨v',rfl,hb,fun b p=>by rw [L] at p;exact (h.lt b p).1,l⟩

theorem BG {a b os:List Nat} {k β x y z β':Nat} (hl:os.length=k) (h:val os 4294967296+val (b.take k) 4294967296=val (a.take k) 4294967296+4294967296^k*β) (hx:a.getD k 0=x) (hy:b.getD k 0=y)
  (hz:z+y+β=x+4294967296*β') :
  val (os ++ [z]) 4294967296+val (b.take (k+1)) 4294967296=val (a.take (k+1)) 4294967296+4294967296^(k+1)*β':=by
 rw [cZ,hl,eR,eR,hx,hy,aH,bf];have e:4294967296^k*(z+y+β)=4294967296^k*(x+4294967296*β'):=by rw [hz]
 rw [aJ,aJ,aJ] at e;omega

theorem DL {a b os:List Nat} {β:Nat} (hd:Digs os 4294967296) (hl:os.length=a.length) (h:val os 4294967296+val b 4294967296=val a 4294967296+4294967296^a.length*β) (hb:β<=1) (c:val b 4294967296<=val a 4294967296) :
  val os 4294967296=val a 4294967296-val b 4294967296:=by
 have h1:=aE (by omega) hd;rw [hl] at h1;have h2:β=0\/β=1:=by omega
 rcases h2 with rfl | rfl
 ·omega
 ·rw [bD] at h;omega

theorem IK (u v:Value) (A B:Nat) (w:World) (hu:IsBig w u A) (hv:IsBig w v B) (p:B<=A) :
  Calls prog 100 #[u,v] w fun r w'=>∃ v',r=.returned v'/\IsBig w' v' (A-B)/\(∀ b,v'.ownBlock=some b->w.heap.size<=b)/\Kept af w w':=by
 obtain ⟨i0,E,H,I,J⟩:=info_parts Tryz.info91;obtain ⟨a,ra,da,ta,rfl,la⟩:=hu;obtain ⟨b,rb,db,tb,rfl,lb⟩:=hv;have g:b.length<=a.length:=by
  rw [jw (by omega) db tb];exact fF p (aE (by omega) da)
 have HB:=fun i W (hk:Kept af w W)=>nI v b i W (rb.grew hk)
 have xa:=fun i=>da.getD (by omega) i
 have xb:=fun i=>db.getD (by omega) i
 obtain ⟨ao,n,ac,rfl,hN,_,_,_,h4⟩:=ra.open;rw [hN.out] at la g;clear ra rb lb da db ta tb;go_enter func100,ntmps100;go_wp2_with fail;go_loopw [5,6,10] (fun o c i wr=>∃ (k β:Nat) (os:List Nat),k<=n/\β<=1/\i=.int .i64 k/\c=.int .i64 (-(β:Int))/\Hid (os.length=k)/\Digs os 4294967296/\OwnN .u32 91 wr w.heap.size o k os/\Kept af w wr /\
   Hid (val os 4294967296+val (b.take k) 4294967296=val (a.take k) 4294967296+4294967296^k*β)) (fun _ _ i _=>n-(intOf i).toNat)
 case atStart=>exact ⟨0,0,[],aP _,by omega,rfl,rfl,rfl,Digs.nil _,World.ownsRow_nil _ _ _ _,aj _ _,by unfold Hid;simp [val]⟩
 case round=>
  obtain ⟨k,β,os,hk,hβ,rfl,rfl,HL,j,ho,f,HV⟩:=hrel;by_cases hlt:k<n
  ·obtain ⟨bb,off,rfl,d⟩:=(h4 k hlt).grew f;have hD:=fun W (hk:Kept af w W)=>HB k W hk
   have hx:=xa k;have hy:=xb k;have HS:Hid (∀ z β',z+b.getD k 0+β=a.getD k 0+4294967296*β'->val (os ++ [z]) 4294967296+val (b.take (k+1)) 4294967296=val (a.take (k+1)) 4294967296+4294967296^(k+1)*β'):=fun z β' hz=>BG HL.out HV.out rfl rfl hz
   clear HB xa xb HV h4;generalize a.getD k 0=x at *;generalize b.getD k 0=y at *;have g0:(0:Int)<=(k:Int):=bY _;have g1:(k:Int)<(n:Int):=by omega
   have w1:IntKind.i64.wrap ((x:Int)-(y:Int))=(x:Int)-(y:Int):=by rw [IntKind.wrap_i64];omega
   have w2:IntKind.i64.wrap (-(β:Int)+((x:Int)-(y:Int)))=-(β:Int)+((x:Int)-(y:Int)):=by rw [IntKind.wrap_i64];omega
   go_wp2_with fail;go_quiet ((go_at_call 76;exact Calls.quiet_of_same (hD _ (f.drewN _))));have q:OwnN .u32 91 (wr.drewN nq) w.heap.size _ k os:=ho;have m:Kept af w (wr.drewN nq):=f.drewN nq;clear hD d w1 w2;generalize wr.drewN nq=W2 at *;obtain ⟨t,ht⟩:∃ t:Int,t=-(β:Int)+((x:Int)-(y:Int)):=⟨_,rfl⟩
   obtain ⟨z,β',hz,L,e1,e2,ez⟩:∃ z β':Nat,z<4294967296/\β'<=1/\t%4294967296=(z:Int)/\t/4294967296=-(β':Int)/\z+y+β=x+4294967296*β':=by
    by_cases hneg:t<0
    ·exact ⟨(t%4294967296).toNat,1,by omega,by omega,by omega,by omega,by omega⟩
    ·exact ⟨(t%4294967296).toNat,0,by omega,by omega,by omega,by omega,by omega⟩
   have hS:=HS.out z β' ez;have D:Hid (val (os ++ [z]) 4294967296+val (b.take (k+1)) 4294967296=val (a.take (k+1)) 4294967296+4294967296^(k+1)*β'):=hS;have N:-8589934592<=t:=by omega
   have O:t<=8589934592:=by omega
   rw [<- ht];have E1:Hid (t%4294967296=(z:Int)):=e1;have E2:Hid (t/4294967296=-(β':Int)):=e2;clear hS HS ez e1 e2 ht;go_wp2_with (at_builtin;refine wpList_append_lies _ rfl _ _ 76 rfl w.heap.size 91 i0 _ 1 4 underlying76 E H I J rfl (by omega) _ _ _ rfl (q.alloc _) ⟨W2.heap.size,0,none⟩ 1 1 [.int .u32 (t%4294967296)] rfl rfl (io W2 _ _) (by simp [Value.oneCell']) (by omega) (by unfold maxLen;omega) (by omega) (by have:=m.size;simp;omega) (W2.heap.size+1) (by simp) ?_;intro gg c' w4 s hg M P);have F:Kept af w w4:=(m.alloc _).grown hg (fun b hb hlt=>by have:=(q.lt b hb).1;omega);rw [E1.out] at s;rw [E2.out];go_roundw
   case rel=>exact ⟨k+1,β',os ++ [z],by omega,L,by go_num,rfl,by unfold Hid;rw [aZ,HL.out];rfl,j.append (Digs.one hz),by unfold OwnN;rw [dt];exact s,F,D⟩
   case measure=>simp [intOf];omega
  ·have g1:¬ (k:Int)<(n:Int):=by omega
   have C:val os 4294967296=val a 4294967296-val b 4294967296:=by
    have h:=HV.out;have e1:=hN.out;have e2:=HL.out;rw [dJ (by omega),dJ (by omega)] at h;exact DL j (by omega) (by rw [show a.length=k by omega];exact h) hβ p
   have hr:Row .u32 wr _ os:=Row.of_own (base:=w.heap.size) (e:=91) (by rw [HL.out];exact ho);have ht:=fu _ _ _ hr j (by have:=HL.out;omega);rw [C] at ht;clear HB xa xb HV h4 C hr;go_wp2_with fail;refine ht.mono ?_;rintro e w' ⟨v',rfl,hb,G,rfl⟩;go_wp2;go_ret;exact ⟨v',rfl,hb,fun b l=>by rw [G] at l;exact (ho.lt b l).1,f⟩

theorem rX {B:Nat}:∀ {l:List Nat} {i d:Nat},i<l.length->val (l.set i d) B+B^i*l.getD i 0=val l B+B^i*d
 | x :: r,0,d,_=>by simp [val];omega
 | x :: r,i+1,d,h=>by
  have ih:=rX (B:=B) (l:=r) (i:=i) (d:=d) (by simpa using h);have e1:B^(i+1)*r.getD i 0=B*(B^i*r.getD i 0):=by rw [aH,aF (B^i) B,bf]
  have e2:B^(i+1)*d=B*(B^i*d):=by rw [aH,aF (B^i) B,bf]
  simp only [lsS,val,List.getD_cons_succ];rw [e1,e2];have a:B*(val (r.set i d) B+B^i*r.getD i 0)=B*(val r B+B^i*d):=by rw [ih]
  rw [aJ,aJ] at a;omega

theorem sr {B:Nat} {l:List Nat} (h:Digs l B) (i:Nat) {d:Nat} (hd:d<B):Digs (l.set i d) B:=fun x hx=>by
 rcases mq hx with h1 | h1
 ·exact h x h1
 ·omega

theorem AM {b zs:List Nat} {i j c x y z P:Nat} (hj:i+j<zs.length) (h:val zs 4294967296+4294967296^(i+j)*c=P+4294967296^i*(x*val (b.take j) 4294967296)) (hz:zs.getD (i+j) 0=z) (hy:b.getD j 0=y) :
  val (zs.set (i+j) ((c+(x*y+z))%4294967296)) 4294967296+4294967296^(i+(j+1))*((c+(x*y+z))/4294967296)=P+4294967296^i*(x*val (b.take (j+1)) 4294967296):=by
 have h1:=rX (B:=4294967296) (d:=(c+(x*y+z))%4294967296) hj;rw [hz] at h1;have h2:=lY (4294967296^(i+j)) 4294967296 (c+(x*y+z));rw [<- aH] at h2;have e:i+(j+1)=(i+j).succ:=rfl;rw [e,eR,hy];rw [aJ,aJ] at h2;have e3:4294967296^i*(x*(val (b.take j) 4294967296+4294967296^j*y))=4294967296^i*(x*val (b.take j) 4294967296)+4294967296^(i+j)*(x*y):=by
  rw [aJ,aJ,aN]
  congr 1
  rw [gO x,<- bf]
 rw [e3];omega

theorem De {a b zs:List Nat} {i c x:Nat} (hi:i+b.length<zs.length) (h:val zs 4294967296+4294967296^(i+b.length)*c=val (a.take i) 4294967296*val b 4294967296+4294967296^i*(x*val b 4294967296)) (hz:zs.getD (i+b.length) 0=0) (hx:a.getD i 0=x) :
  val (zs.set (i+b.length) c) 4294967296=val (a.take (i+1)) 4294967296*val b 4294967296:=by
 have h1:=rX (B:=4294967296) (d:=c) hi;rw [hz,cG,aU] at h1;rw [h1,h,eR,hx,cJ,bf]

theorem Df {a b zs:List Nat} {i:Nat} (ha:Digs a 4294967296) (hb:Digs b 4294967296) (hz:Digs zs 4294967296) (h:val zs 4294967296=val (a.take i) 4294967296*val b 4294967296):zs.getD (i+b.length) 0=0:=by
 rw [<- cS (by omega) hz,h];unfold dig;have h1:val (a.take i) 4294967296<4294967296^i:=by
  have:=aE (by omega) (ha.take i);exact bd this (aY (by omega) (by rw [aO];omega))
 have h2:=aE (by omega) hb;have h3:val (a.take i) 4294967296*val b 4294967296<4294967296^(i+b.length):=by
  rw [aN];exact Nat.mul_lt_mul'' h1 h2
 rw [bj h3]

theorem sE {l:List Nat} {i j d:Nat} (h:i≠j):(l.set i d).getD j 0=l.getD j 0:=by
 rw [aA,aA,List.getElem?_set_ne h]

theorem yL (c x y z:Nat) (hc:c<4294967296) (hx:x<4294967296) (hy:y<4294967296) (hz:z<4294967296):x*y<=18446744065119617025/\c+(x*y+z)<18446744073709551616:=by
 have h:x*y<=4294967295*4294967295:=fh (by omega) (by omega);omega

theorem Hy (u v:Value) (A B:Nat) (w:World) (hu:IsBig w u A) (hv:IsBig w v B) (I:dj A<=100000000) (J:dj B<=100000000) :
  Calls prog 98 #[u,v] w fun r w'=>∃ v',r=.returned v'/\IsBig w' v' (A*B)/\(∀ b,v'.ownBlock=some b->w.heap.size<=b)/\Kept af w w':=by
 obtain ⟨i0,L,N,O,P⟩:=info_parts Tryz.info91;obtain ⟨a,ra,da,ta,rfl,la⟩:=hu;obtain ⟨b,rb,db,tb,rfl,lb⟩:=hv;have Q:a.length<=100000000:=by rw [fq da ta];exact I
 have R:b.length<=100000000:=by rw [fq db tb];exact J
 have xa:=fun i=>da.getD (by omega) i
 have xb:=fun i=>db.getD (by omega) i
 obtain ⟨ao,n,ac,rfl,hN,_,_,_,hA⟩:=ra.open;obtain ⟨bo,m,bc,rfl,hM,_,_,_,hB⟩:=rb.open;rw [hN.out] at Q;rw [hM.out] at R;clear ra rb la lb ta tb I J;go_enter func98,ntmps98;go_wp2_with (at_make;refine wpList_make_full _ rfl _ _ 76 rfl w.heap.size 91 i0 _ 1 underlying76 L N O _ _ _ _ (n+m) rfl rfl (by omega) (by omega) (by rw [P];omega) (by unfold maxLen;omega) (leR _) ?_;intro w1 F H);rw [bg] at F;have k1:=aV H;clear H
 go_loopw [19] (fun i wr=>∃ (k:Nat) (zs:List Nat),k<=n/\i=.int .i64 k/\Hid (zs.length=n+m)/\Digs zs 4294967296/\Hid (val zs 4294967296=val (a.take k) 4294967296*val b 4294967296)/\OwnN .u32 91 wr w.heap.size (.slice (some ⟨w.heap.size,0,none⟩) (n+m) (n+m)) (n+m) zs/\Kept af w wr) (fun i _=>n-(intOf i).toNat)
 case atStart=>exact ⟨0,List.replicate (n+m) 0,aP _,rfl,be,(fun d hd=>by simp at hd;omega),by unfold Hid;rw [ep _ (fun d hd=>by simp at hd;exact hd.2)];simp [val],F,k1⟩
 case round=>
  clear F k1;obtain ⟨i,zs,hk,rfl,g,p,l,ho,o⟩:=hrel;by_cases hlt:i<n
  ·obtain ⟨ba,oa,rfl,ca⟩:=(hA i hlt).grew o;have f:Hid (zs.getD (i+m) 0=0):=by have:=Df (i:=i) da db p l.out;rw [hM.out] at this;exact this
   have hx:=xa i;have HX:Hid (∀ E c,i+b.length<E.length->val E 4294967296+4294967296^(i+b.length)*c=val (a.take i) 4294967296*val b 4294967296+4294967296^i*(a.getD i 0*val b 4294967296)->E.getD (i+b.length) 0=0->val (E.set (i+b.length) c) 4294967296=val (a.take (i+1)) 4294967296*val b 4294967296):=fun E c h1 h2 h3=>De h1 h2 h3 rfl
   have hP:=l.out;clear hA xa;generalize a.getD i 0=x at *;have g1:(i:Int)<(n:Int):=by omega
   go_wp2_with fail;go_loopw [8,26] (fun cc jj wr=>∃ (j c:Nat) (zs:List Nat),j<=m/\jj=.int .i64 j/\cc=.int .u64 (c:Nat)/\c<4294967296/\Hid (zs.length=n+m)/\Digs zs 4294967296/\Hid (zs.getD (i+m) 0=0) /\
     Hid (val zs 4294967296+4294967296^(i+j)*c=val (a.take i) 4294967296*val b 4294967296+4294967296^i*(x*val (b.take j) 4294967296))/\OwnN .u32 91 wr w.heap.size (.slice (some ⟨w.heap.size,0,none⟩) (n+m) (n+m)) (n+m) zs/\Kept af w wr) (fun _ jj _=>m-(intOf jj).toNat)
   case atStart=>exact ⟨0,0,zs,aP _,rfl,rfl,by omega,g,p,f,by unfold Hid;rw [hP];simp [val],ho,o⟩
   case round=>
    clear ho o p g l f ca hP;obtain ⟨j,c,zs,hj,rfl,rfl,hc,g,p,f,l,ho,o⟩:=hrel;by_cases hlj:j<m
    ·obtain ⟨bb,ob,rfl,cb⟩:=(hB j hlj).grew o;have hy:=xb j;have hz:=p.getD (by omega) (i+j);have t:=AM (b:=b) (x:=x) (show i+j<zs.length by have:=g.out;omega) l.out rfl rfl;have C:wr.cell? ⟨w.heap.size,i+j,none⟩=some (.int .u32 ((zs.getD (i+j) 0:Nat):Int)):=by
      rw [World.ownsRow.cellAt ho (i+j) (by omega),bu,aA,aQ (by have:=g.out;omega)];rfl
     have hf:=World.ownsRow.frozenAt ho (i+j);have s:=fun u=>(World.ownsRow.stored ho (i+j) u).1
     have D:∀ d,Hid ((zs.set (i+j) d).getD (i+m) 0=0):=fun d=>by unfold Hid;rw [sE (by omega)];exact f.out
     clear hB xb l f;generalize b.getD j 0=y at *;generalize zs.getD (i+j) 0=z at *;obtain ⟨m1,m2⟩:=yL c x y z hc hx hy hz;have HS:Hid (val (zs.set (i+j) ((c+(x*y+z))%4294967296)) 4294967296+4294967296^(i+(j+1))*((c+(x*y+z))/4294967296)=val (a.take i) 4294967296*val b 4294967296+4294967296^i*(x*val (b.take (j+1)) 4294967296)):=t;clear t;obtain ⟨q,hq⟩:∃ q,q=x*y:=⟨_,rfl⟩
     have S:(x:Int)*(y:Int)=(q:Int):=by rw [hq];simp
     rw [<- hq] at m1 m2 HS;have e1:Hid (((c:Int)+((q:Int)+(z:Int)))%4294967296=(((c+(q+z))%4294967296:Nat):Int)):=by unfold Hid;omega
     have e2:Hid (((c:Int)+((q:Int)+(z:Int)))/4294967296=(((c+(q+z))/4294967296:Nat):Int)):=by unfold Hid;omega
     clear hq;have g2:(j:Int)<(m:Int):=by omega
     have g3:(i:Int)+(j:Int)<(n:Int)+(m:Int):=by omega
     have g4:(0:Int)<=(i:Int)+(j:Int):=by omega
     go_wp2_with fail;rw [e1.out,e2.out];go_roundw
     case rel=>
      refine ⟨j+1,(c+(q+z))/4294967296,zs.set (i+j) ((c+(q+z))%4294967296),by omega,by go_num,rfl,by omega,by unfold Hid;rw [lj];exact g.out,sr p _ (ay _ (by omega)),D _,HS,?_,o.setCell _ (fun h=>by simp at h) _⟩;unfold OwnN;rw [bZ];exact s _
     case measure=>simp [intOf];omega
    ·have ej:j=m:=by omega
     have t:=HX.out zs c (by have:=g.out;have:=hM.out;omega) (by rw [hM.out];have h:=l.out;rw [ej,show b.take m=b from dJ (by have:=hM.out;omega)] at h;exact h) (by rw [hM.out];exact f.out);rw [hM.out] at t;have HS:Hid (val (zs.set (i+m) c) 4294967296=val (a.take (i+1)) 4294967296*val b 4294967296):=t;have C:wr.cell? ⟨w.heap.size,i+m,none⟩=some (.int .u32 0):=by
      have h0:=f.out;rw [aA,aQ (by have:=g.out;omega)] at h0;rw [World.ownsRow.cellAt ho (i+m) (by omega),bu,aQ (by have:=g.out;omega)];simp only [jn] at h0;rw [Option.map_some,h0];rfl
     have hf:=World.ownsRow.frozenAt ho (i+m);have s:=fun u=>(World.ownsRow.stored ho (i+m) u).1
     clear hB xb l f t HX ej;have g2:¬ (j:Int)<(m:Int):=by omega
     have g3:(i:Int)+(m:Int)<(n:Int)+(m:Int):=by omega
     have g4:(0:Int)<=(i:Int)+(m:Int):=by omega
     go_wp2;go_roundw
     case rel=>
      refine ⟨i+1,zs.set (i+m) c,by omega,by go_num,by unfold Hid;rw [lj];exact g.out,sr p _ hc,HS,?_,o.setCell _ (fun h=>by simp at h) _⟩;unfold OwnN;rw [bZ];exact s _
     case measure=>simp [intOf];omega
  ·have g1:¬ (i:Int)<(n:Int):=by omega
   have hv:val zs 4294967296=val a 4294967296*val b 4294967296:=by
    rw [l.out,dJ (by have:=hN.out;omega)]
   have hr:Row .u32 wr _ zs:=Row.of_own (base:=w.heap.size) (e:=91) (by rw [g.out];exact ho);have ht:=fu _ _ _ hr p (by have:=g.out;omega);rw [hv] at ht;clear hA hB xa xb hv hr;go_wp2_with fail;refine ht.mono ?_;rintro e w' ⟨v',rfl,hb,M,rfl⟩;go_wp2;go_ret;exact ⟨v',rfl,hb,fun b G=>by rw [M] at G;exact (ho.lt b G).1,o⟩

theorem By {a os:List Nat} {k c x s:Nat} (hl:os.length=k) (h:val os 4294967296+4294967296^k*c=s*val (a.take k) 4294967296) (hx:a.getD k 0=x) :
  val (os ++ [(c+x*s)%4294967296]) 4294967296+4294967296^(k+1)*((c+x*s)/4294967296)=s*val (a.take (k+1)) 4294967296:=by
 rw [cZ,hl,eR,hx,aH,iG,lY,aJ,aJ];rw [<- h];have e:4294967296^k*(x*s)=s*(4294967296^k*x):=by rw [<- bf,aF]
 omega

theorem Fr (c x n:Nat) (hn:n<32) (hc:c<2^n) (hx:x<4294967296):bits .or .u64 (c:Int) ((x:Int)*2^n)=((c+x*2^n:Nat):Int):=by
 have hp:(2:Nat)^n<=2^31:=aY (by omega) (by omega);have hm:x*2^n<=4294967295*2^31:=fh (by omega) hp;have h:=u64_or_nat c (x*2^n) (by omega) (by omega);have hj:=nat_join n (x*2^n) c (Nat.mul_mod_left _ _) hc;rw [Nat.or_comm,hj] at h;have e1:(x:Int)*2^n=((x*2^n:Nat):Int):=by simp
 rw [e1,h];omega

theorem zj (c x n:Nat) (hc:c<2^n) (hx:x<4294967296):(c+x*2^n)/4294967296<2^n:=by
 rw [cj (by omega)];have h:x*2^n<=4294967295*2^n:=bI _ (by omega);omega

theorem tk (c x n:Nat) (hn:n<32) (hc:c<2^n) (hx:x<4294967296):bits .or .u64 (c:Int) (IntKind.u64.wrap ((x:Int)*2^n))=((c+x*2^n:Nat):Int):=by
 have hp:(2:Nat)^n<=2^31:=aY (by omega) (by omega);have hm:x*2^n<=4294967295*2^31:=fh (by omega) hp;have e1:(x:Int)*2^n=((x*2^n:Nat):Int):=by simp
 have e2:IntKind.u64.wrap ((x:Int)*2^n)=(x:Int)*2^n:=by
  rw [IntKind.wrap_u64,e1];generalize x*2^n=t at *;omega
 rw [e2];exact Fr c x n hn hc hx

theorem FN (c x n:Nat) (hn:n<32) (hc:c<2^n) (hx:x<4294967296):c+x*2^n<9223372036854775808:=by
 have hp:(2:Nat)^n<=2^31:=aY (by omega) (by omega);have hm:x*2^n<=4294967295*2^31:=fh (by omega) hp;omega

theorem nO {P:Program} (w:World) {ops:Array Oper} {rest:List Oper} {o:Oper} {a:Act} {Q:Exit->Act->World->Prop}
  (hg:o.guard=none) (l c:Operand) (t:TypeId) (j:o.op=Op.makeSlice t l c)
  (e:TypeId) (i:TypeInfo) (k:IntKind) (h1:P.underlying t=some (.slice e)) (h2:P.info? e=some i) (h3:i.zero=some (.int k 0)) (h4:i.size=1)
  (kl kc:IntKind) (L C:Int) (n m:Nat) (hl:a.eval l=.int kl L) (hc:a.eval c=.int kc C) (hL:L=(n:Int)) (hC:C=(m:Int)) (b:n<=m) (b2:i.bytes*m<=281474976710656) (b3:m<=maxLen)
  (hK:∀ w',OwnN k e w' w.heap.size (.slice (some ⟨w.heap.size,0,none⟩) n m) n (List.replicate n 0)->Kept af w w'->wpList P ops Q rest (a.put o.dst (.slice (some ⟨w.heap.size,0,none⟩) n m)) w') :
  wpList P ops Q (o :: rest) a w:=by
 refine wpList_plain hg fun K f=>?_
 have d:(m:Int)<=9223372036854775807:=by unfold maxLen at b3;omega
 have g:(i.bytes:Int)*(m:Int)<=281474976710656:=by
  have h:((i.bytes*m:Nat):Int)<=281474976710656:=by omega
  rwa [Int.natCast_mul] at h
 have hr:=run_make (P:=P) w t e i (.int k 0) h1 h2 h3 kl kc n m (by omega) (by omega) g d;simp only [Int.toNat_natCast] at hr;subst hL;subst hC;unfold Oper.wp;simp [execOp,j,hl,hc,hr,Result.andThen];refine f _ _ (hK _ ?_ ((aj af w).alloc _));refine ⟨by simp,.inr ⟨w.heap.size,m,_,rfl,leR _,Go.heap_alloc_new w _,b,b3,?_,?_⟩⟩
 ·rw [size_madeCells,h4]
 ·rw [h4,bD,bD,List.map_replicate];show (madeCells #[Value.int k 0] m).toList.take n=_
  rw [toList_madeCells_one,List.take_replicate,cL b];rfl

theorem DU (n:Nat) (os:List Nat):val (List.replicate n 0 ++ os) 4294967296=4294967296^n*val os 4294967296:=by
 rw [dX,ep 4294967296 (l:=List.replicate n 0) (fun d hd=>by simp at hd;exact hd.2),be];omega

theorem xB (v:Value) (A n:Nat) (w:World) (hv:IsBig w v A) (g:dj A<=100000000) (hn:n<=1000000000) :
  Calls prog 85 #[v,.int .i64 n] w fun r w'=>∃ v',r=.returned v'/\OwnBig w' w.heap.size v' (2^n*A)/\Kept af w w':=by
 obtain ⟨i0,l,t,y,z⟩:=info_parts Tryz.info91;obtain ⟨a,ra,da,ta,rfl,la⟩:=hv;have J:a.length<=100000000:=by rw [fq da ta];exact g
 have xa:=fun i=>da.getD (by omega) i
 obtain ⟨ao,m,ac,rfl,hM,_,_,_,h4⟩:=ra.open;rw [hM.out] at J;clear ra la g da ta;obtain ⟨q,hq⟩:∃ q,q=n/32:=⟨_,rfl⟩
 obtain ⟨s,hs⟩:∃ s,s=n%32:=⟨_,rfl⟩
 have h:s<32:=by omega
 have N:q<=100000000:=by omega
 have HE:Hid (2^n=4294967296^q*2^s):=by
  unfold Hid;rw [show (4294967296:Nat)^q=2^(32*q) from by rw [bh],<- aN]
  congr 1;omega
 have n0:(n:Int)/32=(q:Int):=by omega
 have n1:(n:Int)%32=(s:Int):=by omega
 have n2:n%32=s:=hs.symm;have n3:n/32=q:=hq.symm;clear hq hs;have HR:Hid (4294967296^q*(2^s*val a 4294967296)=2^n*val a 4294967296):=by unfold Hid;rw [HE.out,bf]
 clear HE;go_enter func85,ntmps85;go_wp2_with (at_make;refine nO _ rfl _ _ 76 rfl 91 i0 .u32 underlying76 l t y _ _ _ _ q (q+m+1) rfl rfl (by omega) (by omega) (by omega) (by rw [z];omega) (by unfold maxLen;omega) ?_;intro w1 C k1);go_loopw [5,6,20] (fun o c i wr=>∃ (k c':Nat) (os:List Nat),k<=m/\Hid (c'<2^s)/\c'<4294967296/\i=.int .i64 k/\c=.int .u64 (c':Nat)/\Hid (os.length=k)/\Digs os 4294967296/\OwnN .u32 91 wr w.heap.size o (q+k) (List.replicate q 0 ++ os)/\Kept af w wr /\
   Hid (val os 4294967296+4294967296^k*c'=2^s*val (a.take k) 4294967296)) (fun _ _ i _=>m-(intOf i).toNat)
 case atStart=>exact ⟨0,0,[],aP _,aC (by omega),by omega,rfl,rfl,rfl,Digs.nil _,by rw [dI];exact C,k1,by unfold Hid;simp [val]⟩
 case round=>
  clear C k1;obtain ⟨k,c,os,hk,hc,L,rfl,rfl,HL,E,ho,f,HV⟩:=hrel;by_cases hlt:k<m
  ·obtain ⟨b,off,rfl,B⟩:=(h4 k hlt).grew f;have hx:=xa k;have HS:Hid (val (os ++ [(c+a.getD k 0*2^s)%4294967296]) 4294967296+4294967296^(k+1)*((c+a.getD k 0*2^s)/4294967296)=2^s*val (a.take (k+1)) 4294967296):=By HL.out HV.out rfl;have HO:=tk c _ s h hc.out hx;have HC:Hid ((c+a.getD k 0*2^s)/4294967296<2^s):=zj c _ s hc.out hx;have hT:=FN c _ s h hc.out hx;clear xa h4 HV;generalize a.getD k 0=x at *;generalize c+x*2^s=T at *;have g1:(k:Int)<(m:Int):=by omega
   have e1:Hid ((T:Int)%4294967296=((T%4294967296:Nat):Int)):=by unfold Hid;omega
   have e2:Hid ((T:Int)/4294967296=((T/4294967296:Nat):Int)):=by unfold Hid;omega
   go_wp2_with (at_builtin;refine wpList_append_lies _ rfl _ _ 76 rfl w.heap.size 91 i0 _ 1 4 underlying76 l t y z rfl (by omega) _ _ _ rfl (ho.alloc _) ⟨wr.heap.size,0,none⟩ 1 1 [.int .u32 ((T:Int)%4294967296)] rfl rfl (io wr _ _) (by simp [Value.oneCell']) (by omega) (by unfold maxLen;omega) (by omega) (by have:=f.size;simp;omega) (wr.heap.size+1) (by simp) ?_;intro gg c' w4 j hg F H);have p:Kept af w w4:=(f.alloc _).grown hg (fun b hb hlt=>by have:=(ho.lt b hb).1;omega);rw [e1.out] at j;rw [e2.out];go_roundw
   case rel=>exact ⟨k+1,T/4294967296,os ++ [T%4294967296],by omega,HC,by omega,by go_num,rfl,by unfold Hid;rw [aZ,HL.out];rfl,E.append (Digs.one (ay _ (by omega))),by unfold OwnN;rw [<- dr,dt];exact j,p,HS⟩
   case measure=>simp [intOf];omega
  ·have g1:¬ (k:Int)<(m:Int):=by omega
   have I:Hid (val (List.replicate q 0 ++ (os ++ [c])) 4294967296=2^n*val a 4294967296):=by
    unfold Hid;have:=HV.out;rw [dJ (by have:=hM.out;omega)] at this;rw [DU,cZ,HL.out,this];exact HR.out
   clear xa h4 HV HR;go_wp2_with (at_builtin;refine wpList_append_lies _ rfl _ _ 76 rfl w.heap.size 91 i0 _ 1 4 underlying76 l t y z rfl (by omega) _ _ _ rfl (ho.alloc _) ⟨wr.heap.size,0,none⟩ 1 1 [.int .u32 (c:Int)] rfl rfl (io wr _ _) (by simp [Value.oneCell']) (by omega) (by unfold maxLen;omega) (by omega) (by have:=f.size;simp;omega) (wr.heap.size+1) (by simp) ?_;intro gg c' w4 j hg F H);have p:Kept af w w4:=(f.alloc _).grown hg (fun b hb hlt=>by have:=(ho.lt b hb).1;omega);have M:(List.replicate q 0 ++ (os ++ [c])).length=q+k+1:=by rw [aZ,aZ,HL.out,be];simp;omega
   have G:Digs (List.replicate q 0 ++ (os ++ [c])) 4294967296:=Digs.append (fun d hd=>by simp at hd;omega) (E.append (Digs.one (by omega)));have D:OwnN .u32 91 w4 w.heap.size (.slice (some ⟨gg,0,none⟩) (q+k+1) c') (q+k+1) (List.replicate q 0 ++ (os ++ [c])):=by unfold OwnN;rw [<- dr,dt];exact j
   have ht:=Bk _ _ _ _ _ D G (by omega);rw [I.out] at ht;clear D;refine ht.mono ?_;rintro e w' ⟨v',rfl,hb,rfl⟩;go_wp2;go_ret;exact ⟨v',rfl,hb,p⟩

theorem Fs {w:World} {base:Nat} {v:Value} {V:Nat} (h:OwnBig w base v V):∀ b,v.ownBlock=some b->base<=b:=by
 obtain ⟨ds,ho,_⟩:=h;exact fun b hb=>(ho.lt b hb).1

theorem II (v:Value) (A n:Nat) (w:World) (hv:IsBig w v A) (a:dj A<=100000000) (hn:n<=1000000000) :
  Calls prog 85 #[v,.int .i64 n] w fun r w'=>∃ v',r=.returned v'/\IsBig w' v' (2^n*A)/\(∀ b,v'.ownBlock=some b->w.heap.size<=b)/\Kept af w w':=by
 refine (xB v A n w hv a hn).mono ?_;rintro r w' ⟨v',rfl,ho,hk⟩;exact ⟨v',rfl,ho.big,Fs ho,hk⟩

theorem zk (V q s k:Nat) (hs:s<32):dig (V/(4294967296^q*2^s)) k 4294967296=(dig V (q+k) 4294967296+4294967296*dig V (q+k+1) 4294967296)/2^s%4294967296:=by
  unfold dig
  have e1:V/(4294967296^q*2^s)/4294967296^k=V/4294967296^(q+k)/2^s:=by
    rw [cK,cK,aN]
    congr 1
    rw [bf,bf,aF (2^s)]
  have e2:V/4294967296^(q+k+1)=V/4294967296^(q+k)/4294967296:=by rw [cK,<- aH]
  rw [e1,e2]
  generalize V/4294967296^(q+k)=z
  have hp:0<2^s:=aC (by omega)
  obtain ⟨c,hc⟩:∃ c,(4294967296:Nat)=2^s*c:=⟨2^(32-s),by rw [<- aN,show s+(32-s)=32 by omega]⟩
  have hz:z=(z%4294967296+4294967296*(z/4294967296%4294967296))+2^s*(4294967296*(c*(z/4294967296/4294967296))):=by
    have:2^s*(4294967296*(c*(z/4294967296/4294967296)))=4294967296*(4294967296*(z/4294967296/4294967296)):=by
      calc 2^s*(4294967296*(c*(z/4294967296/4294967296)))=(2^s*c)*(4294967296*(z/4294967296/4294967296)):=by
            rw [gO 4294967296 c,<- bf]
        _=4294967296*(4294967296*(z/4294967296/4294967296)):=by rw [<- hc]
    omega
  conv=>lhs;rw [hz]
  rw [jm _ _ hp,eW]

theorem FS {V q s m:Nat} (h:V<4294967296^m) (hq:q<=m):V/(4294967296^q*2^s)<4294967296^(m-q):=by
 have hp:0<4294967296^q*2^s:=fI (aC (by omega)) (aC (by omega));rw [cj hp];have e:4294967296^m=4294967296^(m-q)*4294967296^q:=by rw [<- aN,Nat.sub_add_cancel hq]
 have h2:4294967296^(m-q)*4294967296^q*1<=4294967296^(m-q)*4294967296^q*2^s:=bi _ (aC (by omega));rw [<- bf];omega

theorem IJ (v:Value) (A n:Nat) (w:World) (hv:IsBig w v A) (hn:n<=1000000000000) :
  Calls prog 138 #[v,.int .i64 n] w fun r w'=>∃ v',r=.returned v'/\IsBig w' v' (A/2^n)/\(∀ b,v'.ownBlock=some b->w.heap.size<=b)/\Kept af w w':=by
 obtain ⟨i0,I,N,O,P⟩:=info_parts Tryz.info91;obtain ⟨a,ra,da,ta,rfl,la⟩:=hv;have hlt:=aE (by omega) da;have hV:∀ i,a.getD i 0=dig (val a 4294967296) i 4294967296:=fun i=>(cS (by omega) da i).symm
 have HD:=fun i W (hk:Kept af w W)=>nI v a i W (ra.grew hk)
 obtain ⟨ao,m,ac,rfl,hM,_,_,_,h4⟩:=ra.open;rw [hM.out] at la hlt;unfold NumAt at h4;simp only [hV] at HD h4;have xa:∀ i,dig (val a 4294967296) i 4294967296<4294967296:=fun i=>ay _ (by omega)
 clear ra da ta hV;generalize val a 4294967296=V at *;obtain ⟨q,hq⟩:∃ q,q=n/32:=⟨_,rfl⟩
 obtain ⟨s,hs⟩:∃ s,s=n%32:=⟨_,rfl⟩
 have p:s<32:=by omega
 have HE:2^n=4294967296^q*2^s:=by
  rw [show (4294967296:Nat)^q=2^(32*q) from by rw [bh],<- aN]
  congr 1;omega
 rw [HE];have d:=fun k=>zk V q s k p
 have l:Hid (q<=m->V/(4294967296^q*2^s)<4294967296^(m-q)):=fun h=>FS hlt h
 have f:Hid (m<q->V/(4294967296^q*2^s)=0):=fun h=>by
  apply bj;have h1:(4294967296:Nat)^m<=4294967296^q:=aY (by omega) (by omega);have h2:4294967296^q*1<=4294967296^q*2^s:=bi _ (aC (by omega));omega
 have n0:(n:Int)/32=(q:Int):=by omega
 have n1:(n:Int)%32=(s:Int):=by omega
 have n2:n%32=s:=hs.symm;have n3:n/32=q:=hq.symm;have aa:q<=100000000000:=by omega
 clear hq hs HE hlt;generalize V/(4294967296^q*2^s)=R at *;go_enter func138,ntmps138;go_wp2_with fail;go_loopw [5,6] (fun o i wr=>∃ (k:Nat),(k=0\/q+k<=m)/\i=.int .i64 ((q+k:Nat):Int)/\OwnN .u32 91 wr w.heap.size o k (digs R k 4294967296)/\Kept af w wr) (fun _ i _=>m-(intOf i).toNat)
 case atStart=>exact ⟨0,.inl rfl,rfl,World.ownsRow_nil _ _ _ _,aj _ _⟩
 case round=>
  obtain ⟨k,hk,rfl,ho,g⟩:=hrel;by_cases hlt:q+k<m
  ·obtain ⟨b,off,rfl,c⟩:=h4 (q+k) hlt;have c:=g.cellN c;have hD:=fun W (hk:Kept af w W)=>HD (q+k+1) W hk
   have hx:=xa (q+k);have hy:=xa (q+k+1);have HO:=yN _ _ hx hy;have B:=d k;clear xa h4 d HD;generalize dig V (q+k) 4294967296=x at *;generalize dig V (q+k+1) 4294967296=y at *;have hT:x+4294967296*y<18446744073709551616:=by omega
   generalize x+4294967296*y=T at *;obtain ⟨j,hj⟩:∃ j,j=q+k:=⟨_,rfl⟩
   rw [<- hj] at c hD ⊢;have X:(j:Int)<(m:Int):=by omega
   have U:(0:Int)<=(j:Int):=bY _;have HJ:Hid (j=q+k):=hj;rw [show ((j+1:Nat):Int)=(j:Int)+1 by omega] at hD;have Y:IntKind.i64.wrap ((j:Int)+1)=(j:Int)+1:=by rw [IntKind.wrap_i64];omega
   have D:(T:Int)/2^s=((T/2^s:Nat):Int):=by simp
   have G:Hid (dig R k 4294967296=T/2^s%4294967296):=B;have H:Hid ((T:Int)/2^s%4294967296=((T/2^s%4294967296:Nat):Int)):=by unfold Hid;rw [D];omega
   clear hj B D;go_wp2_with fail;go_quiet ((go_at_call 76;exact Calls.quiet_of_same (hD _ (g.drewN _))));have E:OwnN .u32 91 (wr.drewN nq) w.heap.size _ k (digs R k 4294967296):=ho;have C:Kept af w (wr.drewN nq):=g.drewN nq;clear hD c;generalize wr.drewN nq=W2 at *
   go_wp2_with (at_builtin;refine wpList_append_lies _ rfl _ _ 76 rfl w.heap.size 91 i0 _ 1 4 underlying76 I N O P rfl (by omega) _ _ _ rfl (E.alloc _) ⟨W2.heap.size,0,none⟩ 1 1 [.int .u32 ((T:Int)/2^s%4294967296)] rfl rfl (io W2 _ _) (by simp [Value.oneCell']) (by omega) (by unfold maxLen;omega) (by omega) (by have:=C.size;simp;omega) (W2.heap.size+1) (by simp) ?_;intro gg c' w4 F hg Q S);have J:Kept af w w4:=(C.alloc _).grown hg (fun b hb hlt=>by have:=(E.lt b hb).1;omega);rw [H.out,<- G.out] at F;go_roundw
   case rel=>exact ⟨k+1,.inr (by have:=HJ.out;omega),by have:=HJ.out;go_num,by unfold OwnN;rw [digs,dt];exact F,J⟩
   case measure=>simp [intOf];have:=HJ.out;omega
  ·have Z:¬ ((q+k:Nat):Int)<(m:Int):=by omega
   have t:Hid (val (digs R k 4294967296) 4294967296=R):=by
    unfold Hid;rw [aB];apply ax;rcases jE m q with h | h
    ·have h0:=f.out h;rw [h0];exact aC (by omega)
    ·have h1:=l.out h;have e:k=m-q:=by omega
     rw [e];exact h1
   have L:k<=1000000000:=by omega
   have hr:Row .u32 wr _ (digs R k 4294967296):=Row.of_own (base:=w.heap.size) (e:=91) (by rw [ag];exact ho);have ht:=fu _ _ _ hr (ak (by omega) _ _) (by rw [ag];exact L);rw [t.out] at ht;clear xa h4 d HD hr;generalize q+k=j at *;go_wp2_with fail;refine ht.mono ?_;rintro e w' ⟨v',rfl,hb,M,rfl⟩;go_wp2;go_ret;exact ⟨v',rfl,hb,fun b z=>by rw [M] at z;exact (ho.lt b z).1,g⟩

theorem tj (r x:Nat) (hr:r<4294967296) (hx:x<4294967296):bits .or .u64 ((r:Int)*4294967296) (x:Int)=((r*4294967296+x:Nat):Int):=by
 have h:=u64_or_nat (r*4294967296) x (by omega) (by omega);rw [nat_join 32 (r*4294967296) x (by omega) (by omega)] at h;have e1:(r:Int)*4294967296=((r*4294967296:Nat):Int):=by omega
 rw [e1,h]

theorem yk {r x d:Nat} (hd:0<d) (hr:r<d) (hx:x<4294967296):(r*4294967296+x)/d<4294967296:=by
 rw [cj hd];have:(r+1)*4294967296<=d*4294967296:=bI _ (by omega);omega

theorem Ad {a qs:List Nat} {i r x d:Nat} (hi:i<a.length) (hx:a.getD i 0=x) (h:d*val qs 4294967296+r=val (a.drop (i+1)) 4294967296) :
  d*val ((r*4294967296+x)/d :: qs) 4294967296+(r*4294967296+x)%d=val (a.drop i) 4294967296:=by
 rw [dU hi];rw [aA,aQ hi] at hx;simp only [jn] at hx;simp only [val];rw [hx,<- h,aJ];have e:=ef (r*4294967296+x) d;have e2:d*(4294967296*val qs 4294967296)=4294967296*(d*val qs 4294967296):=gO ..;rw [e2];omega

theorem vJ (i q:Nat) (qs:List Nat):(List.replicate (i+1) 0 ++ qs).set i q=List.replicate i 0 ++ (q :: qs):=by
 rw [gG,dr,gH _ _ (by simp)];simp

theorem yY (v:Value) (A d:Nat) (w:World) (hv:IsBig w v A) (hd:0<d) (P:d<4294967296) :
  Calls prog 136 #[v,.int .u32 d] w fun r w'=>∃ v1 v2,r=.returned (.tuple #[v1,v2])/\IsBig w' v1 (A/d)/\IsBig w' v2 (A%d)/\(∀ b,v1.ownBlock=some b->w.heap.size<=b)/\(∀ b,v2.ownBlock=some b->w.heap.size<=b)/\Kept af w w':=by
 obtain ⟨i0,I,L,M,N⟩:=info_parts Tryz.info91;obtain ⟨a,ra,da,ta,rfl,la⟩:=hv;have xa:=fun i=>da.getD (by omega) i
 obtain ⟨ao,n,ac,rfl,hN,_,_,_,hA⟩:=ra.open;rw [hN.out] at la;clear ra da ta;have O:(d:Int)≠0:=by omega
 go_enter func136,ntmps136;go_wp2_with (at_make;refine wpList_make_full _ rfl _ _ 76 rfl w.heap.size 91 i0 _ 1 underlying76 I L M _ _ _ _ n rfl rfl (by first | rfl | omega) (by first | rfl | omega) (by rw [N];omega) (by unfold maxLen;omega) (leR _) ?_;intro w1 c C);rw [bg] at c;have k1:=aV C;clear C;go_loopw [7,8] (fun rr i wr=>∃ (k r:Nat) (qs:List Nat),k<=n/\i=.int .i64 ((k:Int)-1)/\rr=.int .u64 (r:Nat)/\r<d/\Hid (qs.length=n-k)/\Digs qs 4294967296/\Hid (d*val qs 4294967296+r=val (a.drop k) 4294967296) /\
   OwnN .u32 91 wr w.heap.size (.slice (some ⟨w.heap.size,0,none⟩) n n) n (List.replicate k 0 ++ qs)/\Kept af w wr) (fun _ i _=>(intOf i+1).toNat)
 case atStart=>exact ⟨n,0,[],leR _,rfl,rfl,hd,by unfold Hid;simp,Digs.nil _,by unfold Hid;rw [dZ (by have:=hN.out;omega)];simp [val],by rw [dI];exact c,k1⟩
 case round=>
  clear c k1;obtain ⟨k,r,qs,hk,rfl,rfl,hr,E,D,l,ho,j⟩:=hrel;cases k with
  | zero=>
   have m:=l.out;rw [gC] at m;rw [eH,bw] at ho;have s:qs.length=n:=by have:=E.out;omega
   have f:Row .u32 wr _ qs:=Row.of_own (base:=w.heap.size) (e:=91) (by rw [s];exact ho);have ht:=fu _ _ _ f D (by omega);have e1:val a 4294967296/d=val qs 4294967296:=by
    rw [<- m,fH hd,bj hr,aU]
   have e2:val a 4294967296%d=r:=by rw [<- m,i9,ax hr]
   rw [<- e1] at ht;have E2:Hid (val a 4294967296%d=r):=e2;clear hA xa l m e1 e2 f;go_wp2_with fail;refine ht.mono ?_;rintro e w' ⟨v1,rfl,G,c,rfl⟩;have hS:=rM r (by omega) w';go_wp2_with fail;refine hS.mono ?_;rintro e w2 ⟨v2,rfl,H,J,k2⟩;go_wp2;go_ret2;exact ⟨v1,v2,rfl,G.grew k2,by rw [E2.out];exact H,fun b g=>by rw [c] at g;exact (ho.lt b g).1,fun b g=>aR j.size (J b g),j.trans k2⟩
  | succ i=>
   obtain ⟨bb,off,rfl,B⟩:=(hA i (by omega)).grew j;have hx:=xa i;have F:=Ad (d:=d) (show i<a.length by have:=hN.out;omega) rfl l.out;have o:wr.cell? ⟨w.heap.size,i,none⟩=some (.int .u32 0):=by
    rw [World.ownsRow.cellAt ho i (by omega),bu,gD (by simp),ee,ah (by omega)];rfl
   have hf:=World.ownsRow.frozenAt ho i;have z:=fun u=>(World.ownsRow.stored ho i u).1
   clear hA xa l;generalize a.getD i 0=x at *;have Q:=tj r x (by omega) hx;have hq:=yk hd hr hx;have p:=ay (r*4294967296+x) hd;have HS:Hid (d*val ((r*4294967296+x)/d :: qs) 4294967296+(r*4294967296+x)%d=val (a.drop i) 4294967296):=F;clear F;have R:r*4294967296+x<18446744073709551616:=by omega
   generalize r*4294967296+x=t at *;have g0:(0:Int)<=(i:Int):=bY _;have g1:(i:Int)<(n:Int):=by omega
   have e1:Hid (IntKind.u64.wrap ((t:Int)/(d:Int))%4294967296=((t/d:Nat):Int)):=by
    unfold Hid;rw [show (t:Int)/(d:Int)=((t/d:Nat):Int) by simp,IntKind.wrap_u64];clear HS;generalize t/d=q at *;omega
   have e2:Hid ((t:Int)%(d:Int)=((t%d:Nat):Int)):=by unfold Hid;simp
   go_wp2_with fail;rw [e1.out,e2.out];go_roundw
   case rel=>
    refine ⟨i,t%d,t/d :: qs,by omega,rfl,rfl,p,by unfold Hid;rw [cI,E.out];omega,fun y hy=>?_,HS,?_,j.setCell _ (fun h=>by simp at h) _⟩
    ·rcases fC.1 hy with h | h
     ·omega
     ·exact D y h
    ·unfold OwnN;rw [<- vJ,bZ];exact z _
   case measure=>simp [intOf]

theorem tE {zs:List Nat} {j L i:Nat} (hi:i<L):((zs.drop j).take L).getD i 0=zs.getD (j+i) 0:=by
 rw [aA,dV,ah hi,et,<- aA]

theorem kG {zs:List Nat} {j L N:Nat} (hl:zs.length=N) (h:j+L<=N):((zs.drop j).take L).length=L:=by
 rw [aO,b9];omega

theorem Bw {e:TypeId} {w:World} {base g N b j L:Nat} {zs:List Nat} (ho:OwnN .u32 e w base (.slice (some ⟨g,0,none⟩) N b) N zs) (hl:zs.length=N) (h:j+L<=N) :
  ∀ i u,(((zs.drop j).take L).map fun z=>Value.int .u32 (z:Nat))[i]? = some u->w.cell? ((⟨g,j,none⟩:Addr).add i)=some u:=by
 intro i u hu;have a:(⟨g,j,none⟩:Addr).add i=⟨g,j+i,none⟩:=by unfold Addr.add;split <;> simp_all
 rw [a];have c:=kG hl h;rw [bu] at hu;by_cases hi:i<L
 ·rw [World.ownsRow.cellAt ho (j+i) (by omega),bu,<- hu,dV,ah hi,et]
 ·rw [gF (by omega)] at hu;cases hu

theorem tg (k:IntKind) (zs:List Nat):∀ u ∈ zs.map (fun z=>Value.int k (z:Nat)),u.oneCell'=true:=by
 intro u hu;obtain ⟨z,_,rfl⟩:=ll.1 hu;rfl

theorem uZ {zs:List Nat} {j L N:Nat} (hd:Digs zs 4294967296) (hl:zs.length=N) (h:j+L<=N):val ((zs.drop j).take L) 4294967296<4294967296^L:=by
 have:=aE (by omega) ((hd.drop j).take L)
 rwa [kG hl h] at this

theorem DD (zs:List Nat) (D j k:Nat) (hk:j+k<zs.length) :
  (zs.take j ++ (digs D k 4294967296 ++ zs.drop (j+k))).set (j+k) (dig D k 4294967296)=zs.take j ++ (digs D (k+1) 4294967296 ++ zs.drop (j+(k+1))):=by
 have h1:(zs.take j).length=j:=by rw [aO];omega
 rw [gH _ _ (by omega),h1,oy,gH _ _ (by rw [ag];omega),ag,bJ,dU hk,lsZ,digs,dr];rfl

theorem Hz (g base N n j L c q V:Nat) (zs:List Nat) (v:Value) (w:World) (ho:OwnN .u32 91 w base (.slice (some ⟨g,0,none⟩) N n) N zs) (F:zs.length=N) (ak:Digs zs 4294967296) (hj:j+L<=N) (hL:0<L) (hN:N<=100000000)
  (hv:IsBig w v V) (aq:dj V<=100000000) (hq:q<4294967296) :
  Calls prog 197 #[.slice (some ⟨g,j,none⟩) L c,v,.int .u64 q] w fun r w'=>
   (val ((zs.drop j).take L) 4294967296<V*q/\r=.returned (.bool false)/\Kept af w w') \/
   (V*q<=val ((zs.drop j).take L) 4294967296/\r=.returned (.bool true)/\OwnN .u32 91 w' base (.slice (some ⟨g,0,none⟩) N n) N (zs.take j ++ (digs (val ((zs.drop j).take L) 4294967296-V*q) L 4294967296 ++ zs.drop (j+L)))/\Kept (fun b=>b=g) w w'):=by
 obtain ⟨i0,U,ad,ae,ah⟩:=info_parts Tryz.info91;have hS:=rM q (by omega) w;have hlt:=uZ (j:=j) (L:=L) ak F hj;have m:=kG (j:=j) (L:=L) F hj;have o:Digs ((zs.drop j).take L) 4294967296:=(ak.drop j).take L;have a:=fun W (hk:Kept af w W)=>Bw (j:=j) (L:=L) (hk.own ho (fun _ _ f=>f)) F hj
 have d:=tg .u32 ((zs.drop j).take L);have ao:g<w.heap.size:=by
  rcases ho.2 with ⟨h',_⟩ | ⟨g',cap',cur,h',_,hgg,_⟩
  ·simp at h'
  ·simp only [Value.slice.injEq,ik,Addr.mk.injEq,and_true] at h';obtain ⟨rfl,_,_⟩:=h';exact lt_of_block hgg
 obtain ⟨us,ab⟩:∃ us,us=(zs.drop j).take L:=⟨_,rfl⟩
 rw [<- ab] at hlt m o a d ⊢;clear ab;go_enter func197,ntmps197;go_wp2_with fail;refine hS.mono ?_;rintro e w1 ⟨v1,rfl,b1,_,k1⟩;have hM:=Hy v v1 V q w1 (hv.grew k1) b1 aq (aR ((eI _ 1).2 (by omega)) (by omega));go_wp2_with fail;refine hM.mono ?_;rintro e w2 ⟨v2,rfl,b2,_,k2⟩;have K2:=k1.trans k2;have Y:=a w2 K2
 go_wp2_with (at_builtin;refine wpList_append_lies _ rfl _ _ 76 rfl w2.heap.size 91 i0 _ 1 4 underlying76 U ad ae ah rfl (by omega) _ _ _ rfl (World.ownsRow_nil w2 w2.heap.size _ _) ⟨g,j,none⟩ L c (us.map fun z=>.int .u32 (z:Nat)) rfl (by rw [cf,m];omega) Y d hL (by unfold maxLen;omega) (by omega) (leR _) (w2.heap.size) rfl ?_;intro gg c' w3 B R s x);rw [dz,bw] at B;have r3:Row .u32 w3 (.slice (some ⟨gg,0,none⟩) L c') us:=Row.of_own (base:=w2.heap.size) (e:=91) (by rw [m];exact B);have k3:Kept af w2 w3:=aV R;have J:=fu _ _ _ r3 o (by omega);clear B R s x Y;refine J.mono ?_
 rintro e w' ⟨v4,rfl,b4,_,rfl⟩;have hC:=FH v4 v2 (val us 4294967296) (V*q) w' b4 (b2.grew k3);have K3:=K2.trans k3;by_cases hlow:val us 4294967296<V*q
 ·rw [gS hlow] at hC;have p:Hid (val us 4294967296<V*q):=hlow;clear hlow a hlt d o;go_wp2_with fail;refine hC.mono ?_;rintro e w4 ⟨rfl,n4,rfl⟩;go_wp2;go_ret;exact .inl ⟨p.out,rfl,K3.drewN n4⟩
 ·have an:¬ dR (val us 4294967296) (V*q)<0:=by unfold dR;rw [ai hlow];split <;> decide
  have X:V*q<=val us 4294967296:=by omega
  obtain ⟨cc,l⟩:∃ cc,cc=dR (val us 4294967296) (V*q):=⟨_,rfl⟩
  rw [<- l] at hC an;have G:Hid (V*q<=val us 4294967296):=X;clear hlow l X;go_wp2_with fail;refine hC.mono ?_;rintro e w4 ⟨rfl,n4,ac⟩;have k4:Kept af w' w4:=by rw [ac];exact (aj _ _).drewN n4
  have K4:=K3.trans k4;have H:=(b2.grew k3).grew k4;clear ac b4 hC J r3;have Z:=a w4 K4;go_wp2_with (at_builtin;refine wpList_append_lies _ rfl _ _ 76 rfl w4.heap.size 91 i0 _ 1 4 underlying76 U ad ae ah rfl (by omega) _ _ _ rfl (World.ownsRow_nil w4 w4.heap.size _ _) ⟨g,j,none⟩ L c (us.map fun z=>.int .u32 (z:Nat)) rfl (by rw [cf,m];omega) Z d hL (by unfold maxLen;omega) (by omega) (leR _) (w4.heap.size) rfl ?_;intro am c5 w5 C T t y);rw [dz,bw] at C;have r5:Row .u32 w5 (.slice (some ⟨am,0,none⟩) L c5) us:=Row.of_own (base:=w4.heap.size) (e:=91) (by rw [m];exact C);have k5:Kept af w4 w5:=aV T
  have M:=fu _ _ _ r5 o (by omega);clear C T t y Z;refine M.mono ?_;rintro e w6 ⟨v6,rfl,b6,_,rfl⟩;have hSb:=IK v6 v2 (val us 4294967296) (V*q) w6 b6 (H.grew k5) G.out;have K6:=K4.trans k5;go_wp2_with fail;refine hSb.mono ?_;rintro e w7 ⟨v7,rfl,b7,o7,k7⟩;have K7:=K6.trans k7;have aa:OwnN .u32 91 w7 base (.slice (some ⟨g,0,none⟩) N n) N zs:=K7.own ho (fun _ _ f=>f);have ap:∀ b,v7.ownBlock=some b->¬ b=g:=fun b hb e=>by have:=o7 b hb;have:=K6.size;omega
  obtain ⟨D,hD⟩:∃ D,D=val us 4294967296-V*q:=⟨_,rfl⟩
  rw [<- hD] at b7;have HD:Hid (D=val us 4294967296-V*q):=hD;clear hSb M r5 b6 H a d hD o7;clear b2 hM hv;go_wp2_with fail;go_loopw [27] (fun i wr=>∃ k:Nat,k<=L/\i=.int .i64 k/\OwnN .u32 91 wr base (.slice (some ⟨g,0,none⟩) N n) N (zs.take j ++ (digs D k 4294967296 ++ zs.drop (j+k)))/\Kept (fun b=>b=g) w7 wr) (fun i _=>L-(intOf i).toNat)
  case atStart=>exact ⟨0,aP _,rfl,by simpa [digs] using aa,aj _ _⟩
  case round=>
   clear aa;obtain ⟨k,hk,rfl,h,A⟩:=hrel;by_cases hkl:k<L
   ·obtain ⟨ds,rd,dd,_,Q,_⟩:=b7.kept A ap;have I:=nI v7 ds k wr rd;have P:ds.getD k 0=dig D k 4294967296:=by rw [<- Q];exact (cS (by omega) dd k).symm
    rw [P] at I;have O:wr.cell? ⟨g,j+k,none⟩=some (.int .u32 ((zs.getD (j+k) 0:Nat):Int)):=by
     rw [World.ownsRow.cellAt h (j+k) (by omega),bu,ig (by rw [aO];omega),aO,cL (by omega),oy,ig (by rw [ag];omega),ag,bJ,et,aU,aA,aQ (by omega)];rfl
    have hf:=World.ownsRow.frozenAt h (j+k);have E:=fun u=>(World.ownsRow.stored h (j+k) u).1
    have HF:=DD zs D j k (by omega);have al:Hid ((zs.take j ++ (digs D k 4294967296 ++ zs.drop (j+k))).set (j+k) (dig D k 4294967296)=zs.take j ++ (digs D (k+1) 4294967296 ++ zs.drop (j+(k+1)))):=HF;clear HF P rd dd Q;generalize zs.getD (j+k) 0=old at *;have g1:(k:Int)<(L:Int):=by omega
    generalize dig D k 4294967296=dk at *;go_wp2_with fail;refine I.mono ?_;rintro e w' ⟨rfl,rfl⟩;go_wp2;go_roundw
    case rel=>
     refine ⟨k+1,by omega,by go_num,?_,A.setCell _ (fun _=>rfl) _⟩;unfold OwnN;rw [<- al.out,bZ];exact E _
    case measure=>simp [intOf];omega
   ·have g1:¬ (k:Int)<(L:Int):=by omega
    have ek:k=L:=by omega
    rw [ek] at h;clear ek;go_wp2;go_ret;rw [HD.out] at h;exact .inr ⟨G.out,rfl,h,(K7.any (S:=fun b=>b=g)).trans A⟩

theorem Am {us ds:List Nat} {p a0 a1 t:Nat} (f:us.length=p+2) (e:ds.length=p+1) (d:Digs us 4294967296) (h0:us.getD p 0=a0) (h1:us.getD (p+1) 0=a1) (ht:ds.getD p 0=t) (c:0<t) :
  val us 4294967296/val ds 4294967296<=(a1*4294967296+a0)/t:=by
 have e1:=aW 4294967296 us p (by omega);have e2:val (us.drop p) 4294967296=a1*4294967296+a0:=by
  rw [dU (by omega),dU (by omega),dZ (by omega)];rw [aA,aQ (by omega)] at h0 h1;simp only [jn] at h0 h1;simp only [val];rw [h0,h1];omega
 have b:val (us.take p) 4294967296<4294967296^p:=by
  have:=aE (by omega) (d.take p)
  rwa [aO,cL (by omega)] at this
 have e3:=aW 4294967296 ds p (by omega);have e4:val (ds.drop p) 4294967296=t:=by
  rw [dU (by omega),dZ (by omega)];rw [aA,aQ (by omega)] at ht;simp only [jn] at ht;simp only [val];rw [ht];omega
 rw [e2] at e1;rw [e4] at e3;have a:0<4294967296^p:=aC (by omega);have h5:val us 4294967296/4294967296^p=a1*4294967296+a0:=by
  rw [e1,jm _ _ a,bj b,dz]
 rw [<- h5,cK];exact Nat.div_le_div_left (by omega) (fI a c)

theorem tB {U V q:Nat} (h1:U/V<=q) (h2:V*q<=U) (hV:0<V):q=U/V/\U-V*q=U%V:=by
 have h3:q<=U/V:=(mz hV).2 (by rw [aF];exact h2);have e:q=U/V:=by omega
 refine ⟨e,?_⟩;have:=ef U V;rw [e];omega

theorem FI (g base N o j p c V:Nat) (zs:List Nat) (v:Value) (w:World) (ho:OwnN .u32 91 w base (.slice (some ⟨g,0,none⟩) N o) N zs) (F:zs.length=N) (l:Digs zs 4294967296) (hj:j+(p+2)<=N) (hN:N<=100000000)
  (hv:IsBig w v V) (C:dj V=p+1) (D:val ((zs.drop j).take (p+2)) 4294967296<V*4294967296) :
  Calls prog 137 #[.slice (some ⟨g,j,none⟩) (p+2) c,v] w fun r w'=>r=.returned (.int .u32 ((val ((zs.drop j).take (p+2)) 4294967296/V:Nat):Int)) /\
   OwnN .u32 91 w' base (.slice (some ⟨g,0,none⟩) N o) N (zs.take j ++ (digs (val ((zs.drop j).take (p+2)) 4294967296%V) (p+2) 4294967296 ++ zs.drop (j+(p+2))))/\Kept (fun b=>b=g) w w':=by
 have HT:=fun q (hq:q<4294967296) W (hk:Kept af w W)=>Hz g base N o j (p+2) c q V zs v W (hk.own ho (fun _ _ f=>f)) F l hj (by omega) hN (hv.grew hk) (by omega) hq
 have a:0<V:=by
  rcases cF V with h | h
  ·rw [h] at C;simp [dj] at C
  ·exact h
 have x:∀ i,i<p+2->w.cell? ⟨g,j+i,none⟩=some (.int .u32 ((zs.getD (j+i) 0:Nat):Int)):=fun i hi=>by
  rw [World.ownsRow.cellAt ho (j+i) (by omega),bu,aA,aQ (by omega)];rfl
 obtain ⟨ds,rd,dd,td,y,_⟩:=hv;have n:ds.length=p+1:=by rw [fq dd td,y];exact C
 have B:0<ds.getD p 0:=by
  rcases td with h | h
  ·omega
  ·rw [n,ij] at h;omega
 have L:=dd.getD (by omega) p;have k:=Am (us:=(zs.drop j).take (p+2)) (ds:=ds) (kG F hj) n ((l.drop j).take _) (tE (by omega)) (tE (by omega)) rfl B;rw [y] at k;have d:val ((zs.drop j).take (p+2)) 4294967296/V<4294967296:=by rw [cj a,aF];exact D
 have l0:=l.getD (by omega) (j+p);have l1:=l.getD (by omega) (j+(p+1));have c0:=x p (by omega);have c1:=x (p+1) (by omega);obtain ⟨bo,m,bc,rfl,hM,_,_,_,hB⟩:=rd.open;have hm:m=p+1:=hM.out.symm.trans n;subst hm;obtain ⟨gb,ob,rfl,cb⟩:=hB p (by omega);obtain ⟨U,hU⟩:∃ U,U=val ((zs.drop j).take (p+2)) 4294967296:=⟨_,rfl⟩
 rw [<- hU] at HT k d ⊢;clear x hB rd dd td y D hM hU n l;generalize zs.getD (j+p) 0=a0 at *;generalize zs.getD (j+(p+1)) 0=a1 at *;generalize ds.getD p 0=t at *;have I:=tj a1 a0 l1 l0;have X:a1*4294967296+a0<18446744073709551616:=by omega
 generalize a1*4294967296+a0=top at *;have s1:(p:Int)+1-1=(p:Int):=by omega
 have g0:(0:Int)<=(p:Int):=bY _;have g1:(p:Int)+1<(p:Int)+2:=by omega
 have g2:(p:Int)<(p:Int)+2:=by omega
 have g3:(p:Int)<(p:Int)+1:=by omega
 have s2:IntKind.i64.wrap ((p:Int)+1-1)=(p:Int):=by rw [IntKind.wrap_i64];omega
 go_enter func137,ntmps137;go_wp2_with fail;go_quiet (fail);have k0:Kept af w (w.drewN nq):=(aj _ _).drewN nq;have M:=k0.cellN cb;clear c0 c1 cb;generalize w.drewN nq=W at *;obtain ⟨Q,hQ⟩:∃ Q,Q=top/t:=⟨_,rfl⟩
 rw [<- hQ] at k;have O:IntKind.u64.wrap ((top:Int)/(t:Int))=(Q:Int):=by
  have h1:top/t<=top:=ew _ _;rw [<- hQ] at h1;rw [show (top:Int)/(t:Int)=((top/t:Nat):Int) by simp,<- hQ,IntKind.wrap_u64];omega
 have T:¬ (t:Int)=0:=by omega
 have s:(4294967295:Int)<(Q:Int)\/¬ (4294967295:Int)<(Q:Int):=by omega
 have G:Hid (U/V<=Q):=k;have H:Hid (U/V<4294967296):=d;clear hQ k d I;rcases s with hf | hf
 all_goals
  go_wp2_with fail;go_loopw [7] (fun rr wr=>∃ q:Nat,q<4294967296/\rr=.int .u64 q/\Hid (U/V<=q)/\Kept af w wr) (fun rr _=>(intOf rr).toNat)
  case atStart=>first | exact ⟨Q,by omega,rfl,G,k0⟩ | exact ⟨4294967295,by omega,rfl,by have:=H.out;unfold Hid;omega,k0⟩
  case round=>
   obtain ⟨q,hq,rfl,A,z⟩:=hrel;have hT:=HT q hq wr z;clear HT;go_wp2_with fail;refine hT.mono ?_;rintro e w' (⟨h1,rfl,k1⟩ | ⟨h1,rfl,E,k1⟩)
   ·have R:0<q:=by
     rcases cF q with h | h
     ·subst h;omega
     ·exact h
    obtain ⟨q',rfl⟩:∃ q',q=q'+1:=⟨q-1,by omega⟩
    have J:Hid (U/V<=q'):=by
     have h2:U/V<q'+1:=(cj a).2 (by rw [aF];exact h1);unfold Hid;omega
    clear h1 A hT;go_wp2;go_roundw
    case rel=>exact ⟨q',by omega,by go_num,J,z.trans k1⟩
    case measure=>simp [intOf]
   ·obtain ⟨e1,e2⟩:=tB A.out h1 a;rw [e2] at E;have E1:Hid (q=U/V):=e1;have P:(q:Int)<4294967296:=by omega
    clear h1 A hT e1 e2;go_wp2;go_ret;refine ⟨?_,E,(z.any (S:=fun b=>b=g)).trans k1⟩;rw [<- E1.out];rfl

theorem AR {ds:List Nat} {p r t:Nat} (hd:Digs ds 4294967296) (hl:ds.length=p+1) (ht:ds.getD p 0=t) (h1:t<2^(r+1)) (h2:2^r<=t) (hr:r<=31) :
  2^(31-r)*val ds 4294967296<4294967296^(p+1)/\2^31*4294967296^p<=2^(31-r)*val ds 4294967296/\dj (2^(31-r)*val ds 4294967296)=p+1:=by
 have e:=aW 4294967296 ds p (by omega);have e4:val (ds.drop p) 4294967296=t:=by
  rw [dU (by omega),dZ (by omega)];rw [aA,aQ (by omega)] at ht;simp only [jn] at ht;simp only [val];rw [ht];omega
 rw [e4] at e;have b:val (ds.take p) 4294967296<4294967296^p:=by
  have:=aE (by omega) (hd.take p)
  rwa [aO,cL (by omega)] at this
 have a1:val ds 4294967296+1<=4294967296^p*(t+1):=by rw [aJ,bD];omega
 have a2:4294967296^p*t<=val ds 4294967296:=by omega
 have b1:2^(31-r)*2^(r+1)=4294967296:=by rw [<- aN,show 31-r+(r+1)=32 by omega]
 have b2:2^(31-r)*2^r=2^31:=by rw [<- aN,show 31-r+r=31 by omega]
 have a:0<2^(31-r):=aC (by omega);have c1:2^(31-r)*val ds 4294967296<4294967296^(p+1):=by
  have x1:2^(31-r)*(val ds 4294967296+1)<=2^(31-r)*(4294967296^p*2^(r+1)):=bi _ (aR a1 (bi _ (by omega)));rw [gO,b1,<- aH] at x1;have x2:2^(31-r)*val ds 4294967296<2^(31-r)*(val ds 4294967296+1):=lC (by omega) a;exact bd x2 x1
 have c2:2^31*4294967296^p<=2^(31-r)*val ds 4294967296:=by
  have x1:2^(31-r)*(4294967296^p*2^r)<=2^(31-r)*val ds 4294967296:=bi _ (aR (bi _ h2) a2);rw [gO,b2,aF] at x1;exact x1
 refine ⟨c1,c2,?_⟩;have d1:=(eI _ _).2 c1;have d2:¬ dj (2^(31-r)*val ds 4294967296)<=p:=fun h=>by
  have:=(eI _ _).1 h;have h3:1*4294967296^p<=2^31*4294967296^p:=bI _ (by decide);omega
 omega

theorem tZ (A s:Nat) (hs:s<=31):dj (2^s*A)<=dj A+1/\dj A<=dj (2^s*A)/\2^s*A<2^s*4294967296^dj A:=by
 have h1:=(eI A (dj A)).1 (leR _);have hp:0<2^s:=aC (by omega);have h3:2^s*A<2^s*4294967296^dj A:=lC h1 hp;refine ⟨(eI _ _).2 ?_,nj (Nat.le_mul_of_pos_left _ hp),h3⟩;rw [aH,aF (4294967296^dj A)];have h2:2^s*4294967296^dj A<=4294967296*4294967296^dj A:=bI _ (aR (aY (by omega) hs) (by decide));omega

theorem BP {zs:List Nat} (hd:Digs zs 4294967296) (k:Nat):val (zs.drop k) 4294967296=val zs 4294967296/4294967296^k:=by
 by_cases h:k<=zs.length
 ·have e:=aW 4294967296 zs k h;have a:val (zs.take k) 4294967296<4294967296^k:=by
   have:=aE (by omega) (hd.take k)
   rwa [aO,cL h] at this
  rw [e,jm _ _ (aC (by omega)),bj a,dz]
 ·rw [dZ (by omega)];have h1:=aE (by omega) hd;have h2:(4294967296:Nat)^zs.length<=4294967296^k:=aY (by omega) (by omega);rw [bj (by omega)];rfl

theorem ym {zs:List Nat} {A V s p la:Nat} (hd:Digs zs 4294967296) (hv:val zs 4294967296=2^s*A) (hA:2^s*A<2^s*4294967296^la) (hs:s<=31) (hp:p<=la) (hV:2^31*4294967296^p<=V) :
  val (zs.drop (la-p)) 4294967296<V:=by
 rw [BP hd,hv,cj (aC (by omega))];have e:4294967296^la=4294967296^p*4294967296^(la-p):=by rw [<- aN,show p+(la-p)=la by omega]
 rw [e,<- bf] at hA;have h1:2^s*4294967296^p<=2^31*4294967296^p:=bI _ (aY (by omega) hs);exact bd hA (bI _ (aR h1 hV))

theorem qu {zs:List Nat} {j:Nat} (h:j<zs.length):val (zs.drop j) 4294967296=zs.getD j 0+4294967296*val (zs.drop (j+1)) 4294967296:=by
 rw [dU h,aA,aQ h];rfl

theorem yl {zs a qs:List Nat} {V n j N:Nat} (hd:Digs zs 4294967296) (hl:zs.length=N) (p:a.length=N) (hj:j+(n+1)<=N) (hV:V<4294967296^n) (i:0<V) (hR:val (zs.drop (j+1)) 4294967296<V) (c:zs.take (j+1)=a.take (j+1))
  (hinv:V*val qs 4294967296+val (zs.drop (j+1)) 4294967296=val (a.drop (j+1)) 4294967296) (U:Nat) (hU:U=val ((zs.drop j).take (n+1)) 4294967296) :
  U<V*4294967296 /\
  ∀ b,b=zs.take j ++ (digs (U%V) (n+1) 4294967296 ++ zs.drop (j+(n+1))) ->
   b.length=N/\Digs b 4294967296/\b.take j=a.take j/\val (b.drop j) 4294967296<V/\V*val (U/V :: qs) 4294967296+val (b.drop j) 4294967296=val (a.drop j) 4294967296:=by
 have e1:=aW 4294967296 (zs.drop (j+1)) n (by rw [b9];omega);rw [iY] at e1;have hz:val (zs.drop (j+1+n)) 4294967296=0:=by
  rcases cF (val (zs.drop (j+1+n)) 4294967296) with h | h
  ·exact h
  ·have:4294967296^n*1<=4294967296^n*val (zs.drop (j+1+n)) 4294967296:=bi _ h;omega
 have e2:=aW 4294967296 (zs.drop j) (n+1) (by rw [b9];omega);rw [iY,show j+(n+1)=j+1+n by omega,hz,cG,aU,<- hU] at e2;have e3:=qu (zs:=zs) (j:=j) (by omega);have l:zs.getD j 0=a.getD j 0:=by
  have h1:(zs.take (j+1)).getD j 0=(a.take (j+1)).getD j 0:=by rw [c]
  rw [aA,aA,dV,dV,ah (by omega),ah (by omega)] at h1;rw [aA,aA];exact h1
 have o:=hd.getD (by omega) j;have m:U=zs.getD j 0+4294967296*val (zs.drop (j+1)) 4294967296:=e2.symm.trans e3;refine ⟨by omega,fun b e=>?_⟩;have g:(zs.take j).length=j:=by rw [aO];omega
 have d:b.drop j=digs (U%V) (n+1) 4294967296 ++ zs.drop (j+(n+1)):=by rw [e,List.drop_left' g]
 have k:=ay U i;have f:val (b.drop j) 4294967296=U%V:=by
  rw [d,dX,aB,show j+(n+1)=j+1+n by omega,hz,cG,aU];apply ax;have h1:(4294967296:Nat)^n<=4294967296^(n+1):=aY (by omega) (by omega);omega
 refine ⟨by rw [e];simp [ag];omega,by rw [e];exact (hd.take j).append ((ak (by omega) _ _).append (hd.drop _)),?_,by omega,?_⟩
 ·rw [e,List.take_left' g];have h1:(zs.take (j+1)).take j=(a.take (j+1)).take j:=by rw [c]
  rwa [mw,mw,cL (by omega)] at h1
 ·rw [f,qu (zs:=a) (j:=j) (by omega),<- l,<- hinv];simp only [val];have h1:=ef U V;rw [aJ,gO V 4294967296];omega

theorem Cq {zs qs:List Nat} {A M s n N:Nat} (hl:zs.length=N) (hn:n<=N) (hM:0<M) (hV:2^s*M<4294967296^n) (hR:val zs 4294967296<2^s*M) (hinv:2^s*M*val qs 4294967296+val zs 4294967296=2^s*A) :
  val qs 4294967296=A/M/\val (zs.take n) 4294967296/2^s=A%M:=by
 have hp:0<2^s:=aC (by omega);have a:0<2^s*M:=fI hp hM;have e1:(2^s*A)/(2^s*M)=val qs 4294967296:=by
  rw [<- hinv,fH a,bj hR,aU]
 have e2:(2^s*A)%(2^s*M)=val zs 4294967296:=by
  rw [<- hinv,i9,ax hR]
 have e3:=aW 4294967296 zs n (by omega);have hz:val (zs.drop n) 4294967296=0:=by
  rcases cF (val (zs.drop n) 4294967296) with h | h
  ·exact h
  ·have:4294967296^n*1<=4294967296^n*val (zs.drop n) 4294967296:=bi _ h;omega
 rw [hz,cG,aU] at e3;refine ⟨by rw [<- e1,Nat.mul_div_mul_left _ _ hp],?_⟩;rw [<- e3,<- e2,oB,Nat.mul_div_cancel_left _ hp]

end Go.Proofs.YtkaojflnghfmcaaGreatDoor
