/- Put together of: Base2 Prm1 BigDivMod Base3. -/
import Derived.Test.YtpkmoamgpjcdeaaGreatDoorBY1
import Derived.Deep.RegionHeld3
import Derived.Deep.DrawnRows
import Derived.Deep.RegionWith
import Derived.BigRegion

namespace Go.Proofs.YtpkmoamgpjcdeaaGreatDoor
open _root_.Go.Proofs.Tryz
set_option maxRecDepth 100000
set_option maxHeartbeats 4000000
open Go.RowKit
variable {B L N V c d i j k n p r t x y:Nat} {ds os qs zs:LN} {w:World}

theorem fA (B:Nat) (l:LN) (k:Nat):val (l.take (k+1)) B=val (l.take k) B+B^k*l.getD k 0:=by
 by_cases h:k<l.length
 ·rw [mq h,dG,aR,fT,aA,aS h];rfl
 ·rw [dS (by omega),dS (by omega),aA,ip (by omega)];simp

theorem mX (p B t:Nat):p*(t%B)+p*B*(t/B)=p*t:=by
  have h:=iY t B
  calc p*(t%B)+p*B*(t/B)=p*(t%B+B*(t/B)):=by rw [aJ,bd]
    _=p*t:=by rw [h]

theorem iK (w:World) (x:Value) (e:TypeId):∀ j u,[x][j]? = some u->(w.alloc (.cells #[x] e)).cell? ((⟨w.heap.size,0,none⟩:Addr).add j)=some u:=
 World.news_of_block (cs:=#[x]) (t:=e) (fr:=(0,0)) (Go.heap_alloc_new w _)

theorem BH {a b:LN} (hl:os.length=k) (h:val os 4294967296+4294967296^k*c=val (a.take k) 4294967296+val (b.take k) 4294967296) (hx:a.getD k 0=x) (hy:b.getD k 0=y) :
  val (os ++ [(c+(x+y))%4294967296]) 4294967296+4294967296^(k+1)*((c+(x+y))/4294967296)=val (a.take (k+1)) 4294967296+val (b.take (k+1)) 4294967296:=by
 rw [dG,hl,fA,fA,hx,hy,aG,iX,mX,aJ,aJ];omega

theorem Ma (u v:Value) (A B:Nat) (w:World) (hu:IsBig w u A) (hv:IsBig w v B) (g:cC A<=100000000) (d:cC B<=100000000) :
  ClZ 136 #[u,v] w fun r w'=>∃ v',r=.returned v'/\IsBig w' v' (A+B)/\(∀ b,v'.ownBlock=some b->w.heap.size<=b)/\Kept af w w':=by
 obtain ⟨i0,q,D,E,F⟩:=info_parts Tryz.info85;obtain ⟨a,ra,da,ta,rfl,la⟩:=hu;obtain ⟨b,rb,db,tb,rfl,lb⟩:=hv;have N:a.length<=100000000:=by rw [fY da ta];exact g
 have O:b.length<=100000000:=by rw [fY db tb];exact d
 have HA:=fun i W (hk:Kept af w W)=>nj u a i W (ra.g hk)
 have HB:=fun i W (hk:Kept af w W)=>nj v b i W (rb.g hk)
 have xa:=fun i=>da.getD (by omega) i
 have xb:=fun i=>db.getD (by omega) i
 obtain ⟨ao,n,ac,rfl,hN,_,_,_,_⟩:=ra.open;obtain ⟨bo,m,bc,rfl,hM,_,_,_,_⟩:=rb.open;rw [hN.o] at N;rw [hM.o] at O;clear ra rb la lb g d da db ta tb;delta ClZ;go_in;go_wp2_with fail;go_loopw [5,6,7] (fun o c i wr=>∃ (k c':Nat) (os:LN),k<=max n m/\c'<=1/\i=.int .i64 k/\c=.int .u64 (c':Nat)/\os.length=k/\Digs os 4294967296/\OwnN .u32 85 wr w.heap.size o k os/\Kept af w wr /\
   val os 4294967296+4294967296^k*c'=val (a.take k) 4294967296+val (b.take k) 4294967296) (fun _ _ i _=>max n m-(intOf i).toNat)
 case atStart=>exact ⟨0,0,[],aQ _,by omega,rfl,rfl,rfl,Digs.nil _,World.ownsRow_nil _ _ _ _,ah _ _,by simp [val]⟩
 case round=>
  obtain ⟨k,c,os,hk,hc,rfl,rfl,t,s,ho,f,j⟩:=hrel;have HV:HzD (val os 4294967296+4294967296^k*c=val (a.take k) 4294967296+val (b.take k) 4294967296):=j;have HL:HzD (os.length=k):=t;clear j t;by_cases hlt:k<max n m
  ·have hA:=HA k wr f;have hB:=HB k wr f;have hx:=xa k;have hy:=xb k;have HS:=fun x y hx hy=>BH (a:=a) (b:=b) (os:=os) (k:=k) (c:=c) (x:=x) (y:=y) HL.o HV.o hx hy
   have G:HzD (val (os ++ [(c+(a.getD k 0+b.getD k 0))%4294967296]) 4294967296+4294967296^(k+1)*((c+(a.getD k 0+b.getD k 0))/4294967296)=val (a.take (k+1)) 4294967296+val (b.take (k+1)) 4294967296):=HS _ _ rfl rfl;clear HA HB xa xb HS HV;generalize a.getD k 0=x at *;generalize b.getD k 0=y at *;have e1:((c:Int)+((x:Int)+(y:Int)))%4294967296=(((c+(x+y))%4294967296:Nat):Int):=by omega
   have e2:((c:Int)+((x:Int)+(y:Int)))/4294967296=(((c+(x+y))/4294967296:Nat):Int):=by omega
   have E1:HzD (((c:Int)+((x:Int)+(y:Int)))%4294967296=(((c+(x+y))%4294967296:Nat):Int)):=e1;have E2:HzD (((c:Int)+((x:Int)+(y:Int)))/4294967296=(((c+(x+y))/4294967296:Nat):Int)):=e2;clear e1 e2;by_cases hkn:k<n
   all_goals
    have g1:(k:Int)<(n:Int)\/(¬ (k:Int)<(n:Int)/\(k:Int)<(m:Int)):=by omega
    rcases g1 with g1 | ⟨g1,g2⟩
    all_goals first | (exfalso;omega) | skip
    all_goals
     go_wp2_with fail;refine hA.mono ?_;rintro e w' ⟨rfl,rfl⟩;go_wp2_with fail;refine hB.mono ?_;rintro e w' ⟨rfl,rfl⟩;go_wp2_with (at_builtin;refine wpList_append_lies _ rfl _ _ 54 rfl w.heap.size 85 i0 _ 1 4 underlying54 q D E F rfl (by omega) _ _ _ rfl (ho.alloc _) ⟨w'.heap.size,0,none⟩ 1 1 [.int .u32 (((c:Int)+((x:Int)+(y:Int)))%4294967296)] rfl rfl (iK w' _ _) (by simp [Value.oneCell']) (by omega) (by unfold maxLen;omega) (by omega) (by have:=f.size;simp;omega) (w'.heap.size+1) (by simp) ?_;intro gg c' w4 h hg H I);have l:Kept af w w4:=(f.alloc _).grown hg (fun b hb hlt=>by have:=(ho.lt b hb).1;omega);rw [E1.o] at h;rw [E2.o];go_roundw
     case rel=>exact ⟨k+1,(c+(x+y))/4294967296,os ++ [(c+(x+y))%4294967296],by omega,by omega,by go_num,rfl,by rw [bk,HL.o];rfl,s.append (Digs.one (bu)),by unfold OwnN;rw [dR];exact h,l,G.o⟩
     case measure=>simp [intOf];omega
  ·have e:k=max n m:=by omega
   have z:a.take k=a:=dS (by have:=hN.o;omega);have C:b.take k=b:=dS (by have:=hM.o;omega);have M:HzD (val (os ++ [c]) 4294967296=val a 4294967296+val b 4294967296):=by
    unfold HzD;rw [dG,HL.o];have:=HV.o;rw [z,C] at this;exact this
   clear HA HB xa xb HV z C e;have g1:¬ (k:Int)<(n:Int):=by omega
   have g2:¬ (k:Int)<(m:Int):=by omega
   have g3:k<=100000000:=by omega
   go_wp2_with (at_builtin;refine wpList_append_lies _ rfl _ _ 54 rfl w.heap.size 85 i0 _ 1 4 underlying54 q D E F rfl (by omega) _ _ _ rfl (ho.alloc _) ⟨wr.heap.size,0,none⟩ 1 1 [.int .u32 (c:Int)] rfl rfl (iK wr _ _) (by simp [Value.oneCell']) (by omega) (by unfold maxLen;omega) (by omega) (by have:=f.size;simp;omega) (wr.heap.size+1) (by simp) ?_;intro gg c' w4 h hg H I);have l:Kept af w w4:=(f.alloc _).grown hg (fun b hb hlt=>by have:=(ho.lt b hb).1;omega);have J:(os ++ [c]).length=k+1:=by rw [bk,HL.o];rfl
   have hr:Row .u32 w4 _ (os ++ [c]):=Row.of_own (base:=w.heap.size) (e:=85) (by rw [J,dR];exact h);have ht:=gd _ _ _ hr (s.append (Digs.one (by omega)));rw [M.o] at ht;refine ht.mono ?_;rintro e w' ⟨v',rfl,hb,L,rfl⟩;go_wp2;go_ret;exact ⟨v',rfl,hb,fun b p=>by rw [L] at p;exact (h.lt b p).1,l⟩

theorem DW {a b:LN} {β z β':Nat} (hl:os.length=k) (h:val os 4294967296+val (b.take k) 4294967296=val (a.take k) 4294967296+4294967296^k*β) (hx:a.getD k 0=x) (hy:b.getD k 0=y)
  (hz:z+y+β=x+4294967296*β') :
  val (os ++ [z]) 4294967296+val (b.take (k+1)) 4294967296=val (a.take (k+1)) 4294967296+4294967296^(k+1)*β':=by
 rw [dG,hl,fA,fA,hx,hy,aG,bd];have e:4294967296^k*(z+y+β)=4294967296^k*(x+4294967296*β'):=by rw [hz]
 rw [aJ,aJ,aJ] at e;omega

theorem FR {a b:LN} {β:Nat} (hd:Digs os 4294967296) (hl:os.length=a.length) (h:val os 4294967296+val b 4294967296=val a 4294967296+4294967296^a.length*β) (hb:β<=1) (c:val b 4294967296<=val a 4294967296) :
  val os 4294967296=val a 4294967296-val b 4294967296:=by
 have h1:=aE (by omega) hd;rw [hl] at h1;have h2:β=0\/β=1:=by omega
 rcases h2 with rfl | rfl
 ·omega
 ·rw [bI] at h;omega

theorem vZ (u v:Value) (A B:Nat) (w:World) (hu:IsBig w u A) (hv:IsBig w v B) (p:B<=A:=by omega) :
  ClZ 51 #[u,v] w fun r w'=>∃ v',r=.returned v'/\IsBig w' v' (A-B)/\(∀ b,v'.ownBlock=some b->w.heap.size<=b)/\Kept af w w':=by
 obtain ⟨i0,E,H,I,J⟩:=info_parts Tryz.info85;obtain ⟨a,ra,da,ta,rfl,la⟩:=hu;obtain ⟨b,rb,db,tb,rfl,lb⟩:=hv;have g:b.length<=a.length:=by
  rw [jm (by omega) db tb];exact fF p (aE (by omega) da)
 have HB:=fun i W (hk:Kept af w W)=>nj v b i W (rb.g hk)
 have xa:=fun i=>da.getD (by omega) i
 have xb:=fun i=>db.getD (by omega) i
 obtain ⟨ao,n,ac,rfl,hN,_,_,_,h4⟩:=ra.open;rw [hN.o] at la g;clear ra rb lb da db ta tb;delta ClZ;go_in;go_wp2_with fail;go_loopw [5,6,10] (fun o c i wr=>∃ (k β:Nat) (os:LN),k<=n/\β<=1/\i=.int .i64 k/\c=.int .i64 (-(β:Int))/\HzD (os.length=k)/\Digs os 4294967296/\OwnN .u32 85 wr w.heap.size o k os/\Kept af w wr /\
   HzD (val os 4294967296+val (b.take k) 4294967296=val (a.take k) 4294967296+4294967296^k*β)) (fun _ _ i _=>n-(intOf i).toNat)
 case atStart=>exact ⟨0,0,[],aQ _,by omega,rfl,rfl,rfl,Digs.nil _,World.ownsRow_nil _ _ _ _,ah _ _,by unfold HzD;simp [val]⟩
 case round=>
  obtain ⟨k,β,os,hk,hβ,rfl,rfl,HL,j,ho,f,HV⟩:=hrel;by_cases hlt:k<n
  ·obtain ⟨bb,off,rfl,d⟩:=(h4 k hlt).g f;have hD:=fun W (hk:Kept af w W)=>HB k W hk
   have hx:=xa k;have hy:=xb k;have HS:HzD (∀ z β',z+b.getD k 0+β=a.getD k 0+4294967296*β'->val (os ++ [z]) 4294967296+val (b.take (k+1)) 4294967296=val (a.take (k+1)) 4294967296+4294967296^(k+1)*β'):=fun z β' hz=>DW HL.o HV.o rfl rfl hz
   clear HB xa xb HV h4;generalize a.getD k 0=x at *;generalize b.getD k 0=y at *;have g0:(0:Int)<=(k:Int):=cN _;have g1:(k:Int)<(n:Int):=by omega
   have w1:IntKind.i64.wrap ((x:Int)-(y:Int))=(x:Int)-(y:Int):=jN
   have w2:IntKind.i64.wrap (-(β:Int)+((x:Int)-(y:Int)))=-(β:Int)+((x:Int)-(y:Int)):=jN
   go_wp2_with fail;go_quiet ((go_at_call 79;exact Calls.quiet_of_same (hD _ (f.drewN _))));have q:OwnN .u32 85 (wr.drewN nq) w.heap.size _ k os:=ho;have m:Kept af w (wr.drewN nq):=f.drewN nq;clear hD d w1 w2;generalize wr.drewN nq=W2 at *;obtain ⟨t,ht⟩:=aj (-(β:Int)+((x:Int)-(y:Int)):Int)
   obtain ⟨z,β',hz,L,e1,e2,ez⟩:∃ z β':Nat,z<4294967296/\β'<=1/\t%4294967296=(z:Int)/\t/4294967296=-(β':Int)/\z+y+β=x+4294967296*β':=by
    by_cases hneg:t<0
    ·exact ⟨(t%4294967296).toNat,1,by omega,by omega,by omega,by omega,by omega⟩
    ·exact ⟨(t%4294967296).toNat,0,by omega,by omega,by omega,by omega,by omega⟩
   have hS:=HS.o z β' ez;have D:HzD (val (os ++ [z]) 4294967296+val (b.take (k+1)) 4294967296=val (a.take (k+1)) 4294967296+4294967296^(k+1)*β'):=hS;rw [<- ht];have E1:HzD (t%4294967296=(z:Int)):=e1;have E2:HzD (t/4294967296=-(β':Int)):=e2;clear hS HS ez e1 e2 ht;go_wp2_with (at_builtin;refine wpList_append_lies _ rfl _ _ 54 rfl w.heap.size 85 i0 _ 1 4 underlying54 E H I J rfl (by omega) _ _ _ rfl (q.alloc _) ⟨W2.heap.size,0,none⟩ 1 1 [.int .u32 (t%4294967296)] rfl rfl (iK W2 _ _) (by simp [Value.oneCell']) (by omega) (by unfold maxLen;omega) (by omega) (by have:=m.size;simp;omega) (W2.heap.size+1) (by simp) ?_;intro gg c' w4 s hg M N)
   have F:Kept af w w4:=(m.alloc _).grown hg (fun b hb hlt=>by have:=(q.lt b hb).1;omega);rw [E1.o] at s;rw [E2.o];go_roundw
   case rel=>exact ⟨k+1,β',os ++ [z],by omega,L,by go_num,rfl,by unfold HzD;rw [bk,HL.o];rfl,j.append (Digs.one hz),by unfold OwnN;rw [dR];exact s,F,D⟩
   case measure=>simp [intOf];omega
  ·have g1:¬ (k:Int)<(n:Int):=by omega
   have C:val os 4294967296=val a 4294967296-val b 4294967296:=by
    have h:=HV.o;have e1:=hN.o;have e2:=HL.o;rw [dS (by omega),dS (by omega)] at h;exact FR j (by omega) (by rw [show a.length=k by omega];exact h) hβ p
   have hr:Row .u32 wr _ os:=Row.of_own (base:=w.heap.size) (e:=85) (by rw [HL.o];exact ho);have ht:=gd _ _ _ hr j (by have:=HL.o;omega);rw [C] at ht;clear HB xa xb HV h4 C hr;go_wp2_with fail;refine ht.mono ?_;rintro e w' ⟨v',rfl,hb,G,rfl⟩;go_wp2;go_ret;exact ⟨v',rfl,hb,fun b l=>by rw [G] at l;exact (ho.lt b l).1,f⟩

theorem tT {B:Nat}:∀ {l:LN} {i d:Nat},i<l.length->val (l.set i d) B+B^i*l.getD i 0=val l B+B^i*d
 | x :: r,0,d,_=>by simp [val];omega
 | x :: r,i+1,d,h=>by
  have ih:=tT (B:=B) (l:=r) (i:=i) (d:=d) (by simpa using h);have e1:B^(i+1)*r.getD i 0=B*(B^i*r.getD i 0):=by rw [aG,aD (B^i) B,bd]
  have e2:B^(i+1)*d=B*(B^i*d):=by rw [aG,aD (B^i) B,bd]
  simp only [lsS,val,List.getD_cons_succ];rw [e1,e2];have a:B*(val (r.set i d) B+B^i*r.getD i 0)=B*(val r B+B^i*d):=by rw [ih]
  rw [aJ,aJ] at a;omega

theorem uE {l:LN} (h:Digs l B) (i:Nat) (hd:d<B):Digs (l.set i d) B:=fun x hx=>by
 rcases nC hx with h1 | h1
 ·exact h x h1
 ·omega

theorem CR {b:LN} {z P:Nat} (hj:i+j<zs.length) (h:val zs 4294967296+4294967296^(i+j)*c=P+4294967296^i*(x*val (b.take j) 4294967296)) (hz:zs.getD (i+j) 0=z) (hy:b.getD j 0=y) :
  val (zs.set (i+j) ((c+(x*y+z))%4294967296)) 4294967296+4294967296^(i+(j+1))*((c+(x*y+z))/4294967296)=P+4294967296^i*(x*val (b.take (j+1)) 4294967296):=by
 have h1:=tT (B:=4294967296) (d:=(c+(x*y+z))%4294967296) hj;rw [hz] at h1;have h2:=mX (4294967296^(i+j)) 4294967296 (c+(x*y+z));rw [<- aG] at h2;have e:i+(j+1)=(i+j).succ:=rfl;rw [e,fA,hy];rw [aJ,aJ] at h2;have e3:4294967296^i*(x*(val (b.take j) 4294967296+4294967296^j*y))=4294967296^i*(x*val (b.take j) 4294967296)+4294967296^(i+j)*(x*y):=by
  rw [aJ,aJ,aL]
  congr 1
  rw [iu x,<- bd]
 rw [e3];omega

theorem Fk {a b:LN} (hi:i+b.length<zs.length) (h:val zs 4294967296+4294967296^(i+b.length)*c=val (a.take i) 4294967296*val b 4294967296+4294967296^i*(x*val b 4294967296)) (hz:zs.getD (i+b.length) 0=0) (hx:a.getD i 0=x) :
  val (zs.set (i+b.length) c) 4294967296=val (a.take (i+1)) 4294967296*val b 4294967296:=by
 have h1:=tT (B:=4294967296) (d:=c) hi;rw [hz,df,aV] at h1;rw [h1,h,fA,hx,dm,bd]

theorem Fl {a b:LN} (ha:Digs a 4294967296) (hb:Digs b 4294967296) (hz:Digs zs 4294967296) (h:val zs 4294967296=val (a.take i) 4294967296*val b 4294967296):zs.getD (i+b.length) 0=0:=by
 rw [<- dn (by omega) hz,h];unfold dig;have h1:val (a.take i) 4294967296<4294967296^i:=by
  have:=aE (by omega) (ha.take i);exact bi this (bj (by omega) (by rw [aR];omega))
 have h2:=aE (by omega) hb;have h3:val (a.take i) 4294967296*val b 4294967296<4294967296^(i+b.length):=by
  rw [aL];exact Nat.mul_lt_mul'' h1 h2
 rw [bJ h3]

theorem uL {l:LN} (h:i≠j):(l.set i d).getD j 0=l.getD j 0:=by
 rw [aA,aA,List.getElem?_set_ne h]

theorem A6 (c x y z:Nat) (hc:c<4294967296) (hx:x<4294967296) (hy:y<4294967296) (hz:z<4294967296):x*y<=18446744065119617025/\c+(x*y+z)<18446744073709551616:=by
 have h:x*y<=4294967295*4294967295:=er (by omega) (by omega);omega

theorem Dx (u v:Value) (A B:Nat) (w:World) (hu:IsBig w u A) (hv:IsBig w v B) (I:cC A<=100000000:=by omega) (hlb:cC B<=100000000:=by omega) :
  ClZ 45 #[u,v] w fun r w'=>∃ v',r=.returned v'/\IsBig w' v' (A*B)/\(∀ b,v'.ownBlock=some b->w.heap.size<=b)/\Kept af w w':=by
 obtain ⟨i0,J,M,N,O⟩:=info_parts Tryz.info85;obtain ⟨a,ra,da,ta,rfl,la⟩:=hu;obtain ⟨b,rb,db,tb,rfl,lb⟩:=hv;have P:a.length<=100000000:=by rw [fY da ta];exact I
 have Q:b.length<=100000000:=by rw [fY db tb];exact hlb
 have xa:=fun i=>da.getD (by omega) i
 have xb:=fun i=>db.getD (by omega) i
 obtain ⟨ao,n,ac,rfl,hN,_,_,_,hA⟩:=ra.open;obtain ⟨bo,m,bc,rfl,hM,_,_,_,hB⟩:=rb.open;rw [hN.o] at P;rw [hM.o] at Q;clear ra rb la lb ta tb I hlb;delta ClZ;go_in;go_wp2_with (at_make;refine wpList_make_full _ rfl _ _ 54 rfl w.heap.size 85 i0 _ 1 underlying54 J M N _ _ _ _ (n+m) rfl rfl (by omega) (by omega) (by rw [O];omega) (by unfold maxLen;omega) (leR _) ?_;intro w1 F H);rw [bD] at F;have k1:=bf H;clear H
 go_loopw [19] (fun i wr=>∃ (k:Nat) (zs:LN),k<=n/\i=.int .i64 k/\HzD (zs.length=n+m)/\Digs zs 4294967296/\HzD (val zs 4294967296=val (a.take k) 4294967296*val b 4294967296)/\OwnN .u32 85 wr w.heap.size (.slice (some ⟨w.heap.size,0,none⟩) (n+m) (n+m)) (n+m) zs/\Kept af w wr) (fun i _=>n-(intOf i).toNat)
 case atStart=>exact ⟨0,List.replicate (n+m) 0,aQ _,rfl,bw,(fun d hd=>by simp at hd;omega),by unfold HzD;rw [eY _ (fun d hd=>by simp at hd;exact hd.2)];simp [val],F,k1⟩
 case round=>
  clear F k1;obtain ⟨i,zs,hk,rfl,g,p,l,ho,o⟩:=hrel;by_cases hlt:i<n
  ·obtain ⟨ba,oa,rfl,ca⟩:=(hA i hlt).g o;have f:HzD (zs.getD (i+m) 0=0):=by have:=Fl (i:=i) da db p l.o;rw [hM.o] at this;exact this
   have hx:=xa i;have HX:HzD (∀ E c,i+b.length<E.length->val E 4294967296+4294967296^(i+b.length)*c=val (a.take i) 4294967296*val b 4294967296+4294967296^i*(a.getD i 0*val b 4294967296)->E.getD (i+b.length) 0=0->val (E.set (i+b.length) c) 4294967296=val (a.take (i+1)) 4294967296*val b 4294967296):=fun E c h1 h2 h3=>Fk h1 h2 h3 rfl
   have hP:=l.o;clear hA xa;generalize a.getD i 0=x at *;have g1:(i:Int)<(n:Int):=by omega
   go_wp2_with fail;go_loopw [8,26] (fun cc jj wr=>∃ (j c:Nat) (zs:LN),j<=m/\jj=.int .i64 j/\cc=.int .u64 (c:Nat)/\c<4294967296/\HzD (zs.length=n+m)/\Digs zs 4294967296/\HzD (zs.getD (i+m) 0=0) /\
     HzD (val zs 4294967296+4294967296^(i+j)*c=val (a.take i) 4294967296*val b 4294967296+4294967296^i*(x*val (b.take j) 4294967296))/\OwnN .u32 85 wr w.heap.size (.slice (some ⟨w.heap.size,0,none⟩) (n+m) (n+m)) (n+m) zs/\Kept af w wr) (fun _ jj _=>m-(intOf jj).toNat)
   case atStart=>exact ⟨0,0,zs,aQ _,rfl,rfl,by omega,g,p,f,by unfold HzD;rw [hP];simp [val],ho,o⟩
   case round=>
    clear ho o p g l f ca hP;obtain ⟨j,c,zs,hj,rfl,rfl,hc,g,p,f,l,ho,o⟩:=hrel;by_cases hlj:j<m
    ·obtain ⟨bb,ob,rfl,cb⟩:=(hB j hlj).g o;have hy:=xb j;have hz:=p.getD (by omega) (i+j);have t:=CR (b:=b) (x:=x) (show i+j<zs.length by have:=g.o;omega) l.o rfl rfl;have C:wr.cell? ⟨w.heap.size,i+j,none⟩=some (.int .u32 ((zs.getD (i+j) 0:Nat):Int)):=by
      rw [World.ownsRow.cellAt ho (i+j) (by omega),bV,aA,aS (by have:=g.o;omega)];rfl
     have hf:=World.ownsRow.frozenAt ho (i+j);have s:=fun u=>(World.ownsRow.stored ho (i+j) u).1
     have D:∀ d,HzD ((zs.set (i+j) d).getD (i+m) 0=0):=fun d=>by unfold HzD;rw [uL (by omega)];exact f.o
     clear hB xb l f;generalize b.getD j 0=y at *;generalize zs.getD (i+j) 0=z at *;obtain ⟨m1,m2⟩:=A6 c x y z hc hx hy hz;have HS:HzD (val (zs.set (i+j) ((c+(x*y+z))%4294967296)) 4294967296+4294967296^(i+(j+1))*((c+(x*y+z))/4294967296)=val (a.take i) 4294967296*val b 4294967296+4294967296^i*(x*val (b.take (j+1)) 4294967296)):=t;clear t;obtain ⟨q,hq⟩:=aj (x*y)
     have R:(x:Int)*(y:Int)=(q:Int):=by rw [hq];simp
     rw [<- hq] at m1 m2 HS;have e1:HzD (((c:Int)+((q:Int)+(z:Int)))%4294967296=(((c+(q+z))%4294967296:Nat):Int)):=by unfold HzD;omega
     have e2:HzD (((c:Int)+((q:Int)+(z:Int)))/4294967296=(((c+(q+z))/4294967296:Nat):Int)):=by unfold HzD;omega
     clear hq;have g2:(j:Int)<(m:Int):=by omega
     have g3:(i:Int)+(j:Int)<(n:Int)+(m:Int):=by omega
     have g4:(0:Int)<=(i:Int)+(j:Int):=by omega
     go_wp2_with fail;rw [e1.o,e2.o];go_roundw
     case rel=>
      refine ⟨j+1,(c+(q+z))/4294967296,zs.set (i+j) ((c+(q+z))%4294967296),by omega,by go_num,rfl,by omega,by unfold HzD;rw [mo];exact g.o,uE p _ (bu),D _,HS,?_,o.setCell _ (fun h=>by simp at h) _⟩;unfold OwnN;rw [cG];exact s _
     case measure=>simp [intOf];omega
    ·have ej:j=m:=by omega
     have t:=HX.o zs c (by have:=g.o;have:=hM.o;omega) (by rw [hM.o];have h:=l.o;rw [ej,show b.take m=b from dS (by have:=hM.o;omega)] at h;exact h) (by rw [hM.o];exact f.o);rw [hM.o] at t;have HS:HzD (val (zs.set (i+m) c) 4294967296=val (a.take (i+1)) 4294967296*val b 4294967296):=t;have C:wr.cell? ⟨w.heap.size,i+m,none⟩=some (.int .u32 0):=by
      have h0:=f.o;rw [aA,aS (by have:=g.o;omega)] at h0;rw [World.ownsRow.cellAt ho (i+m) (by omega),bV,aS (by have:=g.o;omega)];simp only [jy] at h0;rw [Option.map_some,h0];rfl
     have hf:=World.ownsRow.frozenAt ho (i+m);have s:=fun u=>(World.ownsRow.stored ho (i+m) u).1
     clear hB xb l f t HX ej;have g2:¬ (j:Int)<(m:Int):=by omega
     have g3:(i:Int)+(m:Int)<(n:Int)+(m:Int):=by omega
     have g4:(0:Int)<=(i:Int)+(m:Int):=by omega
     go_wp2;go_roundw
     case rel=>
      refine ⟨i+1,zs.set (i+m) c,by omega,by go_num,by unfold HzD;rw [mo];exact g.o,uE p _ hc,HS,?_,o.setCell _ (fun h=>by simp at h) _⟩;unfold OwnN;rw [cG];exact s _
     case measure=>simp [intOf];omega
  ·have g1:¬ (i:Int)<(n:Int):=by omega
   have hv:val zs 4294967296=val a 4294967296*val b 4294967296:=by
    rw [l.o,dS (by have:=hN.o;omega)]
   have hr:Row .u32 wr _ zs:=Row.of_own (base:=w.heap.size) (e:=85) (by rw [g.o];exact ho);have ht:=gd _ _ _ hr p (by have:=g.o;omega);rw [hv] at ht;clear hA hB xa xb hv hr;go_wp2_with fail;refine ht.mono ?_;rintro e w' ⟨v',rfl,hb,L,rfl⟩;go_wp2;go_ret;exact ⟨v',rfl,hb,fun b G=>by rw [L] at G;exact (ho.lt b G).1,o⟩

theorem DL {a:LN} {s:Nat} (hl:os.length=k) (h:val os 4294967296+4294967296^k*c=s*val (a.take k) 4294967296) (hx:a.getD k 0=x) :
  val (os ++ [(c+x*s)%4294967296]) 4294967296+4294967296^(k+1)*((c+x*s)/4294967296)=s*val (a.take (k+1)) 4294967296:=by
 rw [dG,hl,fA,hx,aG,iX,mX,aJ,aJ];rw [<- h];have e:4294967296^k*(x*s)=s*(4294967296^k*x):=by rw [<- bd,aD]
 omega

theorem Hx (c x n:Nat) (hn:n<32) (hc:c<2^n) (hx:x<4294967296):bits .or .u64 (c:Int) ((x:Int)*2^n)=((c+x*2^n:Nat):Int):=by
 have hp:(2:Nat)^n<=2^31:=bj (by omega) (by omega);have hm:x*2^n<=4294967295*2^31:=er (by omega) hp;have h:=u64_or_nat c (x*2^n) (by omega) (by omega);have hj:=nat_join n (x*2^n) c (Nat.mul_mod_left _ _) hc;rw [Nat.or_comm,hj] at h;have e1:(x:Int)*2^n=((x*2^n:Nat):Int):=by simp
 rw [e1,h];omega

theorem Bo (c x n:Nat) (hc:c<2^n) (hx:x<4294967296):(c+x*2^n)/4294967296<2^n:=by
 rw [cW (by omega)];have h:x*2^n<=4294967295*2^n:=cF _ (by omega);omega

theorem vF (c x n:Nat) (hn:n<32) (hc:c<2^n) (hx:x<4294967296):bits .or .u64 (c:Int) (IntKind.u64.wrap ((x:Int)*2^n))=((c+x*2^n:Nat):Int):=by
 have hp:(2:Nat)^n<=2^31:=bj (by omega) (by omega);have hm:x*2^n<=4294967295*2^31:=er (by omega) hp;have e1:(x:Int)*2^n=((x*2^n:Nat):Int):=by simp
 have e2:IntKind.u64.wrap ((x:Int)*2^n)=(x:Int)*2^n:=by
  rw [IntKind.wrap_u64,e1];generalize x*2^n=t at *;omega
 rw [e2];exact Hx c x n hn hc hx

theorem Ik (c x n:Nat) (hn:n<32) (hc:c<2^n) (hx:x<4294967296):c+x*2^n<9223372036854775808:=by
 have hp:(2:Nat)^n<=2^31:=bj (by omega) (by omega);have hm:x*2^n<=4294967295*2^31:=er (by omega) hp;omega

theorem pg {P:Program} (w:World) {ops:Array Oper} {rest:List Oper} {o:Oper} {a:Act} {Q:Exit->Act->World->Prop}
  (hg:o.guard=none) (l c:Operand) (t:TypeId) (j:o.op=Op.makeSlice t l c)
  (e:TypeId) (i:TypeInfo) (k:IntKind) (h1:P.underlying t=some (.slice e)) (h2:P.info? e=some i) (h3:i.zero=some (.int k 0)) (h4:i.size=1)
  (kl kc:IntKind) (L C:Int) (n m:Nat) (hl:a.eval l=.int kl L) (hc:a.eval c=.int kc C) (hL:L=(n:Int)) (hC:C=(m:Int)) (b:n<=m) (b2:i.bytes*m<=281474976710656) (b3:m<=maxLen)
  (hK:∀ w',OwnN k e w' w.heap.size (.slice (some ⟨w.heap.size,0,none⟩) n m) n (List.replicate n 0)->Kept af w w'->wpList P ops Q rest (a.put o.dst (.slice (some ⟨w.heap.size,0,none⟩) n m)) w') :
  wpList P ops Q (o :: rest) a w:=by
 refine wpList_plain hg fun K f=>?_
 have d:(m:Int)<=9223372036854775807:=by unfold maxLen at b3;omega
 have g:(i.bytes:Int)*(m:Int)<=281474976710656:=by
  have h:((i.bytes*m:Nat):Int)<=281474976710656:=by omega
  rwa [ny] at h
 have hr:=run_make (P:=P) w t e i (.int k 0) h1 h2 h3 kl kc n m (by omega) (by omega) g d;simp only [Int.toNat_natCast] at hr;subst hL;subst hC;unfold Oper.wp;simp [execOp,j,hl,hc,hr,Result.andThen];refine f _ _ (hK _ ?_ ((ah af w).alloc _));refine ⟨by simp,.inr ⟨w.heap.size,m,_,rfl,leR _,Go.heap_alloc_new w _,b,b3,?_,?_⟩⟩
 ·rw [size_madeCells,h4]
 ·rw [h4,bI,bI,List.map_replicate];show (madeCells #[Value.int k 0] m).toList.take n=_
  rw [toList_madeCells_one,List.take_replicate,jw b];rfl

theorem FX (n:Nat) (os:LN):val (List.replicate n 0 ++ os) 4294967296=4294967296^n*val os 4294967296:=by
 rw [eK,eY 4294967296 (l:=List.replicate n 0) (fun d hd=>by simp at hd;exact hd.2),bw];omega

theorem Af (v:Value) (A n:Nat) (w:World) (hv:IsBig w v A) (g:cC A<=100000000) (hn:n<=1000000000:=by omega) :
  ClZ 133 #[v,.int .i64 n] w fun r w'=>∃ v',r=.returned v'/\OwnBig w' w.heap.size v' (2^n*A)/\Kept af w w':=by
 obtain ⟨i0,l,t,y,z⟩:=info_parts Tryz.info85;obtain ⟨a,ra,da,ta,rfl,la⟩:=hv;have J:a.length<=100000000:=by rw [fY da ta];exact g
 have xa:=fun i=>da.getD (by omega) i
 obtain ⟨ao,m,ac,rfl,hM,_,_,_,h4⟩:=ra.open;rw [hM.o] at J;clear ra la g da ta;obtain ⟨q,hq⟩:=aj (n/32)
 obtain ⟨s,hs⟩:=aj (n%32)
 have h:s<32:=by omega
 have N:q<=100000000:=by omega
 have HE:HzD (2^n=4294967296^q*2^s):=by
  unfold HzD;rw [show (4294967296:Nat)^q=2^(32*q) from by rw [aW],<- aL]
  congr 1;omega
 have n0:(n:Int)/32=(q:Int):=by omega
 have n1:(n:Int)%32=(s:Int):=by omega
 clear hq hs;have HR:HzD (4294967296^q*(2^s*val a 4294967296)=2^n*val a 4294967296):=by unfold HzD;rw [HE.o,bd]
 clear HE;delta ClZ;go_in;go_wp2_with (at_make;refine pg _ rfl _ _ 54 rfl 85 i0 .u32 underlying54 l t y _ _ _ _ q (q+m+1) rfl rfl (by omega) (by omega) (by omega) (by rw [z];omega) (by unfold maxLen;omega) ?_;intro w1 C k1);go_loopw [5,6,20] (fun o c i wr=>∃ (k c':Nat) (os:LN),k<=m/\HzD (c'<2^s)/\c'<4294967296/\i=.int .i64 k/\c=.int .u64 (c':Nat)/\HzD (os.length=k)/\Digs os 4294967296/\OwnN .u32 85 wr w.heap.size o (q+k) (List.replicate q 0 ++ os)/\Kept af w wr /\
   HzD (val os 4294967296+4294967296^k*c'=2^s*val (a.take k) 4294967296)) (fun _ _ i _=>m-(intOf i).toNat)
 case atStart=>exact ⟨0,0,[],aQ _,aX,by omega,rfl,rfl,rfl,Digs.nil _,by rw [dY];exact C,k1,by unfold HzD;simp [val]⟩
 case round=>
  clear C k1;obtain ⟨k,c,os,hk,hc,L,rfl,rfl,HL,E,ho,f,HV⟩:=hrel;by_cases hlt:k<m
  ·obtain ⟨b,off,rfl,B⟩:=(h4 k hlt).g f;have hx:=xa k;have HS:HzD (val (os ++ [(c+a.getD k 0*2^s)%4294967296]) 4294967296+4294967296^(k+1)*((c+a.getD k 0*2^s)/4294967296)=2^s*val (a.take (k+1)) 4294967296):=DL HL.o HV.o rfl;have HO:=vF c _ s h hc.o hx;have HC:HzD ((c+a.getD k 0*2^s)/4294967296<2^s):=Bo c _ s hc.o hx;have hT:=Ik c _ s h hc.o hx;clear xa h4 HV;generalize a.getD k 0=x at *;generalize c+x*2^s=T at *;have g1:(k:Int)<(m:Int):=by omega
   have e1:HzD ((T:Int)%4294967296=((T%4294967296:Nat):Int)):=by unfold HzD;omega
   have e2:HzD ((T:Int)/4294967296=((T/4294967296:Nat):Int)):=by unfold HzD;omega
   go_wp2_with (at_builtin;refine wpList_append_lies _ rfl _ _ 54 rfl w.heap.size 85 i0 _ 1 4 underlying54 l t y z rfl (by omega) _ _ _ rfl (ho.alloc _) ⟨wr.heap.size,0,none⟩ 1 1 [.int .u32 ((T:Int)%4294967296)] rfl rfl (iK wr _ _) (by simp [Value.oneCell']) (by omega) (by unfold maxLen;omega) (by omega) (by have:=f.size;simp;omega) (wr.heap.size+1) (by simp) ?_;intro gg c' w4 j hg F H);have p:Kept af w w4:=(f.alloc _).grown hg (fun b hb hlt=>by have:=(ho.lt b hb).1;omega);rw [e1.o] at j;rw [e2.o];go_roundw
   case rel=>exact ⟨k+1,T/4294967296,os ++ [T%4294967296],by omega,HC,by omega,by go_num,rfl,by unfold HzD;rw [bk,HL.o];rfl,E.append (Digs.one (bu)),by unfold OwnN;rw [<- dX,dR];exact j,p,HS⟩
   case measure=>simp [intOf];omega
  ·have g1:¬ (k:Int)<(m:Int):=by omega
   have I:HzD (val (List.replicate q 0 ++ (os ++ [c])) 4294967296=2^n*val a 4294967296):=by
    unfold HzD;have:=HV.o;rw [dS (by have:=hM.o;omega)] at this;rw [FX,dG,HL.o,this];exact HR.o
   clear xa h4 HV HR;go_wp2_with (at_builtin;refine wpList_append_lies _ rfl _ _ 54 rfl w.heap.size 85 i0 _ 1 4 underlying54 l t y z rfl (by omega) _ _ _ rfl (ho.alloc _) ⟨wr.heap.size,0,none⟩ 1 1 [.int .u32 (c:Int)] rfl rfl (iK wr _ _) (by simp [Value.oneCell']) (by omega) (by unfold maxLen;omega) (by omega) (by have:=f.size;simp;omega) (wr.heap.size+1) (by simp) ?_;intro gg c' w4 j hg F H);have p:Kept af w w4:=(f.alloc _).grown hg (fun b hb hlt=>by have:=(ho.lt b hb).1;omega);have M:(List.replicate q 0 ++ (os ++ [c])).length=q+k+1:=by rw [bk,bk,HL.o,bw];simp;omega
   have G:Digs (List.replicate q 0 ++ (os ++ [c])) 4294967296:=Digs.append (fun d hd=>by simp at hd;omega) (E.append (Digs.one (by omega)));have D:OwnN .u32 85 w4 w.heap.size (.slice (some ⟨gg,0,none⟩) (q+k+1) c') (q+k+1) (List.replicate q 0 ++ (os ++ [c])):=by unfold OwnN;rw [<- dX,dR];exact j
   have ht:=DA _ _ _ _ _ D G (by omega);rw [I.o] at ht;clear D;refine ht.mono ?_;rintro e w' ⟨v',rfl,hb,rfl⟩;go_wp2;go_ret;exact ⟨v',rfl,hb,p⟩

theorem Hy {base:Nat} {v:Value} (h:OwnBig w base v V):∀ b,v.ownBlock=some b->base<=b:=by
 obtain ⟨ds,ho,_⟩:=h;exact fun b hb=>(ho.lt b hb).1

theorem Mb (v:Value) (A n:Nat) (w:World) (hv:IsBig w v A) (a:cC A<=100000000) (hn:n<=1000000000) :
  ClZ 133 #[v,.int .i64 n] w fun r w'=>∃ v',r=.returned v'/\IsBig w' v' (2^n*A)/\(∀ b,v'.ownBlock=some b->w.heap.size<=b)/\Kept af w w':=by
 refine (Af v A n w hv a hn).mono ?_;rintro r w' ⟨v',rfl,ho,hk⟩;exact ⟨v',rfl,ho.big,Hy ho,hk⟩

theorem Bp (V q s k:Nat) (hs:s<32):dig (V/(4294967296^q*2^s)) k 4294967296=(dig V (q+k) 4294967296+4294967296*dig V (q+k+1) 4294967296)/2^s%4294967296:=by
  unfold dig
  have e1:V/(4294967296^q*2^s)/4294967296^k=V/4294967296^(q+k)/2^s:=by
    rw [di,di,aL]
    congr 1
    rw [bd,bd,aD (2^s)]
  have e2:V/4294967296^(q+k+1)=V/4294967296^(q+k)/4294967296:=by rw [di,<- aG]
  rw [e1,e2]
  generalize V/4294967296^(q+k)=z
  have hp:0<2^s:=aX
  obtain ⟨c,hc⟩:∃ c,(4294967296:Nat)=2^s*c:=⟨2^(32-s),by rw [<- aL,show s+(32-s)=32 by omega]⟩
  have hz:z=(z%4294967296+4294967296*(z/4294967296%4294967296))+2^s*(4294967296*(c*(z/4294967296/4294967296))):=by
    have:2^s*(4294967296*(c*(z/4294967296/4294967296)))=4294967296*(4294967296*(z/4294967296/4294967296)):=by
      calc 2^s*(4294967296*(c*(z/4294967296/4294967296)))=(2^s*c)*(4294967296*(z/4294967296/4294967296)):=by
            rw [iu 4294967296 c,<- bd]
        _=4294967296*(4294967296*(z/4294967296/4294967296)):=by rw [<- hc]
    omega
  conv=>lhs;rw [hz]
  rw [jQ _ _ hp,eO]

theorem In {q s m:Nat} (h:V<4294967296^m) (hq:q<=m):V/(4294967296^q*2^s)<4294967296^(m-q):=by
 have hp:0<4294967296^q*2^s:=gI (aX) (aX);rw [cW hp];have e:4294967296^m=4294967296^(m-q)*4294967296^q:=by rw [<- aL,Nat.sub_add_cancel hq]
 have h2:4294967296^(m-q)*4294967296^q*1<=4294967296^(m-q)*4294967296^q*2^s:=bG _ (aX);rw [<- bd];omega

theorem Mc (v:Value) (A n:Nat) (w:World) (hv:IsBig w v A) (hn:n<=1000000000000) :
  ClZ 135 #[v,.int .i64 n] w fun r w'=>∃ v',r=.returned v'/\IsBig w' v' (A/2^n)/\(∀ b,v'.ownBlock=some b->w.heap.size<=b)/\Kept af w w':=by
 obtain ⟨i0,I,N,O,P⟩:=info_parts Tryz.info85;obtain ⟨a,ra,da,ta,rfl,la⟩:=hv;have hlt:=aE (by omega) da;have hV:∀ i,a.getD i 0=dig (val a 4294967296) i 4294967296:=fun i=>(dn (by omega) da i).symm
 have HD:=fun i W (hk:Kept af w W)=>nj v a i W (ra.g hk)
 obtain ⟨ao,m,ac,rfl,hM,_,_,_,h4⟩:=ra.open;rw [hM.o] at la hlt;unfold NumAt at h4;simp only [hV] at HD h4;have xa:∀ i,dig (val a 4294967296) i 4294967296<4294967296:=fun i=>bu
 clear ra da ta hV;generalize val a 4294967296=V at *;obtain ⟨q,hq⟩:=aj (n/32)
 obtain ⟨s,hs⟩:=aj (n%32)
 have p:s<32:=by omega
 have HE:2^n=4294967296^q*2^s:=by
  rw [show (4294967296:Nat)^q=2^(32*q) from by rw [aW],<- aL]
  congr 1;omega
 rw [HE];have d:=fun k=>Bp V q s k p
 have l:HzD (q<=m->V/(4294967296^q*2^s)<4294967296^(m-q)):=fun h=>In hlt h
 have f:HzD (m<q->V/(4294967296^q*2^s)=0):=fun h=>by
  apply bJ;have h1:(4294967296:Nat)^m<=4294967296^q:=bj (by omega) (by omega);have h2:4294967296^q*1<=4294967296^q*2^s:=bG _ (aX);omega
 have n0:(n:Int)/32=(q:Int):=by omega
 have n1:(n:Int)%32=(s:Int):=by omega
 have aa:q<=100000000000:=by omega
 clear hq hs HE hlt;generalize V/(4294967296^q*2^s)=R at *;delta ClZ;go_in;go_wp2_with fail;go_loopw [5,6] (fun o i wr=>∃ (k:Nat),(k=0\/q+k<=m)/\i=.int .i64 ((q+k:Nat):Int)/\OwnN .u32 85 wr w.heap.size o k (digs R k 4294967296)/\Kept af w wr) (fun _ i _=>m-(intOf i).toNat)
 case atStart=>exact ⟨0,.inl rfl,rfl,World.ownsRow_nil _ _ _ _,ah _ _⟩
 case round=>
  obtain ⟨k,hk,rfl,ho,g⟩:=hrel;by_cases hlt:q+k<m
  ·obtain ⟨b,off,rfl,c⟩:=h4 (q+k) hlt;have c:=g.cellN c;have hD:=fun W (hk:Kept af w W)=>HD (q+k+1) W hk
   have hx:=xa (q+k);have hy:=xa (q+k+1);have HO:=sF _ _ hx hy;have B:=d k;clear xa h4 d HD;generalize dig V (q+k) 4294967296=x at *;generalize dig V (q+k+1) 4294967296=y at *;have hT:x+4294967296*y<18446744073709551616:=by omega
   generalize x+4294967296*y=T at *;obtain ⟨j,hj⟩:=aj (q+k)
   rw [<- hj] at c hD ⊢;have X:(j:Int)<(m:Int):=by omega
   have U:(0:Int)<=(j:Int):=cN _;have HJ:HzD (j=q+k):=hj;rw [show ((j+1:Nat):Int)=(j:Int)+1 by omega] at hD;have Y:IntKind.i64.wrap ((j:Int)+1)=(j:Int)+1:=jN
   have D:(T:Int)/2^s=((T/2^s:Nat):Int):=by simp
   have G:HzD (dig R k 4294967296=T/2^s%4294967296):=B;have H:HzD ((T:Int)/2^s%4294967296=((T/2^s%4294967296:Nat):Int)):=by unfold HzD;rw [D];omega
   clear hj B D;go_wp2_with fail;go_quiet ((go_at_call 79;exact Calls.quiet_of_same (hD _ (g.drewN _))));have E:OwnN .u32 85 (wr.drewN nq) w.heap.size _ k (digs R k 4294967296):=ho;have C:Kept af w (wr.drewN nq):=g.drewN nq;clear hD c;generalize wr.drewN nq=W2 at *
   go_wp2_with (at_builtin;refine wpList_append_lies _ rfl _ _ 54 rfl w.heap.size 85 i0 _ 1 4 underlying54 I N O P rfl (by omega) _ _ _ rfl (E.alloc _) ⟨W2.heap.size,0,none⟩ 1 1 [.int .u32 ((T:Int)/2^s%4294967296)] rfl rfl (iK W2 _ _) (by simp [Value.oneCell']) (by omega) (by unfold maxLen;omega) (by omega) (by have:=C.size;simp;omega) (W2.heap.size+1) (by simp) ?_;intro gg c' w4 F hg Q S);have J:Kept af w w4:=(C.alloc _).grown hg (fun b hb hlt=>by have:=(E.lt b hb).1;omega);rw [H.o,<- G.o] at F;go_roundw
   case rel=>exact ⟨k+1,.inr (by have:=HJ.o;omega),by have:=HJ.o;go_num,by unfold OwnN;rw [digs,dR];exact F,J⟩
   case measure=>simp [intOf];have:=HJ.o;omega
  ·have Z:¬ ((q+k:Nat):Int)<(m:Int):=by omega
   have t:HzD (val (digs R k 4294967296) 4294967296=R):=by
    unfold HzD;rw [ay];apply aB;rcases gG m q with h | h
    ·have h0:=f.o h;rw [h0];exact aX
    ·have h1:=l.o h;have e:k=m-q:=by omega
     rw [e];exact h1
   have L:k<=1000000000:=by omega
   have hr:Row .u32 wr _ (digs R k 4294967296):=Row.of_own (base:=w.heap.size) (e:=85) (by rw [ag];exact ho);have ht:=gd _ _ _ hr (ak (by omega) _ _) (by rw [ag];exact L);rw [t.o] at ht;clear xa h4 d HD hr;generalize q+k=j at *;go_wp2_with fail;refine ht.mono ?_;rintro e w' ⟨v',rfl,hb,M,rfl⟩;go_wp2;go_ret;exact ⟨v',rfl,hb,fun b z=>by rw [M] at z;exact (ho.lt b z).1,g⟩

theorem vE (r x:Nat) (hr:r<4294967296) (hx:x<4294967296):bits .or .u64 ((r:Int)*4294967296) (x:Int)=((r*4294967296+x:Nat):Int):=by
 have h:=u64_or_nat (r*4294967296) x (by omega) (by omega);rw [nat_join 32 (r*4294967296) x (by omega) (by omega)] at h;have e1:(r:Int)*4294967296=((r*4294967296:Nat):Int):=by omega
 rw [e1,h]

theorem AH (hd:0<d) (hr:r<d) (hx:x<4294967296):(r*4294967296+x)/d<4294967296:=by
 rw [cW hd];have:(r+1)*4294967296<=d*4294967296:=cF _ (by omega);omega

theorem Cd {a:LN} (hi:i<a.length) (hx:a.getD i 0=x) (h:d*val qs 4294967296+r=val (a.drop (i+1)) 4294967296) :
  d*val ((r*4294967296+x)/d :: qs) 4294967296+(r*4294967296+x)%d=val (a.drop i) 4294967296:=by
 rw [eE hi];rw [aA,aS hi] at hx;simp only [jy] at hx;simp only [val];rw [hx,<- h,aJ];have e:=dD (r*4294967296+x) d;have e2:d*(4294967296*val qs 4294967296)=4294967296*(d*val qs 4294967296):=iu ..;rw [e2];omega

theorem zD (i q:Nat) (qs:LN):(List.replicate (i+1) 0 ++ qs).set i q=List.replicate i 0 ++ (q :: qs):=by
 rw [iq,dX,ir _ _ (by simp)];simp

theorem Bj (v:Value) (A d:Nat) (w:World) (hv:IsBig w v A) (hd:0<d) (P:d<4294967296) :
  ClZ 132 #[v,.int .u32 d] w fun r w'=>∃ v1 v2,r=.returned (.tuple #[v1,v2])/\IsBig w' v1 (A/d)/\IsBig w' v2 (A%d)/\(∀ b,v1.ownBlock=some b->w.heap.size<=b)/\(∀ b,v2.ownBlock=some b->w.heap.size<=b)/\Kept af w w':=by
 obtain ⟨i0,I,L,M,N⟩:=info_parts Tryz.info85;obtain ⟨a,ra,da,ta,rfl,la⟩:=hv;have xa:=fun i=>da.getD (by omega) i
 obtain ⟨ao,n,ac,rfl,hN,_,_,_,hA⟩:=ra.open;rw [hN.o] at la;clear ra da ta;have O:(d:Int)≠0:=by omega
 delta ClZ;go_in;go_wp2_with (at_make;refine wpList_make_full _ rfl _ _ 54 rfl w.heap.size 85 i0 _ 1 underlying54 I L M _ _ _ _ n rfl rfl (by first | rfl | omega) (by first | rfl | omega) (by rw [N];omega) (by unfold maxLen;omega) (leR _) ?_;intro w1 c C);rw [bD] at c;have k1:=bf C;clear C;go_loopw [7,8] (fun rr i wr=>∃ (k r:Nat) (qs:LN),k<=n/\i=.int .i64 ((k:Int)-1)/\rr=.int .u64 (r:Nat)/\r<d/\HzD (qs.length=n-k)/\Digs qs 4294967296/\HzD (d*val qs 4294967296+r=val (a.drop k) 4294967296) /\
   OwnN .u32 85 wr w.heap.size (.slice (some ⟨w.heap.size,0,none⟩) n n) n (List.replicate k 0 ++ qs)/\Kept af w wr) (fun _ i _=>(intOf i+1).toNat)
 case atStart=>exact ⟨n,0,[],leR _,rfl,rfl,hd,by unfold HzD;simp,Digs.nil _,by unfold HzD;rw [kU (by have:=hN.o;omega)];simp [val],by rw [dY];exact c,k1⟩
 case round=>
  clear c k1;obtain ⟨k,r,qs,hk,rfl,rfl,hr,E,D,l,ho,j⟩:=hrel;cases k with
  | zero=>
   have m:=l.o;rw [il] at m;rw [fg,bZ] at ho;have s:qs.length=n:=by have:=E.o;omega
   have f:Row .u32 wr _ qs:=Row.of_own (base:=w.heap.size) (e:=85) (by rw [s];exact ho);have ht:=gd _ _ _ f D;have e1:val a 4294967296/d=val qs 4294967296:=by
    rw [<- m,gH hd,bJ hr,aV]
   have e2:val a 4294967296%d=r:=by rw [<- m,iZ,aB hr]
   rw [<- e1] at ht;have E2:HzD (val a 4294967296%d=r):=e2;clear hA xa l m e1 e2 f;go_wp2_with fail;refine ht.mono ?_;rintro e w' ⟨v1,rfl,G,c,rfl⟩;have hS:=jp r (by omega) w';go_wp2_with fail;refine hS.mono ?_;rintro e w2 ⟨v2,rfl,H,J,k2⟩;go_wp2;go_ret2;exact ⟨v1,v2,rfl,G.g k2,by rw [E2.o];exact H,fun b g=>by rw [c] at g;exact (ho.lt b g).1,fun b g=>aI j.size (J b g),j.trans k2⟩
  | succ i=>
   obtain ⟨bb,off,rfl,B⟩:=(hA i (by omega)).g j;have hx:=xa i;have F:=Cd (d:=d) (show i<a.length by have:=hN.o;omega) rfl l.o;have o:wr.cell? ⟨w.heap.size,i,none⟩=some (.int .u32 0):=by
    rw [World.ownsRow.cellAt ho i (by omega),bV,im (by simp),eF,cf];rfl
   have hf:=World.ownsRow.frozenAt ho i;have z:=fun u=>(World.ownsRow.stored ho i u).1
   clear hA xa l;generalize a.getD i 0=x at *;have Q:=vE r x (by omega) hx;have hq:=AH hd hr hx;have p:=aY (r*4294967296+x) hd;have HS:HzD (d*val ((r*4294967296+x)/d :: qs) 4294967296+(r*4294967296+x)%d=val (a.drop i) 4294967296):=F;clear F;have R:r*4294967296+x<18446744073709551616:=by omega
   generalize r*4294967296+x=t at *;have g0:(0:Int)<=(i:Int):=cN _;have g1:(i:Int)<(n:Int):=by omega
   have e1:HzD (IntKind.u64.wrap ((t:Int)/(d:Int))%4294967296=((t/d:Nat):Int)):=by
    unfold HzD;rw [show (t:Int)/(d:Int)=((t/d:Nat):Int) by simp,IntKind.wrap_u64];clear HS;generalize t/d=q at *;omega
   have e2:HzD ((t:Int)%(d:Int)=((t%d:Nat):Int)):=by unfold HzD;simp
   go_wp2_with fail;rw [e1.o,e2.o];go_roundw
   case rel=>
    refine ⟨i,t%d,t/d :: qs,by omega,rfl,rfl,p,by unfold HzD;rw [dh,E.o];omega,fun y hy=>?_,HS,?_,j.setCell _ (fun h=>by simp at h) _⟩
    ·rcases fM.1 hy with h | h
     ·omega
     ·exact D y h
    ·unfold OwnN;rw [<- zD,cG];exact z _
   case measure=>simp [intOf]

theorem xt (hi:i<L:=by omega):((zs.drop j).take L).getD i 0=zs.getD (j+i) 0:=by
 rw [aA,eG,ai hi,fd,<- aA]

theorem lN (hl:zs.length=N) (h:j+L<=N):((zs.drop j).take L).length=L:=by
 rw [aR,cV];omega

theorem DK {e:TypeId} {base g b:Nat} (ho:OwnN .u32 e w base (.slice (some ⟨g,0,none⟩) N b) N zs) (hl:zs.length=N) (h:j+L<=N) :
  ∀ i u,(((zs.drop j).take L).map fun z=>Value.int .u32 (z:Nat))[i]? = some u->w.cell? ((⟨g,j,none⟩:Addr).add i)=some u:=by
 intro i u hu;have a:(⟨g,j,none⟩:Addr).add i=⟨g,j+i,none⟩:=by unfold Addr.add;split <;> simp_all
 rw [a];have c:=lN hl h;rw [bV] at hu;by_cases hi:i<L
 ·rw [World.ownsRow.cellAt ho (j+i) (by omega),bV,<- hu,eG,ai hi,fd]
 ·rw [ip (by omega)] at hu;cases hu

theorem vy (k:IntKind) (zs:LN):∀ u ∈ zs.map (fun z=>Value.int k (z:Nat)),u.oneCell'=true:=by
 intro u hu;obtain ⟨z,_,rfl⟩:=jv.1 hu;rfl

theorem zh (hd:Digs zs 4294967296) (hl:zs.length=N) (h:j+L<=N):val ((zs.drop j).take L) 4294967296<4294967296^L:=by
 have:=aE (by omega) ((hd.drop j).take L)
 rwa [lN hl h] at this

theorem FG (zs:LN) (D j k:Nat) (hk:j+k<zs.length) :
  (zs.take j ++ (digs D k 4294967296 ++ zs.drop (j+k))).set (j+k) (dig D k 4294967296)=zs.take j ++ (digs D (k+1) 4294967296 ++ zs.drop (j+(k+1))):=by
 have h1:(zs.take j).length=j:=by rw [aR];omega
 rw [ir _ _ (by omega),h1,pJ,ir _ _ (by rw [ag];omega),ag,cj,eE hk,lsZ,digs,dX];rfl

theorem Lq (g base N n j L c q V:Nat) (zs:LN) (v:Value) (w:World) (ho:OwnN .u32 85 w base (.slice (some ⟨g,0,none⟩) N n) N zs) (F:zs.length=N) (ak:Digs zs 4294967296) (hj:j+L<=N) (hL:0<L) (hN:N<=100000000)
  (hv:IsBig w v V) (aq:cC V<=100000000) (hq:q<4294967296) :
  ClZ 194 #[.slice (some ⟨g,j,none⟩) L c,v,.int .u64 q] w fun r w'=>
   (val ((zs.drop j).take L) 4294967296<V*q/\r=.returned (.bool false)/\Kept af w w') \/
   (V*q<=val ((zs.drop j).take L) 4294967296/\r=.returned (.bool true)/\OwnN .u32 85 w' base (.slice (some ⟨g,0,none⟩) N n) N (zs.take j ++ (digs (val ((zs.drop j).take L) 4294967296-V*q) L 4294967296 ++ zs.drop (j+L)))/\Kept (fun b=>b=g) w w'):=by
 obtain ⟨i0,U,ad,ae,ai⟩:=info_parts Tryz.info85;have hS:=jp q (by omega) w;have hlt:=zh (j:=j) (L:=L) ak F hj;have m:=lN (j:=j) (L:=L) F hj;have o:Digs ((zs.drop j).take L) 4294967296:=(ak.drop j).take L;have a:=fun W (hk:Kept af w W)=>DK (j:=j) (L:=L) (hk.own ho (fun _ _ f=>f)) F hj
 have d:=vy .u32 ((zs.drop j).take L);have ao:g<w.heap.size:=by
  rcases ho.2 with ⟨h',_⟩ | ⟨g',cap',cur,h',_,hgg,_⟩
  ·simp at h'
  ·simp only [Value.slice.injEq,iI,Addr.mk.injEq,and_true] at h';obtain ⟨rfl,_,_⟩:=h';exact lt_of_block hgg
 obtain ⟨us,ab⟩:=aj ((zs.drop j).take L)
 rw [<- ab] at hlt m o a d ⊢;clear ab;delta ClZ;go_in;go_wp2_with fail;refine hS.mono ?_;rintro e w1 ⟨v1,rfl,b1,_,k1⟩;have hM:=Dx v v1 V q w1 (hv.g k1) b1 aq (aI ((dI _ 1).2 (by omega)) (by omega));go_wp2_with fail;refine hM.mono ?_;rintro e w2 ⟨v2,rfl,b2,_,k2⟩;have K2:=k1.trans k2;have Y:=a w2 K2
 go_wp2_with (at_builtin;refine wpList_append_lies _ rfl _ _ 54 rfl w2.heap.size 85 i0 _ 1 4 underlying54 U ad ae ai rfl (by omega) _ _ _ rfl (World.ownsRow_nil w2 w2.heap.size _ _) ⟨g,j,none⟩ L c (us.map fun z=>.int .u32 (z:Nat)) rfl (by rw [cJ,m];omega) Y d hL (by unfold maxLen;omega) (by omega) (leR _) (w2.heap.size) rfl ?_;intro gg c' w3 B R s x);rw [dU,bZ] at B;have r3:Row .u32 w3 (.slice (some ⟨gg,0,none⟩) L c') us:=Row.of_own (base:=w2.heap.size) (e:=85) (by rw [m];exact B);have k3:Kept af w2 w3:=bf R;have J:=gd _ _ _ r3 o;clear B R s x Y;refine J.mono ?_
 rintro e w' ⟨v4,rfl,b4,_,rfl⟩;have hC:=mI v4 v2 (val us 4294967296) (V*q) w' b4 (b2.g k3);have K3:=K2.trans k3;by_cases hlow:val us 4294967296<V*q
 ·rw [fh hlow] at hC;have p:HzD (val us 4294967296<V*q):=hlow;clear hlow a hlt d o;go_wp2_with fail;refine hC.mono ?_;rintro e w4 ⟨rfl,n4,rfl⟩;go_wp2;go_ret;exact .inl ⟨p.o,rfl,K3.drewN n4⟩
 ·have an:¬ cY (val us 4294967296) (V*q)<0:=by unfold cY;rw [ar hlow];split <;> decide
  have X:V*q<=val us 4294967296:=by omega
  obtain ⟨cc,l⟩:=aj (cY (val us 4294967296) (V*q))
  rw [<- l] at hC an;have G:HzD (V*q<=val us 4294967296):=X;clear hlow l X;go_wp2_with fail;refine hC.mono ?_;rintro e w4 ⟨rfl,n4,ac⟩;have k4:Kept af w' w4:=by rw [ac];exact (ah _ _).drewN n4
  have K4:=K3.trans k4;have H:=(b2.g k3).g k4;clear ac b4 hC J r3;have Z:=a w4 K4;go_wp2_with (at_builtin;refine wpList_append_lies _ rfl _ _ 54 rfl w4.heap.size 85 i0 _ 1 4 underlying54 U ad ae ai rfl (by omega) _ _ _ rfl (World.ownsRow_nil w4 w4.heap.size _ _) ⟨g,j,none⟩ L c (us.map fun z=>.int .u32 (z:Nat)) rfl (by rw [cJ,m];omega) Z d hL (by unfold maxLen;omega) (by omega) (leR _) (w4.heap.size) rfl ?_;intro am c5 w5 C T t y);rw [dU,bZ] at C;have r5:Row .u32 w5 (.slice (some ⟨am,0,none⟩) L c5) us:=Row.of_own (base:=w4.heap.size) (e:=85) (by rw [m];exact C);have k5:Kept af w4 w5:=bf T
  have M:=gd _ _ _ r5 o;clear C T t y Z;refine M.mono ?_;rintro e w6 ⟨v6,rfl,b6,_,rfl⟩;have hSb:=vZ v6 v2 (val us 4294967296) (V*q) w6 b6 (H.g k5) G.o;have K6:=K4.trans k5;go_wp2_with fail;refine hSb.mono ?_;rintro e w7 ⟨v7,rfl,b7,o7,k7⟩;have K7:=K6.trans k7;have aa:OwnN .u32 85 w7 base (.slice (some ⟨g,0,none⟩) N n) N zs:=K7.own ho (fun _ _ f=>f);have ap:∀ b,v7.ownBlock=some b->¬ b=g:=fun b hb e=>by have:=o7 b hb;have:=K6.size;omega
  obtain ⟨D,hD⟩:=aj (val us 4294967296-V*q)
  rw [<- hD] at b7;have HD:HzD (D=val us 4294967296-V*q):=hD;clear hSb M r5 b6 H a d hD o7;clear b2 hM hv;go_wp2_with fail;go_loopw [27] (fun i wr=>∃ k:Nat,k<=L/\i=.int .i64 k/\OwnN .u32 85 wr base (.slice (some ⟨g,0,none⟩) N n) N (zs.take j ++ (digs D k 4294967296 ++ zs.drop (j+k)))/\Kept (fun b=>b=g) w7 wr) (fun i _=>L-(intOf i).toNat)
  case atStart=>exact ⟨0,aQ _,rfl,by simpa [digs] using aa,ah _ _⟩
  case round=>
   clear aa;obtain ⟨k,hk,rfl,h,A⟩:=hrel;by_cases hkl:k<L
   ·obtain ⟨ds,rd,dd,_,Q,_⟩:=b7.kept A ap;have I:=nj v7 ds k wr rd;have P:ds.getD k 0=dig D k 4294967296:=by rw [<- Q];exact (dn (by omega) dd k).symm
    rw [P] at I;have O:wr.cell? ⟨g,j+k,none⟩=some (.int .u32 ((zs.getD (j+k) 0:Nat):Int)):=by
     rw [World.ownsRow.cellAt h (j+k) (by omega),bV,io (by rw [aR];omega),aR,fT,pJ,io (by rw [ag];omega),ag,cj,fd,aV,aA,aS (by omega)];rfl
    have hf:=World.ownsRow.frozenAt h (j+k);have E:=fun u=>(World.ownsRow.stored h (j+k) u).1
    have HF:=FG zs D j k (by omega);have al:HzD ((zs.take j ++ (digs D k 4294967296 ++ zs.drop (j+k))).set (j+k) (dig D k 4294967296)=zs.take j ++ (digs D (k+1) 4294967296 ++ zs.drop (j+(k+1)))):=HF;clear HF P rd dd Q;generalize zs.getD (j+k) 0=old at *;have g1:(k:Int)<(L:Int):=by omega
    generalize dig D k 4294967296=dk at *;go_wp2_with fail;refine I.mono ?_;rintro e w' ⟨rfl,rfl⟩;go_wp2;go_roundw
    case rel=>
     refine ⟨k+1,by omega,by go_num,?_,A.setCell _ (fun _=>rfl) _⟩;unfold OwnN;rw [<- al.o,cG];exact E _
    case measure=>simp [intOf];omega
   ·have g1:¬ (k:Int)<(L:Int):=by omega
    have ek:k=L:=by omega
    rw [ek] at h;clear ek;go_wp2;go_ret;rw [HD.o] at h;exact .inr ⟨G.o,rfl,h,(K7.any (S:=fun b=>b=g)).trans A⟩

theorem Cm {us:LN} {a0 a1:Nat} (f:us.length=p+2) (e:ds.length=p+1) (d:Digs us 4294967296) (h0:us.getD p 0=a0) (h1:us.getD (p+1) 0=a1) (ht:ds.getD p 0=t) (c:0<t) :
  val us 4294967296/val ds 4294967296<=(a1*4294967296+a0)/t:=by
 have e1:=bg 4294967296 us p;have e2:val (us.drop p) 4294967296=a1*4294967296+a0:=by
  rw [eE (by omega),eE (by omega),jI];rw [aA,aS (by omega)] at h0 h1;simp only [jy] at h0 h1;simp only [val];rw [h0,h1];omega
 have b:val (us.take p) 4294967296<4294967296^p:=by
  have:=aE (by omega) (d.take p)
  rwa [aR,fT] at this
 have e3:=bg 4294967296 ds p;have e4:val (ds.drop p) 4294967296=t:=by
  rw [eE (by omega),jI];rw [aA,aS (by omega)] at ht;simp only [jy] at ht;simp only [val];rw [ht];omega
 rw [e2] at e1;rw [e4] at e3;have a:0<4294967296^p:=aX;have h5:val us 4294967296/4294967296^p=a1*4294967296+a0:=by
  rw [e1,jQ _ _ a,bJ b,dU]
 rw [<- h5,di];exact Nat.div_le_div_left (by omega) (gI a c)

theorem xk {U q:Nat} (h1:U/V<=q) (h2:V*q<=U) (hV:0<V):q=U/V/\U-V*q=U%V:=by
 have h3:q<=U/V:=(nH hV).2 (by rw [aD];exact h2);have e:q=U/V:=by omega
 refine ⟨e,?_⟩;have:=dD U V;rw [e];omega

theorem Ie (g base N o j p c V:Nat) (zs:LN) (v:Value) (w:World) (ho:OwnN .u32 85 w base (.slice (some ⟨g,0,none⟩) N o) N zs) (F:zs.length=N) (l:Digs zs 4294967296) (hj:j+(p+2)<=N) (hN:N<=100000000)
  (hv:IsBig w v V) (C:cC V=p+1) (D:val ((zs.drop j).take (p+2)) 4294967296<V*4294967296) :
  ClZ 134 #[.slice (some ⟨g,j,none⟩) (p+2) c,v] w fun r w'=>r=.returned (.int .u32 ((val ((zs.drop j).take (p+2)) 4294967296/V:Nat):Int)) /\
   OwnN .u32 85 w' base (.slice (some ⟨g,0,none⟩) N o) N (zs.take j ++ (digs (val ((zs.drop j).take (p+2)) 4294967296%V) (p+2) 4294967296 ++ zs.drop (j+(p+2))))/\Kept (fun b=>b=g) w w':=by
 have HT:=fun q (hq:q<4294967296) W (hk:Kept af w W)=>Lq g base N o j (p+2) c q V zs v W (hk.own ho (fun _ _ f=>f)) F l hj (by omega) hN (hv.g hk) (by omega) hq
 have a:0<V:=by
  rcases cE V with h | h
  ·rw [h] at C;simp [cC] at C
  ·exact h
 have x:∀ i,i<p+2->w.cell? ⟨g,j+i,none⟩=some (.int .u32 ((zs.getD (j+i) 0:Nat):Int)):=fun i hi=>by
  rw [World.ownsRow.cellAt ho (j+i) (by omega),bV,aA,aS (by omega)];rfl
 obtain ⟨ds,rd,dd,td,y,_⟩:=hv;have n:ds.length=p+1:=by rw [fY dd td,y];exact C
 have B:0<ds.getD p 0:=by
  rcases td with h | h
  ·omega
  ·rw [n,gF] at h;omega
 have L:=dd.getD (by omega) p;have k:=Cm (us:=(zs.drop j).take (p+2)) (ds:=ds) (lN F hj) n ((l.drop j).take _) (xt) (xt) rfl B;rw [y] at k;have d:val ((zs.drop j).take (p+2)) 4294967296/V<4294967296:=by rw [cW a,aD];exact D
 have l0:=l.getD (by omega) (j+p);have l1:=l.getD (by omega) (j+(p+1));have c0:=x p (by omega);have c1:=x (p+1) (by omega);obtain ⟨bo,m,bc,rfl,hM,_,_,_,hB⟩:=rd.open;have hm:m=p+1:=hM.o.symm.trans n;subst hm;obtain ⟨gb,ob,rfl,cb⟩:=hB p (by omega);obtain ⟨U,hU⟩:=aj (val ((zs.drop j).take (p+2)) 4294967296)
 rw [<- hU] at HT k d ⊢;clear x hB rd dd td y D hM hU n l;generalize zs.getD (j+p) 0=a0 at *;generalize zs.getD (j+(p+1)) 0=a1 at *;generalize ds.getD p 0=t at *;have I:=vE a1 a0 l1 l0;have R:a1*4294967296+a0<18446744073709551616:=by omega
 generalize a1*4294967296+a0=top at *;have s1:(p:Int)+1-1=(p:Int):=by omega
 have g0:(0:Int)<=(p:Int):=cN _;have g2:(p:Int)<(p:Int)+2:=by omega
 have g3:(p:Int)<(p:Int)+1:=by omega
 have s2:IntKind.i64.wrap ((p:Int)+1-1)=(p:Int):=jN
 delta ClZ;go_in;go_wp2_with fail;go_quiet (fail);have k0:Kept af w (w.drewN nq):=(ah _ _).drewN nq;have M:=k0.cellN cb;clear c0 c1 cb;generalize w.drewN nq=W at *;obtain ⟨Q,hQ⟩:=aj (top/t)
 rw [<- hQ] at k;have O:IntKind.u64.wrap ((top:Int)/(t:Int))=(Q:Int):=by
  have h1:top/t<=top:=em _ _;rw [<- hQ] at h1;rw [show (top:Int)/(t:Int)=((top/t:Nat):Int) by simp,<- hQ,IntKind.wrap_u64];omega
 have s:(4294967295:Int)<(Q:Int)\/¬ (4294967295:Int)<(Q:Int):=by omega
 have G:HzD (U/V<=Q):=k;have H:HzD (U/V<4294967296):=d;clear hQ k d I;rcases s with hf | hf
 all_goals
  go_wp2_with fail;go_loopw [7] (fun rr wr=>∃ q:Nat,q<4294967296/\rr=.int .u64 q/\HzD (U/V<=q)/\Kept af w wr) (fun rr _=>(intOf rr).toNat)
  case atStart=>first | exact ⟨Q,by omega,rfl,G,k0⟩ | exact ⟨4294967295,by omega,rfl,by have:=H.o;unfold HzD;omega,k0⟩
  case round=>
   obtain ⟨q,hq,rfl,A,z⟩:=hrel;have hT:=HT q hq wr z;clear HT;go_wp2_with fail;refine hT.mono ?_;rintro e w' (⟨h1,rfl,k1⟩ | ⟨h1,rfl,E,k1⟩)
   ·have P:0<q:=by
     rcases cE q with h | h
     ·subst h;omega
     ·exact h
    obtain ⟨q',rfl⟩:∃ q',q=q'+1:=⟨q-1,by omega⟩
    have J:HzD (U/V<=q'):=by
     have h2:U/V<q'+1:=(cW a).2 (by rw [aD];exact h1);unfold HzD;omega
    clear h1 A hT;go_wp2;go_roundw
    case rel=>exact ⟨q',by omega,by go_num,J,z.trans k1⟩
    case measure=>simp [intOf]
   ·obtain ⟨e1,e2⟩:=xk A.o h1 a;rw [e2] at E;have E1:HzD (q=U/V):=e1;clear h1 A hT e1 e2;go_wp2;go_ret;refine ⟨?_,E,(z.any (S:=fun b=>b=g)).trans k1⟩;rw [<- E1.o];rfl

theorem CZ (hd:Digs ds 4294967296) (hl:ds.length=p+1) (ht:ds.getD p 0=t) (h1:t<2^(r+1)) (h2:2^r<=t) (hr:r<=31) :
  2^(31-r)*val ds 4294967296<4294967296^(p+1)/\2^31*4294967296^p<=2^(31-r)*val ds 4294967296/\cC (2^(31-r)*val ds 4294967296)=p+1:=by
 have e:=bg 4294967296 ds p;have e4:val (ds.drop p) 4294967296=t:=by
  rw [eE (by omega),jI];rw [aA,aS (by omega)] at ht;simp only [jy] at ht;simp only [val];rw [ht];omega
 rw [e4] at e;have b:val (ds.take p) 4294967296<4294967296^p:=by
  have:=aE (by omega) (hd.take p)
  rwa [aR,fT] at this
 have a1:val ds 4294967296+1<=4294967296^p*(t+1):=by rw [aJ,bI];omega
 have a2:4294967296^p*t<=val ds 4294967296:=by omega
 have b1:2^(31-r)*2^(r+1)=4294967296:=by rw [<- aL,show 31-r+(r+1)=32 by omega]
 have b2:2^(31-r)*2^r=2^31:=by rw [<- aL,show 31-r+r=31 by omega]
 have a:0<2^(31-r):=aX;have c1:2^(31-r)*val ds 4294967296<4294967296^(p+1):=by
  have x1:2^(31-r)*(val ds 4294967296+1)<=2^(31-r)*(4294967296^p*2^(r+1)):=bG _ (aI a1 (bG _ (by omega)));rw [iu,b1,<- aG] at x1;have x2:2^(31-r)*val ds 4294967296<2^(31-r)*(val ds 4294967296+1):=my (by omega) a;exact bi x2 x1
 have c2:2^31*4294967296^p<=2^(31-r)*val ds 4294967296:=by
  have x1:2^(31-r)*(4294967296^p*2^r)<=2^(31-r)*val ds 4294967296:=bG _ (aI (bG _ h2) a2);rw [iu,b2,aD] at x1;exact x1
 refine ⟨c1,c2,?_⟩;have d1:=(dI _ _).2 c1;have d2:¬ cC (2^(31-r)*val ds 4294967296)<=p:=fun h=>by
  have:=(dI _ _).1 h;omega
 omega

theorem ya (A s:Nat) (hs:s<=31):cC (2^s*A)<=cC A+1/\cC A<=cC (2^s*A)/\2^s*A<2^s*4294967296^cC A:=by
 have h1:=(dI A (cC A)).1 (leR _);have hp:0<2^s:=aX;have h3:2^s*A<2^s*4294967296^cC A:=my h1 hp;refine ⟨(dI _ _).2 ?_,ef (Nat.le_mul_of_pos_left _ hp),h3⟩;rw [aG,aD (4294967296^cC A)];have h2:2^s*4294967296^cC A<=4294967296*4294967296^cC A:=cF _ (aI (bj (by omega) hs) (by decide));omega

theorem Ea (hd:Digs zs 4294967296) (k:Nat):val (zs.drop k) 4294967296=val zs 4294967296/4294967296^k:=by
 by_cases h:k<=zs.length
 ·have e:=bg 4294967296 zs k h;have a:val (zs.take k) 4294967296<4294967296^k:=by
   have:=aE (by omega) (hd.take k)
   rwa [aR,jw h] at this
  rw [e,jQ _ _ (aX),bJ a,dU]
 ·rw [jI];have h1:=aE (by omega) hd;have h2:(4294967296:Nat)^zs.length<=4294967296^k:=bj (by omega) (by omega);rw [bJ (by omega)];rfl

theorem AJ {A s la:Nat} (hd:Digs zs 4294967296) (hv:val zs 4294967296=2^s*A) (hA:2^s*A<2^s*4294967296^la) (hs:s<=31) (hp:p<=la) (hV:2^31*4294967296^p<=V) :
  val (zs.drop (la-p)) 4294967296<V:=by
 rw [Ea hd,hv,cW (aX)];have e:4294967296^la=4294967296^p*4294967296^(la-p):=by rw [<- aL,show p+(la-p)=la by omega]
 rw [e,<- bd] at hA;have h1:2^s*4294967296^p<=2^31*4294967296^p:=cF _ (bj (by omega) hs);exact bi hA (cF _ (aI h1 hV))

theorem si (h:j<zs.length:=by omega):val (zs.drop j) 4294967296=zs.getD j 0+4294967296*val (zs.drop (j+1)) 4294967296:=by
 rw [eE h,aA,aS h];rfl

theorem AI {zs a:LN} {j:Nat} (hd:Digs zs 4294967296) (hl:zs.length=N) (o:a.length=N) (hj:j+(n+1)<=N) (hV:V<4294967296^n) (i:0<V) (hR:val (zs.drop (j+1)) 4294967296<V) (c:zs.take (j+1)=a.take (j+1))
  (hinv:V*val qs 4294967296+val (zs.drop (j+1)) 4294967296=val (a.drop (j+1)) 4294967296) (U:Nat) (hU:U=val ((zs.drop j).take (n+1)) 4294967296) :
  U<V*4294967296 /\
  ∀ b,b=zs.take j ++ (digs (U%V) (n+1) 4294967296 ++ zs.drop (j+(n+1))) ->
   b.length=N/\Digs b 4294967296/\b.take j=a.take j/\val (b.drop j) 4294967296<V/\V*val (U/V :: qs) 4294967296+val (b.drop j) 4294967296=val (a.drop j) 4294967296:=by
 have e1:=bg 4294967296 (zs.drop (j+1)) n (by rw [cV];omega);rw [ju] at e1;have hz:val (zs.drop (j+1+n)) 4294967296=0:=by
  rcases cE (val (zs.drop (j+1+n)) 4294967296) with h | h
  ·exact h
  ·have:4294967296^n*1<=4294967296^n*val (zs.drop (j+1+n)) 4294967296:=bG _ h;omega
 have e2:=bg 4294967296 (zs.drop j) (n+1) (by rw [cV];omega);rw [ju,show j+(n+1)=j+1+n by omega,hz,df,aV,<- hU] at e2;have e3:=si (zs:=zs) (j:=j);have l:zs.getD j 0=a.getD j 0:=by
  have h1:(zs.take (j+1)).getD j 0=(a.take (j+1)).getD j 0:=by rw [c]
  rw [aA,aA,eG,eG,cf,cf] at h1;rw [aA,aA];exact h1
 have m:=hd.getD (by omega) j;refine ⟨by omega,fun b e=>?_⟩;have g:(zs.take j).length=j:=by rw [aR];omega
 have d:b.drop j=digs (U%V) (n+1) 4294967296 ++ zs.drop (j+(n+1)):=by rw [e,List.drop_left' g]
 have k:=aY U i;have f:val (b.drop j) 4294967296=U%V:=by
  rw [d,eK,ay,show j+(n+1)=j+1+n by omega,hz,df,aV];apply aB;omega
 refine ⟨by rw [e];simp [ag];omega,by rw [e];exact (hd.take j).append ((ak (by omega) _ _).append (hd.drop _)),?_,by omega,?_⟩
 ·rw [e,List.take_left' g];have h1:(zs.take (j+1)).take j=(a.take (j+1)).take j:=by rw [c]
  rwa [nE,nE,fT] at h1
 ·rw [f,si (zs:=a) (j:=j),<- l,<- hinv];simp only [val];have h1:=dD U V;rw [aJ,iu V 4294967296];omega

theorem EH {A M s:Nat} (hl:zs.length=N) (hn:n<=N) (hM:0<M) (hV:2^s*M<4294967296^n) (hR:val zs 4294967296<2^s*M) (hinv:2^s*M*val qs 4294967296+val zs 4294967296=2^s*A) :
  val qs 4294967296=A/M/\val (zs.take n) 4294967296/2^s=A%M:=by
 have hp:0<2^s:=aX;have a:0<2^s*M:=gI hp hM;have e1:(2^s*A)/(2^s*M)=val qs 4294967296:=by
  rw [<- hinv,gH a,bJ hR,aV]
 have e2:(2^s*A)%(2^s*M)=val zs 4294967296:=by
  rw [<- hinv,iZ,aB hR]
 have e3:=bg 4294967296 zs n;have hz:val (zs.drop n) 4294967296=0:=by
  rcases cE (val (zs.drop n) 4294967296) with h | h
  ·exact h
  ·have:4294967296^n*1<=4294967296^n*val (zs.drop n) 4294967296:=bG _ h;omega
 rw [hz,df,aV] at e3;refine ⟨by rw [<- e1,Nat.mul_div_mul_left _ _ hp],?_⟩;rw [<- e3,<- e2,pM,Nat.mul_div_cancel_left _ hp]

def PrimeN (n:Nat):Prop:=2<=n/\∀ d,2<=d->d<n->n%d≠0

instance (n:Nat):Decidable (PrimeN n):=
 if h:2<=n then
  if g:∀ d,d<n->2<=d->n%d≠0 then isTrue ⟨h,fun d h1 h2=>g d h2 h1⟩ else isFalse (fun p=>g (fun d h1 h2=>p.2 d h2 h1))
 else isFalse (fun p=>h p.1)

theorem rh (hn:2<=n) (hk:n<k*k) (h:∀ d,2<=d->d<k->n%d≠0):PrimeN n:=by
 refine ⟨hn,fun d hd g e=>?_⟩;by_cases hdk:d<k
 ·exact h d hd hdk e
 ·obtain ⟨c,hc⟩:=fE e;have b:2<=c:=by
   rcases gG c 2 with h1 | h1
   ·have a:c=0\/c=1:=by omega
    rcases a with rfl | rfl
    ·omega
    ·omega
   ·exact h1
  have f:c<k:=by
   rcases gG c k with h1 | h1
   ·exact h1
   ·have:=er (show k<=d by omega) h1;omega
  refine h c b f ?_;rw [hc,aD];exact Nat.mul_mod_right c d

theorem tz (hd:2<=d) (a:d*d<=n) (h:n%d=0):¬ PrimeN n:=by
 intro p;have:d<n:=by
  have:=bG d hd;omega
 exact p.2 d hd this h

theorem vW (n:Nat) (hn:n<=1000000) (R:Bool) (hR:R=true↔PrimeN n) (w:World) :
  ClZ 54 #[.int .i64 (n:Nat)] w fun e w'=>e=.returned (.bool R)/\w'=w:=by
 have HR:=aa hR;clear hR;delta ClZ;go_in;go_wp2_with fail;go_loopw [3] (fun dv wr=>wr=w/\∃ d:Nat,2<=d/\d<=1002/\dv=.int .i64 (d:Int)/\HzD (∀ c,2<=c->c<d->n%c≠0)) (fun dv _=>1002-(intOf dv).toNat)
 case atStart=>exact ⟨rfl,2,by omega,by omega,rfl,fun c h1 h2=>by omega⟩
 case round=>
  obtain ⟨rfl,d,g,hd,rfl,a⟩:=hrel;have i:d*d<=1002*1002:=er hd hd;obtain ⟨q,hq⟩:=aj (d*d)
  have hw:IntKind.i64.wrap ((d:Int)*(d:Int))=(q:Int):=by
   have e:(d:Int)*(d:Int)=((d*d:Nat):Int):=by simp
   rw [e,<- hq,IntKind.wrap_i64];omega
  have HQ:=aa hq;rw [<- hq] at i;clear hq;by_cases hqn:q<=n
  ·have f:d*d<=n:=by rw [<- HQ.o];exact hqn
   have j:d<=1000:=by
    rcases gG 1000 d with h | h
    ·have:=er (show 1001<=d by omega) (show 1001<=d by omega);omega
    ·exact h
   have g1:(q:Int)<=(n:Int):=by omega
   have g0:¬ (d:Int)=0:=by omega
   have b:(n:Int).tmod (d:Int)=((n%d:Nat):Int):=by rw [jO (by omega)];simp
   by_cases hm:n%d=0
   ·have HF:HzD (R=false):=by
     unfold HzD;cases h:R with
     | false=>rfl
     | true=>exact absurd (HR.o.1 h) (tz g f hm)
    rw [hm] at b;clear hm f;go_wp2_with fail;go_ret;exact ⟨by rw [HF.o];rfl,rfl⟩
   ·have HA:HzD (∀ c,2<=c->c<d+1->n%c≠0):=fun c h1 h2=>by
     by_cases e:c=d
     ·subst e;exact hm
     ·exact a.o c h1 (by omega)
    obtain ⟨r,hr⟩:=aj (n%d)
    rw [<- hr] at b hm;have g2:¬ (r:Int)=0:=by omega
    clear hr f;go_wp2_with fail;go_roundw
    case rel=>exact ⟨trivial,d+1,by omega,by omega,by go_num,HA⟩
    case measure=>simp [intOf];omega
  ·have g1:¬ (q:Int)<=(n:Int):=by omega
   have HB:HzD (R=decide ((n:Int) > 1)):=by
    unfold HzD;by_cases h:2<=n
    ·rw [dV (by omega)];exact HR.o.2 (rh h (by rw [<- HQ.o];omega) a.o)
    ·rw [cI (by omega)];cases h2:R with
     | false=>rfl
     | true=>exact absurd (HR.o.1 h2).1 h
   go_wp2_with fail;go_ret;exact ⟨by rw [HB.o];rfl,rfl⟩

theorem nU {a b:Nat} (h:b<=a:=by omega):¬ cY a b<0:=by
 unfold cY;rw [aK]
 split <;> omega

theorem xZ {a b:Nat} (h:¬ a=b):¬ cY a b=0:=by
 unfold cY;rw [ar h]
 split <;> omega

attribute [local go_sem ↓] Go.wp_at_zero Go.wp_at_succ

theorem BR (t r:Nat) (ht:t<4294967296):bits .and .u32 ((t:Int)/2^r) 1=((t/2^r%2:Nat):Int):=by
 have e:(t:Int)/2^r=((t/2^r:Nat):Int):=by simp
 have hy:=em t (2^r);have h1:=u32_and_nat (t/2^r) 1 (by omega) (by omega);rw [nat_mask1] at h1;rw [e,show (1:Int)=((1:Nat):Int) from rfl,h1]

theorem FU (h:t<2^(r+1)) (hb:t/2^r%2=0):t<2^r:=by
 have h1:t/2^r<2:=by rw [cW (aX)];rw [aG] at h;omega
 have h2:t/2^r=0:=by
  generalize t/2^r=q at *;omega
 rcases gG t (2^r) with h3 | h3
 ·exact h3
 ·have:=(Nat.div_pos_iff).2 ⟨iH (n:=r) (show 0<2 by omega),h3⟩;omega

theorem D4 (hb:t/2^r%2≠0):2^r<=t:=by
 rcases gG t (2^r) with h3 | h3
 ·rw [bJ h3] at hb;exact absurd rfl hb
 ·exact h3

theorem pZ (u v:Value) (A M:Nat) (w:World) (hu:IsBig w u A) (hv:IsBig w v M) (hM:0<M) (cl:cC A<=10000000:=by omega) :
  ClZ 84 #[u,v] w fun r w'=>∃ v1 v2,r=.returned (.tuple #[v1,v2])/\IsBig w' v1 (A/M)/\IsBig w' v2 (A%M)/\(∀ b,v1.ownBlock=some b->w.heap.size<=b)/\(∀ b,v2.ownBlock=some b->u.ownBlock=some b\/w.heap.size<=b)/\Kept af w w':=by
 obtain ⟨i0,aH,aW,aY,aZ⟩:=info_parts Tryz.info85;have hC:=mI u v A M w hu hv;by_cases hlt:A<M
 ·rw [fh hlt] at hC;have E1:HzD (A/M=0):=bJ hlt;have E2:HzD (A%M=A):=aB hlt;clear hlt;delta ClZ;go_in;go_wp2_with fail;refine hC.mono ?_;rintro e w1 ⟨rfl,n1,rfl⟩;go_wp2;go_ret2;have k1:Kept af w (w.drewN n1):=(ah _ _).drewN n1;exact ⟨.slice none 0 0,u,rfl,by rw [E1.o];exact IsBig.nil _,by rw [E2.o];exact hu.g k1,fun b hb=>(by cases hb),fun b hb=>.inl hb,k1⟩
 ·have b8:¬ cY A M<0:=by unfold cY;rw [ar hlt];split <;> decide
  obtain ⟨cc,S⟩:=aj (cY A M)
  rw [<- S] at hC b8;have bY:M<=A:=by omega
  clear S hlt;obtain ⟨ds,rd,dd,td,X,b9⟩:=hv;have J:=fY dd td;rw [X] at J;have T:cC M<=cC A:=ef bY;have cy:0<cC M:=by
   rcases cE (cC M) with h | h
   ·have:=(dI M 0).1 (by omega);simp at this;omega
   ·exact h
  obtain ⟨p,hp⟩:∃ p,cC M=p+1:=⟨cC M-1,by omega⟩
  rw [hp] at J;have N:0<ds.getD p 0:=by
   rcases td with h | h
   ·omega
   ·rw [J,gF] at h;omega
  have B:=dd.getD (by omega) p;have hv:IsBig w v M:=⟨ds,rd,dd,td,X,b9⟩
  obtain ⟨bo,m,bc,rfl,bj,_,_,_,hB⟩:=rd.open;have hm:m=p+1:=bj.o.symm.trans J;subst hm;obtain ⟨gb,ob,rfl,cb⟩:=hB p (by omega);by_cases hone:p=0
  ·subst hone;have ac:M=ds.getD 0 0:=by
    rw [<- X];cases ds with
    | nil=>simp at J
    | cons x r=>
     have:r=[]:=kX (by simpa using J);subst this;simp [val]
   have aA:=fun W (hk:Kept af w W)=>Bj u A (ds.getD 0 0) W (hu.g hk) N B
   rw [<- ac] at aA cb;simp only [aV] at cb;clear hB bj rd dd td X ac N B;delta ClZ;go_in;go_wp2_with fail;refine hC.mono ?_;rintro e w1 ⟨rfl,n1,rfl⟩;have k1:Kept af w (w.drewN n1):=(ah _ _).drewN n1;have b0:=aA _ k1;clear aA hC;go_wp2_with fail;refine b0.mono ?_;rintro e w2 ⟨v1,v2,rfl,b1,b2,o1,o2,k2⟩;go_wp2;go_ret2;exact ⟨v1,v2,rfl,b1,b2,o1,fun b hb=>.inr (o2 b hb),k1.trans k2⟩
  ·have cx:¬ (p:Int)+1=1:=by omega
   have bL:=hu;obtain ⟨az,ra,da,ta,bv,b5⟩:=hu;have H:=fY da ta;rw [bv] at H;obtain ⟨uo,la,uc,rfl,bh,_,_,_,_⟩:=ra.open;have I:la=cC A:=bh.o.symm.trans H;clear ra da ta bv b5 H bh;have hu:=bL;clear bL;rw [<- I] at cl T;have a9:HzD (la=cC A):=I;clear I;delta ClZ;go_in;go_wp2_with fail;refine hC.mono ?_;rintro e w1 ⟨rfl,n1,bP⟩;have k1:Kept af w w1:=by rw [bP];exact (ah _ _).drewN n1
   have b7:=k1.cellN cb;clear hC bP cb hB;obtain ⟨t,ht⟩:=aj (ds.getD p 0)
   rw [<- ht] at b7 N B;have HT:HzD (ds.getD p 0=t):=ht.symm;clear ht;obtain ⟨W,bu⟩:∃ W,HzD (w1=W):=⟨_,rfl⟩
   go_wp2_with fail;go_loopw [6] (fun ss wr=>∃ s r:Nat,s+r=31/\ss=.int .i64 (s:Nat)/\HzD (t<2^(r+1))/\HzD (wr=W)) (fun ss _=>(31-intOf ss).toNat)
   case atStart=>exact ⟨0,31,rfl,rfl,by unfold HzD;omega,bu⟩
   case round=>
    obtain ⟨s,r,bI,rfl,ao,bQ⟩:=hrel;have aU:wr=w1:=bQ.o.trans bu.o.symm;subst aU;have cz:(31:Int)-(s:Int)=(r:Int):=by omega
    have aN:r<=31:=by omega
    have aa:s<=31:=by omega
    have bb:HzD (s+r=31):=bI;clear bI;have G:=BR t r B;have g0:(0:Int)<=(p:Int):=cN _;have g3:(p:Int)<(p:Int)+1:=by omega
    by_cases hb:t/2^r%2=0
    ·have L:=FU ao.o hb;rw [hb] at G;have cp:0<r:=by
      rcases cE r with h | h
      ·subst h;simp at L;omega
      ·exact h
     have Z:HzD (t<2^(r-1+1)):=by unfold HzD;rw [Nat.sub_add_cancel cp];exact L
     clear hb L ao;go_wp2;go_roundw
     case rel=>exact ⟨s+1,r-1,by have:=bb.o;omega,by go_num,Z,bQ⟩
     case measure=>simp [intOf];omega
    ·have bw:t/2^r%2=1:=by omega
     have bC:=D4 hb;rw [bw] at G;have es:31-r=s:=by have:=bb.o;omega
     obtain ⟨au,a2,ai⟩:=CZ dd J HT.o ao.o bC aN;rw [X,es] at au a2 ai;obtain ⟨bS,bT,a7⟩:=ya A s aa;rw [<- a9.o] at bS bT a7;have bl:=Af _ A s wr (hu.g k1) (by rw [<- a9.o];omega);clear hb bw bC ao es HT;go_wp2_with fail;refine bl.mono ?_;rintro e w2 ⟨v2,rfl,a5,k2⟩;obtain ⟨us,ou,du,tu,uv,ul⟩:=a5;have ap:=fY du tu;rw [uv] at ap;rw [<- ap] at bS bT;have bU:HzD (us.length=cC (2^s*A)):=ap;clear ap
     go_wp2_with (at_builtin;refine wpList_append_lies _ rfl _ _ 54 rfl wr.heap.size 85 i0 _ 1 4 underlying54 aH aW aY aZ rfl (by omega) _ _ _ rfl (ou.alloc _) ⟨w2.heap.size,0,none⟩ 2 2 [.int .u32 0,.int .u32 0] rfl rfl (qV w2 _ _ _) (by simp [Value.oneCell']) (by omega) (by unfold maxLen;omega) (by omega) (by have:=k2.size;simp;omega) (w2.heap.size+1) (by simp) ?_;intro gu cu w3 aL bA aE aF);have k3:Kept af wr w3:=(k2.alloc _).grown bA (fun b hb hlt=>by have:=(ou.lt b hb).1;omega);have a3:OwnN .u32 85 w3 wr.heap.size (.slice (some ⟨gu,0,none⟩) (us.length+2) cu) (us.length+2) (us ++ [0,0]):=by unfold OwnN;rw [dR];exact aL
     have ce:wr.heap.size<=gu:=(aL.lt gu rfl).1;have cw:us.length+2<=cu:=by
      rcases a3.2 with ⟨h',_⟩ | ⟨g',cap',cur,h',_,_,hnc,_⟩
      ·simp at h'
      ·simp only [Value.slice.injEq,iI,Addr.mk.injEq,and_true] at h';obtain ⟨_,_,rfl⟩:=h';exact hnc
     clear aL bA aE ou;have bm:=Mb _ M s w3 ((hv.g k1).g k3) (by omega) (by omega);refine bm.mono ?_;rintro e w4 ⟨v4,rfl,b4,o4,k4⟩;have a4:OwnN .u32 85 w4 wr.heap.size (.slice (some ⟨gu,0,none⟩) (us.length+2) cu) (us.length+2) (us ++ [0,0]):=k4.own a3 (fun _ _ f=>f);have ag:(us ++ [0,0]).length=us.length+2:=by simp
     have bn:=Dz _ (us ++ [0,0]) w4 (Row.of_own (by rw [ag];exact a4));clear bm bl;go_wp2_with fail;refine bn.mono ?_;rintro e w5 ⟨mt,vt,rfl,aJ,_,a1,bK,_,⟨cs,n5,bX,bM,rfl⟩,rfl⟩;simp only [Value.slice.injEq] at bM;obtain ⟨rfl,rfl,rfl⟩:=bM;have ax:Digs (us ++ [0,0]) 4294967296:=du.append (fun d hd=>by simp at hd;omega);have O:val (us ++ [0,0]) 4294967296=2^s*A:=by rw [eK];simp [val,uv]
     have aK:mt=us.length:=by
      have h1:=fY (ax.take mt) (jc aJ bK);rw [js aJ a1,O,<- bU.o,aR] at h1;omega
     have cm:max ((la:Int)+1) (mt:Int)=(la:Int)+1:=by omega
     have ct:(la:Int)+1<=(cu:Int):=by omega
     obtain ⟨l,q⟩:=aj ((us ++ [0,0]).take (la+1))
     have oz:OwnN .u32 85 w5 wr.heap.size (.slice (some ⟨gu,0,none⟩) (la+1) cu) (la+1) l:=by rw [q];exact tA a4
     have ae:l.length=la+1:=by rw [q,aR];omega
     have ad:Digs l 4294967296:=by rw [q];exact ax.take _
     have P:val l 4294967296=2^s*A:=by
      rw [q,js (by omega) (fun i hi=>a1 i (by omega)),O]
     have bW:=b4;obtain ⟨vs,rv,dv,tv,bN,_⟩:=bW;have aT:=fY dv tv;rw [bN,ai] at aT;obtain ⟨vo,nv,vc,rfl,bk,_,_,_,bp⟩:=rv.open;have cn:nv=p+1:=bk.o.symm.trans aT;subst cn;obtain ⟨gv,ov,rfl,cv⟩:=bp 0 (by omega);have ch:gv<w5.heap.size:=World.block_lt_of_cell? w5 _ cv;have ci:w3.heap.size<=gv:=o4 gv rfl;clear bn a4 a1 bK aJ ag ax O q rv dv tv bN aT bk bp cv o4 aK;have aQ:(la:Int)+1-((p:Int)+1)=((la-p:Nat):Int):=by omega
     obtain ⟨Kq,aC⟩:=aj (la-p)
     rw [<- aC] at aQ;have HK:HzD (Kq=la-p):=aC;clear aC;go_wp2_with (at_make;refine wpList_make_full _ rfl _ _ 54 rfl w5.heap.size 85 i0 _ 1 underlying54 aH aW aY _ _ _ _ Kq rfl rfl (by first | rfl | omega) (by first | rfl | omega) (by rw [aZ];omega) (by unfold maxLen;omega) (leR _) ?_;intro w6 an bB);rw [bD] at an;have k6:Kept af w5 w6:=bf bB;clear bB;have a6:OwnN .u32 85 w6 wr.heap.size (.slice (some ⟨gu,0,none⟩) (la+1) cu) (la+1) l:=k6.own oz (fun _ _ f=>f);have ab:val (l.drop Kq) 4294967296<2^s*M:=by
      have:=AJ (V:=2^s*M) ad P a7 aa (show p<=la by omega) a2
      rwa [HK.o]
     obtain ⟨V,hV⟩:=aj (2^s*M)
     rw [<- hV] at ab b4 au ai;have bt:0<V:=by rw [hV];exact gI (aX) hM
     have HV:HzD (V=2^s*M):=hV;have bd:HzD (val l 4294967296=2^s*A):=P;have aw:HzD (V<4294967296^(p+1)):=au;have a8:HzD (cC V=p+1):=ai;have cj:gu<w5.heap.size:=bi aF k4.size;have K6:Kept af w w6:=((k1.trans k3).trans k4).trans k6;have bx:IsBig w6 _ V:=b4.g k6;have ay:w.heap.size<=wr.heap.size:=k1.size;clear hV P au a2 ai a7 oz b4 hu hv k1 k2 k3 k4 G a3;obtain ⟨B0,be⟩:=aj wr.heap.size
     rw [<- be] at a6 ce ay;obtain ⟨gq,aG⟩:=aj w5.heap.size
     rw [<- aG] at an cj ch;rw [<- aG];clear be aG;go_wp2_with fail;go_loopw [11] (fun jj wx=>∃ (k:Nat) (zs qs:LN),k<=Kq/\jj=.int .i64 ((k:Int)-1)/\HzD (zs.length=la+1)/\Digs zs 4294967296/\HzD (zs.take k=l.take k)/\HzD (val (zs.drop k) 4294967296<V)/\HzD (V*val qs 4294967296+val (zs.drop k) 4294967296=val (l.drop k) 4294967296)/\HzD (qs.length=Kq-k)/\Digs qs 4294967296 /\
       OwnN .u32 85 wx B0 (.slice (some ⟨gu,0,none⟩) (la+1) cu) (la+1) zs/\OwnN .u32 85 wx gq (.slice (some ⟨gq,0,none⟩) Kq Kq) Kq (List.replicate k 0 ++ qs)/\Kept (fun b=>b=gu\/b=gq) w6 wx) (fun jj _=>(intOf jj+1).toNat)
     case atStart=>exact ⟨Kq,l,[],leR _,rfl,ae,ad,rfl,ab,by unfold HzD;simp [val],by unfold HzD;simp,Digs.nil _,a6,by rw [dY];exact an,ah _ _⟩
     case round=>
      clear a6 an;obtain ⟨k,zs,qs,hk,rfl,aq,a0,aS,hR,hinv,bG,bF,oz,oq,al⟩:=hrel;cases k with
      | zero=>
       rw [il] at hR hinv;rw [il] at hinv;have aI:=hinv.o;rw [bd.o,HV.o] at aI;obtain ⟨d1,d2⟩:=EH (n:=p+1) aq.o (by omega) hM (by rw [<- HV.o];exact aw.o) (by rw [<- HV.o];exact hR.o) aI;rw [fg,bZ] at oq;have aM:qs.length=Kq:=by have:=bG.o;omega
       have D1:HzD (val qs 4294967296=A/M):=d1;have D2:HzD (val (zs.take (p+1)) 4294967296/2^s=A%M):=d2;have b3:=fun W (hk:Kept af wr W)=>gd (.slice (some ⟨gq,0,none⟩) Kq Kq) qs W ((Row.of_own (base:=gq) (e:=85) (by rw [aM];exact oq)).g hk) bF
       have C:OwnN .u32 85 wr B0 (.slice (some ⟨gu,0,none⟩) (p+1) cu) (p+1) (zs.take (p+1)):=tA oz;have j2:(p:Int)+1<=(cu:Int):=by omega
       have j0:(0:Int)<=(p:Int)+1:=by omega
       have KW:Kept af w wr:=K6.next al (fun x hx h=>by rcases h with h | h <;> omega)
       clear hinv aI hR aS d1 d2 bx bd aw a8;have o:∀ i u,((zs.take (p+1)).map fun z=>Value.int .u32 (z:Nat))[i]? = some u->wr.drew.cell? ((⟨gu,0,none⟩:Addr).add i)=some u:=World.ownsRow.cells C (g:=gu) rfl;have E:=vy .u32 (zs.take (p+1));have am:(zs.take (p+1)).length=p+1:=by rw [aR];have:=aq.o;omega
       have Y:((zs.take (p+1)).map fun z=>Value.int .u32 (z:Nat)).length=(p+1)*1:=by rw [cJ,am];omega
       have bH:=a0.take (p+1);obtain ⟨rs,aO⟩:=aj (zs.take (p+1))
       rw [<- aO] at o E am Y bH;have D3:HzD (val rs 4294967296/2^s=A%M):=by rw [aO];exact D2
       have ba:HzD (rs.length=p+1):=am;clear D2 aO am C;go_wp2_with fail;go_region_held3 (fun _=>True) (trivial)
        (first
         | (go_at_call_of 53 (Value.slice (some ⟨gq,0,none⟩) Kq Kq);refine (b3 _ ?_).mono ?_;exact (ah af wr).drew;rintro e w7 ⟨vq,rfl,bq,cq,rfl⟩)
         | (refine step_append_lies _ (by rfl) _ _ _ (by rfl) wr.heap.size 85 i0 _ 1 4 underlying54 aH aW aY aZ rfl (by omega) (.slice none 0 0) 0 [] (by rfl) (World.ownsRow_nil _ _ _ _) ⟨gu,0,none⟩ (p+1) cu (rs.map fun z=>.int .u32 (z:Nat)) (by rfl) Y o E (by omega) (by unfold maxLen;omega) (by omega) (leR _) wr.heap.size (by simp) ?_;intro gg cg w8 bE ca b6 cd)
         | (go_at_call 53;refine (gd _ rs _ (Row.of_own (base:=wr.heap.size) (e:=85) (by rw [ba.o];rw [dU,bZ] at bE;exact bE)) bH (by have:=ba.o;omega)).mono ?_;rintro e w9 ⟨vr,rfl,br,cA,rfl⟩)
         | (go_at_call 135;refine (Mc _ _ s _ br (by omega)).mono ?_;rintro e cB ⟨vs,rfl,bs,os,ks⟩))
       all_goals
        go_wp2;go_ret2;have k8:Kept af _ _:=bf ca;refine ⟨vq,vs,rfl,?_,?_,fun b hb=>?_,fun b hb=>.inr ?_,(KW.drew.trans k8).trans ks⟩
        ·rw [<- D1.o];exact (bq.g k8).g ks
        ·rw [<- D3.o];exact bs
        ·rw [cq] at hb;simp [Value.ownBlock] at hb;omega
        ·have h1:=os b hb;have h2:=(KW.drew.trans k8).size;omega
      | succ j=>
       have bO:IsBig wr _ V:=bx.kept al (fun b hb h=>by simp [Value.ownBlock] at hb;omega);obtain ⟨U,hU⟩:=aj (val ((zs.drop j).take (p+2)) 4294967296)
       obtain ⟨ak,D⟩:=AI (n:=p+1) (j:=j) a0 aq.o ae (by omega) aw.o bt hR.o aS.o hinv.o U hU;rw [hU] at ak;have hG:=fun c=>Ie gu B0 (la+1) cu j p c V zs _ wr oz aq.o a0 (by omega) (by omega) bO a8.o ak
       rw [<- hU] at hG;obtain ⟨F,R⟩:∃ F,F=zs.take j ++ (digs (U%V) (p+1+1) 4294967296 ++ zs.drop (j+(p+1+1))):=⟨_,rfl⟩
       obtain ⟨n1,n2,n3,n4,n5⟩:=D F R;have bg:=fun c=>by
        have h:=hG c;rw [<- R] at h;exact h
       have co:U/V<4294967296:=by rw [cW bt,aD,hU];exact ak
       have N1:HzD (F.length=la+1):=n1;have N3:HzD (F.take j=l.take j):=n3;have N4:HzD (val (F.drop j) 4294967296<V):=n4;have N5:HzD (V*val (U/V :: qs) 4294967296+val (F.drop j) 4294967296=val (l.drop j) 4294967296):=n5;clear hU R hG D n1 n3 n4 n5 ak hinv aS hR bO;generalize U/V=Q at *;have j1:(0:Int)<=(j:Int):=cN _;have j2:(j:Int)+((p:Int)+1)+1<=(cu:Int):=by omega
       have j3:(j:Int)<(Kq:Int):=by omega
       have jl:j+(p+1)+1-j=p+2:=by omega
       go_wp2_with fail;refine (bg _).mono ?_;rintro e w7 ⟨rfl,bR,kg⟩;have av:OwnN .u32 85 w7 gq (.slice (some ⟨gq,0,none⟩) Kq Kq) Kq (List.replicate (j+1) 0 ++ qs):=kg.own oq (fun b hb h=>by simp [Value.ownBlock] at hb;omega);have bz:w7.cell? ⟨gq,j,none⟩=some (.int .u32 0):=by
        rw [World.ownsRow.cellAt av j (by omega),bV,im (by simp),eF,cf];rfl
       have hf:=World.ownsRow.frozenAt av j;have aP:=fun u=>(World.ownsRow.stored av j u).1
       have cr:=fun u=>ownsRow_setCell_other bR (a:=⟨gq,j,none⟩) (by simp [Value.ownBlock];omega) u
       have ck:Kept (fun b=>b=gu\/b=gq) w6 w7:=al.trans (kg.mono (fun _ _ h=>.inl h));clear oz oq bg al kg bR av;go_wp2;go_roundw
       case rel=>
        refine ⟨j,F,Q :: qs,by omega,by go_num,N1,n2,N3,N4,N5,by unfold HzD;rw [dh,bG.o];omega,fun y hy=>?_,cr _,?_,ck.setCell _ (fun _=>.inr rfl) _⟩
        ·rcases fM.1 hy with h | h
         ·omega
         ·exact bF y h
        ·unfold OwnN;rw [<- zD,cG];exact aP _
       case measure=>simp [intOf]

def bes (V n:Nat):Nat->LN
 | 0=>[]
 | i+1=>bes V n i ++ [dig V (n-1-i) 256]

theorem dt (V n:Nat):∀ i,(bes V n i).length=i
 | 0=>rfl
 | i+1=>by simp [bes,dt V n i]

theorem qf (V n:Nat):∀ i,Digs (bes V n i) 256
 | 0=>Digs.nil _
 | i+1=>(qf V n i).append (Digs.one (bu))

theorem B8 (V j:Nat):dig V (j/4) 4294967296/2^(j%4*8)%256=dig V j 256:=by
 unfold dig;have e:(4294967296:Nat)^(j/4)=256^(4*(j/4)):=by rw [aW]
 have e0:(2:Nat)^(j%4*8)=256^(j%4):=by rw [aD,aW]
 have e3:(256:Nat)^j=256^(4*(j/4))*256^(j%4):=by rw [<- aL];congr 1;omega
 rw [e,e0,e3,<- di];generalize V/256^(4*(j/4))=x;have h:j%4=0\/j%4=1\/j%4=2\/j%4=3:=by omega
 rcases h with h | h | h | h <;> rw [h] <;> omega

theorem Bn (V n k:Nat) (h:k<n):(bes V n k ++ List.replicate (n-k) 0).set k (dig V (n-1-k) 256)=bes V n (k+1) ++ List.replicate (n-(k+1)) 0:=by
 rw [ir _ _ (by rw [dt];omega),dt,cj,bes,show n-k=(n-(k+1))+1 by omega,j9];simp

theorem Tryz.info5:(prog.info? 5).map (fun i=>(i.zero,i.size,i.bytes))=some (some (.int .u8 0),1,1):=by kernel_rfl

theorem Dy (v:Value) (V n:Nat) (w:World) (h:IsBig w v V) (hn:n<=1000000000) :
  ClZ 35 #[v,.int .i64 n] w fun r w'=>∃ v',r=.returned v'/\Row .u8 w' v' (bes V n n)/\v'.ownBlock=some w.heap.size/\Kept af w w':=by
 obtain ⟨i0,g,o,p,q⟩:=info_parts Tryz.info5;obtain ⟨ds,hr,hd,_,rfl,_⟩:=h;have HD:=fun i W (hk:Kept af w W)=>nj v ds i W (hr.g hk)
 have hV:∀ i,ds.getD i 0=dig (val ds 4294967296) i 4294967296:=fun i=>(dn (by omega) hd i).symm
 have hlt:∀ i,dig (val ds 4294967296) i 4294967296<4294967296:=fun i=>bu
 simp only [hV] at HD;clear hr hd hV;generalize val ds 4294967296=V at *;have hm:max (n:Int) 0=(n:Int):=by omega
 delta ClZ;go_in;go_wp2_with (at_make;refine wpList_make_full _ rfl _ _ 28 rfl w.heap.size 5 i0 _ 1 underlying28 g o p _ _ _ _ n rfl rfl rfl rfl (by rw [q];omega) (by unfold maxLen;omega) (leR _) ?_;intro w1 b f);rw [bD] at b;have k1:=bf f;go_loopw [13] (fun i wr=>∃ k:Nat,k<=n/\i=.int .i64 k/\OwnN .u8 5 wr w.heap.size (.slice (some ⟨w.heap.size,0,none⟩) n n) n (bes V n k ++ List.replicate (n-k) 0)/\Kept af w wr) (fun i _=>n-(intOf i).toNat)
 case atStart=>exact ⟨0,aQ _,rfl,by rw [show bes V n 0=[] from rfl,bZ,et];exact b,k1⟩
 case round=>
  clear b f k1;obtain ⟨k,hk,rfl,ho,a⟩:=hrel;by_cases hkn:k<n
  ·have l:(k:Int)<(n:Int):=by omega
   have hc:wr.cell? ⟨w.heap.size,k,none⟩=some (.int .u8 0):=by
    rw [World.ownsRow.cellAt ho k (by omega),bV,io (by rw [dt];omega),dt,cj,eF,cf];rfl
   have hf:=World.ownsRow.frozenAt ho k;have m:=fun u=>(World.ownsRow.stored ho k u).1
   obtain ⟨j,hj⟩:=aj (n-1-k)
   have hJ:(n:Int)-1-(k:Int)=(j:Int):=by omega
   have HF:HzD ((bes V n k ++ List.replicate (n-k) 0).set k (dig V j 256)=bes V n (k+1) ++ List.replicate (n-(k+1)) 0):=by unfold HzD;rw [hj];exact Bn V n k hkn
   have s:j<=1000000000:=by omega
   clear hj;have hD:=HD (j/4) wr a;rw [show ((j/4:Nat):Int)=(j:Int)/4 by omega] at hD;have hl:=hlt (j/4);have c:=B8 V j;clear HD hlt;generalize dig V (j/4) 4294967296=d at *;have e1:(d:Int)/2^(j%4*8)=((d/2^(j%4*8):Nat):Int):=by simp
   have HB:HzD ((d:Int)/2^(j%4*8)%256=((dig V j 256:Nat):Int)):=by unfold HzD;rw [e1,<- c];omega
   clear e1 c;go_wp2_with fail;refine hD.mono ?_;rintro e w' ⟨rfl,rfl⟩;go_wp2;rw [HB.o];go_roundw
   case rel=>
    refine ⟨k+1,by omega,by go_num,?_,a.setCell _ (fun h=>by simp at h) _⟩;unfold OwnN;rw [<- HF.o,cG];exact m _
   case measure=>simp [intOf];omega
  ·have l:¬ (k:Int)<(n:Int):=by omega
   have e:k=n:=by omega
   subst e;rw [cj,fg,dY] at ho;clear HD hlt;go_wp2;go_ret;exact ⟨_,rfl,Row.of_own (by rw [dt];exact ho),rfl,a⟩

def bev (l:LN):Nat:=l.foldl (fun a b=>a*256+b) 0

theorem nN (l:LN) (b:Nat):bev (l ++ [b])=bev l*256+b:=by simp [bev]

theorem mJ {l:LN} (h:i<l.length):bev (l.take (i+1))=bev (l.take i)*256+l.getD i 0:=by
 rw [mq h,nN,aA,aS h];rfl

theorem Ap {B:Nat}:∀ {l:LN} {i d:Nat},i<l.length->val (l.set i (l.getD i 0+d)) B=val l B+B^i*d
 | x :: r,0,d,_=>by simp [val];omega
 | x :: r,i+1,d,h=>by
  have ih:=Ap (B:=B) (l:=r) (i:=i) (d:=d) (by simpa using h);simp only [lsS,val,List.getD_cons_succ,ih,aJ,aG];rw [aD (B^i) B,bd];omega

theorem yi (T k:Nat):dig (T*256^(k+1)) (k/4) 4294967296=T*256^(k%4+1)%4294967296:=by
 unfold dig;have e:(256:Nat)^(k+1)=256^(k%4+1)*4294967296^(k/4):=by
  rw [show (4294967296:Nat)^(k/4)=256^(4*(k/4)) from by rw [aW],<- aL]
  congr 1;omega
 rw [e,<- bd,Nat.mul_div_cancel _ (aX)]

theorem EQ (T k b:Nat) (hb:b<256):bits .or .u32 ((T*256^(k%4+1)%4294967296:Nat):Int) (IntKind.u32.wrap ((b:Int)*2^(k%4*8)))=((T*256^(k%4+1)%4294967296+b*256^(k%4):Nat):Int) /\
  T*256^(k%4+1)%4294967296+b*256^(k%4)<4294967296:=by
 have h:k%4=0\/k%4=1\/k%4=2\/k%4=3:=by omega
 have a:∀ (r:Nat) (x y:Nat),x%2^r=0->y<2^r->x+y<4294967296->bits .or .u32 (x:Int) (y:Int)=((x+y:Nat):Int):=fun r x y h1 h2 h3=>by
  rw [u32_or_nat x y (by omega) (by omega),nat_join r x y h1 h2]
 rcases h with h | h | h | h <;> rw [h] <;> simp only [dU,Nat.reduceAdd,Nat.reducePow,Nat.reduceMul,i9,Int.reducePow,cP,i8,bI,Int.mul_one,Int.pow_zero]
 ·refine ⟨?_,by omega⟩;rw [IntKind.wrap_u32',show (b:Int)%4294967296=(b:Int) by omega];exact a 8 _ _ (by omega) (by omega) (by omega)
 ·refine ⟨?_,by omega⟩;rw [IntKind.wrap_u32',show (b:Int)*256%4294967296=((b*256:Nat):Int) by omega];exact a 16 _ _ (by omega) (by omega) (by omega)
 ·refine ⟨?_,by omega⟩;rw [IntKind.wrap_u32',show (b:Int)*65536%4294967296=((b*65536:Nat):Int) by omega];exact a 24 _ _ (by omega) (by omega) (by omega)
 ·refine ⟨?_,by omega⟩;rw [IntKind.wrap_u32',show (b:Int)*16777216%4294967296=((b*16777216:Nat):Int) by omega];exact a 32 _ _ (by omega) (by omega) (by omega)

theorem AS {T b:Nat} (hk:n=i+1+k) (hd:Digs zs 4294967296) (hl:k/4<zs.length) (hv:val zs 4294967296=T*256^(n-i)) :
  zs.getD (k/4) 0=T*256^(k%4+1)%4294967296/\val (zs.set (k/4) (zs.getD (k/4) 0+b*256^(k%4))) 4294967296=(T*256+b)*256^(n-(i+1)):=by
 have e1:n-i=k+1:=by omega
 have e2:n-(i+1)=k:=by omega
 rw [e1] at hv;refine ⟨by rw [<- dn (by omega) hd,hv,yi],?_⟩;rw [Ap hl,hv,e2,dm,aG];have e3:4294967296^(k/4)*(b*256^(k%4))=b*256^k:=by
  rw [show (4294967296:Nat)^(k/4)=256^(4*(k/4)) from by rw [aW],iu,<- aL]
  congr 2;omega
 rw [e3,bd,aD 256]

theorem yR (v:Value) (bs:LN) (w:World) (h:Row .u8 w v bs) (hd:Digs bs 256) (hl:bs.length<=100000000) :
  ClZ 77 #[v] w fun r w'=>∃ v',r=.returned v'/\IsBig w' v' (bev bs)/\(∀ b,v'.ownBlock=some b->w.heap.size<=b)/\Kept af w w':=by
 obtain ⟨i0,t,C,D,E⟩:=info_parts Tryz.info85;obtain ⟨ao,n,F,rfl,hN,_,_,_,h4⟩:=h.open;rw [hN.o] at hl;have xb:=fun i=>hd.getD (by omega) i
 clear h hd;obtain ⟨m,hm⟩:=aj ((n+3)/4)
 have I:((n:Int)+3)/4=(m:Int):=by omega
 have J:m<=100000000:=by omega
 clear hm;delta ClZ;go_in;go_wp2_with (at_make;refine wpList_make_full _ rfl _ _ 54 rfl w.heap.size 85 i0 _ 1 underlying54 t C D _ _ _ _ m rfl rfl (by first | rfl | omega) (by first | rfl | omega) (by rw [E];omega) (by unfold maxLen;omega) (leR _) ?_;intro w1 f q);rw [bD] at f;have k1:=bf q;go_loopw [13] (fun i wr=>∃ (k:Nat) (zs:LN),k<=n/\i=.int .i64 k/\HzD (zs.length=m)/\Digs zs 4294967296/\HzD (val zs 4294967296=bev (bs.take k)*256^(n-k))/\OwnN .u32 85 wr w.heap.size (.slice (some ⟨w.heap.size,0,none⟩) m m) m zs/\Kept af w wr) (fun i _=>n-(intOf i).toNat)
 case atStart=>exact ⟨0,List.replicate m 0,aQ _,rfl,bw,(fun d hd=>by simp at hd;omega),by unfold HzD;rw [eY _ (fun d hd=>by simp at hd;exact hd.2)];simp [bev],f,k1⟩
 case round=>
  clear f q k1;obtain ⟨i,zs,hk,rfl,a,g,l,ho,c⟩:=hrel;by_cases hkn:i<n
  ·have x:(i:Int)<(n:Int):=by omega
   obtain ⟨b,off,rfl,p⟩:=(h4 i hkn).g c;have s:=xb i;have HT:HzD (bev (bs.take (i+1))=bev (bs.take i)*256+bs.getD i 0):=mJ (by have:=hN.o;omega);clear xb h4;generalize bs.getD i 0=y at *;obtain ⟨j,hj⟩:=aj (n-1-i)
   have hJ:(n:Int)-1-(i:Int)=(j:Int):=by omega
   have G:j/4<m:=by omega
   obtain ⟨f1,f2⟩:=AS (b:=y) (show n=i+1+j by omega) g (by have:=a.o;omega) l.o;rw [<- HT.o] at f2;obtain ⟨o1,o2⟩:=EQ (bev (bs.take i)) j y s;rw [<- f1] at o1 o2;have hc:wr.cell? ⟨w.heap.size,j/4,none⟩=some (.int .u32 ((zs.getD (j/4) 0:Nat):Int)):=by
    rw [World.ownsRow.cellAt ho (j/4) (by omega),bV,aA,aS (by have:=a.o;omega)];rfl
   have hf:=World.ownsRow.frozenAt ho (j/4);have B:=fun u=>(World.ownsRow.stored ho (j/4) u).1
   have F2:HzD (val (zs.set (j/4) (zs.getD (j/4) 0+y*256^(j%4))) 4294967296=bev (bs.take (i+1))*256^(n-(i+1))):=f2;have H:j<=1000000000:=by omega
   clear f1 f2 hj HT l;generalize zs.getD (j/4) 0=z at *;generalize z+y*256^(j%4)=Z at *;rw [IntKind.wrap_u32'] at o1;have O1:HzD (bits .or .u32 (z:Int) ((y:Int)*2^(j%4*8)%4294967296)=(Z:Int)):=o1;clear o1;have j1:(0:Int)<=(j:Int)/4:=by omega
   have j2:(j:Int)/4<(m:Int):=by omega
   have j3:((j:Int)/4).toNat=j/4:=by omega
   go_wp2_with fail;go_region
   all_goals
    go_wp2;rw [O1.o];go_roundw
    case rel=>
     refine ⟨i+1,zs.set (j/4) Z,by omega,by go_num,by unfold HzD;rw [mo];exact a.o,?_,F2,?_,(c.setCell _ (fun h=>by simp at h) _).drew⟩
     ·intro d hd;rcases nC hd with h | h
      ·exact g d h
      ·omega
     ·unfold OwnN;rw [cG];exact B _
    case measure=>simp [intOf];omega
  ·have x:¬ (i:Int)<(n:Int):=by omega
   have hv:val zs 4294967296=bev bs:=by
    rw [l.o,show n-i=0 by omega,dS (by have:=hN.o;omega)];simp
   have hr:Row .u32 wr _ zs:=Row.of_own (base:=w.heap.size) (e:=85) (by rw [a.o];exact ho);have ht:=gd _ _ _ hr g (by have:=a.o;omega);rw [hv] at ht;clear xb h4 hv hr;go_wp2_with fail;refine ht.mono ?_;rintro e w' ⟨v',rfl,hb,A,rfl⟩;go_wp2;go_ret;exact ⟨v',rfl,hb,fun b o=>by rw [A] at o;exact (ho.lt b o).1,c⟩

def uk (V:Nat) (i:Int):Nat:=if i<0 then 0 else V/2^i.toNat%2

theorem kH (V j:Nat):uk V (j:Int)=V/2^j%2:=by
 unfold uk;rw [aK,Int.toNat_natCast]

theorem Ey (V j:Nat):dig V (j/32) 4294967296/2^(j%32)%2=V/2^j%2:=by
 unfold dig;have e:(4294967296:Nat)^(j/32)=2^(32*(j/32)):=by rw [aW]
 have e3:(2:Nat)^j=2^(32*(j/32))*2^(j%32):=by rw [<- aL];congr 1;omega
 rw [e,e3,<- di];generalize V/2^(32*(j/32))=x;have e4:(4294967296:Nat)=2^(j%32)*2^(32-j%32):=by
  rw [<- aL,show j%32+(32-j%32)=32 by omega]
 rw [e4,Nat.mod_mul_right_div_self];have hd:2 ∣ 2^(32-j%32):=⟨2^(31-j%32),by rw [<- lj,show (31-j%32).succ=32-j%32 by omega]⟩
 exact nI _ hd

theorem Az (hd:Digs ds 4294967296) (j:Nat) (h:ds.length<=j/32):val ds 4294967296/2^j%2=0:=by
 have h1:=aE (by omega) hd;have h2:(4294967296:Nat)^ds.length<=2^j:=by
  have e:(4294967296:Nat)^ds.length=2^(32*ds.length):=by rw [aW]
  rw [e];exact bj (by omega) (by omega)
 rw [bJ (by omega)]

theorem Lp (v:Value) (V:Nat) (i:Int) (w:World) (h:IsBig w v V) (hi:i<=9223372036854775807:=by omega) :
  ClZ 81 #[v,.int .i64 i] w fun r w'=>r=.returned (.int .u64 (uk V i:Nat))/\w'=w:=by
 obtain ⟨ds,hr,hd,_,rfl,hl⟩:=h;have hV:∀ i,ds.getD i 0=dig (val ds 4294967296) i 4294967296:=fun i=>(dn (by omega) hd i).symm
 obtain ⟨ao,n,c,rfl,hN,_,_,_,h4⟩:=hr.open;rw [hN.o] at hl;by_cases hneg:i<0
 ·have e:uk (val ds 4294967296) i=0:=by unfold uk;rw [ai hneg]
  rw [e];clear h4 hr hd hV e;delta ClZ;go_in;go_wp2;go_ret;exact ⟨rfl,rfl⟩
 ·obtain ⟨j,rfl⟩:=eN (show 0<=i by omega);rw [kH];by_cases hj:j/32<n
  ·obtain ⟨b,off,rfl,hc⟩:=h4 (j/32) hj;have hb:=Ey (val ds 4294967296) j;rw [<- hV] at hb;rw [<- hb];have hx:ds.getD (j/32) 0<4294967296:=hd.getD (by omega) _;clear h4 hr hd hV hb;generalize ds.getD (j/32) 0=x at *;have g1:(j:Int)/32<(n:Int):=by omega
   have g2:(0:Int)<=(j:Int)/32:=by omega
   have g3:((j:Int)/32).toNat=j/32:=by omega
   delta ClZ;go_in;have hy:=em x (2^(j%32));have a:HzD (IntKind.u64.wrap (bits .and .u32 ((x:Int)/2^(j%32)) 1)=((x/2^(j%32)%2:Nat):Int)):=by
    unfold HzD;have e:(x:Int)/2^(j%32)=((x/2^(j%32):Nat):Int):=by simp
    have h1:=u32_and_nat (x/2^(j%32)) 1 (by omega) (by omega);rw [nat_mask1] at h1;rw [e,show (1:Int)=((1:Nat):Int) from rfl,h1,IntKind.wrap_u64];omega
   clear hy;generalize x/2^(j%32)%2=R at *;go_wp2;go_ret;refine ⟨?_,rfl⟩;show Ending.returned (Value.int .u64 (IntKind.u64.wrap (bits .and .u32 ((x:Int)/2^(j%32)) 1)))=_
   rw [a.o]
  ·have g1:¬ (j:Int)/32<(n:Int):=by omega
   rw [Az hd j (by have:=hN.o;omega)];clear h4 hr hd hV;delta ClZ;go_in;go_wp2;go_ret;exact ⟨rfl,rfl⟩

def aN (V:Nat):Nat:=if V=0 then 0 else Nat.log2 V+1

theorem bh (V n:Nat):aN V<=n↔V<2^n:=by
 unfold aN;by_cases h:V=0
 ·subst h;simp [Nat.pow_pos]
 ·rw [ar h];have:=Nat.log2_lt (n:=V) (k:=n) h;omega

theorem AA (h:V<2^(k+1)) (hb:V/2^k%2=0):V<2^k:=by
 have h1:V/2^k<2:=by rw [cW (aX)];rw [aG] at h;omega
 have h2:V/2^k=0:=by
  generalize V/2^k=q at *;omega
 rcases gG V (2^k) with h3 | h3
 ·exact h3
 ·have:=(Nat.div_pos_iff).2 ⟨iH (n:=k) (show 0<2 by omega),h3⟩;omega

theorem BS (h:V<2^(k+1)) (hb:V/2^k%2≠0):aN V=k+1:=by
 have h1:=(bh V (k+1)).2 h;have h2:¬ aN V<=k:=fun hk=>by
  have:=(bh V k).1 hk;rw [bJ this] at hb;exact hb rfl
 omega

theorem oy (v:Value) (V:Nat) (w:World) (h:IsBig w v V) :
  ClZ 41 #[v] w fun r w'=>r=.returned (.int .i64 (aN V:Nat))/\w'=w:=by
 have HB:=fun j (hj:j<=100000000000)=>Lp v V ((j:Nat):Int) w h
 obtain ⟨ds,hr,hd,_,rfl,hl⟩:=h;have hlt:=aE (by omega) hd;obtain ⟨ao,n,b,rfl,hN,_,_,_,_⟩:=hr.open;rw [hN.o] at hl hlt;have a:HzD (val ds 4294967296<2^(32*n)):=by unfold HzD;rw [aW];exact hlt
 clear hr hlt hd;generalize val ds 4294967296=V at *;delta ClZ;go_in;go_wp2_with fail;go_loop [3] (fun i=>∃ k:Nat,k<=32*n/\i=.int .i64 k/\HzD (V<2^k)) (fun i=>(intOf i).toNat)
 case atStart=>exact ⟨32*n,leR _,by go_num,a⟩
 case round=>
  obtain ⟨k,hk,rfl,hV⟩:=hrel;cases k with
  | zero=>
   have e:HzD (aN V=0):=by
    have:=hV.o;have h0:V=0:=by simpa using this
    unfold HzD;rw [h0];rfl
   clear HB;go_wp2;go_ret;rw [e.o];exact ⟨rfl,rfl⟩
  | succ j=>
   have hB:=HB j (by omega);rw [kH] at hB;clear HB;by_cases hb:V/2^j%2=0
   ·have hz:HzD (V<2^j):=AA hV.o hb;rw [hb] at hB;clear hb hV a;go_wp2_with fail;refine hB.mono ?_;rintro e w' ⟨rfl,rfl⟩;go_wp2;go_round
    case rel=>exact ⟨j,by omega,by go_num,hz⟩
    case measure=>simp [intOf]
   ·have hz:HzD (aN V=j+1):=BS hV.o hb;have h1:V/2^j%2=1:=by omega
    rw [h1] at hB;clear hb hV a h1;go_wp2_with fail;refine hB.mono ?_;rintro e w' ⟨rfl,rfl⟩;go_wp2;go_ret;rw [hz.o];exact ⟨rfl,rfl⟩

theorem te {a b:LN} (ha:k<a.length) (hb:k<b.length) (h:a.take k=b.take k) (he:a.getD k 0=b.getD k 0):a.take (k+1)=b.take (k+1):=by
 rw [mq ha,mq hb,h];rw [aA,aA,aS ha,aS hb] at he;simp only [jy] at he;rw [he]

theorem rj (u v:Value) (a b:LN) (w:World) (hu:Row .u64 w u a) (hv:Row .u64 w v b) :
  ClZ 52 #[u,v] w fun r w'=>r=.returned (.bool (decide (a=b)))/\∃ n,w'=w.drewN n:=by
 obtain ⟨ao,n,ac,rfl,hN,h1,h2,_,hA⟩:=hu.open;obtain ⟨bo,m,bc,rfl,hM,g,j,_,hB⟩:=hv.open;clear hu hv;by_cases hl:n=m
 ·subst hl;delta ClZ;go_in;go_wp2_with fail;go_loopw [5,13] (fun _ i wr=>∃ k:Nat,k<=n/\i=.int .i64 k/\HzD (a.take k=b.take k)/\∃ m,wr=w.drewN m) (fun _ i _=>n-(intOf i).toNat)
  case atStart=>exact ⟨0,aQ _,rfl,rfl,0,rfl⟩
  case round=>
   obtain ⟨k,hk,rfl,ht,m,rfl⟩:=hrel;by_cases hlt:k<n
   ·obtain ⟨ga,oa,rfl,ca⟩:=hA k hlt;obtain ⟨gb,ob,rfl,cb⟩:=hB k hlt;have f:HzD (a.getD k 0=b.getD k 0->a.take (k+1)=b.take (k+1)):=fun h=>te (by have:=hN.o;omega) (by have:=hM.o;omega) ht.o h
    have d:HzD (a.getD k 0≠b.getD k 0->decide (a=b)=false):=fun h=>by
     simp only [decide_eq_false_iff_not];intro e;subst e;exact h rfl
    clear hA hB ht;generalize a.getD k 0=x at *;generalize b.getD k 0=y at *;have l:(0:Int)<=(k:Int):=cN _;have c:(k:Int)<(n:Int):=by omega
    by_cases he:x=y
    ·subst he;go_wp2_with fail;go_quiet (fail);go_wp2;go_roundw
     case rel=>exact ⟨k+1,by omega,by go_num,f.o (by first | rfl | trivial),_,rfl⟩
     case measure=>simp [intOf];omega
    ·have hq:((x:Int) == (y:Int))=false:=by simp;omega
     have p:((x:Int) != (y:Int))=true:=by simp;omega
     have hr:HzD (decide (a=b)=false):=d.o he;go_wp2_with fail;go_quiet (fail);go_wp2;go_ret;rw [hr.o];exact ⟨rfl,_,World.drewN_drewN _ _ _⟩
   ·have hr:HzD (decide (a=b)=true):=by
     have:=ht.o;have e1:=hN.o;have e2:=hM.o;rw [dS (by omega),dS (by omega)] at this;unfold HzD;simpa using this
    clear hA hB ht;have c:¬ (k:Int)<(n:Int):=by omega
    go_wp2;go_ret;rw [hr.o];exact ⟨rfl,_,rfl⟩
 ·have hr:decide (a=b)=false:=by
   simp only [decide_eq_false_iff_not];intro e;subst e;exact hl (hN.o.symm.trans hM.o)
  rw [hr];have o:¬ (n:Int)=(m:Int):=by omega
  clear hA hB hr;delta ClZ;go_in;go_wp2;go_ret;exact ⟨rfl,0,rfl⟩

def ee (V:Nat) (n:Int):Int:=if 300<n then 2 else if n<0\/n.toNat<am V then 1 else 0

def eP (V:Nat) (n:Int):LN:=if ee V n=0 then digs V n.toNat else []

theorem xi {n:Int} (h:300<n):ee V n=2/\eP V n=[]:=by
 have e:ee V n=2:=ai h;exact ⟨e,by unfold eP;rw [ar (by rw [e];decide)]⟩

theorem mz {n:Int} (h:¬ 300<n) (h2:n<0\/n.toNat<am V):ee V n=1/\eP V n=[]:=by
 have e:ee V n=1:=by unfold ee;rw [ar h,ai h2]
 exact ⟨e,by unfold eP;rw [ar (by rw [e];decide)]⟩

theorem tL (h:n<=300:=by omega) (h2:am V<=n:=by omega):ee V (n:Int)=0/\eP V (n:Int)=digs V n:=by
 have e:ee V (n:Int)=0:=by unfold ee;rw [aK,ar (by simp;omega)]
 exact ⟨e,by unfold eP;rw [ai e,Int.toNat_natCast]⟩

def jL (n:Int):Nat:=(min (max n 1) 300).toNat

theorem EA {v:Value} (h:IsBig w v V):aN V<=32000000000:=by
 obtain ⟨ds,_,hd,_,rfl,hl⟩:=h;have h1:=aE (by omega) hd;have e:(4294967296:Nat)^ds.length=2^(32*ds.length):=by rw [aW]
 rw [e] at h1;have:=(bh _ _).2 h1;omega

end Go.Proofs.YtpkmoamgpjcdeaaGreatDoor
