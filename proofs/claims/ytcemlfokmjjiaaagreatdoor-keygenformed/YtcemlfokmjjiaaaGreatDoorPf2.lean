/- Put together of: Ref5C. -/
import Derived.Test.YtcemlfokmjjiaaaGreatDoorPf1

namespace Go.Proofs.YtcemlfokmjjiaaaGreatDoor
set_option maxRecDepth 100000
set_option maxHeartbeats 4000000
open Go.RowKit

theorem rg (X k D:Nat):X/2^k%D=(2*(X/2^(k+1)%D)+X/2^k%2)%D:=by
 have e:X/2^k=2*(X/2^(k+1))+X/2^k%2:=by
  rw [Nat.pow_succ,← Nat.div_div_eq_div_mul];omega
 rw [show X/2^k%D=(2*(X/2^(k+1))+X/2^k%2)%D by rw [← e]];generalize X/2^(k+1)=Y;generalize X/2^k%2=b;have h:=Nat.mod_add_div Y D;have h2:2*Y+b=(2*(Y%D)+b)+D*(2*(Y/D)):=by
  rw [Nat.mul_left_comm D 2];omega
 rw [h2,Nat.add_mul_mod_self_left]

theorem xj (x c:Nat) (hc:c≤1):bits .or .u64 (IntKind.u64.wrap ((x:Int)*2)) (c:Int)=(((2*x)%18446744073709551616+c:Nat):Int):=by
 rw [IntKind.wrap_u64,show ((x:Int)*2)%18446744073709551616=(((2*x)%18446744073709551616:Nat):Int) by omega,u64_or_nat _ _ (by omega) (by omega)]
 congr 1
 have h0:c=0∨c=1:=by omega
 rcases h0 with rfl | rfl
 ·rw [Nat.or_zero,Nat.add_zero]
 ·have e:(2*x)%18446744073709551616=2^1*(x%9223372036854775808):=by omega
  rw [e,← Nat.two_pow_add_eq_or_of_lt (by omega:1<2^1)]

theorem xh (ao:Option Addr) (L cap:Nat) (xs:List Nat) (D R:Nat) (hD:D<18446744073709551616) (q:0<D) (hR:R=val xs%D) (w:World) (hu:Row .u64 w (.slice ao L cap) xs) (f:Digs xs) (hL:L≤1000000) :
  Calls Tryz.prog 113 #[.slice ao L cap,.int .u64 (D:Nat)] w fun e w'=>e=.returned (.tuple #[.int .u64 (R:Nat),.int .i64 0])∧w'=w:=by
 obtain ⟨A,L',t,e0,o,_,_,_,h4⟩:=hu.open;simp only [Value.slice.injEq] at e0;obtain ⟨rfl,rfl,rfl⟩:=e0;have hX:=aq (by omega) f;rw [o.out,show (18446744073709551616:Nat)^L=2^(64*L) by rw [Nat.pow_mul]] at hX;have a:∀ i,xs.getD i 0=dig (val xs) i:=fun i=>(aR (by omega) f i).symm
 have HB:Hid (∀ j,j<64*L→NumAt .u64 w ao xs (j/64)∧xs.getD (j/64) 0<18446744073709551616∧xs.getD (j/64) 0/2^(j%64)%2=val xs/2^j%2):=fun j hj=>⟨h4 _ (by omega),f.getD (by omega) _,by rw [a,kL]⟩
 have HX:=aa hX;have HR:=aa hR;clear hu f h4 hX a hR o;generalize val xs=X at *;have B:¬ (D:Int)=0:=by omega
 go_enter Tryz.func113,Tryz.ntmps113;go_wp2_with fail;go_loop [6,7] (fun r i=>∃ (k rr:Nat),k≤64*L∧i=.int .i64 ((k:Int)-1)∧r=.int .u64 (rr:Int)∧rr<D∧Hid (rr=X/2^k%D)) (fun _ i=>(intOf i+1).toNat)
 case atStart=>exact ⟨64*L,0,leR _,by rw [show ((64*L:Nat):Int)=64*(L:Int) by omega],rfl,q,by unfold Hid;rw [Nat.div_eq_of_lt HX.out,Nat.zero_mod]⟩
 case round=>
  obtain ⟨k,r,hk,hi,rfl,hr,Hr⟩:=hrel;cases k with
  | zero=>
   have e:(((0:Nat):Int)-1)=-1:=by omega
   rw [e] at hi;subst hi;have E:Hid (R=r):=by rw [Hid,HR.out,Hr.out,Nat.pow_zero,Nat.div_one]
   go_wp2_with fail;go_ret2;rw [E.out];exact ⟨rfl,rfl⟩
  | succ j=>
   have e:(((j+1:Nat):Int)-1)=(j:Int):=by omega
   rw [e] at hi;subst hi;obtain ⟨l,hx,c⟩:=HB.out j (by omega);obtain ⟨b,off,rfl,hc⟩:=l;have g:=rg X j D;rw [← Hr.out] at g;obtain ⟨bt,p⟩:∃ bt,bt=X/2^j%2:=⟨_,rfl⟩
   rw [← p] at g c;have y:bt≤1:=by omega
   generalize xs.getD (j/64) 0=x at *;have g0:(0:Int)≤(j:Int):=Int.natCast_nonneg _;have g1:(j:Int)/64<(L:Int):=by omega
   have g2:(0:Int)≤(j:Int)/64:=by omega
   have g3:((j:Int)/64).toNat=j/64:=by omega
   have hy:=Nat.div_le_self x (2^(j%64));have v:bits .and .u64 ((x:Int)/2^(j%64)) 1=(bt:Int):=by
    have e:(x:Int)/2^(j%64)=((x/2^(j%64):Nat):Int):=by simp
    rw [e];generalize x/2^(j%64)=Y at *;rw [and_one_u64 (Y:Int) (by omega) (by omega)];omega
   have n:=xj r bt y;obtain ⟨s,hs⟩:∃ s,s=(2*r)%18446744073709551616+bt:=⟨_,rfl⟩
   rw [← hs] at n;have z:s<18446744073709551616:=by omega
   have h:=aa g;have Hs:=aa hs;clear g hs p c hy Hr;by_cases htop:r/9223372036854775808=1
   ·have t1:(r:Int)/9223372036854775808=1:=by omega
    have hw:Hid (IntKind.u64.wrap ((s:Int)-(D:Int))=((2*r+bt-D:Nat):Int)):=by
     unfold Hid;rw [IntKind.wrap_u64];have:=Hs.out;omega
    have hm:Hid (2*r+bt-D=X/2^j%D):=by
     unfold Hid;rw [h.out,Nat.mod_eq_sub_mod (by omega),al (by omega)]
    go_wp2_with fail;rw [hw.out];go_round
    case rel=>exact ⟨j,2*r+bt-D,by omega,rfl,rfl,by omega,hm⟩
    case measure=>first | (simp [intOf];done) | (simp [intOf];omega)
   ·have t1:¬ (r:Int)/9223372036854775808=1:=by omega
    have d:s=2*r+bt:=by have:=Hs.out;omega
    rw [IntKind.wrap_u64,show ((r:Int)*2)%18446744073709551616=(r:Int)*2 by omega] at n;by_cases hsD:D≤s
    ·have t2:(s:Int)≥(D:Int):=by omega
     have hw:Hid (IntKind.u64.wrap ((s:Int)-(D:Int))=((2*r+bt-D:Nat):Int)):=by
      unfold Hid;rw [IntKind.wrap_u64];omega
     have hm:Hid (2*r+bt-D=X/2^j%D):=by
      unfold Hid;rw [h.out,Nat.mod_eq_sub_mod (by omega),al (by omega)]
     have m:=aa d;clear d;go_wp2_with fail
     first
      | rw [hw.out]
      | (rw [show ((s:Int)-(D:Int))=((2*r+bt-D:Nat):Int) by have:=m.out;omega])
     go_round
     case rel=>first | exact ⟨j,by omega,rfl,2*r+bt-D,rfl,by have:=m.out;omega,hm⟩ | exact ⟨j,2*r+bt-D,by omega,rfl,rfl,by have:=m.out;omega,hm⟩
     case measure=>first | (simp [intOf];done) | (simp [intOf];omega)
    ·have t2:¬ (s:Int)≥(D:Int):=by omega
     have hm:Hid (s=X/2^j%D):=by
      unfold Hid;rw [h.out,al (by omega)];exact d
     clear d;go_wp2_with fail;go_round
     case rel=>first | exact ⟨j,by omega,rfl,s,rfl,by omega,hm⟩ | exact ⟨j,s,by omega,rfl,rfl,by omega,hm⟩
     case measure=>first | (simp [intOf];done) | (simp [intOf];omega)

end Go.Proofs.YtcemlfokmjjiaaaGreatDoor
