/- Put together of: Key3 Key4. -/
import Derived.Test.YtcemlfokmjjiaaaGreatDoorPm5

namespace Go.Proofs.YtcemlfokmjjiaaaGreatDoor
set_option maxRecDepth 100000
set_option maxHeartbeats 4000000
open Go.RowKit

def gM (X e:Nat):Prop:=X≠0∧e≠0∧jY X∧Nat.gcd (X-1) e=1

theorem pI (ao:Option Addr) (L cap:Nat) (xs:List Nat) (e:Nat) (he:e<18446744073709551616) (R:Bool) (hR:R=true↔gM (val xs) e) (w:World) (hu:Row .u64 w (.slice ao L cap) xs) (a:Digs xs) (f:L≤1000000) :
  Calls Tryz.prog 19 #[.slice ao L cap,.int .u64 (e:Nat)] w fun r w'=>r=.returned (.bool R)∧Kept af w w':=by
 obtain ⟨_,_,_,e1,hL,-,-,-,-⟩:=hu.open;cases e1
 have hO:=rOf _ xs w hu a (by rw [hL.out];omega);have JP:Hid (∀ W (Q:Bool),(Q=true↔jY (val xs))→Kept af w W→Calls Tryz.prog 30 #[.slice ao L cap] W fun e w'=>e=.returned (.bool Q)∧Kept af W w'):=fun W Q hQ k=>rT ao L cap xs Q hQ W (hu.grew k) a f
 have j:aF (val xs)≤2*L:=(aI _ _).2 (by rw [Nat.pow_mul,← hL.out];exact ar (by omega) a);have HR:=aa hR;have HF:Hid (¬ gM (val xs) e→R=false):=fun h=>by
  cases h2:R with
  | false=>rfl
  | true=>exact absurd (HR.out.1 h2) h
 clear hu a hL hR;generalize val xs=X at *;go_enter Tryz.func19,Tryz.ntmps19;go_wp2_with fail;refine hO.mono ?_;rintro r w1 ⟨v1,rfl,b1,_,K1⟩;obtain ⟨bo,bn,bc,rfl,b,-⟩:=b1.length;clear hO;by_cases a1:X=0
 ·have HT:=aa (HF.out (fun h=>h.1 a1));have d:bn=0:=by rw [b.out,a1];rfl
  subst d;go_wp2_with fail;go_ret;exact ⟨by rw [HT.out];rfl,K1⟩
 have g:0<bn:=by rw [b.out];exact iY (by omega)
 have q1:((bn:Int) == 0)=false:=by simp;omega
 clear b;by_cases a2:e=0
 ·have HT:=aa (HF.out (fun h=>h.2.1 a2));subst a2;go_wp2_with fail;go_ret;exact ⟨by rw [HT.out];rfl,K1⟩
 have q2:((e:Int) == 0)=false:=by simp;omega
 by_cases a3:jY X
 ·have h2:=JP.out w1 true (by simp [a3]) K1;go_wp2_with fail;refine h2.mono ?_;rintro r w2 ⟨rfl,k2⟩;have K2:=K1.trans k2;have b1:=b1.grew k2;clear h2;have h3:=gG w2;go_wp2_with fail;refine h3.mono ?_;rintro e w3 ⟨v3,rfl,b3,_,k3⟩;have K3:=K2.trans k3;have b1:=b1.grew k3;clear h3;have h4:=kK _ v3 X 1 w3 b1 b3 (by omega);go_wp2_with fail;refine h4.mono ?_;rintro e w4 ⟨v4,rfl,b4,_,k4⟩;have K4:=K3.trans k4;have b1:=b1.grew k4;have b3:=b3.grew k4;clear h4;have h5:=bY e he w4;go_wp2_with fail;refine h5.mono ?_;rintro e w5 ⟨v5,rfl,b5,_,k5⟩;have K5:=K4.trans k5;have b1:=b1.grew k5;have b3:=b3.grew k5;have b4:=b4.grew k5;clear h5
  have c:aF (X-1)≤10000000:=by have:=aZ (show X-1≤X by omega);omega
  have i:aF e≤2:=(aI _ _).2 (by omega);have h6:=AN v4 v5 (X-1) e w5 b4 b5 c (by omega);go_wp2_with fail;refine h6.mono ?_;rintro e w6 ⟨v6,rfl,b6,_,k6⟩;have K6:=K5.trans k6;have b1:=b1.grew k6;have b3:=b3.grew k6;have b4:=b4.grew k6;have b5:=b5.grew k6;clear h6;have h7:=gG w6;go_wp2_with fail;refine h7.mono ?_;rintro e w7 ⟨v7,rfl,b7,_,k7⟩;have K7:=K6.trans k7;have b1:=b1.grew k7;have b3:=b3.grew k7;have b4:=b4.grew k7;have b5:=b5.grew k7;have b6:=b6.grew k7;clear h7;have h8:=fw v6 v7 _ 1 w7 b6 b7;by_cases a4:Nat.gcd (X-1) e=1
  ·have HT:Hid (R=true):=HR.out.2 ⟨a1,a2,a3,a4⟩;rw [dy a4] at h8;go_wp2_with fail;refine h8.mono ?_;rintro r w8 ⟨rfl,m8,rfl⟩;go_wp2_with fail;go_ret;exact ⟨by rw [HT.out];rfl,K7.drewN m8⟩
  ·have HT:=aa (HF.out (fun h=>a4 h.2.2.2));have hc:=ia a4;have qc:(aH (Nat.gcd (X-1) e) 1 == 0)=false:=by simpa using hc
   generalize aH (Nat.gcd (X-1) e) 1=c8 at *;go_wp2_with fail;refine h8.mono ?_;rintro r w8 ⟨rfl,m8,rfl⟩;go_wp2_with fail;go_ret;exact ⟨by rw [HT.out];first | rfl | (show Ending.returned (Value.bool (c8 == 0))=_;rw [qc]),K7.drewN m8⟩
 ·have HT:=aa (HF.out (fun h=>a3 h.2.2.1));have h2:=JP.out w1 false (by simp [a3]) K1;go_wp2_with fail;refine h2.mono ?_;rintro r w2 ⟨rfl,k2⟩;go_wp2_with fail;go_ret;exact ⟨by rw [HT.out];rfl,K1.trans k2⟩

def dL (bs:List Nat) (n:Nat):Nat:=(bev bs%2^(n-2)+(if bev bs%2^(n-2)%2=0 then 1 else 0))+3*2^(n-2)

def i9 (bs:List Nat) (k:Int):Nat:=if k<16∨4096<k∨(bs.length:Int)≠(k+7)/8 then 1 else 0

theorem xr (v:Value) (bs:List Nat) (k:Int) (h0:-9223372036854775808≤k) (h1:k≤9223372036854775807) (E:Nat) (RL:List Nat) (hE:E=i9 bs k) (d:RL=if E=0 then ai (dL bs k.toNat) ((k.toNat+63)/64) else []) (w:World) (hu:Row .u8 w v bs) (hd:Digs bs 256) (hL:bs.length≤100000000) :
  Calls Tryz.prog 44 #[v,.int .i64 k] w fun e w'=>∃ v',e=.returned (.tuple #[v',.int .i64 (E:Nat)])∧Row .u64 w' v' RL∧(∀ b,v'.ownBlock=some b→w.heap.size≤b)∧Kept af w w':=by
 have hF:=ku v bs w hu hd hL;obtain ⟨ao,n,cap,rfl,hn,-,-,-,-⟩:=hu.open;have c:Hid (k<16∨4096<k∨(n:Int)≠(k+7)/8→E=1∧RL=[]):=fun h=>by
  have e1:E=1:=by rw [hE,i9,hn.out,if_pos h]
  exact ⟨e1,by rw [d,if_neg (by omega)]⟩
 by_cases a1:k<16
 ·have HB:=aa (c.out (.inl a1));clear c hE d hF hu;go_enter Tryz.func44,Tryz.ntmps44;go_wp2_with fail;go_ret2;exact ⟨_,by rw [HB.out.1];rfl,by rw [HB.out.2];exact Row.nil _ _,(fun b hb=>by cases hb),ah _ _⟩
 have q1:decide (k<16)=false:=aD a1;by_cases a2:4096<k
 ·have HB:=aa (c.out (.inr (.inl a2)));clear c hE d hF hu;go_enter Tryz.func44,Tryz.ntmps44;go_wp2_with fail;go_ret2;exact ⟨_,by rw [HB.out.1];rfl,by rw [HB.out.2];exact Row.nil _ _,(fun b hb=>by cases hb),ah _ _⟩
 have q2:decide ((4096:Int)<k)=false:=aD a2;obtain ⟨j,rfl⟩:∃ j:Nat,k=(j:Int):=⟨k.toNat,by omega⟩
 rw [Int.toNat_natCast] at d;obtain ⟨z,hz⟩:∃ z,z=(j+7)/8:=⟨_,rfl⟩
 have Z:((j:Int)+7).tdiv 8=(z:Int):=by rw [Int.tdiv_eq_ediv_of_nonneg (by omega)];omega
 have o:((j:Int)+7)/8=(z:Int):=by omega
 rw [o] at c;by_cases a3:n=z
 ·have HE:Hid (E=0):=by
   unfold Hid;rw [hE,i9,hn.out,o,if_neg (by omega)]
  have HR:Hid (RL=ai (dL bs j) ((j+63)/64)):=by unfold Hid;rw [d,if_pos HE.out]
  subst a3;obtain ⟨y,hy⟩:∃ y,y=(j+63)/64:=⟨_,rfl⟩
  have S:((j:Int)+63).tdiv 64=(y:Int):=by rw [Int.tdiv_eq_ediv_of_nonneg (by omega)];omega
  have Q:((j:Int)+63)/64=(y:Int):=by omega
  rw [← hy] at HR;obtain ⟨i,hi⟩:∃ i,i=j-2:=⟨_,rfl⟩
  have gi:(j:Int)-2=(i:Int):=by omega
  have T:aF (bev bs)≤1000000:=by
   have h1:=jK hd;rw [hn.out] at h1;have h2:aF (bev bs)≤n:=(aI _ _).2 (Nat.lt_of_lt_of_le h1 (Nat.pow_le_pow_left (by omega) n));omega
  have HC:Hid (dL bs j=(bev bs%2^i+(if bev bs%2^i%2=0 then 1 else 0))+3*2^i):=by unfold Hid dL;rw [hi]
  have W:i≤4096:=by omega
  have U:y≤1000:=by omega
  clear c hE d hu hz hy hi hd;have C:∀ V,V≤2^i*4→aF V≤5000:=fun V hV=>by
   have h1:2^i≤4294967296^i:=Nat.pow_le_pow_left (by omega) i;have h2:0<4294967296^i:=Nat.pow_pos (by omega);have:V<4294967296^(i+1):=by
    rw [Nat.pow_succ];omega
   have:=(aI _ _).2 this;omega
  have x:0<2^i:=Nat.pow_pos (by omega);have f:=aa C;clear C;go_enter Tryz.func44,Tryz.ntmps44;go_wp2_with fail;refine hF.mono ?_;rintro r w1 ⟨v1,rfl,b1,_,K1⟩;clear hF;have h2:=gG w1;go_wp2_with fail;refine h2.mono ?_;rintro e w2 ⟨v2,rfl,b2,_,k2⟩;have K2:=K1.trans k2;have b1:=b1.grew k2;clear h2;have h3:=uS v2 1 i w2 b2 (by have:=(aI 1 1).2 (by omega);omega) (by omega);go_wp2_with fail;refine h3.mono ?_;rintro e w3 ⟨v3,rfl,b3,_,k3⟩;have K3:=K2.trans k3;have b1:=b1.grew k3;have b2:=b2.grew k3;clear h3;have h4:=mn v1 v3 (bev bs) (2^i*1) w3 b1 b3 (by omega) (by omega);go_wp2_with fail;refine h4.mono ?_;rintro e w4 ⟨v4,rfl,b4,_,k4⟩;have K4:=K3.trans k4;have b1:=b1.grew k4
  have b2:=b2.grew k4;have b3:=b3.grew k4;clear h4;have A:bev bs%(2^i*1)=bev bs%2^i:=by rw [Nat.mul_one]
  rw [A] at b4;obtain ⟨Y,hY⟩:∃ Y,Y=bev bs%2^i:=⟨_,rfl⟩
  have m:Y<2^i:=by rw [hY];exact Nat.mod_lt _ x
  rw [← hY] at b4 HC;have h5:=xV v4 Y 0 w4 b4 (by omega);rw [show kN Y 0=Y%2 by unfold kN;simp] at h5;clear A hY b1 b2 b3;have a:Hid (2^i*3=3*2^i):=Nat.mul_comm _ _;have p:=aa m;obtain ⟨PP,s⟩:∃ PP,PP=2^i:=⟨_,rfl⟩
  rw [← s] at p a f HC x;have B:Hid (2^i*3=PP*3):=by unfold Hid;rw [s]
  clear m s;by_cases a5:Y%2=0
  ·rw [a5] at h5;have q:Hid (dL bs j=Y+1+PP*3):=by unfold Hid;rw [HC.out,if_pos a5,a.out]
   clear HC a a5;go_wp2_with fail;refine h5.mono ?_;rintro r w5 ⟨rfl,rfl⟩;clear h5;have K5:=K4;have h6:=gG w5;go_wp2_with fail;refine h6.mono ?_;rintro e w6 ⟨v6,rfl,b6,_,k6⟩;have K6:=K5.trans k6;have b4:=b4.grew k6;clear h6;have h7:=xG v4 v6 Y 1 w6 b4 b6 (by have:=f.out Y (by have:=p.out;omega);omega) (by have:=(aI 1 1).2 (by omega);omega);go_wp2_with fail;refine h7.mono ?_;rintro e w7 ⟨v7,rfl,b7,_,k7⟩;have K7:=K6.trans k7;have b4:=b4.grew k7;have b6:=b6.grew k7;clear h7;have H:aF (Y+1)≤5000:=f.out _ (by have:=p.out;omega);have h8:=bY 3 (by omega) w7;go_wp2_with fail;refine h8.mono ?_;rintro e w8 ⟨v8,rfl,b8,_,k8⟩;have K8:=K7.trans k8;have b4:=b4.grew k8
   have b6:=b6.grew k8;have b7:=b7.grew k8;clear h8;have h9:=uS v8 3 i w8 b8 (by have:=(aI 3 1).2 (by omega);omega) (by omega);go_wp2_with fail;refine h9.mono ?_;rintro e w9 ⟨v9,rfl,b9,_,k9⟩;have K9:=K8.trans k9;have b4:=b4.grew k9;have b6:=b6.grew k9;have b7:=b7.grew k9;have b8:=b8.grew k9;clear h9;rw [B.out] at b9;have D:=xG v7 v9 (Y+1) (PP*3) w9 b7 b9 (by omega) (by have:=f.out (PP*3) (by omega);omega);go_wp2_with fail;refine D.mono ?_;rintro e J ⟨N,rfl,L,_,g⟩;have t:=K9.trans g;have b4:=b4.grew g;have b6:=b6.grew g;have b7:=b7.grew g;have b8:=b8.grew g;have b9:=b9.grew g;clear D;have F:=kQ N _ y J L (by omega);go_wp2_with fail
   refine F.mono ?_;rintro r X ⟨O,rfl,M,I,R⟩;have P:=t.trans R;clear F;go_wp2_with fail;go_ret2;exact ⟨_,by rw [HE.out];rfl,by rw [HR.out,q.out];exact M,(fun b hb=>by have l:O.ownBlock=some b:=hb;rw [I] at l;cases l;exact t.size),P⟩
  ·rw [show Y%2=1 by omega] at h5;have q:Hid (dL bs j=Y+PP*3):=by unfold Hid;rw [HC.out,if_neg a5,Nat.add_zero,a.out]
   clear HC a a5;go_wp2_with fail;refine h5.mono ?_;rintro r w5 ⟨rfl,rfl⟩;clear h5;have K5:=K4;have h6:=bY 3 (by omega) w5;go_wp2_with fail;refine h6.mono ?_;rintro e w6 ⟨v6,rfl,b6,_,k6⟩;have K6:=K5.trans k6;have b4:=b4.grew k6;clear h6;have h7:=uS v6 3 i w6 b6 (by have:=(aI 3 1).2 (by omega);omega) (by omega);go_wp2_with fail;refine h7.mono ?_;rintro e w7 ⟨v7,rfl,b7,_,k7⟩;have K7:=K6.trans k7;have b4:=b4.grew k7;have b6:=b6.grew k7;clear h7;rw [B.out] at b7;have h8:=xG v4 v7 Y (PP*3) w7 b4 b7 (by have:=f.out Y (by have:=p.out;omega);omega) (by have:=f.out (PP*3) (by omega);omega);go_wp2_with fail;refine h8.mono ?_;rintro e w8 ⟨v8,rfl,b8,_,k8⟩;have K8:=K7.trans k8
   have b4:=b4.grew k8;have b6:=b6.grew k8;have b7:=b7.grew k8;clear h8;have h9:=kQ v8 _ y w8 b8 (by omega);go_wp2_with fail;refine h9.mono ?_;rintro r w9 ⟨v9,rfl,r9,o9,k9⟩;have K9:=K8.trans k9;clear h9;go_wp2_with fail;go_ret2;exact ⟨_,by rw [HE.out];rfl,by rw [HR.out,q.out];exact r9,(fun b hb=>by have l:v9.ownBlock=some b:=hb;rw [o9] at l;cases l;exact K8.size),K9⟩
 ·have G:¬ (n:Int)=(z:Int):=by omega
  have HB:=aa (c.out (.inr (.inr G)));clear c hE d hF hu hz;go_enter Tryz.func44,Tryz.ntmps44;go_wp2_with fail;go_ret2;exact ⟨_,by rw [HB.out.1];rfl,by rw [HB.out.2];exact Row.nil _ _,(fun b hb=>by cases hb),ah _ _⟩

theorem aK {W:World} {p:Nat} {a b c d e f g h:Value} {t:TypeId} (hh:W.heap[p]? = some (.cells #[a,b,c,d,e,f,g,h] t (0,0))) :
  W.cell? ⟨p,0,none⟩=some a∧W.cell? ⟨p,1,none⟩=some b∧W.cell? ⟨p,2,none⟩=some c∧W.cell? ⟨p,3,none⟩=some d∧W.cell? ⟨p,4,none⟩=some e∧W.cell? ⟨p,5,none⟩=some f∧W.cell? ⟨p,6,none⟩=some g∧W.cell? ⟨p,7,none⟩=some h:=by
 simp [World.cell?,hh]

theorem yZ (aj ad ab aE y C t aB au ax ac x m F:Option Addr) (av aq ao ak aw az ap aA s n r p A E an al ag ay ar ai am aC q z v o D B ae be:Nat) (U N Q M c d l O S X Z j a b:List Nat) (R:Bool) (hR:R=true↔ae=be∧U=O∧N=S∧Q=X∧M=Z∧c=j∧d=a∧l=b) (w:World) (aK:Row .u64 w (.slice aj av aq) U) (aM:Row .u64 w (.slice ad ao ak) N) (aH:Row .u64 w (.slice ab aw az) Q) (aJ:Row .u64 w (.slice aE ap aA) M) (T:Row .u64 w (.slice y s n) c) (Y:Row .u64 w (.slice C r p) d) (L:Row .u64 w (.slice t A E) l) (aF:Row .u64 w (.slice aB an al) O) (aG:Row .u64 w (.slice au ag ay) S) (aL:Row .u64 w (.slice ax ar ai) X) (aI:Row .u64 w (.slice ac am aC) Z) (V:Row .u64 w (.slice x q z) j) (I:Row .u64 w (.slice m v o) a) (J:Row .u64 w (.slice F D B) b) :
  Calls Tryz.prog 15 #[.agg #[.slice aj av aq,.int .u64 (ae:Nat),.slice ad ao ak,.slice ab aw az,.slice aE ap aA,.slice y s n,.slice C r p,.slice t A E],.agg #[.slice aB an al,.int .u64 (be:Nat),.slice au ag ay,.slice ax ar ai,.slice ac am aC,.slice x q z,.slice m v o,.slice F D B]] w fun e w'=>e=.returned (.bool R)∧Kept af w w':=by
 have HR:=aa hR;have HF:Hid (¬ (ae=be∧U=O∧N=S∧Q=X∧M=Z∧c=j∧d=a∧l=b)→R=false):=fun h=>by
  cases h2:R with
  | false=>rfl
  | true=>exact absurd (HR.out.1 h2) h
 have k0:Kept af w ((w.alloc (.cells #[.slice aj av aq,.int .u64 (ae:Nat),.slice ad ao ak,.slice ab aw az,.slice aE ap aA,.slice y s n,.slice C r p,.slice t A E] 42)).alloc (.cells #[.slice aB an al,.int .u64 (be:Nat),.slice au ag ay,.slice ax ar ai,.slice ac am aC,.slice x q z,.slice m v o,.slice F D B] 42)):=((ah af w).alloc _).alloc _;have Jn:=aa (fun W (k:Kept af w W)=>jA _ _ U O W (aK.grew k) (aF.grew k));have Jd:=aa (fun W (k:Kept af w W)=>jA _ _ N S W (aM.grew k) (aG.grew k));have Jp:=aa (fun W (k:Kept af w W)=>jA _ _ Q X W (aH.grew k) (aL.grew k))
 have Jq:=aa (fun W (k:Kept af w W)=>jA _ _ M Z W (aJ.grew k) (aI.grew k));have f:=aa (fun W (k:Kept af w W)=>jA _ _ c j W (T.grew k) (V.grew k));have g:=aa (fun W (k:Kept af w W)=>jA _ _ d a W (Y.grew k) (I.grew k));have i:=aa (fun W (k:Kept af w W)=>jA _ _ l b W (L.grew k) (J.grew k));clear hR aK aF aM aG aH aL aJ aI T V Y I L J;by_cases he:ae=be
 ·subst he;by_cases e0:U=O
  ·have hn:=Jn.out;rw [aQ e0] at hn;by_cases e1:N=S
   ·have hd:=Jd.out;rw [aQ e1] at hd;by_cases e2:Q=X
    ·have hp:=Jp.out;rw [aQ e2] at hp;by_cases e3:M=Z
     ·have hq:=Jq.out;rw [aQ e3] at hq;by_cases e4:c=j
      ·have G:=f.out;rw [aQ e4] at G;by_cases e5:d=a
       ·have H:=g.out;rw [aQ e5] at H;by_cases e6:l=b
        ·have P:=i.out;rw [aQ e6] at P;have HT:Hid (R=true):=HR.out.2 ⟨rfl,e0,e1,e2,e3,e4,e5,e6⟩;clear HR HF Jn Jd Jp Jq f g i e0 e1 e2 e3 e4 e5 e6;go_enter Tryz.func15,Tryz.ntmps15;go_wp2_with fail;refine (hn _ k0).mono ?_;rintro e w0 ⟨rfl,m0,rfl⟩;go_wp2_with fail;refine (hd _ (k0.drewN _)).mono ?_;rintro e w1 ⟨rfl,m1,rfl⟩;go_wp2_with fail;refine (hp _ (k0.drewN _)).mono ?_;rintro e w2 ⟨rfl,m2,rfl⟩;go_wp2_with fail;refine (hq _ (k0.drewN _)).mono ?_;rintro e w3 ⟨rfl,m3,rfl⟩;go_wp2_with fail;refine (G _ (k0.drewN _)).mono ?_;rintro e w4 ⟨rfl,m4,rfl⟩;go_wp2_with fail;refine (H _ (k0.drewN _)).mono ?_;rintro e w5 ⟨rfl,m5,rfl⟩;go_wp2_with fail
         refine (P _ (k0.drewN _)).mono ?_;rintro e w6 ⟨rfl,m6,rfl⟩;go_wp2_with fail;go_ret;exact ⟨by rw [HT.out];rfl,k0.drewN _⟩
        ·have HT:=aa (HF.out (fun h=>e6 h.2.2.2.2.2.2.2));have P:=i.out;rw [aD e6] at P;clear HR HF Jn Jd Jp Jq f g i e0 e1 e2 e3 e4 e5 e6;go_enter Tryz.func15,Tryz.ntmps15;go_wp2_with fail;refine (hn _ k0).mono ?_;rintro e w0 ⟨rfl,m0,rfl⟩;go_wp2_with fail;refine (hd _ (k0.drewN _)).mono ?_;rintro e w1 ⟨rfl,m1,rfl⟩;go_wp2_with fail;refine (hp _ (k0.drewN _)).mono ?_;rintro e w2 ⟨rfl,m2,rfl⟩;go_wp2_with fail;refine (hq _ (k0.drewN _)).mono ?_;rintro e w3 ⟨rfl,m3,rfl⟩;go_wp2_with fail;refine (G _ (k0.drewN _)).mono ?_;rintro e w4 ⟨rfl,m4,rfl⟩;go_wp2_with fail;refine (H _ (k0.drewN _)).mono ?_;rintro e w5 ⟨rfl,m5,rfl⟩;go_wp2_with fail;refine (P _ (k0.drewN _)).mono ?_
         rintro e w6 ⟨rfl,m6,rfl⟩;go_wp2_with fail;go_ret;exact ⟨by rw [HT.out];rfl,k0.drewN _⟩
       ·have HT:=aa (HF.out (fun h=>e5 h.2.2.2.2.2.2.1));have H:=g.out;rw [aD e5] at H;clear HR HF Jn Jd Jp Jq f g i e0 e1 e2 e3 e4 e5;go_enter Tryz.func15,Tryz.ntmps15;go_wp2_with fail;refine (hn _ k0).mono ?_;rintro e w0 ⟨rfl,m0,rfl⟩;go_wp2_with fail;refine (hd _ (k0.drewN _)).mono ?_;rintro e w1 ⟨rfl,m1,rfl⟩;go_wp2_with fail;refine (hp _ (k0.drewN _)).mono ?_;rintro e w2 ⟨rfl,m2,rfl⟩;go_wp2_with fail;refine (hq _ (k0.drewN _)).mono ?_;rintro e w3 ⟨rfl,m3,rfl⟩;go_wp2_with fail;refine (G _ (k0.drewN _)).mono ?_;rintro e w4 ⟨rfl,m4,rfl⟩;go_wp2_with fail;refine (H _ (k0.drewN _)).mono ?_;rintro e w5 ⟨rfl,m5,rfl⟩;go_wp2_with fail;go_ret
        exact ⟨by rw [HT.out];rfl,k0.drewN _⟩
      ·have HT:=aa (HF.out (fun h=>e4 h.2.2.2.2.2.1));have G:=f.out;rw [aD e4] at G;clear HR HF Jn Jd Jp Jq f g i e0 e1 e2 e3 e4;go_enter Tryz.func15,Tryz.ntmps15;go_wp2_with fail;refine (hn _ k0).mono ?_;rintro e w0 ⟨rfl,m0,rfl⟩;go_wp2_with fail;refine (hd _ (k0.drewN _)).mono ?_;rintro e w1 ⟨rfl,m1,rfl⟩;go_wp2_with fail;refine (hp _ (k0.drewN _)).mono ?_;rintro e w2 ⟨rfl,m2,rfl⟩;go_wp2_with fail;refine (hq _ (k0.drewN _)).mono ?_;rintro e w3 ⟨rfl,m3,rfl⟩;go_wp2_with fail;refine (G _ (k0.drewN _)).mono ?_;rintro e w4 ⟨rfl,m4,rfl⟩;go_wp2_with fail;go_ret;exact ⟨by rw [HT.out];rfl,k0.drewN _⟩
     ·have HT:=aa (HF.out (fun h=>e3 h.2.2.2.2.1));have hq:=Jq.out;rw [aD e3] at hq;clear HR HF Jn Jd Jp Jq f g i e0 e1 e2 e3;go_enter Tryz.func15,Tryz.ntmps15;go_wp2_with fail;refine (hn _ k0).mono ?_;rintro e w0 ⟨rfl,m0,rfl⟩;go_wp2_with fail;refine (hd _ (k0.drewN _)).mono ?_;rintro e w1 ⟨rfl,m1,rfl⟩;go_wp2_with fail;refine (hp _ (k0.drewN _)).mono ?_;rintro e w2 ⟨rfl,m2,rfl⟩;go_wp2_with fail;refine (hq _ (k0.drewN _)).mono ?_;rintro e w3 ⟨rfl,m3,rfl⟩;go_wp2_with fail;go_ret;exact ⟨by rw [HT.out];rfl,k0.drewN _⟩
    ·have HT:=aa (HF.out (fun h=>e2 h.2.2.2.1));have hp:=Jp.out;rw [aD e2] at hp;clear HR HF Jn Jd Jp Jq f g i e0 e1 e2;go_enter Tryz.func15,Tryz.ntmps15;go_wp2_with fail;refine (hn _ k0).mono ?_;rintro e w0 ⟨rfl,m0,rfl⟩;go_wp2_with fail;refine (hd _ (k0.drewN _)).mono ?_;rintro e w1 ⟨rfl,m1,rfl⟩;go_wp2_with fail;refine (hp _ (k0.drewN _)).mono ?_;rintro e w2 ⟨rfl,m2,rfl⟩;go_wp2_with fail;go_ret;exact ⟨by rw [HT.out];rfl,k0.drewN _⟩
   ·have HT:=aa (HF.out (fun h=>e1 h.2.2.1));have hd:=Jd.out;rw [aD e1] at hd;clear HR HF Jn Jd Jp Jq f g i e0 e1;go_enter Tryz.func15,Tryz.ntmps15;go_wp2_with fail;refine (hn _ k0).mono ?_;rintro e w0 ⟨rfl,m0,rfl⟩;go_wp2_with fail;refine (hd _ (k0.drewN _)).mono ?_;rintro e w1 ⟨rfl,m1,rfl⟩;go_wp2_with fail;go_ret;exact ⟨by rw [HT.out];rfl,k0.drewN _⟩
  ·have HT:=aa (HF.out (fun h=>e0 h.2.1));have hn:=Jn.out;rw [aD e0] at hn;clear HR HF Jn Jd Jp Jq f g i e0;go_enter Tryz.func15,Tryz.ntmps15;go_wp2_with fail;refine (hn _ k0).mono ?_;rintro e w0 ⟨rfl,m0,rfl⟩;go_wp2_with fail;go_ret;exact ⟨by rw [HT.out];rfl,k0.drewN _⟩
 ·have HT:=aa (HF.out (fun h=>he h.1));have ge:¬ (ae:Int)=(be:Int):=by omega
  have qe:((ae:Int) == (be:Int))=false:=by simp;omega
  clear HR HF Jn Jd Jp Jq f g i;go_enter Tryz.func15,Tryz.ntmps15;go_wp2_with fail;go_ret;exact ⟨by rw [HT.out];rfl,k0⟩

end Go.Proofs.YtcemlfokmjjiaaaGreatDoor
