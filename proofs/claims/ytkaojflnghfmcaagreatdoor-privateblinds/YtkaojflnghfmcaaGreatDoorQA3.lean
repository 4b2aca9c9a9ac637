/- Put together of: Prm1 BigDivMod Base3. -/
import Derived.Test.YtkaojflnghfmcaaGreatDoorQA2
import Derived.Deep.RegionHeld3
import Derived.Deep.DrawnRows
import Derived.Deep.RegionWith
import Derived.BigRegion

namespace Go.Proofs.YtkaojflnghfmcaaGreatDoor
set_option maxRecDepth 100000
set_option maxHeartbeats 4000000
open Go.RowKit

def yv (n:Nat):Prop:=2≤n∧∀ d,2≤d→d<n→n%d≠0

instance (n:Nat):Decidable (yv n):=
 if h:2≤n then
  if g:∀ d,d<n→2≤d→n%d≠0 then isTrue ⟨h,fun d h1 h2=>g d h2 h1⟩ else isFalse (fun p=>g (fun d h1 h2=>p.2 d h2 h1))
 else isFalse (fun p=>h p.1)

theorem gD {a b:Nat} (h:b≤a):¬ aK a b<0:=by
 unfold aK;rw [if_neg (by omega)]
 split <;> omega

theorem yB {a b:Nat} (h:¬ a=b):¬ aK a b=0:=by
 unfold aK;rw [if_neg h]
 split <;> omega

attribute [local go_sem ↓] Go.wp_at_zero Go.wp_at_succ

theorem rI (t r:Nat) (ht:t<4294967296):bits .and .u32 ((t:Int)/2^r) 1=((t/2^r%2:Nat):Int):=by
 have e:(t:Int)/2^r=((t/2^r:Nat):Int):=by simp
 have hy:=Nat.div_le_self t (2^r);have h1:=u32_and_nat (t/2^r) 1 (by omega) (by omega);rw [nat_mask1] at h1;rw [e,show (1:Int)=((1:Nat):Int) from rfl,h1]

theorem xA {t r:Nat} (h:t<2^(r+1)) (hb:t/2^r%2=0):t<2^r:=by
 have h1:t/2^r<2:=by rw [Nat.div_lt_iff_lt_mul (Nat.pow_pos (by omega))];rw [Nat.pow_succ] at h;omega
 have h2:t/2^r=0:=by
  generalize t/2^r=q at *;omega
 rcases Nat.lt_or_ge t (2^r) with h3 | h3
 ·exact h3
 ·have:=(Nat.div_pos_iff).2 ⟨Nat.pow_pos (n:=r) (show 0<2 by omega),h3⟩;omega

theorem tS {t r:Nat} (hb:t/2^r%2≠0):2^r≤t:=by
 rcases Nat.lt_or_ge t (2^r) with h3 | h3
 ·rw [Nat.div_eq_of_lt h3] at hb;exact absurd rfl hb
 ·exact h3

theorem lV (u v:Value) (A M:Nat) (w:World) (hu:IsBig w u A) (hv:IsBig w v M) (hM:0<M) (cf:aH A≤10000000) :
  Calls Tryz.prog 87 #[u,v] w fun r w'=>∃ v1 v2,r=.returned (.tuple #[v1,v2])∧IsBig w' v1 (A/M)∧IsBig w' v2 (A%M)∧(∀ b,v1.ownBlock=some b→w.heap.size≤b)∧(∀ b,v2.ownBlock=some b→u.ownBlock=some b∨w.heap.size≤b)∧Kept af w w':=by
 obtain ⟨i0,aF,aW,aX,aY⟩:=info_parts Tryz.info91;have hC:=iP u v A M w hu hv;by_cases hlt:A<M
 ·rw [bk hlt] at hC;have E1:Hid (A/M=0):=Nat.div_eq_of_lt hlt;have E2:Hid (A%M=A):=ak hlt;clear hlt;go_enter Tryz.func87,Tryz.ntmps87;go_wp2_with fail;refine hC.mono ?_;rintro e w1 ⟨rfl,n1,rfl⟩;go_wp2;go_ret2;have k1:Kept af w (w.drewN n1):=(ah _ _).drewN n1;exact ⟨.slice none 0 0,u,rfl,by rw [E1.out];exact IsBig.nil _,by rw [E2.out];exact hu.grew k1,fun b hb=>(by cases hb),fun b hb=>.inl hb,k1⟩
 ·have b3:¬ aK A M<0:=by unfold aK;rw [if_neg hlt];split <;> decide
  obtain ⟨cc,S⟩:∃ cc,cc=aK A M:=⟨_,rfl⟩
  rw [← S] at hC b3;have bU:M≤A:=by omega
  clear S hlt;obtain ⟨ds,rd,dd,td,X,b5⟩:=hv;have J:=cY dd td;rw [X] at J;have T:aH M≤aH A:=bZ bU;have ct:0<aH M:=by
   rcases Nat.eq_zero_or_pos (aH M) with h | h
   ·have:=(aS M 0).1 (by omega);simp at this;omega
   ·exact h
  obtain ⟨p,hp⟩:∃ p,aH M=p+1:=⟨aH M-1,by omega⟩
  rw [hp] at J;have N:0<ds.getD p 0:=by
   rcases td with h | h
   ·omega
   ·rw [J,Nat.add_sub_cancel] at h;omega
  have B:=dd.getD (by omega) p;have hv:IsBig w v M:=⟨ds,rd,dd,td,X,b5⟩
  obtain ⟨bo,m,bc,rfl,bg,_,_,_,hB⟩:=rd.open;have hm:m=p+1:=bg.out.symm.trans J;subst hm;obtain ⟨gb,ob,rfl,cb⟩:=hB p (by omega);by_cases hone:p=0
  ·subst hone;have ac:M=ds.getD 0 0:=by
    rw [← X];cases ds with
    | nil=>simp at J
    | cons x r=>
     have:r=[]:=List.eq_nil_of_length_eq_zero (by simpa using J);subst this;simp [val]
   have aA:=fun W (hk:Kept af w W)=>qL u A (ds.getD 0 0) W (hu.grew hk) N B
   rw [← ac] at aA cb;simp only [Nat.add_zero] at cb;clear hB bg rd dd td X ac N B;go_enter Tryz.func87,Tryz.ntmps87;go_wp2_with fail;refine hC.mono ?_;rintro e w1 ⟨rfl,n1,rfl⟩;have k1:Kept af w (w.drewN n1):=(ah _ _).drewN n1;have bV:=aA _ k1;clear aA hC;go_wp2_with fail;refine bV.mono ?_;rintro e w2 ⟨v1,v2,rfl,b1,b2,o1,o2,k2⟩;go_wp2;go_ret2;exact ⟨v1,v2,rfl,b1,b2,o1,fun b hb=>.inr (o2 b hb),k1.trans k2⟩
  ·have cs:¬ (p:Int)+1=1:=by omega
   have bI:=hu;obtain ⟨az,ra,da,ta,bt,bX⟩:=hu;have H:=cY da ta;rw [bt] at H;obtain ⟨uo,la,uc,rfl,bf,_,_,_,_⟩:=ra.open;have I:la=aH A:=bf.out.symm.trans H;clear ra da ta bt bX H bf;have hu:=bI;clear bI;rw [← I] at cf T;have a8:Hid (la=aH A):=I;clear I;go_enter Tryz.func87,Tryz.ntmps87;go_wp2_with fail;refine hC.mono ?_;rintro e w1 ⟨rfl,n1,bM⟩;have k1:Kept af w w1:=by rw [bM];exact (ah _ _).drewN n1
   have b0:=k1.cellN cb;clear hC bM cb hB;obtain ⟨t,ht⟩:∃ t,t=ds.getD p 0:=⟨_,rfl⟩
   rw [← ht] at b0 N B;have HT:Hid (ds.getD p 0=t):=ht.symm;clear ht;obtain ⟨W,bp⟩:∃ W,Hid (w1=W):=⟨_,rfl⟩
   go_wp2_with fail;go_loopw [6] (fun ss wr=>∃ s r:Nat,s+r=31∧ss=.int .i64 (s:Nat)∧Hid (t<2^(r+1))∧Hid (wr=W)) (fun ss _=>(31-intOf ss).toNat)
   case atStart=>exact ⟨0,31,rfl,rfl,by unfold Hid;omega,bp⟩
   case round=>
    obtain ⟨s,r,bF,rfl,ap,bN⟩:=hrel;have aV:wr=w1:=bN.out.trans bp.out.symm;subst aV;have cw:(31:Int)-(s:Int)=(r:Int):=by omega
    have aO:r≤31:=by omega
    have aa:s≤31:=by omega
    have ba:Hid (s+r=31):=bF;clear bF;have G:=rI t r B;have g0:(0:Int)≤(p:Int):=Int.natCast_nonneg _;have g3:(p:Int)<(p:Int)+1:=by omega
    by_cases hb:t/2^r%2=0
    ·have L:=xA ap.out hb;rw [hb] at G;have ck:0<r:=by
      rcases Nat.eq_zero_or_pos r with h | h
      ·subst h;simp at L;omega
      ·exact h
     have Z:Hid (t<2^(r-1+1)):=by unfold Hid;rw [Nat.sub_add_cancel ck];exact L
     clear hb L ap;go_wp2;go_roundw
     case rel=>exact ⟨s+1,r-1,by have:=ba.out;omega,by go_num,Z,bN⟩
     case measure=>simp [intOf];omega
    ·have bu:t/2^r%2=1:=by omega
     have bA:=tS hb;rw [bu] at G;have es:31-r=s:=by have:=ba.out;omega
     obtain ⟨au,a1,ai⟩:=sQ dd J HT.out ap.out bA aO;rw [X,es] at au a1 ai;obtain ⟨bP,bQ,a6⟩:=oj A s aa;rw [← a8.out] at bP bQ a6;have bi:=pH _ A s wr (hu.grew k1) (by rw [← a8.out];omega) (by omega);clear hb bu bA ap es HT;go_wp2_with fail;refine bi.mono ?_;rintro e w2 ⟨v2,rfl,a4,k2⟩;obtain ⟨us,ou,du,tu,uv,ul⟩:=a4;have aq:=cY du tu;rw [uv] at aq;rw [← aq] at bP bQ;have bR:Hid (us.length=aH (2^s*A)):=aq;clear aq
     go_wp2_with (at_builtin;refine wpList_append_lies _ rfl _ _ 76 rfl wr.heap.size 91 i0 _ 1 4 Tryz.underlying76 aF aW aX aY rfl (by omega) _ _ _ rfl (ou.alloc _) ⟨w2.heap.size,0,none⟩ 2 2 [.int .u32 0,.int .u32 0] rfl rfl (jK w2 _ _ _) (by simp [Value.oneCell']) (by omega) (by unfold maxLen;omega) (by omega) (by have:=k2.size;simp;omega) (w2.heap.size+1) (by simp) ?_;intro gu cu w3 aM bx aD aE);have k3:Kept af wr w3:=(k2.alloc _).grown bx (fun b hb hlt=>by have:=(ou.lt b hb).1;omega);have a2:OwnN .u32 91 w3 wr.heap.size (.slice (some ⟨gu,0,none⟩) (us.length+2) cu) (us.length+2) (us ++ [0,0]):=by unfold OwnN;rw [List.map_append];exact aM
     have b8:wr.heap.size≤gu:=(aM.lt gu rfl).1;have cr:us.length+2≤cu:=by
      rcases a2.2 with ⟨h',_⟩ | ⟨g',cap',cur,h',_,_,hnc,_⟩
      ·simp at h'
      ·simp only [Value.slice.injEq,Option.some.injEq,Addr.mk.injEq,and_true] at h';obtain ⟨_,_,rfl⟩:=h';exact hnc
     clear aM bx aD ou;have bj:=Ba _ M s w3 ((hv.grew k1).grew k3) (by omega) (by omega);refine bj.mono ?_;rintro e w4 ⟨v4,rfl,b4,o4,k4⟩;have a3:OwnN .u32 91 w4 wr.heap.size (.slice (some ⟨gu,0,none⟩) (us.length+2) cu) (us.length+2) (us ++ [0,0]):=k4.own a2 (fun _ _ f=>f);have ag:(us ++ [0,0]).length=us.length+2:=by simp
     have bl:=tw _ (us ++ [0,0]) w4 (Row.of_own (by rw [ag];exact a3));clear bj bi;go_wp2_with fail;refine bl.mono ?_;rintro e w5 ⟨mt,vt,rfl,aJ,_,a0,bH,_,⟨co,n5,bT,bJ,rfl⟩,rfl⟩;simp only [Value.slice.injEq] at bJ;obtain ⟨rfl,rfl,rfl⟩:=bJ;have ax:Digs (us ++ [0,0]) 4294967296:=du.append (fun d hd=>by simp at hd;omega);have O:val (us ++ [0,0]) 4294967296=2^s*A:=by rw [bG];simp [val,uv]
     have aL:mt=us.length:=by
      have h1:=cY (ax.take mt) (eh aJ bH);rw [eG aJ a0,O,← bR.out,List.length_take] at h1;omega
     have ch:max ((la:Int)+1) (mt:Int)=(la:Int)+1:=by omega
     have cq:(la:Int)+1≤(cu:Int):=by omega
     obtain ⟨l,q⟩:∃ l,l=(us ++ [0,0]).take (la+1):=⟨_,rfl⟩
     have oz:OwnN .u32 91 w5 wr.heap.size (.slice (some ⟨gu,0,none⟩) (la+1) cu) (la+1) l:=by rw [q];exact lP a3 (by omega)
     have ae:l.length=la+1:=by rw [q,List.length_take];omega
     have ad:Digs l 4294967296:=by rw [q];exact ax.take _
     have P:val l 4294967296=2^s*A:=by
      rw [q,eG (by omega) (fun i hi=>a0 i (by omega)),O]
     have bS:=b4;obtain ⟨vs,rv,dv,tv,bK,_⟩:=bS;have aU:=cY dv tv;rw [bK,ai] at aU;obtain ⟨vo,nv,vc,rfl,bh,_,_,_,bm⟩:=rv.open;have ci:nv=p+1:=bh.out.symm.trans aU;subst ci;obtain ⟨gv,ov,rfl,cv⟩:=bm 0 (by omega);have b9:gv<w5.heap.size:=World.block_lt_of_cell? w5 _ cv;have ca:w3.heap.size≤gv:=o4 gv rfl;clear bl a3 a0 bH aJ ag ax O q rv dv tv bK aU bh bm cv o4 aL;have aR:(la:Int)+1-((p:Int)+1)=((la-p:Nat):Int):=by omega
     obtain ⟨Kq,aB⟩:∃ Kq,Kq=la-p:=⟨_,rfl⟩
     rw [← aB] at aR;have HK:Hid (Kq=la-p):=aB;have cp:Kq+(p+1)=la+1:=by omega
     clear aB;go_wp2_with (at_make;refine wpList_make_full _ rfl _ _ 76 rfl w5.heap.size 91 i0 _ 1 Tryz.underlying76 aF aW aX _ _ _ _ Kq rfl rfl (by first | rfl | omega) (by first | rfl | omega) (by rw [aY];omega) (by unfold maxLen;omega) (leR _) ?_;intro w6 ao bz);rw [aG] at ao;have k6:Kept af w5 w6:=aC bz;clear bz;have a5:OwnN .u32 91 w6 wr.heap.size (.slice (some ⟨gu,0,none⟩) (la+1) cu) (la+1) l:=k6.own oz (fun _ _ f=>f);have ab:val (l.drop Kq) 4294967296<2^s*M:=by
      have:=qb (V:=2^s*M) ad P a6 aa (show p≤la by omega) a1
      rwa [HK.out]
     obtain ⟨V,hV⟩:∃ V,V=2^s*M:=⟨_,rfl⟩
     rw [← hV] at ab b4 au ai;have bn:0<V:=by rw [hV];exact Nat.mul_pos (Nat.pow_pos (by omega)) hM
     have HV:Hid (V=2^s*M):=hV;have bb:Hid (val l 4294967296=2^s*A):=P;have aw:Hid (V<4294967296^(p+1)):=au;have a7:Hid (aH V=p+1):=ai;have cd:gu<w5.heap.size:=Nat.lt_of_lt_of_le aE k4.size;have K6:Kept af w w6:=((k1.trans k3).trans k4).trans k6;have bv:IsBig w6 _ V:=b4.grew k6;have ay:w.heap.size≤wr.heap.size:=k1.size;clear hV P au a1 ai a6 oz b4 hu hv k1 k2 k3 k4 G a2;obtain ⟨B0,bd⟩:∃ B0,B0=wr.heap.size:=⟨_,rfl⟩
     rw [← bd] at a5 b8 ay;obtain ⟨gq,al⟩:∃ gq,gq=w5.heap.size:=⟨_,rfl⟩
     rw [← al] at ao cd b9;have cn:Hid (w5.heap.size=gq):=al.symm;rw [← al];clear bd al;go_wp2_with fail;go_loopw [11] (fun jj wx=>∃ (k:Nat) (zs qs:List Nat),k≤Kq∧jj=.int .i64 ((k:Int)-1)∧Hid (zs.length=la+1)∧Digs zs 4294967296∧Hid (zs.take k=l.take k)∧Hid (val (zs.drop k) 4294967296<V)∧Hid (V*val qs 4294967296+val (zs.drop k) 4294967296=val (l.drop k) 4294967296)∧Hid (qs.length=Kq-k)∧Digs qs 4294967296 ∧
       OwnN .u32 91 wx B0 (.slice (some ⟨gu,0,none⟩) (la+1) cu) (la+1) zs∧OwnN .u32 91 wx gq (.slice (some ⟨gq,0,none⟩) Kq Kq) Kq (List.replicate k 0 ++ qs)∧Kept (fun b=>b=gu∨b=gq) w6 wx) (fun jj _=>(intOf jj+1).toNat)
     case atStart=>exact ⟨Kq,l,[],leR _,rfl,ae,ad,rfl,ab,by unfold Hid;simp [val],by unfold Hid;simp,Digs.nil _,a5,by rw [List.append_nil];exact ao,ah _ _⟩
     case round=>
      clear a5 ao;obtain ⟨k,zs,qs,hk,rfl,ar,aZ,aT,hR,hinv,bD,bC,oz,oq,am⟩:=hrel;cases k with
      | zero=>
       rw [List.drop_zero] at hR hinv;rw [List.drop_zero] at hinv;have aI:=hinv.out;rw [bb.out,HV.out] at aI;obtain ⟨d1,d2⟩:=uA (n:=p+1) ar.out (by omega) hM (by rw [← HV.out];exact aw.out) (by rw [← HV.out];exact hR.out) aI;rw [List.replicate_zero,List.nil_append] at oq;have aN:qs.length=Kq:=by have:=bD.out;omega
       have D1:Hid (val qs 4294967296=A/M):=d1;have D2:Hid (val (zs.take (p+1)) 4294967296/2^s=A%M):=d2;have bW:=fun W (hk:Kept af wr W)=>df (.slice (some ⟨gq,0,none⟩) Kq Kq) qs W ((Row.of_own (base:=gq) (e:=91) (by rw [aN];exact oq)).grew hk) bC (by omega)
       have C:OwnN .u32 91 wr B0 (.slice (some ⟨gu,0,none⟩) (p+1) cu) (p+1) (zs.take (p+1)):=lP oz (by omega);have j2:(p:Int)+1≤(cu:Int):=by omega
       have j0:(0:Int)≤(p:Int)+1:=by omega
       have KW:Kept af w wr:=K6.next am (fun x hx h=>by rcases h with h | h <;> omega)
       clear hinv aI hR aT d1 d2 bv bb aw a7;have o:∀ i u,((zs.take (p+1)).map fun z=>Value.int .u32 (z:Nat))[i]? = some u→wr.drew.cell? ((⟨gu,0,none⟩:Addr).add i)=some u:=World.ownsRow.cells C (g:=gu) rfl;have E:=nr .u32 (zs.take (p+1));have an:(zs.take (p+1)).length=p+1:=by rw [List.length_take];have:=ar.out;omega
       have Y:((zs.take (p+1)).map fun z=>Value.int .u32 (z:Nat)).length=(p+1)*1:=by rw [List.length_map,an];omega
       have bE:=aZ.take (p+1);obtain ⟨rs,aP⟩:∃ rs,rs=zs.take (p+1):=⟨_,rfl⟩
       rw [← aP] at o E an Y bE;have D3:Hid (val rs 4294967296/2^s=A%M):=by rw [aP];exact D2
       have a9:Hid (rs.length=p+1):=an;clear D2 aP an C;go_wp2_with fail;go_region_held3 (fun _=>True) (trivial)
        (first
         | (go_at_call_of 80 (Value.slice (some ⟨gq,0,none⟩) Kq Kq);refine (bW _ ?_).mono ?_;exact (ah af wr).drew;rintro e w7 ⟨vq,rfl,bq,cl,rfl⟩)
         | (refine step_append_lies _ (by rfl) _ _ _ (by rfl) wr.heap.size 91 i0 _ 1 4 Tryz.underlying76 aF aW aX aY rfl (by omega) (.slice none 0 0) 0 [] (by rfl) (World.ownsRow_nil _ _ _ _) ⟨gu,0,none⟩ (p+1) cu (rs.map fun z=>.int .u32 (z:Nat)) (by rfl) Y o E (by omega) (by unfold maxLen;omega) (by omega) (leR _) wr.heap.size (by simp) ?_;intro gg cg w8 bB b6 bY b7)
         | (go_at_call 80;refine (df _ rs _ (Row.of_own (base:=wr.heap.size) (e:=91) (by rw [a9.out];rw [Nat.zero_add,List.nil_append] at bB;exact bB)) bE (by have:=a9.out;omega)).mono ?_;rintro e w9 ⟨vr,rfl,br,cx,rfl⟩)
         | (go_at_call 138;refine (BN _ _ s _ br (by omega)).mono ?_;rintro e cy ⟨vs,rfl,bs,os,ks⟩))
       all_goals
        go_wp2;go_ret2;have k8:Kept af _ _:=aC b6;refine ⟨vq,vs,rfl,?_,?_,fun b hb=>?_,fun b hb=>.inr ?_,(KW.drew.trans k8).trans ks⟩
        ·rw [← D1.out];exact (bq.grew k8).grew ks
        ·rw [← D3.out];exact bs
        ·rw [cl] at hb;simp [Value.ownBlock] at hb;omega
        ·have h1:=os b hb;have h2:=(KW.drew.trans k8).size;omega
      | succ j=>
       have bL:IsBig wr _ V:=bv.kept am (fun b hb h=>by simp [Value.ownBlock] at hb;omega);obtain ⟨U,hU⟩:∃ U,U=val ((zs.drop j).take (p+2)) 4294967296:=⟨_,rfl⟩
       obtain ⟨aj,D⟩:=p9 (n:=p+1) (j:=j) aZ ar.out ae (by omega) aw.out bn hR.out aT.out hinv.out U hU;rw [hU] at aj;have hG:=fun c=>zG gu B0 (la+1) cu j p c V zs _ wr oz ar.out aZ (by omega) (by omega) bL a7.out aj
       rw [← hU] at hG;obtain ⟨F,R⟩:∃ F,F=zs.take j ++ (digs (U%V) (p+1+1) 4294967296 ++ zs.drop (j+(p+1+1))):=⟨_,rfl⟩
       obtain ⟨n1,n2,n3,n4,n5⟩:=D F R;have be:=fun c=>by
        have h:=hG c;rw [← R] at h;exact h
       have cj:U/V<4294967296:=by rw [Nat.div_lt_iff_lt_mul bn,Nat.mul_comm,hU];exact aj
       have N1:Hid (F.length=la+1):=n1;have N3:Hid (F.take j=l.take j):=n3;have N4:Hid (val (F.drop j) 4294967296<V):=n4;have N5:Hid (V*val (U/V :: qs) 4294967296+val (F.drop j) 4294967296=val (l.drop j) 4294967296):=n5;clear hU R hG D n1 n3 n4 n5 aj hinv aT hR bL;generalize U/V=Q at *;have j1:(0:Int)≤(j:Int):=Int.natCast_nonneg _;have j2:(j:Int)+((p:Int)+1)+1≤(cu:Int):=by omega
       have j3:(j:Int)<(Kq:Int):=by omega
       have jl:j+(p+1)+1-j=p+2:=by omega
       go_wp2_with fail;refine (be _).mono ?_;rintro e w7 ⟨rfl,bO,kg⟩;have av:OwnN .u32 91 w7 gq (.slice (some ⟨gq,0,none⟩) Kq Kq) Kq (List.replicate (j+1) 0 ++ qs):=kg.own oq (fun b hb h=>by simp [Value.ownBlock] at hb;omega);have bw:w7.cell? ⟨gq,j,none⟩=some (.int .u32 0):=by
        rw [World.ownsRow.cellAt av j (by omega),List.getElem?_map,List.getElem?_append_left (by simp),List.getElem?_replicate,if_pos (by omega)];rfl
       have hf:=World.ownsRow.frozenAt av j;have aQ:=fun u=>(World.ownsRow.stored av j u).1
       have cm:=fun u=>ownsRow_setCell_other bO (a:=⟨gq,j,none⟩) (by simp [Value.ownBlock];omega) u
       have ce:Kept (fun b=>b=gu∨b=gq) w6 w7:=am.trans (kg.mono (fun _ _ h=>.inl h));clear oz oq be am kg bO av;go_wp2;go_roundw
       case rel=>
        refine ⟨j,F,Q :: qs,by omega,by go_num,N1,n2,N3,N4,N5,by unfold Hid;rw [List.length_cons,bD.out];omega,fun y hy=>?_,cm _,?_,ce.setCell _ (fun _=>.inr rfl) _⟩
        ·rcases List.mem_cons.1 hy with h | h
         ·omega
         ·exact bC y h
        ·unfold OwnN;rw [← pn,List.map_set];exact aQ _
       case measure=>simp [intOf]

def bes (V n:Nat):Nat→List Nat
 | 0=>[]
 | i+1=>bes V n i ++ [dig V (n-1-i) 256]

theorem bw (V n:Nat):∀ i,(bes V n i).length=i
 | 0=>rfl
 | i+1=>by simp [bes,bw V n i]

theorem mw (V n:Nat):∀ i,Digs (bes V n i) 256
 | 0=>Digs.nil _
 | i+1=>(mw V n i).append (Digs.one (Nat.mod_lt _ (by omega)))

theorem rQ (V j:Nat):dig V (j/4) 4294967296/2^(j%4*8)%256=dig V j 256:=by
 unfold dig;have e:(4294967296:Nat)^(j/4)=256^(4*(j/4)):=by rw [Nat.pow_mul]
 have e0:(2:Nat)^(j%4*8)=256^(j%4):=by rw [Nat.mul_comm,Nat.pow_mul]
 have e3:(256:Nat)^j=256^(4*(j/4))*256^(j%4):=by rw [← Nat.pow_add];congr 1;omega
 rw [e,e0,e3,← Nat.div_div_eq_div_mul];generalize V/256^(4*(j/4))=x;have h:j%4=0∨j%4=1∨j%4=2∨j%4=3:=by omega
 rcases h with h | h | h | h <;> rw [h] <;> omega

theorem qQ (V n k:Nat) (h:k<n):(bes V n k ++ List.replicate (n-k) 0).set k (dig V (n-1-k) 256)=bes V n (k+1) ++ List.replicate (n-(k+1)) 0:=by
 rw [List.set_append_right _ _ (by rw [bw];omega),bw,Nat.sub_self,bes,show n-k=(n-(k+1))+1 by omega,List.replicate_succ];simp

theorem Tryz.info5:(Tryz.prog.info? 5).map (fun i=>(i.zero,i.size,i.bytes))=some (some (.int .u8 0),1,1):=by kernel_rfl

theorem ts (v:Value) (V n:Nat) (w:World) (h:IsBig w v V) (hn:n≤1000000000) :
  Calls Tryz.prog 37 #[v,.int .i64 n] w fun r w'=>∃ v',r=.returned v'∧Row .u8 w' v' (bes V n n)∧v'.ownBlock=some w.heap.size∧Kept af w w':=by
 obtain ⟨i0,g,o,p,q⟩:=info_parts Tryz.info5;obtain ⟨ds,hr,hd,_,rfl,_⟩:=h;have HD:=fun i W (hk:Kept af w W)=>ii v ds i W (hr.grew hk)
 have hV:∀ i,ds.getD i 0=dig (val ds 4294967296) i 4294967296:=fun i=>(aP (by omega) hd i).symm
 have hlt:∀ i,dig (val ds 4294967296) i 4294967296<4294967296:=fun i=>Nat.mod_lt _ (by omega)
 simp only [hV] at HD;clear hr hd hV;generalize val ds 4294967296=V at *;have hm:max (n:Int) 0=(n:Int):=by omega
 go_enter Tryz.func37,Tryz.ntmps37;go_wp2_with (at_make;refine wpList_make_full _ rfl _ _ 27 rfl w.heap.size 5 i0 _ 1 Tryz.underlying27 g o p _ _ _ _ n rfl rfl rfl rfl (by rw [q];omega) (by unfold maxLen;omega) (leR _) ?_;intro w1 b f);rw [aG] at b;have k1:=aC f;go_loopw [13] (fun i wr=>∃ k:Nat,k≤n∧i=.int .i64 k∧OwnN .u8 5 wr w.heap.size (.slice (some ⟨w.heap.size,0,none⟩) n n) n (bes V n k ++ List.replicate (n-k) 0)∧Kept af w wr) (fun i _=>n-(intOf i).toNat)
 case atStart=>exact ⟨0,Nat.zero_le _,rfl,by rw [show bes V n 0=[] from rfl,List.nil_append,Nat.sub_zero];exact b,k1⟩
 case round=>
  clear b f k1;obtain ⟨k,hk,rfl,ho,a⟩:=hrel;by_cases hkn:k<n
  ·have l:(k:Int)<(n:Int):=by omega
   have hc:wr.cell? ⟨w.heap.size,k,none⟩=some (.int .u8 0):=by
    rw [World.ownsRow.cellAt ho k (by omega),List.getElem?_map,List.getElem?_append_right (by rw [bw];omega),bw,Nat.sub_self,List.getElem?_replicate,if_pos (by omega)];rfl
   have hf:=World.ownsRow.frozenAt ho k;have m:=fun u=>(World.ownsRow.stored ho k u).1
   obtain ⟨j,hj⟩:∃ j,j=n-1-k:=⟨_,rfl⟩
   have hJ:(n:Int)-1-(k:Int)=(j:Int):=by omega
   have HF:Hid ((bes V n k ++ List.replicate (n-k) 0).set k (dig V j 256)=bes V n (k+1) ++ List.replicate (n-(k+1)) 0):=by unfold Hid;rw [hj];exact qQ V n k hkn
   have s:j≤1000000000:=by omega
   clear hj;have hD:=HD (j/4) wr a;rw [show ((j/4:Nat):Int)=(j:Int)/4 by omega] at hD;have hl:=hlt (j/4);have c:=rQ V j;clear HD hlt;generalize dig V (j/4) 4294967296=d at *;have e1:(d:Int)/2^(j%4*8)=((d/2^(j%4*8):Nat):Int):=by simp
   have HB:Hid ((d:Int)/2^(j%4*8)%256=((dig V j 256:Nat):Int)):=by unfold Hid;rw [e1,← c];omega
   clear e1 c;go_wp2_with fail;refine hD.mono ?_;rintro e w' ⟨rfl,rfl⟩;go_wp2;rw [HB.out];go_roundw
   case rel=>
    refine ⟨k+1,by omega,by go_num,?_,a.setCell _ (fun h=>by simp at h) _⟩;unfold OwnN;rw [← HF.out,List.map_set];exact m _
   case measure=>simp [intOf];omega
  ·have l:¬ (k:Int)<(n:Int):=by omega
   have e:k=n:=by omega
   subst e;rw [Nat.sub_self,List.replicate_zero,List.append_nil] at ho;clear HD hlt;go_wp2;go_ret;exact ⟨_,rfl,Row.of_own (by rw [bw];exact ho),rfl,a⟩

def bev (l:List Nat):Nat:=l.foldl (fun a b=>a*256+b) 0

theorem rG (l:List Nat) (b:Nat):bev (l ++ [b])=bev l*256+b:=by simp [bev]

theorem gQ {l:List Nat} {i:Nat} (h:i<l.length):bev (l.take (i+1))=bev (l.take i)*256+l.getD i 0:=by
 rw [List.take_succ_eq_append_getElem h,rG,List.getD_eq_getElem?_getD,List.getElem?_eq_getElem h];rfl

theorem pM {B:Nat}:∀ {l:List Nat} {i d:Nat},i<l.length→val (l.set i (l.getD i 0+d)) B=val l B+B^i*d
 | x :: r,0,d,_=>by simp [val];omega
 | x :: r,i+1,d,h=>by
  have ih:=pM (B:=B) (l:=r) (i:=i) (d:=d) (by simpa using h);simp only [lsS,val,List.getD_cons_succ,ih,Nat.mul_add,Nat.pow_succ];rw [Nat.mul_comm (B^i) B,Nat.mul_assoc];omega

theorem oo (T k:Nat):dig (T*256^(k+1)) (k/4) 4294967296=T*256^(k%4+1)%4294967296:=by
 unfold dig;have e:(256:Nat)^(k+1)=256^(k%4+1)*4294967296^(k/4):=by
  rw [show (4294967296:Nat)^(k/4)=256^(4*(k/4)) from by rw [Nat.pow_mul],← Nat.pow_add]
  congr 1;omega
 rw [e,← Nat.mul_assoc,Nat.mul_div_cancel _ (Nat.pow_pos (by omega))]

theorem uJ (T k b:Nat) (hb:b<256):bits .or .u32 ((T*256^(k%4+1)%4294967296:Nat):Int) (IntKind.u32.wrap ((b:Int)*2^(k%4*8)))=((T*256^(k%4+1)%4294967296+b*256^(k%4):Nat):Int) ∧
  T*256^(k%4+1)%4294967296+b*256^(k%4)<4294967296:=by
 have h:k%4=0∨k%4=1∨k%4=2∨k%4=3:=by omega
 have a:∀ (r:Nat) (x y:Nat),x%2^r=0→y<2^r→x+y<4294967296→bits .or .u32 (x:Int) (y:Int)=((x+y:Nat):Int):=fun r x y h1 h2 h3=>by
  rw [u32_or_nat x y (by omega) (by omega),nat_join r x y h1 h2]
 rcases h with h | h | h | h <;> rw [h] <;> simp only [Nat.zero_add,Nat.reduceAdd,Nat.reducePow,Nat.reduceMul,Nat.zero_mul,Int.reducePow,Nat.pow_zero,Nat.pow_one,Nat.mul_one,Int.mul_one,Int.pow_zero]
 ·refine ⟨?_,by omega⟩;rw [IntKind.wrap_u32',show (b:Int)%4294967296=(b:Int) by omega];exact a 8 _ _ (by omega) (by omega) (by omega)
 ·refine ⟨?_,by omega⟩;rw [IntKind.wrap_u32',show (b:Int)*256%4294967296=((b*256:Nat):Int) by omega];exact a 16 _ _ (by omega) (by omega) (by omega)
 ·refine ⟨?_,by omega⟩;rw [IntKind.wrap_u32',show (b:Int)*65536%4294967296=((b*65536:Nat):Int) by omega];exact a 24 _ _ (by omega) (by omega) (by omega)
 ·refine ⟨?_,by omega⟩;rw [IntKind.wrap_u32',show (b:Int)*16777216%4294967296=((b*16777216:Nat):Int) by omega];exact a 32 _ _ (by omega) (by omega) (by omega)

theorem qk {zs:List Nat} {T k b n i:Nat} (hk:n=i+1+k) (hd:Digs zs 4294967296) (hl:k/4<zs.length) (hv:val zs 4294967296=T*256^(n-i)) :
  zs.getD (k/4) 0=T*256^(k%4+1)%4294967296∧val (zs.set (k/4) (zs.getD (k/4) 0+b*256^(k%4))) 4294967296=(T*256+b)*256^(n-(i+1)):=by
 have e1:n-i=k+1:=by omega
 have e2:n-(i+1)=k:=by omega
 rw [e1] at hv;refine ⟨by rw [← aP (by omega) hd,hv,oo],?_⟩;rw [pM hl,hv,e2,Nat.add_mul,Nat.pow_succ];have e3:4294967296^(k/4)*(b*256^(k%4))=b*256^k:=by
  rw [show (4294967296:Nat)^(k/4)=256^(4*(k/4)) from by rw [Nat.pow_mul],Nat.mul_left_comm,← Nat.pow_add]
  congr 2;omega
 rw [e3,Nat.mul_assoc,Nat.mul_comm 256]

theorem jP (v:Value) (bs:List Nat) (w:World) (h:Row .u8 w v bs) (hd:Digs bs 256) (hl:bs.length≤100000000) :
  Calls Tryz.prog 74 #[v] w fun r w'=>∃ v',r=.returned v'∧IsBig w' v' (bev bs)∧(∀ b,v'.ownBlock=some b→w.heap.size≤b)∧Kept af w w':=by
 obtain ⟨i0,t,C,D,E⟩:=info_parts Tryz.info91;obtain ⟨ao,n,F,rfl,hN,_,_,_,h4⟩:=h.open;rw [hN.out] at hl;have xb:=fun i=>hd.getD (by omega) i
 clear h hd;obtain ⟨m,hm⟩:∃ m,m=(n+3)/4:=⟨_,rfl⟩
 have I:((n:Int)+3)/4=(m:Int):=by omega
 have L:4*m≥n:=by omega
 have J:m≤100000000:=by omega
 clear hm;go_enter Tryz.func74,Tryz.ntmps74;go_wp2_with (at_make;refine wpList_make_full _ rfl _ _ 76 rfl w.heap.size 91 i0 _ 1 Tryz.underlying76 t C D _ _ _ _ m rfl rfl (by first | rfl | omega) (by first | rfl | omega) (by rw [E];omega) (by unfold maxLen;omega) (leR _) ?_;intro w1 f q);rw [aG] at f;have k1:=aC q;go_loopw [13] (fun i wr=>∃ (k:Nat) (zs:List Nat),k≤n∧i=.int .i64 k∧Hid (zs.length=m)∧Digs zs 4294967296∧Hid (val zs 4294967296=bev (bs.take k)*256^(n-k))∧OwnN .u32 91 wr w.heap.size (.slice (some ⟨w.heap.size,0,none⟩) m m) m zs∧Kept af w wr) (fun i _=>n-(intOf i).toNat)
 case atStart=>exact ⟨0,List.replicate m 0,Nat.zero_le _,rfl,List.length_replicate,(fun d hd=>by simp at hd;omega),by unfold Hid;rw [cC _ (fun d hd=>by simp at hd;exact hd.2)];simp [bev],f,k1⟩
 case round=>
  clear f q k1;obtain ⟨i,zs,hk,rfl,a,g,l,ho,c⟩:=hrel;by_cases hkn:i<n
  ·have x:(i:Int)<(n:Int):=by omega
   obtain ⟨b,off,rfl,p⟩:=(h4 i hkn).grew c;have s:=xb i;have HT:Hid (bev (bs.take (i+1))=bev (bs.take i)*256+bs.getD i 0):=gQ (by have:=hN.out;omega);clear xb h4;generalize bs.getD i 0=y at *;obtain ⟨j,hj⟩:∃ j,j=n-1-i:=⟨_,rfl⟩
   have hJ:(n:Int)-1-(i:Int)=(j:Int):=by omega
   have G:j/4<m:=by omega
   obtain ⟨f1,f2⟩:=qk (b:=y) (show n=i+1+j by omega) g (by have:=a.out;omega) l.out;rw [← HT.out] at f2;obtain ⟨o1,o2⟩:=uJ (bev (bs.take i)) j y s;rw [← f1] at o1 o2;have hc:wr.cell? ⟨w.heap.size,j/4,none⟩=some (.int .u32 ((zs.getD (j/4) 0:Nat):Int)):=by
    rw [World.ownsRow.cellAt ho (j/4) (by omega),List.getElem?_map,List.getD_eq_getElem?_getD,List.getElem?_eq_getElem (by have:=a.out;omega)];rfl
   have hf:=World.ownsRow.frozenAt ho (j/4);have B:=fun u=>(World.ownsRow.stored ho (j/4) u).1
   have F2:Hid (val (zs.set (j/4) (zs.getD (j/4) 0+y*256^(j%4))) 4294967296=bev (bs.take (i+1))*256^(n-(i+1))):=f2;have H:j≤1000000000:=by omega
   clear f1 f2 hj HT l;generalize zs.getD (j/4) 0=z at *;generalize z+y*256^(j%4)=Z at *;rw [IntKind.wrap_u32'] at o1;have O1:Hid (bits .or .u32 (z:Int) ((y:Int)*2^(j%4*8)%4294967296)=(Z:Int)):=o1;clear o1;have j1:(0:Int)≤(j:Int)/4:=by omega
   have j2:(j:Int)/4<(m:Int):=by omega
   have j3:((j:Int)/4).toNat=j/4:=by omega
   go_wp2_with fail;go_region
   all_goals
    go_wp2;rw [O1.out];go_roundw
    case rel=>
     refine ⟨i+1,zs.set (j/4) Z,by omega,by go_num,by unfold Hid;rw [List.length_set];exact a.out,?_,F2,?_,(c.setCell _ (fun h=>by simp at h) _).drew⟩
     ·intro d hd;rcases List.mem_or_eq_of_mem_set hd with h | h
      ·exact g d h
      ·omega
     ·unfold OwnN;rw [List.map_set];exact B _
    case measure=>simp [intOf];omega
  ·have x:¬ (i:Int)<(n:Int):=by omega
   have hv:val zs 4294967296=bev bs:=by
    rw [l.out,show n-i=0 by omega,List.take_of_length_le (by have:=hN.out;omega)];simp
   have hr:Row .u32 wr _ zs:=Row.of_own (base:=w.heap.size) (e:=91) (by rw [a.out];exact ho);have ht:=df _ _ _ hr g (by have:=a.out;omega);rw [hv] at ht;clear xb h4 hv hr;go_wp2_with fail;refine ht.mono ?_;rintro e w' ⟨v',rfl,hb,A,rfl⟩;go_wp2;go_ret;exact ⟨v',rfl,hb,fun b o=>by rw [A] at o;exact (ho.lt b o).1,c⟩

def mx (V:Nat) (i:Int):Nat:=if i<0 then 0 else V/2^i.toNat%2

theorem fy (V j:Nat):mx V (j:Int)=V/2^j%2:=by
 unfold mx;rw [if_neg (by omega),Int.toNat_natCast]

theorem ur (V j:Nat):dig V (j/32) 4294967296/2^(j%32)%2=V/2^j%2:=by
 unfold dig;have e:(4294967296:Nat)^(j/32)=2^(32*(j/32)):=by rw [Nat.pow_mul]
 have e3:(2:Nat)^j=2^(32*(j/32))*2^(j%32):=by rw [← Nat.pow_add];congr 1;omega
 rw [e,e3,← Nat.div_div_eq_div_mul];generalize V/2^(32*(j/32))=x;have e4:(4294967296:Nat)=2^(j%32)*2^(32-j%32):=by
  rw [← Nat.pow_add,show j%32+(32-j%32)=32 by omega]
 rw [e4,Nat.mod_mul_right_div_self];have hd:2 ∣ 2^(32-j%32):=⟨2^(31-j%32),by rw [← Nat.pow_succ',show (31-j%32).succ=32-j%32 by omega]⟩
 exact Nat.mod_mod_of_dvd _ hd

theorem pU {ds:List Nat} (hd:Digs ds 4294967296) (j:Nat) (h:ds.length≤j/32):val ds 4294967296/2^j%2=0:=by
 have h1:=ap (by omega) hd;have h2:(4294967296:Nat)^ds.length≤2^j:=by
  have e:(4294967296:Nat)^ds.length=2^(32*ds.length):=by rw [Nat.pow_mul]
  rw [e];exact Nat.pow_le_pow_right (by omega) (by omega)
 rw [Nat.div_eq_of_lt (by omega)]

theorem A8 (v:Value) (V:Nat) (i:Int) (w:World) (h:IsBig w v V) (hi:i≤9223372036854775807) :
  Calls Tryz.prog 79 #[v,.int .i64 i] w fun r w'=>r=.returned (.int .u64 (mx V i:Nat))∧w'=w:=by
 obtain ⟨ds,hr,hd,_,rfl,hl⟩:=h;have hV:∀ i,ds.getD i 0=dig (val ds 4294967296) i 4294967296:=fun i=>(aP (by omega) hd i).symm
 obtain ⟨ao,n,c,rfl,hN,_,_,_,h4⟩:=hr.open;rw [hN.out] at hl;by_cases hneg:i<0
 ·have e:mx (val ds 4294967296) i=0:=by unfold mx;rw [if_pos hneg]
  rw [e];clear h4 hr hd hV e;go_enter Tryz.func79,Tryz.ntmps79;go_wp2;go_ret;exact ⟨rfl,rfl⟩
 ·obtain ⟨j,rfl⟩:=Int.eq_ofNat_of_zero_le (show 0≤i by omega);rw [fy];by_cases hj:j/32<n
  ·obtain ⟨b,off,rfl,hc⟩:=h4 (j/32) hj;have hb:=ur (val ds 4294967296) j;rw [← hV] at hb;rw [← hb];have hx:ds.getD (j/32) 0<4294967296:=hd.getD (by omega) _;clear h4 hr hd hV hb;generalize ds.getD (j/32) 0=x at *;have g1:(j:Int)/32<(n:Int):=by omega
   have g2:(0:Int)≤(j:Int)/32:=by omega
   have g3:((j:Int)/32).toNat=j/32:=by omega
   go_enter Tryz.func79,Tryz.ntmps79;have hy:=Nat.div_le_self x (2^(j%32));have a:Hid (IntKind.u64.wrap (bits .and .u32 ((x:Int)/2^(j%32)) 1)=((x/2^(j%32)%2:Nat):Int)):=by
    unfold Hid;have e:(x:Int)/2^(j%32)=((x/2^(j%32):Nat):Int):=by simp
    have h1:=u32_and_nat (x/2^(j%32)) 1 (by omega) (by omega);rw [nat_mask1] at h1;rw [e,show (1:Int)=((1:Nat):Int) from rfl,h1,IntKind.wrap_u64];omega
   clear hy;generalize x/2^(j%32)%2=R at *;go_wp2;go_ret;refine ⟨?_,rfl⟩;show Ending.returned (Value.int .u64 (IntKind.u64.wrap (bits .and .u32 ((x:Int)/2^(j%32)) 1)))=_
   rw [a.out]
  ·have g1:¬ (j:Int)/32<(n:Int):=by omega
   rw [pU hd j (by have:=hN.out;omega)];clear h4 hr hd hV;go_enter Tryz.func79,Tryz.ntmps79;go_wp2;go_ret;exact ⟨rfl,rfl⟩

def au (V:Nat):Nat:=if V=0 then 0 else Nat.log2 V+1

theorem aA (V n:Nat):au V≤n↔V<2^n:=by
 unfold au;by_cases h:V=0
 ·subst h;simp [Nat.pow_pos]
 ·rw [if_neg h];have:=Nat.log2_lt (n:=V) (k:=n) h;omega

theorem pV {V k:Nat} (h:V<2^(k+1)) (hb:V/2^k%2=0):V<2^k:=by
 have h1:V/2^k<2:=by rw [Nat.div_lt_iff_lt_mul (Nat.pow_pos (by omega))];rw [Nat.pow_succ] at h;omega
 have h2:V/2^k=0:=by
  generalize V/2^k=q at *;omega
 rcases Nat.lt_or_ge V (2^k) with h3 | h3
 ·exact h3
 ·have:=(Nat.div_pos_iff).2 ⟨Nat.pow_pos (n:=k) (show 0<2 by omega),h3⟩;omega

theorem rJ {V k:Nat} (h:V<2^(k+1)) (hb:V/2^k%2≠0):au V=k+1:=by
 have h1:=(aA V (k+1)).2 h;have h2:¬ au V≤k:=fun hk=>by
  have:=(aA V k).1 hk;rw [Nat.div_eq_of_lt this] at hb;exact hb rfl
 omega

theorem fN (v:Value) (V:Nat) (w:World) (h:IsBig w v V) :
  Calls Tryz.prog 44 #[v] w fun r w'=>r=.returned (.int .i64 (au V:Nat))∧w'=w:=by
 have HB:=fun j (hj:j≤100000000000)=>A8 v V ((j:Nat):Int) w h (by omega)
 obtain ⟨ds,hr,hd,_,rfl,hl⟩:=h;have hlt:=ap (by omega) hd;obtain ⟨ao,n,b,rfl,hN,_,_,_,_⟩:=hr.open;rw [hN.out] at hl hlt;have a:Hid (val ds 4294967296<2^(32*n)):=by unfold Hid;rw [Nat.pow_mul];exact hlt
 clear hr hlt hd;generalize val ds 4294967296=V at *;go_enter Tryz.func44,Tryz.ntmps44;go_wp2_with fail;go_loop [3] (fun i=>∃ k:Nat,k≤32*n∧i=.int .i64 k∧Hid (V<2^k)) (fun i=>(intOf i).toNat)
 case atStart=>exact ⟨32*n,leR _,by go_num,a⟩
 case round=>
  obtain ⟨k,hk,rfl,hV⟩:=hrel;cases k with
  | zero=>
   have e:Hid (au V=0):=by
    have:=hV.out;have h0:V=0:=by simpa using this
    unfold Hid;rw [h0];rfl
   clear HB;go_wp2;go_ret;rw [e.out];exact ⟨rfl,rfl⟩
  | succ j=>
   have hB:=HB j (by omega);rw [fy] at hB;clear HB;by_cases hb:V/2^j%2=0
   ·have hz:Hid (V<2^j):=pV hV.out hb;rw [hb] at hB;clear hb hV a;go_wp2_with fail;refine hB.mono ?_;rintro e w' ⟨rfl,rfl⟩;go_wp2;go_round
    case rel=>exact ⟨j,by omega,by go_num,hz⟩
    case measure=>simp [intOf]
   ·have hz:Hid (au V=j+1):=rJ hV.out hb;have h1:V/2^j%2=1:=by omega
    rw [h1] at hB;clear hb hV a h1;go_wp2_with fail;refine hB.mono ?_;rintro e w' ⟨rfl,rfl⟩;go_wp2;go_ret;rw [hz.out];exact ⟨rfl,rfl⟩

theorem ll {a b:List Nat} {k:Nat} (ha:k<a.length) (hb:k<b.length) (h:a.take k=b.take k) (he:a.getD k 0=b.getD k 0):a.take (k+1)=b.take (k+1):=by
 rw [List.take_succ_eq_append_getElem ha,List.take_succ_eq_append_getElem hb,h];rw [List.getD_eq_getElem?_getD,List.getD_eq_getElem?_getD,List.getElem?_eq_getElem ha,List.getElem?_eq_getElem hb] at he;simp only [Option.getD_some] at he;rw [he]

theorem gY (u v:Value) (a b:List Nat) (w:World) (hu:Row .u64 w u a) (hv:Row .u64 w v b) :
  Calls Tryz.prog 17 #[u,v] w fun r w'=>r=.returned (.bool (decide (a=b)))∧∃ n,w'=w.drewN n:=by
 obtain ⟨ao,n,ac,rfl,hN,h1,h2,_,hA⟩:=hu.open;obtain ⟨bo,m,bc,rfl,hM,g,j,_,hB⟩:=hv.open;clear hu hv;by_cases hl:n=m
 ·subst hl;go_enter Tryz.func17,Tryz.ntmps17;go_wp2_with fail;go_loopw [5,13] (fun _ i wr=>∃ k:Nat,k≤n∧i=.int .i64 k∧Hid (a.take k=b.take k)∧∃ m,wr=w.drewN m) (fun _ i _=>n-(intOf i).toNat)
  case atStart=>exact ⟨0,Nat.zero_le _,rfl,rfl,0,rfl⟩
  case round=>
   obtain ⟨k,hk,rfl,ht,m,rfl⟩:=hrel;by_cases hlt:k<n
   ·obtain ⟨ga,oa,rfl,ca⟩:=hA k hlt;obtain ⟨gb,ob,rfl,cb⟩:=hB k hlt;have f:Hid (a.getD k 0=b.getD k 0→a.take (k+1)=b.take (k+1)):=fun h=>ll (by have:=hN.out;omega) (by have:=hM.out;omega) ht.out h
    have d:Hid (a.getD k 0≠b.getD k 0→decide (a=b)=false):=fun h=>by
     simp only [decide_eq_false_iff_not];intro e;subst e;exact h rfl
    clear hA hB ht;generalize a.getD k 0=x at *;generalize b.getD k 0=y at *;have l:(0:Int)≤(k:Int):=Int.natCast_nonneg _;have c:(k:Int)<(n:Int):=by omega
    by_cases he:x=y
    ·subst he;have hq:((x:Int) == (x:Int))=true:=by simp
     go_wp2_with fail;go_quiet (fail);go_wp2;go_roundw
     case rel=>exact ⟨k+1,by omega,by go_num,f.out (by first | rfl | trivial),_,rfl⟩
     case measure=>simp [intOf];omega
    ·have hq:((x:Int) == (y:Int))=false:=by simp;omega
     have p:((x:Int) != (y:Int))=true:=by simp;omega
     have hr:Hid (decide (a=b)=false):=d.out he;go_wp2_with fail;go_quiet (fail);go_wp2;go_ret;rw [hr.out];exact ⟨rfl,_,World.drewN_drewN _ _ _⟩
   ·have hr:Hid (decide (a=b)=true):=by
     have:=ht.out;have e1:=hN.out;have e2:=hM.out;rw [List.take_of_length_le (by omega),List.take_of_length_le (by omega)] at this;unfold Hid;simpa using this
    clear hA hB ht;have c:¬ (k:Int)<(n:Int):=by omega
    go_wp2;go_ret;rw [hr.out];exact ⟨rfl,_,rfl⟩
 ·have hr:decide (a=b)=false:=by
   simp only [decide_eq_false_iff_not];intro e;subst e;exact hl (hN.out.symm.trans hM.out)
  rw [hr];have o:¬ (n:Int)=(m:Int):=by omega
  clear hA hB hr;go_enter Tryz.func17,Tryz.ntmps17;go_wp2;go_ret;exact ⟨rfl,0,rfl⟩

def bf (V:Nat) (n:Int):Int:=if 300<n then 2 else if n<0∨n.toNat<aj V then 1 else 0

def bV (V:Nat) (n:Int):List Nat:=if bf V n=0 then digs V n.toNat else []

theorem nJ {V:Nat} {n:Int} (h:300<n):bf V n=2∧bV V n=[]:=by
 have e:bf V n=2:=if_pos h;exact ⟨e,by unfold bV;rw [if_neg (by rw [e];decide)]⟩

theorem gH {V:Nat} {n:Int} (h:¬ 300<n) (h2:n<0∨n.toNat<aj V):bf V n=1∧bV V n=[]:=by
 have e:bf V n=1:=by unfold bf;rw [if_neg h,if_pos h2]
 exact ⟨e,by unfold bV;rw [if_neg (by rw [e];decide)]⟩

theorem lZ {V n:Nat} (h:n≤300) (h2:aj V≤n):bf V (n:Int)=0∧bV V (n:Int)=digs V n:=by
 have e:bf V (n:Int)=0:=by unfold bf;rw [if_neg (by omega),if_neg (by simp;omega)]
 exact ⟨e,by unfold bV;rw [if_pos e,Int.toNat_natCast]⟩

def ff (n:Int):Nat:=(min (max n 1) 300).toNat

theorem uu {w:World} {v:Value} {V:Nat} (h:IsBig w v V):au V≤32000000000:=by
 obtain ⟨ds,_,hd,_,rfl,hl⟩:=h;have h1:=ap (by omega) hd;have e:(4294967296:Nat)^ds.length=2^(32*ds.length):=by rw [Nat.pow_mul]
 rw [e] at h1;have:=(aA _ _).2 h1;omega

end Go.Proofs.YtkaojflnghfmcaaGreatDoor
