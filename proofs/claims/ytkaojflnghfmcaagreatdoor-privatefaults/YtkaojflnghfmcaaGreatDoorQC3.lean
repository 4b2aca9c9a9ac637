/- Put together of: Prm1 BigDivMod Base3 BigM Prm2 Key1 Key2 Bev1 Key4. -/
import Derived.Test.YtkaojflnghfmcaaGreatDoorQC2
import Derived.Deep.RegionHeld3
import Derived.Deep.DrawnRows
import Derived.Deep.RegionWith
import Derived.BigRegion

namespace Go.Proofs.YtkaojflnghfmcaaGreatDoor
open _root_.Go.Proofs.Tryz
set_option maxRecDepth 100000
set_option maxHeartbeats 4000000
open Go.RowKit

def ED (n:Nat):Prop:=2<=n/\∀ d,2<=d->d<n->n%d≠0

instance (n:Nat):Decidable (ED n):=
 if h:2<=n then
  if g:∀ d,d<n->2<=d->n%d≠0 then isTrue ⟨h,fun d h1 h2=>g d h2 h1⟩ else isFalse (fun p=>g (fun d h1 h2=>p.2 d h2 h1))
 else isFalse (fun p=>h p.1)

theorem Co {a b:Nat} (h:b<=a):¬ dR a b<0:=by
 unfold dR;rw [ai (by omega)]
 split <;> omega

attribute [local go_sem ↓] Go.wp_at_zero Go.wp_at_succ

theorem zS (t r:Nat) (ht:t<4294967296):bits .and .u32 ((t:Int)/2^r) 1=((t/2^r%2:Nat):Int):=by
 have e:(t:Int)/2^r=((t/2^r:Nat):Int):=by simp
 have hy:=ew t (2^r);have h1:=u32_and_nat (t/2^r) 1 (by omega) (by omega);rw [nat_mask1] at h1;rw [e,show (1:Int)=((1:Nat):Int) from rfl,h1]

theorem DO {t r:Nat} (h:t<2^(r+1)) (hb:t/2^r%2=0):t<2^r:=by
 have h1:t/2^r<2:=by rw [cj (aC (by omega))];rw [aH] at h;omega
 have h2:t/2^r=0:=by
  generalize t/2^r=q at *;omega
 rcases jE t (2^r) with h3 | h3
 ·exact h3
 ·have:=(Nat.div_pos_iff).2 ⟨aC (n:=r) (show 0<2 by omega),h3⟩;omega

theorem BL {t r:Nat} (hb:t/2^r%2≠0):2^r<=t:=by
 rcases jE t (2^r) with h3 | h3
 ·rw [bj h3] at hb;exact absurd rfl hb
 ·exact h3

theorem Du (u v:Value) (A M:Nat) (w:World) (hu:IsBig w u A) (hv:IsBig w v M) (hM:0<M) (co:dj A<=10000000) :
  Calls prog 87 #[u,v] w fun r w'=>∃ v1 v2,r=.returned (.tuple #[v1,v2])/\IsBig w' v1 (A/M)/\IsBig w' v2 (A%M)/\(∀ b,v1.ownBlock=some b->w.heap.size<=b)/\(∀ b,v2.ownBlock=some b->u.ownBlock=some b\/w.heap.size<=b)/\Kept af w w':=by
 obtain ⟨i0,aI,aY,aZ,a0⟩:=info_parts Tryz.info91;have hC:=FH u v A M w hu hv;by_cases hlt:A<M
 ·rw [gS hlt] at hC;have E1:Hid (A/M=0):=bj hlt;have E2:Hid (A%M=A):=ax hlt;clear hlt;go_enter func87,ntmps87;go_wp2_with fail;refine hC.mono ?_;rintro e w1 ⟨rfl,n1,rfl⟩;go_wp2;go_ret2;have k1:Kept af w (w.drewN n1):=(aj _ _).drewN n1;exact ⟨.slice none 0 0,u,rfl,by rw [E1.out];exact IsBig.nil _,by rw [E2.out];exact hu.grew k1,fun b hb=>(by cases hb),fun b hb=>.inl hb,k1⟩
 ·have ca:¬ dR A M<0:=by unfold dR;rw [ai hlt];split <;> decide
  obtain ⟨cc,S⟩:∃ cc,cc=dR A M:=⟨_,rfl⟩
  rw [<- S] at hC ca;have b3:M<=A:=by omega
  clear S hlt;obtain ⟨ds,rd,dd,td,X,cd⟩:=hv;have J:=fq dd td;rw [X] at J;have T:dj M<=dj A:=nj b3;have cD:0<dj M:=by
   rcases cF (dj M) with h | h
   ·have:=(eI M 0).1 (by omega);simp at this;omega
   ·exact h
  obtain ⟨p,hp⟩:∃ p,dj M=p+1:=⟨dj M-1,by omega⟩
  rw [hp] at J;have N:0<ds.getD p 0:=by
   rcases td with h | h
   ·omega
   ·rw [J,ij] at h;omega
  have B:=dd.getD (by omega) p;have hv:IsBig w v M:=⟨ds,rd,dd,td,X,cd⟩
  obtain ⟨bo,m,bc,rfl,bl,_,_,_,hB⟩:=rd.open;have hm:m=p+1:=bl.out.symm.trans J;subst hm;obtain ⟨gb,ob,rfl,cb⟩:=hB p (by omega);by_cases hone:p=0
  ·subst hone;have ac:M=ds.getD 0 0:=by
    rw [<- X];cases ds with
    | nil=>simp at J
    | cons x r=>
     have:r=[]:=jZ (by simpa using J);subst this;simp [val]
   have aD:=fun W (hk:Kept af w W)=>yY u A (ds.getD 0 0) W (hu.grew hk) N B
   rw [<- ac] at aD cb;simp only [aU] at cb;clear hB bl rd dd td X ac N B;go_enter func87,ntmps87;go_wp2_with fail;refine hC.mono ?_;rintro e w1 ⟨rfl,n1,rfl⟩;have k1:Kept af w (w.drewN n1):=(aj _ _).drewN n1;have b5:=aD _ k1;clear aD hC;go_wp2_with fail;refine b5.mono ?_;rintro e w2 ⟨v1,v2,rfl,b1,b2,o1,o2,k2⟩;go_wp2;go_ret2;exact ⟨v1,v2,rfl,b1,b2,o1,fun b hb=>.inr (o2 b hb),k1.trans k2⟩
  ·have cC:¬ (p:Int)+1=1:=by omega
   have bN:=hu;obtain ⟨az,ra,da,ta,bA,b7⟩:=hu;have H:=fq da ta;rw [bA] at H;obtain ⟨uo,la,uc,rfl,bk,_,_,_,_⟩:=ra.open;have I:la=dj A:=bk.out.symm.trans H;clear ra da ta bA b7 H bk;have hu:=bN;clear bN;rw [<- I] at co T;have ba:Hid (la=dj A):=I;clear I;go_enter func87,ntmps87;go_wp2_with fail;refine hC.mono ?_;rintro e w1 ⟨rfl,n1,bR⟩;have k1:Kept af w w1:=by rw [bR];exact (aj _ _).drewN n1
   have b9:=k1.cellN cb;clear hC bR cb hB;obtain ⟨t,ht⟩:∃ t,t=ds.getD p 0:=⟨_,rfl⟩
   rw [<- ht] at b9 N B;have HT:Hid (ds.getD p 0=t):=ht.symm;clear ht;obtain ⟨W,bz⟩:∃ W,Hid (w1=W):=⟨_,rfl⟩
   go_wp2_with fail;go_loopw [6] (fun ss wr=>∃ s r:Nat,s+r=31/\ss=.int .i64 (s:Nat)/\Hid (t<2^(r+1))/\Hid (wr=W)) (fun ss _=>(31-intOf ss).toNat)
   case atStart=>exact ⟨0,31,rfl,rfl,by unfold Hid;omega,bz⟩
   case round=>
    obtain ⟨s,r,bL,rfl,aq,bS⟩:=hrel;have aX:wr=w1:=bS.out.trans bz.out.symm;subst aX;have cE:(31:Int)-(s:Int)=(r:Int):=by omega
    have aP:r<=31:=by omega
    have aa:s<=31:=by omega
    have be:Hid (s+r=31):=bL;clear bL;have G:=zS t r B;have g0:(0:Int)<=(p:Int):=bY _;have g3:(p:Int)<(p:Int)+1:=by omega
    by_cases hb:t/2^r%2=0
    ·have L:=DO aq.out hb;rw [hb] at G;have cs:0<r:=by
      rcases cF r with h | h
      ·subst h;simp at L;omega
      ·exact h
     have Z:Hid (t<2^(r-1+1)):=by unfold Hid;rw [Nat.sub_add_cancel cs];exact L
     clear hb L aq;go_wp2;go_roundw
     case rel=>exact ⟨s+1,r-1,by have:=be.out;omega,by go_num,Z,bS⟩
     case measure=>simp [intOf];omega
    ·have bB:t/2^r%2=1:=by omega
     have bG:=BL hb;rw [bB] at G;have es:31-r=s:=by have:=be.out;omega
     obtain ⟨av,a3,ak⟩:=AR dd J HT.out aq.out bG aP;rw [X,es] at av a3 ak;obtain ⟨bU,bV,a8⟩:=tZ A s aa;rw [<- ba.out] at bU bV a8;have bn:=xB _ A s wr (hu.grew k1) (by rw [<- ba.out];omega) (by omega);clear hb bB bG aq es HT;go_wp2_with fail;refine bn.mono ?_;rintro e w2 ⟨v2,rfl,a6,k2⟩;obtain ⟨us,ou,du,tu,uv,ul⟩:=a6;have ar:=fq du tu;rw [uv] at ar;rw [<- ar] at bU bV;have bW:Hid (us.length=dj (2^s*A)):=ar;clear ar
     go_wp2_with (at_builtin;refine wpList_append_lies _ rfl _ _ 76 rfl wr.heap.size 91 i0 _ 1 4 underlying76 aI aY aZ a0 rfl (by omega) _ _ _ rfl (ou.alloc _) ⟨w2.heap.size,0,none⟩ 2 2 [.int .u32 0,.int .u32 0] rfl rfl (pw w2 _ _ _) (by simp [Value.oneCell']) (by omega) (by unfold maxLen;omega) (by omega) (by have:=k2.size;simp;omega) (w2.heap.size+1) (by simp) ?_;intro gu cu w3 aM bE aG aH);have k3:Kept af wr w3:=(k2.alloc _).grown bE (fun b hb hlt=>by have:=(ou.lt b hb).1;omega);have a4:OwnN .u32 91 w3 wr.heap.size (.slice (some ⟨gu,0,none⟩) (us.length+2) cu) (us.length+2) (us ++ [0,0]):=by unfold OwnN;rw [dt];exact aM
     have ci:wr.heap.size<=gu:=(aM.lt gu rfl).1;have cB:us.length+2<=cu:=by
      rcases a4.2 with ⟨h',_⟩ | ⟨g',cap',cur,h',_,_,hnc,_⟩
      ·simp at h'
      ·simp only [Value.slice.injEq,ik,Addr.mk.injEq,and_true] at h';obtain ⟨_,_,rfl⟩:=h';exact hnc
     clear aM bE aG ou;have bp:=II _ M s w3 ((hv.grew k1).grew k3) (by omega) (by omega);refine bp.mono ?_;rintro e w4 ⟨v4,rfl,b4,o4,k4⟩;have a5:OwnN .u32 91 w4 wr.heap.size (.slice (some ⟨gu,0,none⟩) (us.length+2) cu) (us.length+2) (us ++ [0,0]):=k4.own a4 (fun _ _ f=>f);have ag:(us ++ [0,0]).length=us.length+2:=by simp
     have bt:=Bj _ (us ++ [0,0]) w4 (Row.of_own (by rw [ag];exact a5));clear bp bn;go_wp2_with fail;refine bt.mono ?_;rintro e w5 ⟨mt,vt,rfl,aK,_,a2,bM,_,⟨cy,n5,b0,bO,rfl⟩,rfl⟩;simp only [Value.slice.injEq] at bO;obtain ⟨rfl,rfl,rfl⟩:=bO;have aA:Digs (us ++ [0,0]) 4294967296:=du.append (fun d hd=>by simp at hd;omega);have O:val (us ++ [0,0]) 4294967296=2^s*A:=by rw [dX];simp [val,uv]
     have aL:mt=us.length:=by
      have h1:=fq (aA.take mt) (iM aK bM);rw [iW aK a2,O,<- bW.out,aO] at h1;omega
     have cp:max ((la:Int)+1) (mt:Int)=(la:Int)+1:=by omega
     have cA:(la:Int)+1<=(cu:Int):=by omega
     obtain ⟨l,q⟩:∃ l,l=(us ++ [0,0]).take (la+1):=⟨_,rfl⟩
     have oz:OwnN .u32 91 w5 wr.heap.size (.slice (some ⟨gu,0,none⟩) (la+1) cu) (la+1) l:=by rw [q];exact rG a5 (by omega)
     have ae:l.length=la+1:=by rw [q,aO];omega
     have ad:Digs l 4294967296:=by rw [q];exact aA.take _
     have P:val l 4294967296=2^s*A:=by
      rw [q,iW (by omega) (fun i hi=>a2 i (by omega)),O]
     have bX:=b4;obtain ⟨vs,rv,dv,tv,bP,_⟩:=bX;have aW:=fq dv tv;rw [bP,ak] at aW;obtain ⟨vo,nv,vc,rfl,bm,_,_,_,bv⟩:=rv.open;have cq:nv=p+1:=bm.out.symm.trans aW;subst cq;obtain ⟨gv,ov,rfl,cv⟩:=bv 0 (by omega);have ck:gv<w5.heap.size:=World.block_lt_of_cell? w5 _ cv;have cl:w3.heap.size<=gv:=o4 gv rfl;clear bt a5 a2 bM aK ag aA O q rv dv tv bP aW bm bv cv o4 aL;have aS:(la:Int)+1-((p:Int)+1)=((la-p:Nat):Int):=by omega
     obtain ⟨Kq,aE⟩:∃ Kq,Kq=la-p:=⟨_,rfl⟩
     rw [<- aE] at aS;have HK:Hid (Kq=la-p):=aE;have cz:Kq+(p+1)=la+1:=by omega
     clear aE;go_wp2_with (at_make;refine wpList_make_full _ rfl _ _ 76 rfl w5.heap.size 91 i0 _ 1 underlying76 aI aY aZ _ _ _ _ Kq rfl rfl (by first | rfl | omega) (by first | rfl | omega) (by rw [a0];omega) (by unfold maxLen;omega) (leR _) ?_;intro w6 ap bF);rw [bg] at ap;have k6:Kept af w5 w6:=aV bF;clear bF;have a7:OwnN .u32 91 w6 wr.heap.size (.slice (some ⟨gu,0,none⟩) (la+1) cu) (la+1) l:=k6.own oz (fun _ _ f=>f);have ab:val (l.drop Kq) 4294967296<2^s*M:=by
      have:=ym (V:=2^s*M) ad P a8 aa (show p<=la by omega) a3
      rwa [HK.out]
     obtain ⟨V,hV⟩:∃ V,V=2^s*M:=⟨_,rfl⟩
     rw [<- hV] at ab b4 av ak;have bx:0<V:=by rw [hV];exact fI (aC (by omega)) hM
     have HV:Hid (V=2^s*M):=hV;have bf:Hid (val l 4294967296=2^s*A):=P;have ay:Hid (V<4294967296^(p+1)):=av;have a9:Hid (dj V=p+1):=ak;have cm:gu<w5.heap.size:=bd aH k4.size;have K6:Kept af w w6:=((k1.trans k3).trans k4).trans k6;have bC:IsBig w6 _ V:=b4.grew k6;have aB:w.heap.size<=wr.heap.size:=k1.size;clear hV P av a3 ak a8 oz b4 hu hv k1 k2 k3 k4 G a4;obtain ⟨B0,bh⟩:∃ B0,B0=wr.heap.size:=⟨_,rfl⟩
     rw [<- bh] at a7 ci aB;obtain ⟨gq,am⟩:∃ gq,gq=w5.heap.size:=⟨_,rfl⟩
     rw [<- am] at ap cm ck;have cx:Hid (w5.heap.size=gq):=am.symm;rw [<- am];clear bh am;go_wp2_with fail;go_loopw [11] (fun jj wx=>∃ (k:Nat) (zs qs:List Nat),k<=Kq/\jj=.int .i64 ((k:Int)-1)/\Hid (zs.length=la+1)/\Digs zs 4294967296/\Hid (zs.take k=l.take k)/\Hid (val (zs.drop k) 4294967296<V)/\Hid (V*val qs 4294967296+val (zs.drop k) 4294967296=val (l.drop k) 4294967296)/\Hid (qs.length=Kq-k)/\Digs qs 4294967296 /\
       OwnN .u32 91 wx B0 (.slice (some ⟨gu,0,none⟩) (la+1) cu) (la+1) zs/\OwnN .u32 91 wx gq (.slice (some ⟨gq,0,none⟩) Kq Kq) Kq (List.replicate k 0 ++ qs)/\Kept (fun b=>b=gu\/b=gq) w6 wx) (fun jj _=>(intOf jj+1).toNat)
     case atStart=>exact ⟨Kq,l,[],leR _,rfl,ae,ad,rfl,ab,by unfold Hid;simp [val],by unfold Hid;simp,Digs.nil _,a7,by rw [dI];exact ap,aj _ _⟩
     case round=>
      clear a7 ap;obtain ⟨k,zs,qs,hk,rfl,au,a1,aT,hR,hinv,bJ,bI,oz,oq,an⟩:=hrel;cases k with
      | zero=>
       rw [gC] at hR hinv;rw [gC] at hinv;have aJ:=hinv.out;rw [bf.out,HV.out] at aJ;obtain ⟨d1,d2⟩:=Cq (n:=p+1) au.out (by omega) hM (by rw [<- HV.out];exact ay.out) (by rw [<- HV.out];exact hR.out) aJ;rw [eH,bw] at oq;have aN:qs.length=Kq:=by have:=bJ.out;omega
       have D1:Hid (val qs 4294967296=A/M):=d1;have D2:Hid (val (zs.take (p+1)) 4294967296/2^s=A%M):=d2;have b6:=fun W (hk:Kept af wr W)=>fu (.slice (some ⟨gq,0,none⟩) Kq Kq) qs W ((Row.of_own (base:=gq) (e:=91) (by rw [aN];exact oq)).grew hk) bI (by omega)
       have C:OwnN .u32 91 wr B0 (.slice (some ⟨gu,0,none⟩) (p+1) cu) (p+1) (zs.take (p+1)):=rG oz (by omega);have j2:(p:Int)+1<=(cu:Int):=by omega
       have j0:(0:Int)<=(p:Int)+1:=by omega
       have KW:Kept af w wr:=K6.next an (fun x hx h=>by rcases h with h | h <;> omega)
       clear hinv aJ hR aT d1 d2 bC bf ay a9;have o:∀ i u,((zs.take (p+1)).map fun z=>Value.int .u32 (z:Nat))[i]? = some u->wr.drew.cell? ((⟨gu,0,none⟩:Addr).add i)=some u:=World.ownsRow.cells C (g:=gu) rfl;have E:=tg .u32 (zs.take (p+1));have ao:(zs.take (p+1)).length=p+1:=by rw [aO];have:=au.out;omega
       have Y:((zs.take (p+1)).map fun z=>Value.int .u32 (z:Nat)).length=(p+1)*1:=by rw [cf,ao];omega
       have bK:=a1.take (p+1);obtain ⟨rs,aQ⟩:∃ rs,rs=zs.take (p+1):=⟨_,rfl⟩
       rw [<- aQ] at o E ao Y bK;have D3:Hid (val rs 4294967296/2^s=A%M):=by rw [aQ];exact D2
       have bb:Hid (rs.length=p+1):=ao;clear D2 aQ ao C;go_wp2_with fail;go_region_held3 (fun _=>True) (trivial)
        (first
         | (go_at_call_of 80 (Value.slice (some ⟨gq,0,none⟩) Kq Kq);refine (b6 _ ?_).mono ?_;exact (aj af wr).drew;rintro e w7 ⟨vq,rfl,bq,ct,rfl⟩)
         | (refine step_append_lies _ (by rfl) _ _ _ (by rfl) wr.heap.size 91 i0 _ 1 4 underlying76 aI aY aZ a0 rfl (by omega) (.slice none 0 0) 0 [] (by rfl) (World.ownsRow_nil _ _ _ _) ⟨gu,0,none⟩ (p+1) cu (rs.map fun z=>.int .u32 (z:Nat)) (by rfl) Y o E (by omega) (by unfold maxLen;omega) (by omega) (leR _) wr.heap.size (by simp) ?_;intro gg cg w8 bH ce b8 ch)
         | (go_at_call 80;refine (fu _ rs _ (Row.of_own (base:=wr.heap.size) (e:=91) (by rw [bb.out];rw [dz,bw] at bH;exact bH)) bK (by have:=bb.out;omega)).mono ?_;rintro e w9 ⟨vr,rfl,br,cG,rfl⟩)
         | (go_at_call 138;refine (IJ _ _ s _ br (by omega)).mono ?_;rintro e cH ⟨vs,rfl,bs,os,ks⟩))
       all_goals
        go_wp2;go_ret2;have k8:Kept af _ _:=aV ce;refine ⟨vq,vs,rfl,?_,?_,fun b hb=>?_,fun b hb=>.inr ?_,(KW.drew.trans k8).trans ks⟩
        ·rw [<- D1.out];exact (bq.grew k8).grew ks
        ·rw [<- D3.out];exact bs
        ·rw [ct] at hb;simp [Value.ownBlock] at hb;omega
        ·have h1:=os b hb;have h2:=(KW.drew.trans k8).size;omega
      | succ j=>
       have bQ:IsBig wr _ V:=bC.kept an (fun b hb h=>by simp [Value.ownBlock] at hb;omega);obtain ⟨U,hU⟩:∃ U,U=val ((zs.drop j).take (p+2)) 4294967296:=⟨_,rfl⟩
       obtain ⟨al,D⟩:=yl (n:=p+1) (j:=j) a1 au.out ae (by omega) ay.out bx hR.out aT.out hinv.out U hU;rw [hU] at al;have hG:=fun c=>FI gu B0 (la+1) cu j p c V zs _ wr oz au.out a1 (by omega) (by omega) bQ a9.out al
       rw [<- hU] at hG;obtain ⟨F,R⟩:∃ F,F=zs.take j ++ (digs (U%V) (p+1+1) 4294967296 ++ zs.drop (j+(p+1+1))):=⟨_,rfl⟩
       obtain ⟨n1,n2,n3,n4,n5⟩:=D F R;have bi:=fun c=>by
        have h:=hG c;rw [<- R] at h;exact h
       have cr:U/V<4294967296:=by rw [cj bx,aF,hU];exact al
       have N1:Hid (F.length=la+1):=n1;have N3:Hid (F.take j=l.take j):=n3;have N4:Hid (val (F.drop j) 4294967296<V):=n4;have N5:Hid (V*val (U/V :: qs) 4294967296+val (F.drop j) 4294967296=val (l.drop j) 4294967296):=n5;clear hU R hG D n1 n3 n4 n5 al hinv aT hR bQ;generalize U/V=Q at *;have j1:(0:Int)<=(j:Int):=bY _;have j2:(j:Int)+((p:Int)+1)+1<=(cu:Int):=by omega
       have j3:(j:Int)<(Kq:Int):=by omega
       have jl:j+(p+1)+1-j=p+2:=by omega
       go_wp2_with fail;refine (bi _).mono ?_;rintro e w7 ⟨rfl,bT,kg⟩;have aw:OwnN .u32 91 w7 gq (.slice (some ⟨gq,0,none⟩) Kq Kq) Kq (List.replicate (j+1) 0 ++ qs):=kg.own oq (fun b hb h=>by simp [Value.ownBlock] at hb;omega);have bD:w7.cell? ⟨gq,j,none⟩=some (.int .u32 0):=by
        rw [World.ownsRow.cellAt aw j (by omega),bu,gD (by simp),ee,ah (by omega)];rfl
       have hf:=World.ownsRow.frozenAt aw j;have aR:=fun u=>(World.ownsRow.stored aw j u).1
       have cw:=fun u=>ownsRow_setCell_other bT (a:=⟨gq,j,none⟩) (by simp [Value.ownBlock];omega) u
       have cn:Kept (fun b=>b=gu\/b=gq) w6 w7:=an.trans (kg.mono (fun _ _ h=>.inl h));clear oz oq bi an kg bT aw;go_wp2;go_roundw
       case rel=>
        refine ⟨j,F,Q :: qs,by omega,by go_num,N1,n2,N3,N4,N5,by unfold Hid;rw [cI,bJ.out];omega,fun y hy=>?_,cw _,?_,cn.setCell _ (fun _=>.inr rfl) _⟩
        ·rcases fC.1 hy with h | h
         ·omega
         ·exact bI y h
        ·unfold OwnN;rw [<- vJ,bZ];exact aR _
       case measure=>simp [intOf]

def bes (V n:Nat):Nat->List Nat
 | 0=>[]
 | i+1=>bes V n i ++ [dig V (n-1-i) 256]

theorem cV (V n:Nat):∀ i,(bes V n i).length=i
 | 0=>rfl
 | i+1=>by simp [bes,cV V n i]

theorem oQ (V n:Nat):∀ i,Digs (bes V n i) 256
 | 0=>Digs.nil _
 | i+1=>(oQ V n i).append (Digs.one (ay _ (by omega)))

theorem Aa (V j:Nat):dig V (j/4) 4294967296/2^(j%4*8)%256=dig V j 256:=by
 unfold dig;have e:(4294967296:Nat)^(j/4)=256^(4*(j/4)):=by rw [bh]
 have e0:(2:Nat)^(j%4*8)=256^(j%4):=by rw [aF,bh]
 have e3:(256:Nat)^j=256^(4*(j/4))*256^(j%4):=by rw [<- aN];congr 1;omega
 rw [e,e0,e3,<- cK];generalize V/256^(4*(j/4))=x;have h:j%4=0\/j%4=1\/j%4=2\/j%4=3:=by omega
 rcases h with h | h | h | h <;> rw [h] <;> omega

theorem zi (V n k:Nat) (h:k<n):(bes V n k ++ List.replicate (n-k) 0).set k (dig V (n-1-k) 256)=bes V n (k+1) ++ List.replicate (n-(k+1)) 0:=by
 rw [gH _ _ (by rw [cV];omega),cV,bJ,bes,show n-k=(n-(k+1))+1 by omega,iZ];simp

theorem Tryz.info5:(prog.info? 5).map (fun i=>(i.zero,i.size,i.bytes))=some (some (.int .u8 0),1,1):=by kernel_rfl

theorem Bi (v:Value) (V n:Nat) (w:World) (h:IsBig w v V) (hn:n<=1000000000) :
  Calls prog 37 #[v,.int .i64 n] w fun r w'=>∃ v',r=.returned v'/\Row .u8 w' v' (bes V n n)/\v'.ownBlock=some w.heap.size/\Kept af w w':=by
 obtain ⟨i0,g,o,p,q⟩:=info_parts Tryz.info5;obtain ⟨ds,hr,hd,_,rfl,_⟩:=h;have HD:=fun i W (hk:Kept af w W)=>nI v ds i W (hr.grew hk)
 have hV:∀ i,ds.getD i 0=dig (val ds 4294967296) i 4294967296:=fun i=>(cS (by omega) hd i).symm
 have hlt:∀ i,dig (val ds 4294967296) i 4294967296<4294967296:=fun i=>ay _ (by omega)
 simp only [hV] at HD;clear hr hd hV;generalize val ds 4294967296=V at *;have hm:max (n:Int) 0=(n:Int):=by omega
 go_enter func37,ntmps37;go_wp2_with (at_make;refine wpList_make_full _ rfl _ _ 27 rfl w.heap.size 5 i0 _ 1 underlying27 g o p _ _ _ _ n rfl rfl rfl rfl (by rw [q];omega) (by unfold maxLen;omega) (leR _) ?_;intro w1 b f);rw [bg] at b;have k1:=aV f;go_loopw [13] (fun i wr=>∃ k:Nat,k<=n/\i=.int .i64 k/\OwnN .u8 5 wr w.heap.size (.slice (some ⟨w.heap.size,0,none⟩) n n) n (bes V n k ++ List.replicate (n-k) 0)/\Kept af w wr) (fun i _=>n-(intOf i).toNat)
 case atStart=>exact ⟨0,aP _,rfl,by rw [show bes V n 0=[] from rfl,bw,dK];exact b,k1⟩
 case round=>
  clear b f k1;obtain ⟨k,hk,rfl,ho,a⟩:=hrel;by_cases hkn:k<n
  ·have l:(k:Int)<(n:Int):=by omega
   have hc:wr.cell? ⟨w.heap.size,k,none⟩=some (.int .u8 0):=by
    rw [World.ownsRow.cellAt ho k (by omega),bu,ig (by rw [cV];omega),cV,bJ,ee,ah (by omega)];rfl
   have hf:=World.ownsRow.frozenAt ho k;have m:=fun u=>(World.ownsRow.stored ho k u).1
   obtain ⟨j,hj⟩:∃ j,j=n-1-k:=⟨_,rfl⟩
   have hJ:(n:Int)-1-(k:Int)=(j:Int):=by omega
   have HF:Hid ((bes V n k ++ List.replicate (n-k) 0).set k (dig V j 256)=bes V n (k+1) ++ List.replicate (n-(k+1)) 0):=by unfold Hid;rw [hj];exact zi V n k hkn
   have s:j<=1000000000:=by omega
   clear hj;have hD:=HD (j/4) wr a;rw [show ((j/4:Nat):Int)=(j:Int)/4 by omega] at hD;have hl:=hlt (j/4);have c:=Aa V j;clear HD hlt;generalize dig V (j/4) 4294967296=d at *;have e1:(d:Int)/2^(j%4*8)=((d/2^(j%4*8):Nat):Int):=by simp
   have HB:Hid ((d:Int)/2^(j%4*8)%256=((dig V j 256:Nat):Int)):=by unfold Hid;rw [e1,<- c];omega
   clear e1 c;go_wp2_with fail;refine hD.mono ?_;rintro e w' ⟨rfl,rfl⟩;go_wp2;rw [HB.out];go_roundw
   case rel=>
    refine ⟨k+1,by omega,by go_num,?_,a.setCell _ (fun h=>by simp at h) _⟩;unfold OwnN;rw [<- HF.out,bZ];exact m _
   case measure=>simp [intOf];omega
  ·have l:¬ (k:Int)<(n:Int):=by omega
   have e:k=n:=by omega
   subst e;rw [bJ,eH,dI] at ho;clear HD hlt;go_wp2;go_ret;exact ⟨_,rfl,Row.of_own (by rw [cV];exact ho),rfl,a⟩

def bev (l:List Nat):Nat:=l.foldl (fun a b=>a*256+b) 0

theorem mD (l:List Nat) (b:Nat):bev (l ++ [b])=bev l*256+b:=by simp [bev]

theorem lP {l:List Nat} {i:Nat} (h:i<l.length):bev (l.take (i+1))=bev (l.take i)*256+l.getD i 0:=by
 rw [ox h,mD,aA,aQ h];rfl

theorem xQ {B:Nat}:∀ {l:List Nat} {i d:Nat},i<l.length->val (l.set i (l.getD i 0+d)) B=val l B+B^i*d
 | x :: r,0,d,_=>by simp [val];omega
 | x :: r,i+1,d,h=>by
  have ih:=xQ (B:=B) (l:=r) (i:=i) (d:=d) (by simpa using h);simp only [lsS,val,List.getD_cons_succ,ih,aJ,aH];rw [aF (B^i) B,bf];omega

theorem uu (T k:Nat):dig (T*256^(k+1)) (k/4) 4294967296=T*256^(k%4+1)%4294967296:=by
 unfold dig;have e:(256:Nat)^(k+1)=256^(k%4+1)*4294967296^(k/4):=by
  rw [show (4294967296:Nat)^(k/4)=256^(4*(k/4)) from by rw [bh],<- aN]
  congr 1;omega
 rw [e,<- bf,Nat.mul_div_cancel _ (aC (by omega))]

theorem Cy (T k b:Nat) (hb:b<256):bits .or .u32 ((T*256^(k%4+1)%4294967296:Nat):Int) (IntKind.u32.wrap ((b:Int)*2^(k%4*8)))=((T*256^(k%4+1)%4294967296+b*256^(k%4):Nat):Int) /\
  T*256^(k%4+1)%4294967296+b*256^(k%4)<4294967296:=by
 have h:k%4=0\/k%4=1\/k%4=2\/k%4=3:=by omega
 have a:∀ (r:Nat) (x y:Nat),x%2^r=0->y<2^r->x+y<4294967296->bits .or .u32 (x:Int) (y:Int)=((x+y:Nat):Int):=fun r x y h1 h2 h3=>by
  rw [u32_or_nat x y (by omega) (by omega),nat_join r x y h1 h2]
 rcases h with h | h | h | h <;> rw [h] <;> simp only [dz,Nat.reduceAdd,Nat.reducePow,Nat.reduceMul,ja,Int.reducePow,cw,jG,bD,Int.mul_one,Int.pow_zero]
 ·refine ⟨?_,by omega⟩;rw [IntKind.wrap_u32',show (b:Int)%4294967296=(b:Int) by omega];exact a 8 _ _ (by omega) (by omega) (by omega)
 ·refine ⟨?_,by omega⟩;rw [IntKind.wrap_u32',show (b:Int)*256%4294967296=((b*256:Nat):Int) by omega];exact a 16 _ _ (by omega) (by omega) (by omega)
 ·refine ⟨?_,by omega⟩;rw [IntKind.wrap_u32',show (b:Int)*65536%4294967296=((b*65536:Nat):Int) by omega];exact a 24 _ _ (by omega) (by omega) (by omega)
 ·refine ⟨?_,by omega⟩;rw [IntKind.wrap_u32',show (b:Int)*16777216%4294967296=((b*16777216:Nat):Int) by omega];exact a 32 _ _ (by omega) (by omega) (by omega)

theorem yy {zs:List Nat} {T k b n i:Nat} (hk:n=i+1+k) (hd:Digs zs 4294967296) (hl:k/4<zs.length) (hv:val zs 4294967296=T*256^(n-i)) :
  zs.getD (k/4) 0=T*256^(k%4+1)%4294967296/\val (zs.set (k/4) (zs.getD (k/4) 0+b*256^(k%4))) 4294967296=(T*256+b)*256^(n-(i+1)):=by
 have e1:n-i=k+1:=by omega
 have e2:n-(i+1)=k:=by omega
 rw [e1] at hv;refine ⟨by rw [<- cS (by omega) hd,hv,uu],?_⟩;rw [xQ hl,hv,e2,cJ,aH];have e3:4294967296^(k/4)*(b*256^(k%4))=b*256^k:=by
  rw [show (4294967296:Nat)^(k/4)=256^(4*(k/4)) from by rw [bh],gO,<- aN]
  congr 2;omega
 rw [e3,bf,aF 256]

theorem uT (v:Value) (bs:List Nat) (w:World) (h:Row .u8 w v bs) (hd:Digs bs 256) (hl:bs.length<=100000000) :
  Calls prog 74 #[v] w fun r w'=>∃ v',r=.returned v'/\IsBig w' v' (bev bs)/\(∀ b,v'.ownBlock=some b->w.heap.size<=b)/\Kept af w w':=by
 obtain ⟨i0,t,C,D,E⟩:=info_parts Tryz.info91;obtain ⟨ao,n,F,rfl,hN,_,_,_,h4⟩:=h.open;rw [hN.out] at hl;have xb:=fun i=>hd.getD (by omega) i
 clear h hd;obtain ⟨m,hm⟩:∃ m,m=(n+3)/4:=⟨_,rfl⟩
 have I:((n:Int)+3)/4=(m:Int):=by omega
 have L:4*m≥n:=by omega
 have J:m<=100000000:=by omega
 clear hm;go_enter func74,ntmps74;go_wp2_with (at_make;refine wpList_make_full _ rfl _ _ 76 rfl w.heap.size 91 i0 _ 1 underlying76 t C D _ _ _ _ m rfl rfl (by first | rfl | omega) (by first | rfl | omega) (by rw [E];omega) (by unfold maxLen;omega) (leR _) ?_;intro w1 f q);rw [bg] at f;have k1:=aV q;go_loopw [13] (fun i wr=>∃ (k:Nat) (zs:List Nat),k<=n/\i=.int .i64 k/\Hid (zs.length=m)/\Digs zs 4294967296/\Hid (val zs 4294967296=bev (bs.take k)*256^(n-k))/\OwnN .u32 91 wr w.heap.size (.slice (some ⟨w.heap.size,0,none⟩) m m) m zs/\Kept af w wr) (fun i _=>n-(intOf i).toNat)
 case atStart=>exact ⟨0,List.replicate m 0,aP _,rfl,be,(fun d hd=>by simp at hd;omega),by unfold Hid;rw [ep _ (fun d hd=>by simp at hd;exact hd.2)];simp [bev],f,k1⟩
 case round=>
  clear f q k1;obtain ⟨i,zs,hk,rfl,a,g,l,ho,c⟩:=hrel;by_cases hkn:i<n
  ·have x:(i:Int)<(n:Int):=by omega
   obtain ⟨b,off,rfl,p⟩:=(h4 i hkn).grew c;have s:=xb i;have HT:Hid (bev (bs.take (i+1))=bev (bs.take i)*256+bs.getD i 0):=lP (by have:=hN.out;omega);clear xb h4;generalize bs.getD i 0=y at *;obtain ⟨j,hj⟩:∃ j,j=n-1-i:=⟨_,rfl⟩
   have hJ:(n:Int)-1-(i:Int)=(j:Int):=by omega
   have G:j/4<m:=by omega
   obtain ⟨f1,f2⟩:=yy (b:=y) (show n=i+1+j by omega) g (by have:=a.out;omega) l.out;rw [<- HT.out] at f2;obtain ⟨o1,o2⟩:=Cy (bev (bs.take i)) j y s;rw [<- f1] at o1 o2;have hc:wr.cell? ⟨w.heap.size,j/4,none⟩=some (.int .u32 ((zs.getD (j/4) 0:Nat):Int)):=by
    rw [World.ownsRow.cellAt ho (j/4) (by omega),bu,aA,aQ (by have:=a.out;omega)];rfl
   have hf:=World.ownsRow.frozenAt ho (j/4);have B:=fun u=>(World.ownsRow.stored ho (j/4) u).1
   have F2:Hid (val (zs.set (j/4) (zs.getD (j/4) 0+y*256^(j%4))) 4294967296=bev (bs.take (i+1))*256^(n-(i+1))):=f2;have H:j<=1000000000:=by omega
   clear f1 f2 hj HT l;generalize zs.getD (j/4) 0=z at *;generalize z+y*256^(j%4)=Z at *;rw [IntKind.wrap_u32'] at o1;have O1:Hid (bits .or .u32 (z:Int) ((y:Int)*2^(j%4*8)%4294967296)=(Z:Int)):=o1;clear o1;have j1:(0:Int)<=(j:Int)/4:=by omega
   have j2:(j:Int)/4<(m:Int):=by omega
   have j3:((j:Int)/4).toNat=j/4:=by omega
   go_wp2_with fail;go_region
   all_goals
    go_wp2;rw [O1.out];go_roundw
    case rel=>
     refine ⟨i+1,zs.set (j/4) Z,by omega,by go_num,by unfold Hid;rw [lj];exact a.out,?_,F2,?_,(c.setCell _ (fun h=>by simp at h) _).drew⟩
     ·intro d hd;rcases mq hd with h | h
      ·exact g d h
      ·omega
     ·unfold OwnN;rw [bZ];exact B _
    case measure=>simp [intOf];omega
  ·have x:¬ (i:Int)<(n:Int):=by omega
   have hv:val zs 4294967296=bev bs:=by
    rw [l.out,show n-i=0 by omega,dJ (by have:=hN.out;omega)];simp
   have hr:Row .u32 wr _ zs:=Row.of_own (base:=w.heap.size) (e:=91) (by rw [a.out];exact ho);have ht:=fu _ _ _ hr g (by have:=a.out;omega);rw [hv] at ht;clear xb h4 hv hr;go_wp2_with fail;refine ht.mono ?_;rintro e w' ⟨v',rfl,hb,A,rfl⟩;go_wp2;go_ret;exact ⟨v',rfl,hb,fun b o=>by rw [A] at o;exact (ho.lt b o).1,c⟩

def si (V:Nat) (i:Int):Nat:=if i<0 then 0 else V/2^i.toNat%2

theorem jS (V j:Nat):si V (j:Int)=V/2^j%2:=by
 unfold si;rw [ai (by omega),Int.toNat_natCast]

theorem Ch (V j:Nat):dig V (j/32) 4294967296/2^(j%32)%2=V/2^j%2:=by
 unfold dig;have e:(4294967296:Nat)^(j/32)=2^(32*(j/32)):=by rw [bh]
 have e3:(2:Nat)^j=2^(32*(j/32))*2^(j%32):=by rw [<- aN];congr 1;omega
 rw [e,e3,<- cK];generalize V/2^(32*(j/32))=x;have e4:(4294967296:Nat)=2^(j%32)*2^(32-j%32):=by
  rw [<- aN,show j%32+(32-j%32)=32 by omega]
 rw [e4,Nat.mod_mul_right_div_self];have hd:2 ∣ 2^(32-j%32):=⟨2^(31-j%32),by rw [<- j9,show (31-j%32).succ=32-j%32 by omega]⟩
 exact Nat.mod_mod_of_dvd _ hd

theorem ye {ds:List Nat} (hd:Digs ds 4294967296) (j:Nat) (h:ds.length<=j/32):val ds 4294967296/2^j%2=0:=by
 have h1:=aE (by omega) hd;have h2:(4294967296:Nat)^ds.length<=2^j:=by
  have e:(4294967296:Nat)^ds.length=2^(32*ds.length):=by rw [bh]
  rw [e];exact aY (by omega) (by omega)
 rw [bj (by omega)]

theorem Hx (v:Value) (V:Nat) (i:Int) (w:World) (h:IsBig w v V) (hi:i<=9223372036854775807) :
  Calls prog 79 #[v,.int .i64 i] w fun r w'=>r=.returned (.int .u64 (si V i:Nat))/\w'=w:=by
 obtain ⟨ds,hr,hd,_,rfl,hl⟩:=h;have hV:∀ i,ds.getD i 0=dig (val ds 4294967296) i 4294967296:=fun i=>(cS (by omega) hd i).symm
 obtain ⟨ao,n,c,rfl,hN,_,_,_,h4⟩:=hr.open;rw [hN.out] at hl;by_cases hneg:i<0
 ·have e:si (val ds 4294967296) i=0:=by unfold si;rw [ah hneg]
  rw [e];clear h4 hr hd hV e;go_enter func79,ntmps79;go_wp2;go_ret;exact ⟨rfl,rfl⟩
 ·obtain ⟨j,rfl⟩:=dY (show 0<=i by omega);rw [jS];by_cases hj:j/32<n
  ·obtain ⟨b,off,rfl,hc⟩:=h4 (j/32) hj;have hb:=Ch (val ds 4294967296) j;rw [<- hV] at hb;rw [<- hb];have hx:ds.getD (j/32) 0<4294967296:=hd.getD (by omega) _;clear h4 hr hd hV hb;generalize ds.getD (j/32) 0=x at *;have g1:(j:Int)/32<(n:Int):=by omega
   have g2:(0:Int)<=(j:Int)/32:=by omega
   have g3:((j:Int)/32).toNat=j/32:=by omega
   go_enter func79,ntmps79;have hy:=ew x (2^(j%32));have a:Hid (IntKind.u64.wrap (bits .and .u32 ((x:Int)/2^(j%32)) 1)=((x/2^(j%32)%2:Nat):Int)):=by
    unfold Hid;have e:(x:Int)/2^(j%32)=((x/2^(j%32):Nat):Int):=by simp
    have h1:=u32_and_nat (x/2^(j%32)) 1 (by omega) (by omega);rw [nat_mask1] at h1;rw [e,show (1:Int)=((1:Nat):Int) from rfl,h1,IntKind.wrap_u64];omega
   clear hy;generalize x/2^(j%32)%2=R at *;go_wp2;go_ret;refine ⟨?_,rfl⟩;show Ending.returned (Value.int .u64 (IntKind.u64.wrap (bits .and .u32 ((x:Int)/2^(j%32)) 1)))=_
   rw [a.out]
  ·have g1:¬ (j:Int)/32<(n:Int):=by omega
   rw [ye hd j (by have:=hN.out;omega)];clear h4 hr hd hV;go_enter func79,ntmps79;go_wp2;go_ret;exact ⟨rfl,rfl⟩

def aM (V:Nat):Nat:=if V=0 then 0 else Nat.log2 V+1

theorem aX (V n:Nat):aM V<=n↔V<2^n:=by
 unfold aM;by_cases h:V=0
 ·subst h;simp [aC]
 ·rw [ai h];have:=Nat.log2_lt (n:=V) (k:=n) h;omega

theorem yf {V k:Nat} (h:V<2^(k+1)) (hb:V/2^k%2=0):V<2^k:=by
 have h1:V/2^k<2:=by rw [cj (aC (by omega))];rw [aH] at h;omega
 have h2:V/2^k=0:=by
  generalize V/2^k=q at *;omega
 rcases jE V (2^k) with h3 | h3
 ·exact h3
 ·have:=(Nat.div_pos_iff).2 ⟨aC (n:=k) (show 0<2 by omega),h3⟩;omega

theorem zU {V k:Nat} (h:V<2^(k+1)) (hb:V/2^k%2≠0):aM V=k+1:=by
 have h1:=(aX V (k+1)).2 h;have h2:¬ aM V<=k:=fun hk=>by
  have:=(aX V k).1 hk;rw [bj this] at hb;exact hb rfl
 omega

theorem rL (v:Value) (V:Nat) (w:World) (h:IsBig w v V) :
  Calls prog 44 #[v] w fun r w'=>r=.returned (.int .i64 (aM V:Nat))/\w'=w:=by
 have HB:=fun j (hj:j<=100000000000)=>Hx v V ((j:Nat):Int) w h (by omega)
 obtain ⟨ds,hr,hd,_,rfl,hl⟩:=h;have hlt:=aE (by omega) hd;obtain ⟨ao,n,b,rfl,hN,_,_,_,_⟩:=hr.open;rw [hN.out] at hl hlt;have a:Hid (val ds 4294967296<2^(32*n)):=by unfold Hid;rw [bh];exact hlt
 clear hr hlt hd;generalize val ds 4294967296=V at *;go_enter func44,ntmps44;go_wp2_with fail;go_loop [3] (fun i=>∃ k:Nat,k<=32*n/\i=.int .i64 k/\Hid (V<2^k)) (fun i=>(intOf i).toNat)
 case atStart=>exact ⟨32*n,leR _,by go_num,a⟩
 case round=>
  obtain ⟨k,hk,rfl,hV⟩:=hrel;cases k with
  | zero=>
   have e:Hid (aM V=0):=by
    have:=hV.out;have h0:V=0:=by simpa using this
    unfold Hid;rw [h0];rfl
   clear HB;go_wp2;go_ret;rw [e.out];exact ⟨rfl,rfl⟩
  | succ j=>
   have hB:=HB j (by omega);rw [jS] at hB;clear HB;by_cases hb:V/2^j%2=0
   ·have hz:Hid (V<2^j):=yf hV.out hb;rw [hb] at hB;clear hb hV a;go_wp2_with fail;refine hB.mono ?_;rintro e w' ⟨rfl,rfl⟩;go_wp2;go_round
    case rel=>exact ⟨j,by omega,by go_num,hz⟩
    case measure=>simp [intOf]
   ·have hz:Hid (aM V=j+1):=zU hV.out hb;have h1:V/2^j%2=1:=by omega
    rw [h1] at hB;clear hb hV a h1;go_wp2_with fail;refine hB.mono ?_;rintro e w' ⟨rfl,rfl⟩;go_wp2;go_ret;rw [hz.out];exact ⟨rfl,rfl⟩

def dF (V:Nat) (n:Int):Int:=if 300<n then 2 else if n<0\/n.toNat<ar V then 1 else 0

def ei (V:Nat) (n:Int):List Nat:=if dF V n=0 then digs V n.toNat else []

theorem tz {V:Nat} {n:Int} (h:300<n):dF V n=2/\ei V n=[]:=by
 have e:dF V n=2:=ah h;exact ⟨e,by unfold ei;rw [ai (by rw [e];decide)]⟩

theorem lH {V:Nat} {n:Int} (h:¬ 300<n) (h2:n<0\/n.toNat<ar V):dF V n=1/\ei V n=[]:=by
 have e:dF V n=1:=by unfold dF;rw [ai h,ah h2]
 exact ⟨e,by unfold ei;rw [ai (by rw [e];decide)]⟩

theorem rP {V n:Nat} (h:n<=300) (h2:ar V<=n):dF V (n:Int)=0/\ei V (n:Int)=digs V n:=by
 have e:dF V (n:Int)=0:=by unfold dF;rw [ai (by omega),ai (by simp;omega)]
 exact ⟨e,by unfold ei;rw [ah e,Int.toNat_natCast]⟩

def ji (n:Int):Nat:=(min (max n 1) 300).toNat

theorem Cj {w:World} {v:Value} {V:Nat} (h:IsBig w v V):aM V<=32000000000:=by
 obtain ⟨ds,_,hd,_,rfl,hl⟩:=h;have h1:=aE (by omega) hd;have e:(4294967296:Nat)^ds.length=2^(32*ds.length):=by rw [bh]
 rw [e] at h1;have:=(aX _ _).2 h1;omega

attribute [local go_sem ↓] Go.wp_at_zero Go.wp_at_succ

theorem FJ (u v:Value) (A M:Nat) (w:World) (hu:IsBig w u A) (hv:IsBig w v M) (hM:0<M) (a:dj A<=10000000) :
  Calls prog 77 #[u,v] w fun r w'=>∃ v',r=.returned v'/\IsBig w' v' (A%M)/\(∀ b,v'.ownBlock=some b->u.ownBlock=some b\/w.heap.size<=b)/\Kept af w w':=by
 have hD:=Du u v A M w hu hv hM a;clear hu hv hM a;go_enter func77,ntmps77;go_wp2_with fail;refine hD.mono ?_;rintro e w1 ⟨v1,v2,rfl,b1,b2,o1,o2,k⟩;go_wp2;go_ret;exact ⟨v2,rfl,b2,o2,k⟩

theorem xA (u v m:Value) (A B M:Nat) (w:World) (hu:IsBig w u A) (hv:IsBig w v B) (hm:IsBig w m M) (hM:0<M) (a:dj A<=100000000) (c:dj B<=100000000) (d:dj (A*B)<=10000000) :
  Calls prog 78 #[u,v,m] w fun r w'=>∃ v',r=.returned v'/\IsBig w' v' (A*B%M)/\(∀ b,v'.ownBlock=some b->w.heap.size<=b)/\Kept af w w':=by
 have hD:=Hy u v A B w hu hv a c;clear hu hv a c;go_enter func78,ntmps78;go_wp2_with fail;refine hD.mono ?_;rintro e w1 ⟨v1,rfl,b1,o1,k1⟩;go_wp2_with fail;refine (FJ v1 m (A*B) M w1 b1 (hm.grew k1) hM d).mono ?_;rintro e w2 ⟨v2,rfl,b2,o2,k2⟩;go_wp2;go_ret;exact ⟨v2,rfl,b2,fun b hb=>(o2 b hb).elim (fun h=>o1 b h) (fun h=>aR k1.size h),k1.trans k2⟩

attribute [local go_sem ↓] Go.wp_at_zero Go.wp_at_succ

def cellN (w:World) (a:Addr):Nat:=
 match w.cell? a with
 | some (.int _ z)=>z.toNat
 | _=>0

theorem IsBig.length {w:World} {v:Value} {V:Nat} (h:IsBig w v V):∃ ao n a,v=.slice ao n a/\Hid (n=dj V)/\n<=1000000000:=by
 obtain ⟨ds,h1,h2,h3,h4,h5⟩:=h;obtain ⟨ao,n,a,e,hN,_⟩:=h1.open;refine ⟨ao,n,a,e,?_,by rw [<- hN.out];exact h5⟩;have:=fq h2 h3;rw [h4] at this;unfold Hid;rw [<- this,hN.out]

attribute [local go_sem ↓] Go.wp_at_zero Go.wp_at_succ

theorem oW (A B:Nat):dj (A*B)<=dj A+dj B:=by
 have h1:=(eI A _).1 (leR _);have h2:=(eI B _).1 (leR _);refine (eI _ _).2 ?_;rw [aN];exact Nat.mul_lt_mul'' h1 h2

theorem nn (A M:Nat) (hM:0<M):dj (A%M)<=dj M:=nj (fE (ay _ hM))

theorem Ah (A E M j:Nat) (hb:E/2^j%2=0):(A^(E/2^(j+1))%M)*(A^(E/2^(j+1))%M)%M=A^(E/2^j)%M:=by
 rw [<- eh,<- aN];have:E/2^(j+1)=E/2^j/2:=by rw [aH,<- cK]
 rw [this];generalize E/2^j=q at *;rw [show q/2+q/2=q by omega]

theorem Cv (A E M j:Nat) (hb:E/2^j%2=1):((A^(E/2^(j+1))%M)*(A^(E/2^(j+1))%M)%M)*(A%M)%M=A^(E/2^j)%M:=by
 rw [<- eh (A^(E/2^(j+1))) (A^(E/2^(j+1))) M,<- eh,<- aN,<- aH];have:E/2^(j+1)=E/2^j/2:=by rw [aH,<- cK]
 rw [this];generalize E/2^j=q at *;rw [show (q/2+q/2).succ=q by omega]

theorem Dv (u x m:Value) (A E M:Nat) (w:World) (hu:IsBig w u A) (hx:IsBig w x E) (hm:IsBig w m M) (hM:0<M) (t:dj A<=10000000) (l:dj M<=1000000) :
  Calls prog 38 #[u,x,m] w fun r w'=>∃ v',r=.returned v'/\IsBig w' v' (A^E%M)/\(∀ b,v'.ownBlock=some b->w.heap.size<=b)/\Kept af w w':=by
 have hS:=rM 1 (by omega) w;have C:=Cj hx;have hB:=fun W (hk:Kept af w W)=>rL x E W (hx.grew hk)
 have q:dj 1<=10000000:=aR ((eI 1 1).2 (by omega)) (by omega);go_enter func38,ntmps38;go_wp2_with fail;refine hS.mono ?_;rintro e w1 ⟨v1,rfl,b1,o1,k1⟩;clear hS;go_wp2_with fail;refine (FJ v1 m 1 M w1 b1 (hm.grew k1) hM q).mono ?_;rintro e w2 ⟨v2,rfl,b2,o2,k2⟩;have f:=k1.trans k2;have y:∀ b,v2.ownBlock=some b->w.heap.size<=b:=fun b hb=>(o2 b hb).elim (o1 b) (fun h=>aR k1.size h)
 clear b1 o1 k1 o2 k2 q;go_wp2_with fail;refine (FJ u m A M w2 (hu.grew f) (hm.grew f) hM t).mono ?_;rintro e w3 ⟨v3,rfl,b3,o3,k3⟩;have v:=f.trans k3;have g:=b2.grew k3;clear b2 f k3 o3 hu t;go_wp2_with fail;refine (hB _ v).mono ?_;rintro e w4 ⟨rfl,rfl⟩;clear hB;have p:Hid (1%M=A^(E/2^aM E)%M):=by
  unfold Hid;rw [bj ((aX E _).1 (leR _)),cw]
 obtain ⟨bl,a⟩:∃ bl,bl=aM E:=⟨_,rfl⟩
 rw [<- a] at C p;rw [<- a];clear a;rw [p.out] at g;clear p;go_wp2_with fail;go_loopw [7,8] (fun o i wr=>∃ k:Nat,k<=bl/\i=.int .i64 ((k:Int)-1)/\IsBig wr o (A^(E/2^k)%M)/\Hid (∀ b,o.ownBlock=some b->w.heap.size<=b)/\Kept af w4 wr) (fun _ i _=>(intOf i+1).toNat)
 case atStart=>exact ⟨bl,leR _,by go_num,g,y,aj _ _⟩
 case round=>
  clear g y;obtain ⟨k,hk,rfl,ho,D,d⟩:=hrel;have KW:=v.trans d;cases k with
  | zero=>
   rw [cw,eX] at ho;go_wp2;go_ret;exact ⟨_,rfl,ho,D.out,KW⟩
  | succ j=>
   obtain ⟨P,hP⟩:∃ P,P=A^(E/2^(j+1))%M:=⟨_,rfl⟩
   rw [<- hP] at ho;have B:dj P<=1000000:=by rw [hP];exact aR (nn _ _ hM) l
   have z:=oW P P;have c:=fun W (hk:Kept af w W)=>Hx x E (j:Int) W (hx.grew hk) (by omega)
   rw [jS] at c;have s:=xA _ _ m P P M wr ho ho (hm.grew KW) hM (by omega) (by omega) (by omega);have H:dj (P*P%M)<=1000000:=aR (nn _ _ hM) l;have G:dj (A%M)<=1000000:=aR (nn _ _ hM) l;have F:=oW (P*P%M) (A%M);have n:dj (P*P%M*(A%M))<=10000000:=by omega
   clear z F B;by_cases hb:E/2^j%2=0
   ·have hz:Hid (P*P%M=A^(E/2^j)%M):=by unfold Hid;rw [hP];exact Ah A E M j hb
    rw [hb] at c;clear hb hP ho;go_wp2_with fail;refine s.mono ?_;rintro e w5 ⟨v5,rfl,b5,o5,k5⟩;go_wp2_with fail;refine (c _ (KW.trans k5)).mono ?_;rintro e w6 ⟨rfl,rfl⟩;go_wp2;go_roundw
    case rel=>exact ⟨j,by omega,by go_num,by rw [<- hz.out];exact b5,fun b hb=>aR KW.size (o5 b hb),d.trans k5⟩
    case measure=>simp [intOf]
   ·have h1:E/2^j%2=1:=by omega
    have hz:Hid (P*P%M*(A%M)%M=A^(E/2^j)%M):=by unfold Hid;rw [hP];exact Cv A E M j h1
    rw [h1] at c;clear hb hP ho h1;go_wp2_with fail;refine s.mono ?_;rintro e w5 ⟨v5,rfl,b5,o5,k5⟩;go_wp2_with fail;refine (c _ (KW.trans k5)).mono ?_;rintro e w6 ⟨rfl,rfl⟩;go_wp2_with fail;refine (xA v5 v3 m (P*P%M) (A%M) M w6 b5 (b3.grew (d.trans k5)) (hm.grew (KW.trans k5)) hM (by omega) (by omega) n).mono ?_;rintro e w7 ⟨v7,rfl,b7,o7,k7⟩;go_wp2;go_roundw
    case rel=>exact ⟨j,by omega,by go_num,by rw [<- hz.out];exact b7,fun b hb=>aR (KW.trans k5).size (o7 b hb),(d.trans k5).trans k7⟩
    case measure=>simp [intOf]

attribute [local go_sem ↓] Go.wp_at_zero Go.wp_at_succ

theorem EI {w:World} {v:Value} {X:Nat} (h:IsBig w v X) (hX:0<X):∃ b off n a d,v=.slice (some ⟨b,off,none⟩) n a/\0<n/\w.cell? ⟨b,off,none⟩=some (.int .u32 ((d:Nat):Int))/\d%2=X%2/\d<4294967296:=by
 obtain ⟨ds,hr,hd,_,rfl,_⟩:=h;cases ds with
 | nil=>simp [val] at hX
 | cons d ds=>
  obtain ⟨ao,n,a,rfl,hL,_,_,_,h4⟩:=hr.open;have hn:0<n:=by rw [<- hL.out];simp
  obtain ⟨b,off,rfl,hc⟩:=h4 0 hn;refine ⟨b,off,n,a,d,rfl,hn,by simpa using hc,?_,hd d (by simp)⟩;simp only [val];omega

theorem zT {w:World} {v:Value} {V:Nat} (h:IsBig w v V):aM V<=100000000000:=by
 obtain ⟨ds,_,hd,_,rfl,hl⟩:=h;have h1:=aE (B:=4294967296) (by omega) hd;have h2:aM (val ds 4294967296)<=32*ds.length:=(aX _ _).2 (by rw [bh];exact h1);omega

def fw (X:Nat):Nat:=(aM X+7)/8

theorem Dt (v:Value) (xs:List Nat) (w:World) (hu:Row .u64 w v xs) (a:Digs xs) (hL:xs.length<=100000000) :
  Calls prog 75 #[v] w fun e w'=>e=.returned (.int .i64 (fw (val xs):Nat))/\Kept af w w':=by
 have h1:=rOf v xs w hu a hL;obtain ⟨ao,L,d,rfl,-,-,-,-,-⟩:=hu.open;clear hu;go_enter func75,ntmps75;go_wp2_with fail;refine h1.mono ?_;rintro e w1 ⟨v1,rfl,b1,_,k1⟩;have h2:=rL v1 _ w1 b1;have hb:=zT b1;obtain ⟨t,ht⟩:∃ t,t=aM (val xs):=⟨_,rfl⟩
 obtain ⟨z,hz⟩:∃ z,z=fw (val xs):=⟨_,rfl⟩
 have c:z=(t+7)/8:=by rw [hz,ht];rfl
 have HZ:=aa hz;rw [<- ht] at h2 hb;have f:((t:Int)+7).tdiv 8=(z:Int):=by rw [Int.tdiv_eq_ediv_of_nonneg (by omega)];omega
 have b:((t:Int)+7)/8=(z:Int):=by omega
 clear h1 ht hz c;go_wp2_with fail;refine h2.mono ?_;rintro e w2 ⟨rfl,rfl⟩;go_wp2_with fail;go_ret;exact ⟨by rw [<- HZ.out];first | rfl | (simp;omega),k1⟩

def jL (P Q:Nat):Nat:=(P-1)/Nat.gcd (P-1) (Q-1)*(Q-1)

def fW (xs:List Nat) (e:Nat):Nat:=
 if xs.length=0\/1000<xs.length\/xs.getD (xs.length-1) 0=0\/val xs%2=0\/aM (val xs)<32\/8192<aM (val xs)\/e<3\/e%2=0\/4294967296<=e then 190 else 0

theorem yW (ao:Option Addr) (L f:Nat) (xs:List Nat) (e:Nat) (he:e<18446744073709551616) (E:Nat) (hE:E=fW xs e) (w:World) (hu:Row .u64 w (.slice ao L f) xs) (g:Digs xs) (y:L<=1000000) :
  Calls prog 51 #[.slice ao L f,.int .u64 (e:Nat)] w fun r w'=>r=.returned (.int .i64 (E:Nat))/\Kept af w w':=by
 obtain ⟨_,_,_,e1,hL,-,-,-,h4⟩:=hu.open;cases e1
 have hO:=rOf _ xs w hu g (by rw [hL.out];omega);have a:Hid ((L=0\/1000<L\/xs.getD (L-1) 0=0\/val xs%2=0\/aM (val xs)<32\/8192<aM (val xs)\/e<3\/e%2=0\/4294967296<=e)->E=190):=fun h=>by
  rw [hE,fW,hL.out,ah h]
 have c:Hid (¬ (L=0\/1000<L\/xs.getD (L-1) 0=0\/val xs%2=0\/aM (val xs)<32\/8192<aM (val xs)\/e<3\/e%2=0\/4294967296<=e)->E=0):=fun h=>by
  rw [hE,fW,hL.out,ai h]
 have d:Hid (xs.getD (L-1) 0≠0->0<L->0<val xs):=fun h h2=>by
  have hT:iA xs:=.inr (by rw [hL.out];exact h);have:=jR (B:=18446744073709551616) hT (by rw [hL.out];exact h2);exact bd (aC (by omega)) this
 clear hu g hE hL;generalize hXX:val xs=X at *;clear hXX;by_cases a1:L=0
 ·have HT:=aa (a.out (.inl a1));subst a1;clear h4 hO;go_enter func51,ntmps51;go_wp2_with fail;go_ret;exact ⟨by rw [HT.out];rfl,aj _ _⟩
 have q1:((L:Int) == 0)=false:=by simp;omega
 by_cases a2:1000<L
 ·have HT:=aa (a.out (.inr (.inl a2)));have g2:(1000:Int)<(L:Int):=by omega
  clear h4 hO;go_enter func51,ntmps51;go_wp2_with fail;go_ret;exact ⟨by rw [HT.out];rfl,aj _ _⟩
 have g2:¬ (1000:Int)<(L:Int):=by omega
 have q2:decide ((1000:Int)<(L:Int))=false:=cP g2;obtain ⟨m,hm⟩:∃ m,L=m+1:=⟨L-1,by omega⟩
 have j:L-1=m:=by omega
 rw [j] at a c d;obtain ⟨b,off,rfl,hc⟩:=h4 m (by omega);obtain ⟨z,hz⟩:∃ z,z=xs.getD m 0:=⟨_,rfl⟩
 rw [<- hz] at hc a c d;have gw:IntKind.i64.wrap ((L:Int)-1)=(m:Int):=by rw [IntKind.wrap_i64];omega
 have gj:(L:Int)-1=(m:Int):=by omega
 have n:(0:Int)<=(m:Int):=by omega
 have o:(m:Int)<(L:Int):=by omega
 clear h4 hz hm j;by_cases a3:z=0
 ·have HT:=aa (a.out (.inr (.inr (.inl a3))));subst a3;clear hO;go_enter func51,ntmps51;go_wp2_with fail;go_ret;exact ⟨by rw [HT.out];rfl,aj _ _⟩
 have g3:¬ (z:Int)=0:=by omega
 have q3:((z:Int) == 0)=false:=by simp;omega
 have p:0<X:=d.out a3 (by omega);clear d;go_enter func51,ntmps51;go_wp2_with fail;refine hO.mono ?_;rintro r w1 ⟨v1,rfl,b1,_,k1⟩;have h2:=rL v1 X w1 b1;have q:=zT b1;obtain ⟨b5,v,n5,l,d5,rfl,F,A,C,D⟩:=EI b1 p;obtain ⟨t,ht⟩:∃ t,t=aM X:=⟨_,rfl⟩
 rw [<- ht] at h2 a c q;have x:(0:Int)<(n5:Int):=by omega
 have k:(d5:Int).tmod 2=((d5%2:Nat):Int):=by rw [li (by omega)];omega
 have i:(e:Int).tmod 2=((e%2:Nat):Int):=by rw [li (by omega)];omega
 clear hO ht b1 hc gw gj n o q1 q2 q3 g2 g3;go_wp2_with fail;refine h2.mono ?_;rintro r w2 ⟨rfl,rfl⟩;clear h2;by_cases a4:X%2=0
 ·have HT:=aa (a.out (.inr (.inr (.inr (.inl a4)))));have s:(d5:Int)%2=0:=by omega
  rw [show d5%2=0 by omega] at k;clear a c;go_wp2_with fail;go_ret;exact ⟨by rw [HT.out];rfl,k1⟩
 have s:(d5:Int)%2=1:=by omega
 rw [show d5%2=1 by omega] at k;by_cases a5:t<32
 ·have HT:=aa (a.out (.inr (.inr (.inr (.inr (.inl a5))))));have g5:(t:Int)<32:=by omega
  have q5:decide ((t:Int)<32)=true:=dL g5;clear a c;go_wp2_with fail;go_ret;exact ⟨by rw [HT.out];rfl,k1⟩
 have g5:¬ (t:Int)<32:=by omega
 have q5:decide ((t:Int)<32)=false:=cP g5;by_cases a6:8192<t
 ·have HT:=aa (a.out (.inr (.inr (.inr (.inr (.inr (.inl a6)))))));have g6:(8192:Int)<(t:Int):=by omega
  have q6:decide ((8192:Int)<(t:Int))=true:=dL g6;clear a c;go_wp2_with fail;go_ret;exact ⟨by rw [HT.out];rfl,k1⟩
 have g6:¬ (8192:Int)<(t:Int):=by omega
 have q6:decide ((8192:Int)<(t:Int))=false:=cP g6;by_cases a7:e<3
 ·have HT:=aa (a.out (.inr (.inr (.inr (.inr (.inr (.inr (.inl a7))))))));have g7:(e:Int)<3:=by omega
  have q7:decide ((e:Int)<3)=true:=dL g7;clear a c;go_wp2_with fail;go_ret;exact ⟨by rw [HT.out];rfl,k1⟩
 have g7:¬ (e:Int)<3:=by omega
 have q7:decide ((e:Int)<3)=false:=cP g7;by_cases a8:e%2=0
 ·have HT:=aa (a.out (.inr (.inr (.inr (.inr (.inr (.inr (.inr (.inl a8)))))))));have g8:(e:Int)%2=0:=by omega
  rw [show e%2=0 by omega] at i;clear a c;go_wp2_with fail;go_ret;exact ⟨by rw [HT.out];rfl,k1⟩
 have g8:(e:Int)%2=1:=by omega
 rw [show e%2=1 by omega] at i;by_cases a9:4294967296<=e
 ·have HT:=aa (a.out (.inr (.inr (.inr (.inr (.inr (.inr (.inr (.inr (a9))))))))));have g9:(4294967296:Int)<=(e:Int):=by omega
  have q9:decide ((4294967296:Int)<=(e:Int))=true:=dL g9;clear a c;go_wp2_with fail;go_ret;exact ⟨by rw [HT.out];rfl,k1⟩
 have g9:¬ (4294967296:Int)<=(e:Int):=by omega
 have q9:decide ((4294967296:Int)<=(e:Int))=false:=cP g9;have HT:Hid (E=0):=c.out (by omega);clear a c;go_wp2_with fail;go_ret;exact ⟨by rw [HT.out];rfl,k1⟩

theorem yd (m:List Nat):∀ a,m.foldl (fun a b=>a*256+b) a=a*256^m.length+bev m:=by
 unfold bev
 induction m with
 | nil=>intro a;simp
 | cons x m ih=>
  intro a;rw [List.foldl_cons,ih,List.foldl_cons,ih (0*256+x),cI,aH];simp only [ja,dz,cJ,bf,iG,aF 256]

theorem nS (l m:List Nat):bev (l ++ m)=bev l*256^m.length+bev m:=by
 show (l ++ m).foldl _ 0=_
 rw [List.foldl_append,yd];rfl

theorem mC {l:List Nat} (h:Digs l 256):bev l<256^l.length:=by
 induction l with
 | nil=>simp [bev]
 | cons x m ih=>
  have e:=nS [x] m;rw [ow] at e;have hx:=h.head;have hm:=ih h.tail;rw [e,cI,aH];have:(x+1)*256^m.length<=256*256^m.length:=bI _ hx;rw [cJ,jF] at this;have e2:bev [x]=x:=by simp [bev]
  rw [e2,aF (256^m.length)];omega

theorem sj {xs:List Nat} (h:Digs xs):aM (val xs)<=64*xs.length:=by
 rw [aX,bh];exact aE (by omega) h

theorem bH {W:World} {p:Nat} {a b c d e f g h:Value} {t:TypeId} (hh:W.heap[p]? = some (.cells #[a,b,c,d,e,f,g,h] t (0,0))) :
  W.cell? ⟨p,0,none⟩=some a/\W.cell? ⟨p,1,none⟩=some b/\W.cell? ⟨p,2,none⟩=some c/\W.cell? ⟨p,3,none⟩=some d/\W.cell? ⟨p,4,none⟩=some e/\W.cell? ⟨p,5,none⟩=some f/\W.cell? ⟨p,6,none⟩=some g/\W.cell? ⟨p,7,none⟩=some h:=by
 simp [World.cell?,hh]

end Go.Proofs.YtkaojflnghfmcaaGreatDoor
