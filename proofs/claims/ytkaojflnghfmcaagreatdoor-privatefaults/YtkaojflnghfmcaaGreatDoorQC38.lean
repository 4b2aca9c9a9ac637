/- Put together of: Prw10 WPrvFaults LPrivateFaults. -/
import Derived.Test.YtkaojflnghfmcaaGreatDoorQC37

namespace Go.Proofs.YtkaojflnghfmcaaGreatDoor
open _root_.Go.Proofs.Tryz
set_option maxRecDepth 100000
set_option maxHeartbeats 4000000
open Go.RowKit

theorem Dp:VPriT:=by
 refine ⟨mB,fun a b c e=>by unfold mB oS sY;simp,?_⟩;intro o s l co cl cc cs p B bs at_ fo fl fc fs w ht he g hd hl hc P ad h hB M O gf ae L;have hR:KRows w o s l fo fl fc fs:=⟨g _ _ (by simp),g _ _ (by simp),g _ _ (by simp),g _ _ (by simp),g _ _ (by simp),g _ _ (by simp),g _ _ (by simp),g _ _ (by simp)⟩
 have al:=im;have Q:∀ args w,(callFunc 49 args).run prog w=.ok (.enter 49 args) w:=fun _ _=>by simp [go_sem]
 obtain ⟨po,S⟩:=aK o;obtain ⟨Wa,y⟩:∃ W,W=w.alloc (.cells #[.pointer po] 53):=⟨_,rfl⟩
 obtain ⟨Wb,z⟩:∃ W,W=Wa.alloc (.cells #[.slice s.no s.nl s.nc,.int .u64 (s.en:Nat),.slice s.dO s.dl s.dc,.slice s.po s.pl s.pc,.slice s.qo s.ql s.qc,.slice s.dpo s.dpl s.dpc,.slice s.dqo s.dql s.dqc,.slice s.qio s.qil s.qic] 26):=⟨_,rfl⟩
 obtain ⟨Wc,A⟩:∃ W,W=Wb.alloc (.cells #[.slice co cl cc] 27):=⟨_,rfl⟩
 obtain ⟨Wd,C⟩:∃ W,W=Wc.alloc (.cells #[.pointer p] 39):=⟨_,rfl⟩
 obtain ⟨We,D⟩:∃ W,W=Wd.alloc (.cells #[.int .i64 at_,.slice fo fl fc] 31):=⟨_,rfl⟩
 obtain ⟨W,hW⟩:∃ W,W=We.alloc (.cells #[.slice none 0 0] 27):=⟨_,rfl⟩
 have ka:Kept af w Wa:=by rw [y];exact (aj af w).alloc _
 have kb:Kept af Wa Wb:=by rw [z];exact (aj af Wa).alloc _
 have kc:Kept af Wb Wc:=by rw [A];exact (aj af Wb).alloc _
 have kd:Kept af Wc Wd:=by rw [C];exact (aj af Wc).alloc _
 have ke:Kept af Wd We:=by rw [D];exact (aj af Wd).alloc _
 have kf:Kept af We W:=by rw [hW];exact (aj af We).alloc _
 have za:Wa.heap.size=w.heap.size+1:=by rw [y];simp
 have zb:Wb.heap.size=w.heap.size+1+1:=by rw [z];simp [za]
 have zc:Wc.heap.size=w.heap.size+1+1+1:=by rw [A];simp [zb]
 have zd:Wd.heap.size=w.heap.size+1+1+1+1:=by rw [C];simp [zc]
 have ze:We.heap.size=w.heap.size+1+1+1+1+1:=by rw [D];simp [zd]
 have zf:W.heap.size=w.heap.size+1+1+1+1+1+1:=by rw [hW];simp [ze]
 have xa:Box Wa w.heap.size (.pointer po) 53:=by rw [y];exact Box.new w _ _
 have xb:Wb.heap[w.heap.size+1]? = some (.cells #[.slice s.no s.nl s.nc,.int .u64 (s.en:Nat),.slice s.dO s.dl s.dc,.slice s.po s.pl s.pc,.slice s.qo s.ql s.qc,.slice s.dpo s.dpl s.dpc,.slice s.dqo s.dql s.dqc,.slice s.qio s.qil s.qic] 26 (0,0)):=by rw [z,<- za];exact heap_alloc_new _ _
 have xc:Box Wc (w.heap.size+1+1) (.slice co cl cc) 27:=by rw [A,<- zb];exact Box.new Wb _ _
 have xd:Box Wd (w.heap.size+1+1+1) (.pointer p) 39:=by rw [C,<- zc];exact Box.new Wc _ _
 have xf:We.heap[w.heap.size+1+1+1+1]? = some (.cells #[.int .i64 at_,.slice fo fl fc] 31 (0,0)):=by rw [D,<- zd];exact heap_alloc_new _ _
 have xg:Box W (w.heap.size+1+1+1+1+1) (.slice none 0 0) 27:=by rw [hW,<- ze];exact Box.new We _ _
 have kE:=(aj af W).alloc (.cells #[.int .i64 0] 32);have xe:Box (W.alloc (.cells #[.int .i64 0] 32)) W.heap.size (.int .i64 0) 32:=Box.new W (.int .i64 0) 32;have k0:=((((ka.trans kb).trans kc).trans kd).trans ke).trans kf;have k1:=k0.trans kE;have i:∀ x,w.heap.size<=x->¬ ofP p x:=fun x hx f=>by have:=(h.inP f).2;omega
 have R:∀ x,w.heap.size<=x->¬ cN o x:=fun x hx f=>by have:=ht.1.foot x f;omega
 have t:=FD (w.heap.size+1) (w.heap.size+1+1) (w.heap.size+1+1+1) w.heap.size (w.heap.size+1+1+1+1) (w.heap.size+1+1+1+1+1) o s l co cl cc cs p B bs at_ fo fl fc fs _ (ht.grew k1) he (hR.grew k1) hd hl (hc.grew k1) P (h.grew k1) (aR hB k1.size) M O gf L (am xb ((((kc.trans kd).trans ke).trans kf).trans kE)) (xc.grew (((kd.trans ke).trans kf).trans kE)) (xd.grew ((ke.trans kf).trans kE)) (by rw [S];exact xa.grew (((((kb.trans kc).trans kd).trans ke).trans kf).trans kE)) (am xf (kf.trans kE)) (xg.grew kE) (fun x f=>⟨fun e=>i _ (by omega) f,fun e=>i _ (by omega) f,fun e=>i _ (by omega) f,fun e=>i _ (by omega) f,fun e=>i _ (by omega) f⟩)
 have I:=lG 49 _ W (fun c W'=>∃ E RL rest m o',c=(E:Nat)/\PrvL l.n l.d l.p l.q l.dp l.dq l.qi s.en at_ fs cs bs E RL rest/\((E=0\/E=220)->m=mB (ar (val l.n)) (ar (val l.p)) (ar (val l.q)) s.en)/\m.length<=1000000000/\∃ v,Box W' (w.heap.size+1+1+1+1+1) v 27/\Row .u8 W' v RL/\Hid (∀ x,v.ownBlock=some x->w.heap.size<=x/\x≠W.heap.size/\x≠w.heap.size+1+1+1+1+1)/\DidS (ofP p) w o m W' o') Q (t.mono (by
  rintro r w' ⟨E,RL,rest,m,o',hp,hm,j,⟨v,hb,hr,hf⟩,hD,ag⟩;have J:Box w' W.heap.size (.int .i64 0) 32:=xe.kept hD.1 (fun f=>f.elim (fun f=>f.elim (fun f=>i _ (by omega) f) (fun e=>by omega)) (fun f=>R _ (by omega) f));have hv:∀ x,v.ownBlock=some x->w.heap.size<=x/\x≠W.heap.size/\x≠w.heap.size+1+1+1+1+1:=fun x hx=>by have h1:=hf x hx;rw [World.size_alloc] at h1;omega
  have k:DidS (ofP p) w o m w' o':=DidS.after k1 hD (fun x hx f=>f.elim id (fun e=>by omega));rcases ag with ⟨h0,rfl⟩ | ⟨h0,rfl⟩
  ·exact ⟨J,.inl ⟨rfl,E,RL,rest,m,o',by rw [h0];rfl,hp,hm,j,v,hb,hr,hv,k⟩⟩
  ·exact ⟨J,.inr ⟨_,rfl,E,RL,rest,m,o',rfl,hp,hm,j,v,hb,hr,hv,k⟩⟩))
 have HW:Hid (W=(((((w.alloc (.cells #[.pointer po] 53)).alloc (.cells #[.slice s.no s.nl s.nc,.int .u64 (s.en:Nat),.slice s.dO s.dl s.dc,.slice s.po s.pl s.pc,.slice s.qo s.ql s.qc,.slice s.dpo s.dpl s.dpc,.slice s.dqo s.dql s.dqc,.slice s.qio s.qil s.qic] 26)).alloc (.cells #[.slice co cl cc] 27)).alloc (.cells #[.pointer p] 39)).alloc (.cells #[.int .i64 at_,.slice fo fl fc] 31)).alloc (.cells #[.slice none 0 0] 27)):=by unfold Hid;rw [hW,D,C,A,z,y]
 have HS:=aa zf;have Y:Hid (∀ x,ofP p x->x<w.heap.size):=fun x f=>(h.inP f).2
 have HT:=aa ht;rw [S];unfold KS.v;clear t hR g hd hl hc P ad h hB M O gf ae L ht he ka kb kc kd ke kf za zb zc zd ze zf xa xb xc xd xf xg kE xe k0 k1 i R hW y z A C D Q;go_enter func19,ntmps19;go_wp2_with (rw [<- HW.out]);refine I.mono ?_;rintro r w' ⟨n,w1,rfl,⟨⟨E,RL,rest,m,o',rfl,hp,hm,j,v,hb,hr,hv,hD⟩,N⟩,rfl⟩;obtain ⟨vo,vn,vc,rfl,-⟩:=hr.open;have ah:W.heap.size=w.heap.size+1+1+1+1+1+1:=HS.out;have H:=hD.trIn HT.out j;have F:Box w1 W.heap.size (.int .i64 0) 32:=N;have n1:¬ cN o' W.heap.size:=aI F H (by decide) (by decide);have n2:¬ cN o' (w.heap.size+1+1+1+1+1):=aI hb H (by decide) (by decide)
 have kx:=aD w1 W.heap.size (.int .i64 (E:Nat));have G:=hb.kept kx (by show ¬ w.heap.size+1+1+1+1+1=W.heap.size;omega);have T:=hr.kept kx (fun x hx e=>(hv.out x hx).2.1 e);have k:=hD.put kx (fun hx=>by omega) n1;have ai:=G.cell;have ak:=G.free;have U:=aa G;have ab:=aa hp;have HM:=aa hm;have Z:=aa j;generalize w1.setCell ⟨W.heap.size,0,none⟩ (.int .i64 (E:Nat))=W2 at *;have ky:=aD W2 (w.heap.size+1+1+1+1+1) (.slice vo vn vc);have ac:=aa (T.kept ky (fun x hx e=>(hv.out x hx).2.2 e));have V:=aa ((k.put ky (fun hx=>by omega) n2).split Y.out)
 have X:Hid (∀ b,(Value.slice vo vn vc).ownBlock=some b->w.heap.size<=b):=fun b hx=>(hv.out b hx).1
 clear I hb hr N kx G T hD k hp hm j ah H F n1 n2 ky hv;go_wp2_with fail;exact bodyPost_ret (v:=.tuple #[.slice vo vn vc,.int .i64 (E:Nat)]) (by simp [results,results19,go_sem,(U.out.set (.slice vo vn vc)).cell]) rfl ⟨_,E,rfl,RL,rest,m,ab.out,⟨ac.out,X.out⟩,Z.out,HM.out,V.out⟩

theorem pP (X:zE) (ab:zD) (hA:Gp) (hB:EF) (s:KS) (l:KL) (u:Value) (cs:List Nat) (v:Value) (bs:List Nat) (at_:Int) (fv:Value) (fs:List Nat) (w:World) (hr:s.Rows w l) (hu:Row .u8 w u cs) (hv:Row .u8 w v bs) (hf:Row .u64 w fv fs) (hd:l.Digs) (dc:Digs cs 256) (db:Digs bs 256) (df:Digs fs) (he:s.en<18446744073709551616) (am:AtOk at_) :
  Calls prog 5 #[.agg s.v,u,v,.agg #[.int .i64 at_,fv]] w fun e w'=>e=.returned (.bool true)/\Below w.heap.size w w':=by
 obtain ⟨i0,an,ap,aq,ar⟩:=info_parts Tryz.info8s;obtain ⟨co,cl,cc,rfl,J,_⟩:=hu.open;obtain ⟨uo,un,uc,rfl,N,_⟩:=hv.open;obtain ⟨fo,fl,fc,rfl,_⟩:=hf.open;obtain ⟨W0,t⟩:∃ W0,W0=(w.alloc (.cells s.v 26)).alloc (.cells #[.int .i64 at_,.slice fo fl fc] 31):=⟨_,rfl⟩
 have k0:Kept af w W0:=by rw [t];exact ((aj af w).alloc _).alloc _
 have O:W0.heap[w.heap.size]? = some (.cells s.v 26 (0,0)):=by rw [t];exact au (heap_alloc_new _ _)
 have P:W0.heap[w.heap.size+1]? = some (.cells #[.int .i64 at_,.slice fo fl fc] 31 (0,0)):=by
  rw [t];have:=heap_alloc_new (w.alloc (.cells s.v 26)) (.cells #[.int .i64 at_,.slice fo fl fc] 31)
  rwa [World.size_alloc] at this
 have JC:Hid (∀ W,Kept af W0 W->W.cell? ⟨w.heap.size,0,none⟩=some (.slice s.no s.nl s.nc)/\W.cell? ⟨w.heap.size,1,none⟩=some (.int .u64 ((s.en:Nat):Int))/\W.cell? ⟨w.heap.size,2,none⟩=some (.slice s.dO s.dl s.dc)/\W.cell? ⟨w.heap.size,3,none⟩=some (.slice s.po s.pl s.pc)/\W.cell? ⟨w.heap.size,4,none⟩=some (.slice s.qo s.ql s.qc)/\W.cell? ⟨w.heap.size,5,none⟩=some (.slice s.dpo s.dpl s.dpc)/\W.cell? ⟨w.heap.size,6,none⟩=some (.slice s.dqo s.dql s.dqc)/\W.cell? ⟨w.heap.size,7,none⟩=some (.slice s.qio s.qil s.qic)):=fun W k=>bH ((k.block _ (lt_of_block O) (fun f=>f)).trans O)
 have JD:Hid (∀ W,Kept af W0 W->W.cell? ⟨w.heap.size+1,0,none⟩=some (.int .i64 at_)/\W.cell? ⟨w.heap.size+1,1,none⟩=some (.slice fo fl fc)):=fun W k=>⟨k.cellN ((cell_of_row W0 _ 0 _ _ _ P).trans rfl),k.cellN ((cell_of_row W0 _ 1 _ _ _ P).trans rfl)⟩
 have JA:=Aj X ab hB W0;have JF:=aa fun W R hR=>EU s co uo fo cl cc un uc fl fc at_ R hR W
 have F:=aa dc;have av:=aa hd.n;have ah:=aa J.out;have JL:=aa fun p B W (k:Kept af W0 W) (hl:s.light) (hc:cl<=10000) hs hB (hb:un<=500) (hfl:fl<=1000)=>hA s l co cl cc cs p B bs at_ fo fl fc fs W he (hr.grew (k0.trans k)) hd hl (hu.grew (k0.trans k)) dc hc hs hB db (by rw [N.out];omega) (hf.grew (k0.trans k)) df hfl am
 have al:=aa fun W (k:Kept af W0 W) bo M dap ms hv hdm (hlm:M<=1000000) (hl:s.light)=>Bh s.no s.nl s.nc l.n s.en he bo M dap ms W ((hr.grew (k0.trans k)).n) hd.n (by have:=hl.1;omega) hv hdm hlm
 have HV:=aa fun W (k:Kept af W0 W)=>hv.grew (k0.trans k)
 have HU:=aa fun W (k:Kept af W0 W)=>hu.grew (k0.trans k)
 have ak:=aa N.out;have j:=aa J.out;have C:=aa t;have A:=aa k0;have ai:Hid (w.heap.size<=W0.heap.size):=k0.size;clear hr hu hv hf hd dc db df he J N t k0 O P X ab hA hB;by_cases hfew:s.few/\s.nl<=9/\cl<=200/\un<=500/\fl<=20
 ·have T:=aa hfew.1.light;have b:Hid (cl<=200/\un<=500/\fl<=20):=hfew.2.2;have J1:=fun W=>JF.out W true (iff_of_true rfl hfew)
  clear hfew JF;unfold KS.v at C J1 JL ⊢;go_enter func5,ntmps5;go_wp2_with (rw [<- C.out]);refine JA.mono ?_;rintro r w1 ⟨rfl,k1⟩;obtain ⟨c0,c1,c2,c3,c4,c5,c6,c7⟩:=JC.out w1 k1;obtain ⟨m0,m1⟩:=JD.out w1 k1;have G:=aa k1;clear JA k1;go_wp2_with fail;refine (J1 w1).mono ?_;rintro r w2 ⟨rfl,k2⟩;have c:=aa (G.out.trans k2);clear J1 k2 c0 c1 c2 c3 c4 c5 c6 c7 m0 m1;have D:Kept af w2 w2.drew:=(aj af w2).drew;obtain ⟨d0,d1,d2,d3,d4,d5,d6,d7⟩:=JC.out w2 c.out;obtain ⟨dx,dy⟩:=JD.out w2 c.out;have J2:=Gh _ _ w2.drew (HV.out _ (c.out.trans D)) (by have:=ak.out;have:=b.out;omega);have I:Hid (W0.heap.size<=w2.drew.heap.size):=(c.out.trans D).size
  have Y:=JL.out;have HQ:Hid (∀ w3 g,Kept af W0 w3->W0.heap.size<=g->∀ w4,Kept (ofP (some ⟨g,0,none⟩)) w3 w4->Kept af W0 w4):=fun w3 g k hg w4 k4=>k.next k4 (fun y hy f=>by have h1:=pA f;omega)
  go_wp2_with fail;go_region_held3 (fun w'=>(w'.cell? ⟨w.heap.size,0,none⟩=some (.slice s.no s.nl s.nc)/\w'.cell? ⟨w.heap.size,1,none⟩=some (.int .u64 ((s.en:Nat):Int))/\w'.cell? ⟨w.heap.size,2,none⟩=some (.slice s.dO s.dl s.dc)/\w'.cell? ⟨w.heap.size,3,none⟩=some (.slice s.po s.pl s.pc)/\w'.cell? ⟨w.heap.size,4,none⟩=some (.slice s.qo s.ql s.qc)/\w'.cell? ⟨w.heap.size,5,none⟩=some (.slice s.dpo s.dpl s.dpc)/\w'.cell? ⟨w.heap.size,6,none⟩=some (.slice s.dqo s.dql s.dqc)/\w'.cell? ⟨w.heap.size,7,none⟩=some (.slice s.qio s.qil s.qic))/\(w'.cell? ⟨w.heap.size+1,0,none⟩=some (.int .i64 at_)/\w'.cell? ⟨w.heap.size+1,1,none⟩=some (.slice fo fl fc)))
   (((try dsimp only);(repeat' apply And.intro) <;> first | (go_keep;done) | assumption))
   (first
   | (go_at_call 19;refine (Y (some ⟨g,0,none⟩) w3.heap.size w3 K3 T.out (by have:=b.out;omega) ag (leR _) b.out.2.1 (by have:=b.out;omega)).mono ?_;rintro r w4 ⟨v4,E,rfl,RL,rest,ae,⟨a,z⟩,k4⟩;have K4:=HQ.out w3 g K3 S w4 k4;obtain ⟨vo,vn,vc,rfl,ad,_,_,_,_⟩:=a.open;obtain ⟨p0,p1,p2,p3,p4,p5,p6,p7⟩:=JC.out w4 K4;obtain ⟨px,py⟩:=JD.out w4 K4)
   | (go_at_call 14;refine J2.mono ?_;rintro r w3 ⟨g,rfl,hg,ag,k3⟩;have K3:=(c.out.trans D).trans k3;have S:W0.heap.size<=g:=aR I.out hg;obtain ⟨e0,e1,e2,e3,e4,e5,e6,e7⟩:=JC.out w3 K3;obtain ⟨ex,ey⟩:=JD.out w3 K3))
  have V:=aa a;have d:=aa ae;have o:=aa K4;have U:=aa ad.out;clear J2 Y JL ag k3 a z k4 ae K3 K4 S e0 e1 e2 e3 e4 e5 e6 e7 ex ey d0 d1 d2 d3 d4 d5 d6 d7 dx dy px py D HQ hg ad;by_cases hE:E=0
  ·subst hE;obtain ⟨h,Z⟩:=Dn d.out F.out;have x:vn<=1000000:=by
    obtain ⟨_,_,m,_,_,h5⟩:=A9 d.out;have h1:=U.out;rw [h5,cV] at h1;have h2:=b.out;have h3:=j.out;omega
   have J5:=al.out w4 o.out vo vn vc RL V.out d.out.digs x T.out;rw [h,Z] at J5;clear h Z x;go_wp2_with fail;refine J5.mono ?_;rintro r w5 ⟨v5,rfl,i,_,k5⟩;obtain ⟨o5,n5,c5,rfl,_⟩:=i.open;have JM:=xz _ _ cs cs w5 i ((HU.out w4 o.out).grew k5) F.out F.out;rw [dL rfl] at JM;have H:=aa (o.out.trans k5);clear J5 i k5 p0 p1 p2 p3 p4 p5 p6 p7;go_wp2_with fail;refine JM.mono ?_;rintro r w6 ⟨rfl,rfl⟩;clear JM;go_wp2_with fail;go_ret;exact ⟨by first | rfl | simp,ju (A.out.trans H.out) (leR _)⟩
  ·by_cases h:E=220
   ·subst h;have q:=yV d.out;have Q:=aa d.out.digs;clear hE p0 p1 p2 p3 p4 p5 p6 p7
    go_wp2_with (at_make;refine wpList_make_full _ rfl _ _ 27 rfl w4.heap.size 5 i0 _ 1 underlying27 an ap aq _ _ _ _ cl rfl rfl (by first | rfl | omega) (by first | rfl | omega) (by rw [ar];have:=b.out;omega) (by unfold maxLen;have:=b.out;omega) (leR _) ?_;intro w5 L ac;rw [bg] at L;have k5:=aV ac;have i:=Row.of_own (base:=w4.heap.size) (e:=5) (k:=.u8) (zs:=List.replicate cl 0) (by rw [be];exact L);have JM:=xz _ _ RL RL w5 (V.out.grew k5) (by rw [q,j.out];exact i) Q.out Q.out;rw [dL rfl] at JM;have H:=aa (o.out.trans k5);clear L ac k5 i q);refine JM.mono ?_;rintro r w6 ⟨rfl,rfl⟩;clear JM
    go_wp2_with fail;go_ret;exact ⟨by first | rfl | simp,ju (A.out.trans H.out) (leR _)⟩
   ·have q:=A8 d.out hE h;have ao:vn=0:=by
     have h1:=U.out;rw [q] at h1;exact h1.symm
    subst ao;have g1:¬ (E:Int)=0:=by omega
    have g2:¬ (E:Int)=220:=by omega
    have d1:((E:Int) == 0)=false:=by simp;omega
    have d2:((E:Int) == 220)=false:=by simp;omega
    clear hE h q p0 p1 p2 p3 p4 p5 p6 p7;go_wp2_with fail;go_ret;exact ⟨by first | rfl | simp,ju (A.out.trans o.out) (leR _)⟩
 ·have J1:=fun W=>JF.out W false (iff_of_false (by decide) hfew)
  clear hfew JF JL;unfold KS.v at C J1 ⊢;go_enter func5,ntmps5;go_wp2_with (rw [<- C.out]);refine JA.mono ?_;rintro r w1 ⟨rfl,k1⟩;obtain ⟨c0,c1,c2,c3,c4,c5,c6,c7⟩:=JC.out w1 k1;obtain ⟨m0,m1⟩:=JD.out w1 k1;have G:=aa k1;clear JA k1;go_wp2_with fail;refine (J1 w1).mono ?_;rintro r w2 ⟨rfl,k2⟩;have c:=aa (A.out.trans (G.out.trans k2));clear J1 k2 c0 c1 c2 c3 c4 c5 c6 c7 m0 m1;go_wp2_with fail;go_ret;exact ⟨rfl,ju c.out (leR _)⟩

theorem walkPrivateFaults (s:KS) (l:KL) (u:Value) (cs:List Nat) (v:Value) (bs:List Nat) (at_:Int) (fv:Value) (fs:List Nat) (w:World) (hr:s.Rows w l) (hu:Row .u8 w u cs) (hv:Row .u8 w v bs) (hf:Row .u64 w fv fs) (hd:l.Digs) (dc:Digs cs 256) (db:Digs bs 256) (df:Digs fs) (he:s.en<18446744073709551616) (a:AtOk at_) (_:NoTab w) :
  Calls prog 5 #[.agg s.v,u,v,.agg #[.int .i64 at_,fv]] w fun e w'=>e=.returned (.bool true)/\Below w.heap.size w w':=
 pP Bb Be Dp.plain xt s l u cs v bs at_ fv fs w hr hu hv hf hd dc db df he a

end Go.Proofs.YtkaojflnghfmcaaGreatDoor
