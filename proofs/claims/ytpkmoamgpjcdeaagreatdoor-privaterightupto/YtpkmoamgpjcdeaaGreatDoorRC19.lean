/- Put together of: Prw9 Prw10 Prm6 Prm7 Prm8 Prm9 WPrvRight LPrivateRight. -/
import Derived.Test.YtpkmoamgpjcdeaaGreatDoorRC14
import Derived.Test.YtpkmoamgpjcdeaaGreatDoorRC18

namespace Go.Proofs.YtpkmoamgpjcdeaaGreatDoor
open _root_.Go.Proofs.Tryz
set_option maxRecDepth 100000
set_option maxHeartbeats 4000000
open Go.RowKit
variable {B e n:Nat} {S:Nat->Prop} {bs fs:LN} {m:List Ev} {o':Tr} {p:OA} {w w':World}

def DidS (S:Nat->Prop) (w:World) (o:Tr) (m:List Ev) (w':World) (o':Tr):Prop:=
 Kept (fun x=>S x\/dm o x) w w'/\((o=none/\o'=none)\/∃ p g l g',o=some (p,g,l)/\o'=some (p,g',l ++ m)/\IsTr w' p g' (l ++ m)/\(g'=g\/∃ x,g'=some x/\w.heap.size<=x))

theorem DidS.of {w1:World} {o:Tr} (k:Kept S w w1) (d:Did w1 o m w' o'):DidS S w o m w' o':=by
 refine ⟨(k.mono (fun x _ h=>.inl h)).trans (d.1.mono (fun x _ h=>.inr h)),?_⟩;rcases d.2 with h1 | ⟨p,g,l,g',e1,e2,ht,hg⟩
 ·exact .inl h1
 ·refine .inr ⟨p,g,l,g',e1,e2,ht,?_⟩;rcases hg with hg | ⟨x,e,hx⟩
  ·exact .inl hg
  ·exact .inr ⟨x,e,aH k.size hx⟩

theorem DidS.g {w2:World} {o:Tr} (h:DidS S w o m w' o') (k:Kept aa w' w2):DidS S w o m w2 o':=by
 refine ⟨h.1.trans k.any,?_⟩;rcases h.2 with h1 | ⟨p,g,l,g',e1,e2,ht,hg⟩
 ·exact .inl h1
 ·exact .inr ⟨p,g,l,g',e1,e2,ht.g k,hg⟩

theorem DidS.put {w2:World} {o:Tr} {b:Nat} (h:DidS S w o m w' o') (k:Kept (fun x=>x=b) w' w2) (hb:b<w.heap.size->S b) (hf:¬ dm o' b):DidS S w o m w2 o':=by
 refine ⟨h.1.next k (fun x hx e=>.inl (by have e':x=b:=e;subst e';exact hb hx)),?_⟩;rcases h.2 with h1 | ⟨p,g,l,g',e1,e2,ht,hg⟩
 ·exact .inl h1
 ·subst e2;exact .inr ⟨p,g,l,g',e1,rfl,ht.kept k (fun e=>hf (.inl e.symm)) (fun x hx e=>hf (.inr (by rw [<- e];exact hx))),hg⟩

theorem DidS.b {T:Nat->Prop} {a:World} {o:Tr} (k:Kept aa a w) (h:DidS T w o m w' o') (hT:∀ x,x<a.heap.size->T x->S x):DidS S a o m w' o':=by
 refine ⟨(k.any:Kept (fun x=>S x\/dm o x) a w).next h.1 (fun x hx e=>e.imp (hT x hx) id),?_⟩;rcases h.2 with h1 | ⟨p,g,l,g',e1,e2,ht,hg⟩
 ·exact .inl h1
 ·refine .inr ⟨p,g,l,g',e1,e2,ht,?_⟩;rcases hg with hg | ⟨x,e,hx⟩
  ·exact .inl hg
  ·exact .inr ⟨x,e,aH k.size hx⟩

theorem DidS.trIn {o:Tr} {k:Nat} (h:DidS S w o m w' o') (hr:TrRoom w o k) (hm:m.length<=k):TrIn w' o':=by
 rcases h.2 with ⟨_,rfl⟩ | ⟨p,g,l,g',rfl,rfl,ht,_⟩
 ·trivial
 ·have h2:=hr.2;simp only [pq] at h2;exact ⟨ht,by rw [bj];omega⟩

theorem DidS.split {o:Tr} (h:DidS (ofP p) w o m w' o') (hp:∀ x,ofP p x->x<w.heap.size):∃ w1 o2,Kept (ofP p) w w1/\Did w1 o m w' o2:=by
 cases p with
 | none=>exact ⟨w,o',ah _ _,h.1.mono (fun x _ e=>e.elim (fun f=>by simp [ofP] at f) id),h.2⟩
 | some a=>
  have hb:a.block<w.heap.size:=hp _ (by simp [ofP]);have b:a.block<w'.heap.size:=bg hb h.1.size;refine ⟨{ w with heap:=w.heap.setIfInBounds a.block (w'.heap[a.block]'(b)) },o',⟨rfl,rfl,rfl,?_,?_⟩,⟨h.1.os,h.1.tape,h.1.output,?_,?_⟩,?_⟩
  ·simp
  ·intro k hk hn;have c:a.block≠k:=fun e=>hn (by subst e;simp [ofP])
   simp [Array.getElem?_setIfInBounds_ne c]
  ·simpa using h.1.size
  ·intro k hk hn;by_cases e:a.block=k
   ·subst e;simp [hb,b]
   ·rw [h.1.block k (by simpa using hk) (fun f=>f.elim (fun f=>e (by simpa [ofP] using f)) hn)];simp [Array.getElem?_setIfInBounds_ne e]
  ·simpa using h.2

theorem TrIn.script {o:Tr} (ht:TrIn w o) (h:Lsc w p B bs) (k:Kept (ofP p) w w'):TrIn w' o:=by
 have ha:=AJ h o ht;cases o with
 | none=>trivial
 | some x=>
  obtain ⟨a,g,l⟩:=x;exact ⟨ht.1.kept k (ha a (.inl rfl)) (fun y hy=>ha y (.inr hy)),ht.2⟩

theorem RowT.script {o:Tr} {v:Value} {xs:LN} (hv:RowT w o v xs) (h:Lsc w p B bs) (k:Kept (ofP p) w w'):RowT w' o v xs:=⟨lK h hv.1 k,hv.2⟩

theorem KRows.script {o:Tr} {s:KS} {l:KL} {fo:OA} {fl fc:Nat} (r:KRows w o s l fo fl fc fs) (h:Lsc w p B bs) (k:Kept (ofP p) w w'):KRows w' o s l fo fl fc fs:=⟨r.n.script h k,r.d.script h k,r.p.script h k,r.q.script h k,r.dp.script h k,r.dq.script h k,r.qi.script h k,r.f.script h k⟩

theorem xA (n:Nat):bes 0 n n=List.replicate n 0:=by
 refine List.ext_getElem? fun j=>?_
 by_cases h:j<n
 ·rw [pZ _ _ _ _ h,eG,ai h];simp [dig]
 ·rw [io (by rw [ew];omega),io (by simp;omega)]

theorem GP {l k f i b c a:LN} (h:KeyGood l k f i b c a e):val a<val f:=by
 obtain ⟨-,d,u,-,-,j,-,-,-,-,-,-,-,g⟩:=h;generalize val f=P at *;generalize val i=Q at *;rw [g,ax,aA (bg j (eI ((aB P _).1 (Nat.le_max_left _ _))))];exact j

theorem AV {l:KL} {at_:Int} {cs r1 rest:LN} {k T M:Nat} (hg:KeyGood l.n l.d l.p l.q l.dp l.dq l.qi e) (a:n9 (val l.n) cs=0) (hb:oB l.n bs=(r1,k,0,rest)) (hn:l.n.length=n) (hT:T<(val l.n)/\val r1*T%(val l.n)=1)
  (hM:M=xL at_ fs (bev cs*(val r1^e%(val l.n))%(val l.n)) T (val l.n) (val l.p) (val l.q) (val l.dp) (val l.dq) (val l.qi) n (al (val l.p)) (al (val l.q))) :
  (M^e%(val l.n)=bev cs->PrvL l.n l.d l.p l.q l.dp l.dq l.qi e at_ fs cs bs 0 (bes M cs.length cs.length) rest)/\(M^e%(val l.n)≠bev cs->PrvL l.n l.d l.p l.q l.dp l.dq l.qi e at_ fs cs bs 220 (List.replicate cs.length 0) rest):=by
 have hf:=hg.a;have h1:=hf.2.1.1;have h2:=hf.2.2.1.1;rw [BP (by omega) (by omega) hf.1.symm,<- hn] at hM;exact ⟨fun h=>.inr (.inr ⟨hg,a,r1,k,0,hb,.inr ⟨rfl,T,hT.1,hT.2,M,hM,.inr ⟨h,rfl,rfl⟩⟩⟩),fun h=>.inr (.inr ⟨hg,a,r1,k,0,hb,.inr ⟨rfl,T,hT.1,hT.2,M,hM,.inl ⟨h,rfl,rfl⟩⟩⟩)⟩

def nG (n nP nQ _e:Nat):List Ev:=p9 n nP nQ (max nP nQ) (max nP nQ)

theorem Ai {nP nQ:Nat} (hn:n<=130) (hP:nP<=130) (hQ:nQ<=130):(nG n nP nQ e).length<=1000000000:=by
 have a1:=kJ hn;have a2:=sd (n:=n) (nP:=nP) (nQ:=nQ) (LP:=max nP nQ) (LQ:=max nP nQ) hP hQ (by omega) (by omega);have a3:=jn n;have a4:=oO hn;unfold nG p9;simp only [bj,dg,fC];omega

def ApEnd (bO:Nat) (o:Tr) (l:KL) (e:Nat) (at_:Int) (fs cs bs:LN) (p:OA) (w:World) (r:Ending) (w':World):Prop:=∃ E RL rest m o',PrvL l.n l.d l.p l.q l.dp l.dq l.qi e at_ fs cs bs E RL rest/\((E=0\/E=220)->m=nG (al (val l.n)) (al (val l.p)) (al (val l.q)) e)/\m.length<=1000000000/\(∃ v,Box w' bO v 28/\Row .u8 w' v RL/\Fresh w v)/\DidS (fun x=>ofP p x\/x=bO) w o m w' o'/\((E=0/\r=.returned (.tuple #[]))\/(E≠0/\r=.panicked [refusal (E:Nat)]))

theorem ApEnd.no {bO:Nat} {o:Tr} {l:KL} {at_:Int} {cs rest:LN} {E:Nat} (h:PrvL l.n l.d l.p l.q l.dp l.dq l.qi e at_ fs cs bs E [] rest) (h0:E≠0) (h2:E≠220) (hO:Box w' bO (.slice none 0 0) 28) (d:DidS (fun x=>ofP p x\/x=bO) w o [] w' o):ApEnd bO o l e at_ fs cs bs p w (.panicked [refusal (E:Nat)]) w':=
 ⟨E,[],rest,[],o,h,fun h=>by omega,by simp,⟨_,hO,Row.nil _ _,fun b hb=>by simp [Value.ownBlock] at hb⟩,d,.inr ⟨h0,rfl⟩⟩

theorem Hi (bK bC bS bT bF bO:Nat) (o:Tr) (s:KS) (l:KL) (co:OA) (cl cc:Nat) (cs:LN) (p:OA) (B:Nat) (bs:LN) (at_:Int) (fo:OA) (fl fc:Nat) (fs:LN) (w:World) (ht:TrRoom w o 1000000000) (he:s.en<18446744073709551616) (hR:KRows w o s l fo fl fc fs) (hd:l.Digs) (hl:s.light) (hc:Row .u8 w (.slice co cl cc) cs) (F:Digs cs 256) (h:Lsc w p B bs) (hB:B<=w.heap.size) (O:Digs bs 256) (P:bs.length<=10000) (gf:Digs fs) (N:AtOk at_)
  (xK:w.heap[bK]? = some (.cells #[.slice s.no s.nl s.nc,.int .u64 (s.en:Nat),.slice s.dO s.dl s.dc,.slice s.po s.pl s.pc,.slice s.qo s.ql s.qc,.slice s.dpo s.dpl s.dpc,.slice s.dqo s.dql s.dqc,.slice s.qio s.qil s.qic] 26 (0,0))) (xC:Box w bC (.slice co cl cc) 28) (xS:Box w bS (.pointer p) 38) (xT:Box w bT (aN o) 57) (xF:w.heap[bF]? = some (.cells #[.int .i64 at_,.slice fo fl fc] 32 (0,0))) (xO:Box w bO (.slice none 0 0) 28) (Q:∀ x,ofP p x->x≠bK/\x≠bC/\x≠bT/\x≠bF/\x≠bO) :
  ClZ 22 #[.pointer (some ⟨bK,0,none⟩),.pointer (some ⟨bC,0,none⟩),.pointer (some ⟨bS,0,none⟩),.pointer (some ⟨bT,0,none⟩),.pointer (some ⟨bF,0,none⟩),.pointer (some ⟨bO,0,none⟩)] w fun r w'=>ApEnd bO o l s.en at_ fs cs bs p w r w':=by
 obtain ⟨_,_,_,e1,z,-,-,-,-⟩:=hc.open;cases e1
 have hr:s.Rows w l:=⟨hR.n.1,hR.d.1,hR.p.1,hR.q.1,hR.dp.1,hR.dq.1,hR.qi.1⟩
 obtain ⟨q0,q1,q2,q3,q4,q5,q6,q7⟩:=aY xK;have c0:=xC.cell;have dd:∀ {w1:World},Kept aa w w1->DidS (fun x=>ofP p x\/x=bO) w o [] w1 o:=fun k=>DidS.of (ah _ _) (Did.of_kept k ht.1)
 by_cases hg:KeyGood l.n l.d l.p l.q l.dp l.dq l.qi s.en
 case neg=>
  have J1:=Da s l co cl cc cs w hr hd hl hc hg;have HP:HzD (PrvL l.n l.d l.p l.q l.dp l.dq l.qi s.en at_ fs cs bs 190 [] bs):=.inl ⟨hg,rfl,rfl,rfl⟩;have a:=af fun w1 (k:Kept aa w w1)=>ApEnd.no (w:=w) (p:=p) HP.o (by decide) (by decide) (xO.g k) (dd k)
  clear ht he hR hd hl hc F h hB O P gf N xK xC xS xT xF xO Q hr hg z dd;delta ClZ;go_in;go_wp2_with fail;refine J1.mono ?_;rintro e w1 ⟨rfl,k1⟩;exact ⟨rfl,a.o w1 k1⟩
 by_cases hlen:cs.length=jc (val l.n)
 case neg=>
  have J1:=Db s l co cl cc cs w hr hd hl hc hg hlen;have HP:HzD (PrvL l.n l.d l.p l.q l.dp l.dq l.qi s.en at_ fs cs bs 1 [] bs):=.inr (.inl ⟨hg,by unfold n9;rw [am (fun h=>hlen h.1)],rfl,rfl,rfl⟩);have a:=af fun w1 (k:Kept aa w w1)=>ApEnd.no (w:=w) (p:=p) HP.o (by decide) (by decide) (xO.g k) (dd k)
  clear ht he hR hd hl hc F h hB O P gf N xK xC xS xT xF xO Q hr hg z dd hlen;delta ClZ;go_in;go_wp2_with fail;refine J1.mono ?_;rintro e w1 ⟨rfl,k1⟩;exact ⟨rfl,a.o w1 k1⟩
 by_cases hlt:bev cs<(val l.n)
 case neg=>
  have J1:=Dc s l co cl cc cs w hr hd hl hc F hg hlen hlt;have HP:HzD (PrvL l.n l.d l.p l.q l.dp l.dq l.qi s.en at_ fs cs bs 1 [] bs):=.inr (.inl ⟨hg,by unfold n9;rw [am (fun h=>hlt h.2)],rfl,rfl,rfl⟩);have a:=af fun w1 (k:Kept aa w w1)=>ApEnd.no (w:=w) (p:=p) HP.o (by decide) (by decide) (xO.g k) (dd k)
  clear ht he hR hd hl hc F h hB O P gf N xK xC xS xT xF xO Q hr hg z dd hlen hlt;delta ClZ;go_in;go_wp2_with fail;refine J1.mono ?_;rintro e w1 ⟨rfl,k1⟩;exact ⟨rfl,a.o w1 k1⟩
 have J1:=Dd s l co cl cc cs w hr hd hl hc F hg hlen hlt;have m:n9 (val l.n) cs=0:=by unfold n9;rw [ai ⟨hlen,hlt⟩]
 obtain ⟨_,_,_,e1,L,-,-,-,-⟩:=hr.n.open;cases e1
 obtain ⟨_,_,_,e1,ao,-,-,-,-⟩:=hr.p.open;cases e1
 obtain ⟨_,_,_,e1,ap,-,-,-,-⟩:=hr.q.open;cases e1
 obtain ⟨_,_,_,e1,A,-,-,-,-⟩:=hr.dp.open;cases e1
 obtain ⟨_,_,_,e1,C,-,-,-,-⟩:=hr.dq.open;cases e1
 obtain ⟨V,ae,au,av,G,H,aq,ac,ad⟩:=pP hg L.o hl.1;have aw:=(eu ac).1;have ax:=(eu ad).1;have hf:=hg.a;have e1:s.pl=max (al (val l.p)) (al (val l.q)):=by rw [<- ao.o];exact au
 have e2:s.ql=max (al (val l.p)) (al (val l.q)):=by rw [<- ap.o];exact av
 have e3:s.dpl=max (al (val l.p)) (al (val l.q)):=by rw [<- A.o];exact G
 have e4:s.dql=max (al (val l.p)) (al (val l.q)):=by rw [<- C.o];exact H
 have ak:HzD ((val l.n)<18446744073709551616^s.nl):=by unfold HzD;rw [<- L.o];exact aC (by omega) hd.n
 have aR:cl<=8*s.nl:=by
  have h9:aL (val l.n)<=64*s.nl:=(bf _ _).2 (by rw [aX];exact ak.o);have h8:=z.o;rw [hlen] at h8;unfold jc at h8;omega
 obtain ⟨⟨r1,k1,i,rest⟩,D⟩:∃ r,oB l.n bs=r:=⟨_,rfl⟩
 have JB:=af fun W (k:Kept aa w W)=>zJ p B bs l.n s.no s.nl s.nc r1 k1 i rest W D (h.g k) (aH hB k.size) O P (hr.n.g k) hd.n (by omega)
 have ab:=af xK;have bh:=af xC;have aM:=af xS;have bj:=af xT;have aK:=af xF;have an:=af xO;have aF:=af h;have J:=af Q;have Z:=af ht;have bc:=af hR;by_cases hE0:i=0
 case neg=>
  have HP:HzD (PrvL l.n l.d l.p l.q l.dp l.dq l.qi s.en at_ fs cs bs i [] rest):=.inr (.inr ⟨hg,m,r1,k1,i,D,.inl ⟨hE0,rfl,rfl⟩⟩);have aP:i≠220:=by rcases sP D with h | h | h <;> omega
  have hY:=ia (i:Int);have gb:(((i:Nat):Int) != 0)=true:=by simp;omega
  have aA:HzD (i≠0/\i≠220):=⟨hE0,aP⟩
  clear ht he hR hd hl hc F h hB O P gf N xK xC xS xT xF xO Q hr hg z dd hlen hlt m L ao ap A C V ae au av G H aq ac ad aw ax hf e1 e2 e3 e4 aR D hE0 aP;delta ClZ;go_in;go_wp2_with fail;refine J1.mono ?_;rintro e w1 ⟨vo,vc,rfl,-,-,g⟩;have I:=af g;obtain ⟨p0,-⟩:=aY (ar ab.o g);have s0:=(aM.o.g g).cell;have J2:=JB.o w1 g;clear J1 g q0 q1 q2 q3 q4 q5 q6 q7 c0 JB;go_wp2_with fail;refine J2.mono ?_;rintro e w2 ⟨u,rfl,⟨hu,-⟩,ag,k2⟩;obtain ⟨uo,un,uc,rfl,-⟩:=hu.open;have bB:=af ag;have ba:=af k2;clear J2 hu ag k2 p0 s0;go_wp2_with fail;try rw [gb]
  refine (hY _).mono ?_;rintro e w3 ⟨rfl,rfl⟩;have kk:Kept (ofP p) w w3:=I.o.any.trans ba.o;exact ⟨rfl,ApEnd.no HP.o aA.o.1 aA.o.2 (an.o.kept kk (fun f=>(J.o _ f).2.2.2.2 rfl)) (DidS.of (kk.mono (fun x _ f=>.inl f)) (Did.of_kept (ah aa w3) (Z.o.1.script aF.o kk)))⟩
 subst hE0;obtain ⟨aT,aU,aV,aW⟩:=An D hd.n;have t:=af fun T M (hT:T<(val l.n)/\val r1*T%(val l.n)=1) hM=>AV (at_:=at_) (fs:=fs) (M:=M) (n:=s.nl) hg m D L.o hT hM
 obtain ⟨X,hX⟩:=aj (bev cs)
 rw [<- hX] at J1 hlt t;have aO:=af fun (vo uo:OA) (vc uc Rn:Nat) W (t':TrRoom W o 500000000) (r':KRows W o s l fo fl fc fs) (x':NumT W o (.slice vo s.nl vc) s.nl X) (y':NumT W o (.slice uo s.nl uc) s.nl Rn) (hRn:Rn<(val l.n)) (hgc:Nat.gcd Rn (val l.n)=1)=>Jj o at_ N s l fo fl fc fs vo uo s.nl vc uc X Rn (val l.n) (val l.p) (val l.q) (al (val l.p)) (al (val l.q)) W t' r' gf hd he rfl aq ae rfl rfl rfl ac ad rfl rfl (by omega) (by omega) (by omega) (by omega) (GP hg) hf.1.symm x' hlt y' hRn hgc
 have a8:HzD (p9 s.nl (al (val l.p)) (al (val l.q)) s.dpl s.dql=nG (al (val l.n)) (al (val l.p)) (al (val l.q)) s.en):=by unfold HzD nG;rw [e3,e4,<- ae]
 have S:HzD ((nG (al (val l.n)) (al (val l.p)) (al (val l.q)) s.en).length<=1000000000):=Ai (by omega) aw ax;have aD:=af z.o;have HG:HzD (Digs r1/\r1.length=s.nl/\Nat.gcd (val r1) (val l.n)=1/\val r1<(val l.n)):=⟨aT,by rw [aU];exact L.o,aV,aW⟩
 have bi:HzD (X<18446744073709551616^s.nl):=bG hlt ak.o;have br:=eZ 0;have bv:=eZ 220;have bw:=ia 220;clear ht he hR hd hl hc F h hB O P gf N xK xC xS xT xF xO Q hr hg z dd hlen hlt m L ao ap A C ae au av G H aq ac ad aw ax hf e1 e2 e3 e4 D aT aU aV aW hX ak;delta ClZ;go_in;go_wp2_with fail;refine J1.mono ?_;rintro e w1 ⟨vo,vc,rfl,rv,fv,g⟩;have I:=af g;obtain ⟨p0,-⟩:=aY (ar ab.o g);have s0:=(aM.o.g g).cell;have J2:=JB.o w1 g;have bd:=af rv;have a9:=af fv;clear J1 g q0 q1 q2 q3 q4 q5 q6 q7 c0 JB rv fv;go_wp2_with fail;refine J2.mono ?_
 rintro e w2 ⟨u,rfl,⟨hu,aS⟩,ag,k2⟩;have j:=aF.o.g I.o;have t1:TrRoom w1 o 1000000000:=Z.o.g I.o;have t2:TrIn w2 o:=t1.1.script j k2;have aQ:RowT w2 o u r1:=jh aS t1.1 hu;have nR:=NumT.of aQ HG.o.1 HG.o.2.1;obtain ⟨uo,uc,rfl⟩:=nR.s;have nX:NumT w2 o (.slice vo s.nl vc) s.nl X:=⟨(jh a9.o Z.o.1 bd.o).script j k2,bi.o⟩
 have kk:Kept (ofP p) w w2:=I.o.any.trans k2;have R2:=(bc.o.g I.o).script j k2;have yK:=(kk.block _ (lt_of_block ab.o) (fun f=>(J.o _ f).1 rfl)).trans ab.o;have yF:=(kk.block _ (lt_of_block aK.o) (fun f=>(J.o _ f).2.2.2.1 rfl)).trans aK.o;have yC:=bh.o.kept kk (fun f=>(J.o _ f).2.1 rfl);have yT:=bj.o.kept kk (fun f=>(J.o _ f).2.2.1 rfl);have yO:=an.o.kept kk (fun f=>(J.o _ f).2.2.2.2 rfl);have J3:=aO.o vo uo vc uc _ w2 (⟨t2,by have:=t1.2;omega⟩) R2 nX nR HG.o.2.2.2 HG.o.2.2.1;obtain ⟨a0,a1,a2,a3,a4,a5,a6,a7⟩:=aY yK;have b0:=yT.cell;obtain ⟨d0,d1⟩:=jB yF;have bk:=af yC;have bl:=af yO;have aI:=af t2
 have bb:=af kk;clear J2 hu aS ag k2 j t1 t2 aQ nR nX kk R2 yK yF yC yT yO p0 s0 aO;go_wp2_with fail;refine (br _).mono ?_;rintro e bD ⟨rfl,bz⟩;obtain rfl:=bz.symm;go_wp2_with fail;refine J3.mono ?_;rintro e w3 ⟨zo,zc,Tn,b,M,o3,rfl,hT,hM,hb,nZ,dC⟩;have v:=t.o Tn M hT hM;have zC:=dC.cells bk.o aI.o (by decide) (by decide);have zO:=dC.cells bl.o aI.o (by decide) (by decide);have DS:DidS (fun x=>ofP p x\/x=bO) w o (p9 s.nl (al (val l.p)) (al (val l.q)) s.dpl s.dql) w3 o3:=DidS.of (bb.o.mono (fun x _ f=>.inl f)) dC;rw [a8.o] at DS;have c4:=Gc zo s.nl zc (cW b M 0) cl w3 nZ.1.1 aR (by omega)
 have c3:=(show Box w3 bC (.slice co cl cc) 28 from zC).cell;have az:=af v;have aZ:=af DS;have bm:=af zO;have ay:=af hb;have bo:b=0\/b=1:=by rw [hb];unfold dD;split <;> omega
 have bg:HzD (w.heap.size<=w3.heap.size):=DS.1.size;clear J3 v zC zO DS nZ dC hT hM hb a0 a1 a2 a3 a4 a5 a6 a7 b0 d0 d1;go_wp2_with fail;refine c4.mono ?_;rintro e w4 ⟨yo,yn,yc,rfl,ry,fy,k4⟩;have wO:=(show Box w3 bO (.slice none 0 0) 28 from bm.o).g k4;have o4:=wO.cell;have f4:=wO.free;have aJ:=af wO;have be:=af ry;have aB:HzD (Fresh w (.slice yo yn yc)):=fun x hx=>aH bg.o (fy x hx)
 have R:=af (aZ.o.g k4);clear c4 ry fy k4 wO c3;have Y:HzD (∀ E RL,PrvL l.n l.d l.p l.q l.dp l.dq l.qi s.en at_ fs cs bs E RL rest->bes (cW b M 0) cl cl=RL->∀ r,((E=0/\r=.returned (.tuple #[]))\/(E≠0/\r=.panicked [refusal (E:Nat)]))->ApEnd bO o l s.en at_ fs cs bs p w r (w4.setCell ⟨bO,0,none⟩ (.slice yo yn yc))):=fun E RL hp bu r bt=>by
  have kb:=aE w4 bO (.slice yo yn yc);have bn:bO<w.heap.size:=an.o.lt;have bp:∀ x,(Value.slice yo yn yc).ownBlock=some x->¬ x=bO:=fun x hx e=>by have h1:=aB.o x hx;omega
  have bx:=R.o.trIn Z.o S.o;have bq:¬ dm o3 bO:=aG aJ.o bx (by decide) (by decide);refine ⟨E,RL,rest,_,o3,hp,fun _=>rfl,S.o,⟨_,aJ.o.set _,?_,aB.o⟩,R.o.put kb (fun _=>.inr rfl) bq,bt⟩;rw [<- bu];exact be.o.kept kb bp
 rcases bo with rfl | rfl
 ·have U:M^s.en%(val l.n)≠X:=fun e=>by have h1:=ay.o;rw [dR e] at h1;exact absurd h1 (by decide)
  have c:=Y.o 220 _ (az.o.2 U) (by rw [<- aD.o];exact xA _);have y:=af c;clear c Y U;go_wp2_with fail;refine (bw _).mono ?_;rintro e w5 ⟨rfl,rfl⟩;exact ⟨rfl,y.o _ (by first | exact .inr ⟨by decide,rfl⟩ | simp)⟩
 ·have U:M^s.en%(val l.n)=X:=Classical.byContradiction fun e=>by have h1:=ay.o;rw [cG e] at h1;exact absurd h1 (by decide)
  have c:=Y.o 0 _ (az.o.1 U) (by rw [<- aD.o];rfl);have y:=af c;clear c Y U;go_wp2_with fail;refine (bv _).mono ?_;rintro e w5 ⟨rfl,bA⟩;obtain rfl:=bA.symm;go_wp2_with fail;go_end0
  exact y.o _ (by first | exact .inl ⟨rfl,rfl⟩ | simp)

theorem zI:VPriT:=by
 refine ⟨nG,fun a b c e=>by unfold nG p9 uY;simp,?_⟩;intro o s l co cl cc cs p B bs at_ fo fl fc fs w ht he g hd hl hc P ad h hB M O gf ae L;have hR:KRows w o s l fo fl fc fs:=⟨g _ _ (by simp),g _ _ (by simp),g _ _ (by simp),g _ _ (by simp),g _ _ (by simp),g _ _ (by simp),g _ _ (by simp),g _ _ (by simp)⟩
 have Q:∀ args w,(callFunc 22 args).run prog w=.ok (.enter 22 args) w:=fun _ _=>by simp [go_sem]
 obtain ⟨po,S⟩:=aK o;obtain ⟨Wa,y⟩:=aj (w.alloc (.cells #[.pointer po] 57))
 obtain ⟨Wb,z⟩:=aj (Wa.alloc (.cells #[.slice s.no s.nl s.nc,.int .u64 (s.en:Nat),.slice s.dO s.dl s.dc,.slice s.po s.pl s.pc,.slice s.qo s.ql s.qc,.slice s.dpo s.dpl s.dpc,.slice s.dqo s.dql s.dqc,.slice s.qio s.qil s.qic] 26))
 obtain ⟨Wc,A⟩:=aj (Wb.alloc (.cells #[.slice co cl cc] 28))
 obtain ⟨Wd,C⟩:=aj (Wc.alloc (.cells #[.pointer p] 38))
 obtain ⟨We,D⟩:=aj (Wd.alloc (.cells #[.int .i64 at_,.slice fo fl fc] 32))
 obtain ⟨W,hW⟩:=aj (We.alloc (.cells #[.slice none 0 0] 28))
 have ka:Kept aa w Wa:=by rw [y];exact (ah aa w).alloc _
 have kb:Kept aa Wa Wb:=by rw [z];exact (ah aa Wa).alloc _
 have kc:Kept aa Wb Wc:=by rw [A];exact (ah aa Wb).alloc _
 have kd:Kept aa Wc Wd:=by rw [C];exact (ah aa Wc).alloc _
 have ke:Kept aa Wd We:=by rw [D];exact (ah aa Wd).alloc _
 have kf:Kept aa We W:=by rw [hW];exact (ah aa We).alloc _
 have za:Wa.heap.size=w.heap.size+1:=by rw [y];simp
 have zb:Wb.heap.size=w.heap.size+1+1:=by rw [z];simp [za]
 have zc:Wc.heap.size=w.heap.size+1+1+1:=by rw [A];simp [zb]
 have zd:Wd.heap.size=w.heap.size+1+1+1+1:=by rw [C];simp [zc]
 have ze:We.heap.size=w.heap.size+1+1+1+1+1:=by rw [D];simp [zd]
 have zf:W.heap.size=w.heap.size+1+1+1+1+1+1:=by rw [hW];simp [ze]
 have xa:Box Wa w.heap.size (.pointer po) 57:=by rw [y];exact Box.new w _ _
 have xb:Wb.heap[w.heap.size+1]? = some (.cells #[.slice s.no s.nl s.nc,.int .u64 (s.en:Nat),.slice s.dO s.dl s.dc,.slice s.po s.pl s.pc,.slice s.qo s.ql s.qc,.slice s.dpo s.dpl s.dpc,.slice s.dqo s.dql s.dqc,.slice s.qio s.qil s.qic] 26 (0,0)):=by rw [z,<- za];exact heap_alloc_new _ _
 have xc:Box Wc (w.heap.size+1+1) (.slice co cl cc) 28:=by rw [A,<- zb];exact Box.new Wb _ _
 have xd:Box Wd (w.heap.size+1+1+1) (.pointer p) 38:=by rw [C,<- zc];exact Box.new Wc _ _
 have xf:We.heap[w.heap.size+1+1+1+1]? = some (.cells #[.int .i64 at_,.slice fo fl fc] 32 (0,0)):=by rw [D,<- zd];exact heap_alloc_new _ _
 have xg:Box W (w.heap.size+1+1+1+1+1) (.slice none 0 0) 28:=by rw [hW,<- ze];exact Box.new We _ _
 have kE:=(ah aa W).alloc (.cells #[.int .i64 0] 35);have xe:Box (W.alloc (.cells #[.int .i64 0] 35)) W.heap.size (.int .i64 0) 35:=Box.new W (.int .i64 0) 35;have k0:=((((ka.trans kb).trans kc).trans kd).trans ke).trans kf;have k1:=k0.trans kE;have i:∀ x,w.heap.size<=x->¬ ofP p x:=fun x hx f=>by have:=(h.inP f).2;omega
 have R:∀ x,w.heap.size<=x->¬ dm o x:=fun x hx f=>by have:=ht.1.foot x f;omega
 have t:=Hi (w.heap.size+1) (w.heap.size+1+1) (w.heap.size+1+1+1) w.heap.size (w.heap.size+1+1+1+1) (w.heap.size+1+1+1+1+1) o s l co cl cc cs p B bs at_ fo fl fc fs _ (ht.g k1) he (hR.g k1) hd hl (hc.g k1) P (h.g k1) (aH hB k1.size) M O gf L (ar xb ((((kc.trans kd).trans ke).trans kf).trans kE)) (xc.g (((kd.trans ke).trans kf).trans kE)) (xd.g ((ke.trans kf).trans kE)) (by rw [S];exact xa.g (((((kb.trans kc).trans kd).trans ke).trans kf).trans kE)) (ar xf (kf.trans kE)) (xg.g kE) (fun x f=>⟨fun e=>i _ (by omega) f,fun e=>i _ (by omega) f,fun e=>i _ (by omega) f,fun e=>i _ (by omega) f,fun e=>i _ (by omega) f⟩)
 have I:=oQ 22 _ W (fun c W'=>∃ E RL rest m o',c=(E:Nat)/\PrvL l.n l.d l.p l.q l.dp l.dq l.qi s.en at_ fs cs bs E RL rest/\((E=0\/E=220)->m=nG (al (val l.n)) (al (val l.p)) (al (val l.q)) s.en)/\m.length<=1000000000/\∃ v,Box W' (w.heap.size+1+1+1+1+1) v 28/\Row .u8 W' v RL/\HzD (∀ x,v.ownBlock=some x->w.heap.size<=x/\x≠W.heap.size/\x≠w.heap.size+1+1+1+1+1)/\DidS (ofP p) w o m W' o') Q (t.mono (by
  rintro r w' ⟨E,RL,rest,m,o',hp,hm,j,⟨v,hb,hr,hf⟩,hD,ag⟩;have J:Box w' W.heap.size (.int .i64 0) 35:=xe.kept hD.1 (fun f=>f.elim (fun f=>f.elim (fun f=>i _ (by omega) f) (fun e=>by omega)) (fun f=>R _ (by omega) f));have hv:∀ x,v.ownBlock=some x->w.heap.size<=x/\x≠W.heap.size/\x≠w.heap.size+1+1+1+1+1:=fun x hx=>by have h1:=hf x hx;rw [World.size_alloc] at h1;omega
  have k:DidS (ofP p) w o m w' o':=DidS.b k1 hD (fun x hx f=>f.elim id (fun e=>by omega));rcases ag with ⟨h0,rfl⟩ | ⟨h0,rfl⟩
  ·exact ⟨J,.inl ⟨rfl,E,RL,rest,m,o',by rw [h0];rfl,hp,hm,j,v,hb,hr,hv,k⟩⟩
  ·exact ⟨J,.inr ⟨_,rfl,E,RL,rest,m,o',rfl,hp,hm,j,v,hb,hr,hv,k⟩⟩))
 have HW:HzD (W=(((((w.alloc (.cells #[.pointer po] 57)).alloc (.cells #[.slice s.no s.nl s.nc,.int .u64 (s.en:Nat),.slice s.dO s.dl s.dc,.slice s.po s.pl s.pc,.slice s.qo s.ql s.qc,.slice s.dpo s.dpl s.dpc,.slice s.dqo s.dql s.dqc,.slice s.qio s.qil s.qic] 26)).alloc (.cells #[.slice co cl cc] 28)).alloc (.cells #[.pointer p] 38)).alloc (.cells #[.int .i64 at_,.slice fo fl fc] 32)).alloc (.cells #[.slice none 0 0] 28)):=by unfold HzD;rw [hW,D,C,A,z,y]
 have HS:=af zf;have Y:HzD (∀ x,ofP p x->x<w.heap.size):=fun x f=>(h.inP f).2
 have HT:=af ht;rw [S];unfold KS.v;clear t hR g hd hl hc P ad h hB M O gf ae L ht he ka kb kc kd ke kf za zb zc zd ze zf xa xb xc xd xf xg kE xe k0 k1 i R hW y z A C D Q;delta ClZ;go_in;go_wp2_with (rw [<- HW.o]);refine I.mono ?_;rintro r w' ⟨n,w1,rfl,⟨⟨E,RL,rest,m,o',rfl,hp,hm,j,v,hb,hr,hv,hD⟩,N⟩,rfl⟩;obtain ⟨vo,vn,vc,rfl,-⟩:=hr.open;have ai:W.heap.size=w.heap.size+1+1+1+1+1+1:=HS.o;have H:=hD.trIn HT.o j;have F:Box w1 W.heap.size (.int .i64 0) 35:=N;have n1:¬ dm o' W.heap.size:=aG F H (by decide) (by decide);have n2:¬ dm o' (w.heap.size+1+1+1+1+1):=aG hb H (by decide) (by decide)
 have kx:=aE w1 W.heap.size (.int .i64 (E:Nat));have G:=hb.kept kx (by show ¬ w.heap.size+1+1+1+1+1=W.heap.size;omega);have T:=hr.kept kx (fun x hx e=>(hv.o x hx).2.1 e);have k:=hD.put kx (fun hx=>by omega) n1;have ak:=G.cell;have am:=G.free;have U:=af G;have ab:=af hp;have HM:=af hm;have Z:=af j;generalize w1.setCell ⟨W.heap.size,0,none⟩ (.int .i64 (E:Nat))=W2 at *;have ky:=aE W2 (w.heap.size+1+1+1+1+1) (.slice vo vn vc);have ac:=af (T.kept ky (fun x hx e=>(hv.o x hx).2.2 e));have V:=af ((k.put ky (fun hx=>by omega) n2).split Y.o)
 have X:HzD (∀ b,(Value.slice vo vn vc).ownBlock=some b->w.heap.size<=b):=fun b hx=>(hv.o b hx).1
 clear I hb hr N kx G T hD k hp hm j ai H F n1 n2 ky hv;go_wp2_with fail;exact bodyPost_ret (v:=.tuple #[.slice vo vn vc,.int .i64 (E:Nat)]) (by simp [results,results9,go_sem,(U.o.set (.slice vo vn vc)).cell]) rfl ⟨_,E,rfl,RL,rest,m,ab.o,⟨ac.o,X.o⟩,Z.o,HM.o,V.o⟩

theorem Fb (u v:Value) (Q N:Nat) (w:World) (hu:IsBig w u Q) (hv:IsBig w v N) (hQ:cC Q<=1000) (hN:cC N<=1000) :
  ClZ 55 #[u,v] w fun e w'=>∃ R:Bool,e=.returned (.bool R)/\(R=true->PrimeN Q->PrimeN N)/\Kept aa w w':=by
 obtain ⟨uo,un,uc,rfl,_,_⟩:=hu.length;obtain ⟨vo,vn,vc,rfl,_,_⟩:=hv.length;have h1:=jM 1 (by omega) w;have HU:=af hu;have HV:=af hv;clear hu hv;delta ClZ;go_in;go_wp2_with fail;refine h1.mono ?_;rintro e w1 ⟨v1,rfl,A,_,k1⟩;have h2:=m7 _ v1 N 1 w1 (HV.o.g k1) A;have E:=af A;clear h1 A;by_cases hN1:N<=1
 ·have hc:=zg hN1;generalize dh N 1=c at *;go_wp2_with fail;refine h2.mono ?_;rintro e w2 ⟨rfl,m2,rfl⟩;go_wp2_with fail;go_ret;exact ⟨false,rfl,(fun h=>by cases h),k1.drewN m2⟩
 ·rw [jy (show 1<N by omega)] at h2;go_wp2_with fail;refine h2.mono ?_;rintro e ap ⟨rfl,m2,rfl⟩;have K2:=k1.drewN m2;have B2:=E.o.g ((ah aa w1).drewN m2);obtain ⟨w2,T⟩:=aj (w1.drewN m2)
  rw [<- T] at K2 B2 ⊢;have h3:=Dh _ _ Q Q w2 (HU.o.g K2) (HU.o.g K2) (by omega) (by omega);clear h2 T k1 E;go_wp2_with fail;refine h3.mono ?_;rintro e w3 ⟨v3,rfl,J,_,k3⟩;have K3:=K2.trans k3;have B3:=B2.g k3;have h4:=m7 v3 _ (Q*Q) N w3 J (HV.o.g K3);clear h3 J K2 B2 k3;by_cases hqq:Q*Q<=N
  ·have hc:=zg hqq;generalize dh (Q*Q) N=c at *;go_wp2_with fail;refine h4.mono ?_;rintro e w4 ⟨rfl,m4,rfl⟩;go_wp2_with fail;go_ret;exact ⟨false,rfl,(fun h=>by cases h),K3.drewN m4⟩
  ·rw [jy (show N<Q*Q by omega)] at h4;have I:0<Q:=by
    rcases cD Q with e | e
    ·subst e;omega
    ·exact e
   have Z:=af hqq;clear hqq;go_wp2_with fail;refine h4.mono ?_;rintro e aq ⟨rfl,m4,rfl⟩;have K4:=K3.drewN m4;have B4:=B3.g ((ah aa w3).drewN m4);obtain ⟨w4,U⟩:=aj (w3.drewN m4)
   rw [<- U] at K4 B4 ⊢;have h5:=vR _ v1 N 1 w4 (HV.o.g K4) B4 (by omega);clear h4 U K3 B3;go_wp2_with fail;refine h5.mono ?_;rintro e w5 ⟨v5,rfl,L,_,k5⟩;have K5:=K4.trans k5;have B5:=B4.g k5;have h6:=pW v5 _ (N-1) Q w5 L (HU.o.g K5) I (by have:=ee (show N-1<=N by omega);omega);clear h5 K4 B4 k5 L;go_wp2_with fail;refine h6.mono ?_;rintro e w6 ⟨v6,ao,rfl,M,i,_,_,k6⟩;obtain ⟨ro,rn,rc,rfl,_,_⟩:=i.length;have b:=af (K5.trans k6);have q:=af (B5.g k6);have F:=af M;obtain ⟨kq,S⟩:=aj ((N-1)/Q)
   rw [<- S] at F;clear h6 K5 B5 k6 M i S;by_cases hrn:0<rn
   ·have g1:(0:Int)<(rn:Int):=by omega
    go_wp2_with fail;go_ret;exact ⟨false,rfl,(fun h=>by cases h),b.o⟩
   ·have g1:¬ (0:Int)<(rn:Int):=by omega
    have g2:¬ (rn:Int) > 0:=by omega
    go_wp2_with fail;go_loopw [9] (fun av wr=>∃ a:Nat,2<=a/\a<=30/\av=.int .u64 (a:Int)/\HzD (Kept aa w6 wr)) (fun av _=>30-(intOf av).toNat)
    case atStart=>exact ⟨2,by omega,by omega,rfl,ah _ _⟩
    case round=>
     obtain ⟨a,am,ha,rfl,B⟩:=hrel;by_cases hlt:a<30
     ·have ga:(a:Int)<30:=by omega
      have h7:=jM a (by omega) wr;go_wp2_with fail;refine h7.mono ?_;rintro e w7 ⟨v7,rfl,O,_,k7⟩;have K7:=B.o.trans k7;have G:=b.o.trans K7;have h8:=zS v7 v6 _ a kq N w7 O (F.o.g K7) (HV.o.g G) (by omega) (by have:=(dM a 1).2 (by omega);omega) (by omega);clear h7 O k7;go_wp2_with fail;refine h8.mono ?_;rintro e w8 ⟨v8,rfl,o,_,k8⟩;have K8:=K7.trans k8;have x:=b.o.trans K8;obtain ⟨X,hX⟩:=aj (a^kq%N)
      have z:X<N:=by rw [hX];exact bk
      rw [<- hX] at o;have an:cC X<=1000:=by have:=ee (eI z);omega
      have h9:=zS v8 _ _ X Q N w8 o (HU.o.g x) (HV.o.g x) (by omega) (by omega) (by omega);clear h8 K7 G k8 hX;go_wp2_with fail;refine h9.mono ?_;rintro e w9 ⟨v9,rfl,P,_,k9⟩;have K9:=K8.trans k9;have m:=m7 v9 v1 _ 1 w9 P (q.o.g K9);have D:=o.g k9;clear h9 P o K8 x k9;by_cases hone:X^Q%N=1
      ·rw [jx hone] at m;have ab:1<=X:=by
        rcases cD X with e | e
        ·subst e;rw [Nat.zero_pow I] at hone;simp at hone
        ·exact e
       have s:=af hone;clear hone;go_wp2_with fail;refine m.mono ?_;rintro e ae ⟨rfl,k,rfl⟩;have d:=K9.drewN k;have p:=D.g ((ah aa w9).drewN k);obtain ⟨Y,j⟩:=aj (w9.drewN k)
       rw [<- j] at d p ⊢;have y:=zU v8 v1 _ X 1 N Y p (q.o.g d) (HV.o.g (b.o.trans d)) (by omega) (by omega) (by omega);rw [ai ab] at y;clear m j K9 D p;go_wp2_with fail;refine y.mono ?_;rintro e ag ⟨ac,rfl,f,_,V⟩;have t:=d.trans V;have H:=Hn ac _ (X-1) N ag f (HV.o.g (b.o.trans t)) (by have:=ee (show X-1<=X by omega);omega) (by omega);clear y d V f;go_wp2_with fail;refine H.mono ?_;rintro e ak ⟨ad,rfl,g,_,W⟩;have l:=t.trans W;have n:=m7 ad v1 _ 1 ak g (q.o.g l);clear H t W g;by_cases hg:Nat.gcd (X-1) N=1
       ·rw [jx hg] at n;have HG:HzD (PrimeN Q->PrimeN N):=fun hq=>vx hq (by omega) (by have:=Z.o;omega) s.o hg
        go_wp2_with fail;refine n.mono ?_;rintro e al ⟨rfl,C,rfl⟩;go_wp2_with fail;go_ret;exact ⟨true,rfl,(fun _=>HG.o),(b.o.trans l).drewN C⟩
       ·have hc:=xP hg;generalize dh (Nat.gcd (X-1) N) 1=cg at *;go_wp2_with fail;refine n.mono ?_;rintro e al ⟨rfl,C,rfl⟩;have r:=af (l.drewN C);clear n l;go_wp2_with fail;go_roundw
        case rel=>exact ⟨a+1,by omega,by omega,by go_num,r⟩
        case measure=>simp [intOf];omega
      ·have hc:=xP hone;generalize dh (X^Q%N) 1=c10 at *;go_wp2_with fail;refine m.mono ?_;rintro e Y ⟨rfl,k,rfl⟩;go_wp2_with fail;go_ret;exact ⟨false,rfl,(fun h=>by cases h),(b.o.trans K9).drewN k⟩
     ·have ga:¬ (a:Int)<30:=by omega
      go_wp2_with fail;go_ret;first | exact .inl ⟨rfl,b.o.trans B.o⟩ | exact ⟨false,rfl,(fun h=>by cases h),b.o.trans B.o⟩

theorem qj {xs:LN} (hd:Digs xs) (hl:xs.length<=n):cC (val xs)<=2*n:=
 (dM _ _).2 (by
  rw [aX];exact bg (aC (by omega) hd) (bi (by omega) hl))

theorem AZ (lo:OA) (n an:Nat) (A:Nat->OA) (N C:Nat->Nat) (a:Nat->LN) (w:World) (hs:Slots w lo n A N C) (hr:∀ i,i<n->Row .u64 w (.slice (A i) (N i) (C i)) (a i)) (hd:∀ i,i<n->Digs (a i)) (hn:n<=2000000) (p:∀ i,i<n->N i<=2000000) :
  ClZ 20 #[.slice lo n an] w fun e w'=>∃ R:Bool,e=.returned (.bool R)/\(R=true->0<n/\PrimeN (val (a (n-1))))/\Kept aa w w':=by
 have HF:HzD (∀ W,Kept aa w W->∃ R:Bool,Ending.returned (.bool false)=.returned (.bool R)/\(R=true->0<n/\PrimeN (val (a (n-1))))/\Kept aa w W):=fun W k=>⟨false,rfl,(fun h=>by cases h),k⟩
 by_cases h0:n=0
 ·subst h0;clear hs hr hd;delta ClZ;go_in;go_wp2_with fail;go_ret;first | exact HF.o _ (ah _ _) | exact .inl ⟨rfl,ah _ _⟩
 have g0:¬ (n:Int)=0:=by omega
 have q0:((n:Int) == 0)=false:=by simp;omega
 by_cases h8:8<n
 ·have g8:(n:Int) > 8:=by omega
  clear hs hr hd;delta ClZ;go_in;go_wp2_with fail;go_ret;first | exact HF.o _ (ah _ _) | exact .inl ⟨rfl,ah _ _⟩
 have g8:¬ (n:Int) > 8:=by omega
 obtain ⟨lb,d,rfl,s⟩:=hs 0 (by omega);have L:=hr 0 (by omega);have H:=hd 0 (by omega);obtain ⟨_,_,_,e1,o,-,-,-,h4⟩:=L.open;cases e1
 rw [aU] at s;have gn:(0:Int)<(n:Int):=by omega
 have ap:=p 0 (by omega);by_cases hN1:N 0=1
 ·rw [hN1] at s h4 o;obtain ⟨zb,av,Y,G⟩:=h4 0 (by omega);rw [Y] at s;rw [aU] at G;obtain ⟨z,hz⟩:=aj ((a 0).getD 0 0)
  rw [<- hz] at G;have Q:a 0=[z]:=by
   have:=o.o
   match hxs:a 0 with
   | []=>rw [hxs] at this;simp at this
   | [y]=>rw [hz,hxs];rfl
   | y :: y' :: l=>rw [hxs] at this;simp at this
  have aB:z<18446744073709551616:=H z (by rw [Q];simp);have P:HzD (val (a 0)=z):=by unfold HzD;rw [Q];simp [val]
  have HS:=af hs;have HR:=af hr;have HD:=af hd;have HN:=af p;clear hs hr hd H L o h4 Q hz p ap;by_cases hz6:1000000<=z
  ·have gz:(z:Int)≥1000000:=by omega
   delta ClZ;go_in;go_wp2_with fail;go_ret;first | exact HF.o _ (ah _ _) | exact .inl ⟨rfl,ah _ _⟩
  ·have gz:¬ (z:Int)≥1000000:=by omega
   by_cases hP:PrimeN z
   ·have q:=vM z (by omega) true (by simp [hP]) w;have X:HzD (PrimeN (val (a 0))):=by unfold HzD;rw [P.o];exact hP
    clear hP P;delta ClZ;go_in;go_wp2_with fail;refine q.mono ?_;rintro e w1 ⟨rfl,rfl⟩;clear q;go_wp2_with fail;go_loopw [3] (fun iv wr=>∃ i:Nat,1<=i/\i<=n/\iv=.int .i64 (i:Int)/\HzD (PrimeN (val (a (i-1))))/\HzD (N (i-1)<=20)/\HzD (Kept aa w1 wr)) (fun iv _=>n-(intOf iv).toNat)
    case atStart=>exact ⟨1,by omega,by omega,rfl,X.o,(by unfold HzD;show N 0<=20;omega),ah _ _⟩
    case round=>
     obtain ⟨i,az,aA,rfl,t,g,c⟩:=hrel;by_cases hlt:i<n
     ·have g1:(i:Int)<(n:Int):=by omega
      have aw:(0:Int)<=(i:Int):=by omega
      obtain ⟨j,au⟩:∃ j,i=j+1:=⟨i-1,by omega⟩
      have f:i-1=j:=by omega
      obtain ⟨_,_,e1,ab⟩:=(HS.o.g c.o) i hlt;cases e1
      obtain ⟨_,_,e1,ac⟩:=(HS.o.g c.o) j (by omega);cases e1
      have gj:(i:Int)-1=(j:Int):=by omega
      have gw:IntKind.i64.wrap ((i:Int)-1)=(j:Int):=jN
      have ay:(j:Int)<(n:Int):=by omega
      have ax:(0:Int)<=(j:Int):=by omega
      rw [f] at t g;have O:=(HR.o j (by omega)).g c.o;have M:=(HR.o i hlt).g c.o;have J:=HD.o j (by omega);have I:=HD.o i hlt;have ar:=HN.o j (by omega);have aq:=HN.o i hlt;obtain ⟨_,_,_,e1,F,-,-,-,-⟩:=O.open;cases e1
      obtain ⟨_,_,_,e1,E,-,-,-,-⟩:=M.open;cases e1
      have JO:HzD (∀ W,Kept aa wr W->ClZ 19 #[.slice (A j) (N j) (C j)] W fun r w'=>∃ v',r=.returned v'/\IsBig w' v' (val (a j))/\(∀ b,v'.ownBlock=some b->W.heap.size<=b)/\Kept aa W w'):=fun W k=>rOf _ _ W (O.g k) J (by rw [F.o];omega)
      have JI:HzD (∀ W,Kept aa wr W->ClZ 19 #[.slice (A i) (N i) (C i)] W fun r w'=>∃ v',r=.returned v'/\IsBig w' v' (val (a i))/\(∀ b,v'.ownBlock=some b->W.heap.size<=b)/\Kept aa W w'):=fun W k=>rOf _ _ W (M.g k) I (by rw [E.o];omega)
      have U:HzD (N i<=20->cC (val (a i))<=1000):=fun h=>by have:=qj I (show (a i).length<=20 by rw [E.o];exact h);omega
      have V:HzD (N j<=20->cC (val (a j))<=1000):=fun h=>by have:=qj J (show (a j).length<=20 by rw [F.o];exact h);omega
      have JC:HzD (∀ W,Kept aa wr W->W.cell? ⟨lb,d+i,none⟩=some (.slice (A i) (N i) (C i))/\W.cell? ⟨lb,d+j,none⟩=some (.slice (A j) (N j) (C j))):=fun W k=>⟨k.cellN ab,k.cellN ac⟩
      have ag:HzD (N i<=20->∀ W x y,IsBig W x (val (a j))->IsBig W y (val (a i))->ClZ 55 #[x,y] W fun e w'=>∃ R:Bool,e=.returned (.bool R)/\(R=true->PrimeN (val (a i)))/\Kept aa W w'):=fun D W x y hx hy=>by
       refine (Fb x y _ _ W hx hy (V.o g.o) (U.o D)).mono ?_;rintro e w' ⟨R,rfl,h,k⟩;exact ⟨R,rfl,fun hR=>h hR t.o,k⟩
      have ae:HzD (PrimeN (val (a i))->PrimeN (val (a (i+1-1)))):=fun h=>by rw [gD];exact h
      have kd:Kept aa wr wr.drew:=(ah _ _).drew;clear O M J I ar aq F E U V au f;have ai:HzD (N i<=20->N (i+1-1)<=20):=fun h=>by rw [gD];exact h
      generalize val (a j)=V0 at *;generalize val (a i)=V1 at *;generalize N i=n1 at *;generalize N j=n0 at *;generalize A i=a1 at *;generalize A j=a0 at *;generalize C i=c1 at *;generalize C j=c0 at *;by_cases D:20<n1
      ·have m:(20:Int)<(n1:Int):=by omega
       go_wp2_with fail;go_quiet (fail);go_wp2_with fail;go_ret;first | exact HF.o _ (c.o.drewN _) | exact .inl ⟨rfl,c.o.drewN _⟩
      ·have m:¬ (20:Int)<(n1:Int):=by omega
       have cb:decide ((20:Int)<(n1:Int))=false:=cG m;have ao:decide ((n1:Int) > 20)=false:=cG m;clear s G HS HR HD HN X Y hN1 q0 g0 gj;go_wp2_with fail;go_region_held3 (fun w'=>w'.cell? ⟨lb,d+i,none⟩=some (.slice a1 n1 c1)/\w'.cell? ⟨lb,d+j,none⟩=some (.slice a0 n0 c0))
        (((try dsimp only);(repeat' apply And.intro) <;> first | (go_keep;done) | assumption))
        (first
        | (go_at_call 55;refine (ag.o (by omega) _ _ _ (b1.g k2) b2).mono ?_;rintro e w3 ⟨R3,rfl,Z,k3⟩;have T:=S.trans k3;obtain ⟨s0,s1⟩:=JC.o _ T)
        | (go_at_call_of 19 (Value.slice a1 n1 c1);refine (JI.o _ v).mono ?_;rintro e w2 ⟨v2,rfl,b2,_,k2⟩;have S:=v.trans k2;obtain ⟨r0,r1⟩:=JC.o _ S)
        | (go_at_call_of 19 (Value.slice a0 n0 c0);refine (JO.o _ kd).mono ?_;rintro e w2 ⟨v1,rfl,b1,_,k1⟩;have v:=kd.trans k1;obtain ⟨q1,q2⟩:=JC.o _ v))
       all_goals
        have B:=af (c.o.trans T);have am:=af Z;have ad:HzD (n1<=20):=by unfold HzD;omega
        clear Z ab ac gw ao q1 q2 r0 r1 s0 s1 k1 k2 k3 v S T b1 b2 kd;try rw [cb]
        clear cb m D;cases R3
        ·rw [show (!false)=true from rfl];go_wp2_with fail;go_ret;first | exact HF.o _ B.o | exact .inl ⟨rfl,B.o⟩
        ·have al:=af (ae.o (am.o rfl));have ak:=af (ai.o ad.o);rw [show (!true)=false from rfl];go_wp2_with fail;go_roundw
         case rel=>exact ⟨i+1,by omega,by omega,by go_num,al.o,ak.o,B.o⟩
         case measure=>simp [intOf];omega
     ·have g1:¬ (i:Int)<(n:Int):=by omega
      obtain rfl:i=n:=by omega
      go_wp2_with fail;go_ret;first | exact ⟨true,rfl,(fun _=>⟨by omega,t.o⟩),c.o⟩ | exact .inr ⟨rfl,⟨by omega,t.o⟩,c.o⟩
   ·have q:=vM z (by omega) false (by simp [hP]) w;clear hP P;delta ClZ;go_in;go_wp2_with fail;refine q.mono ?_;rintro e w1 ⟨rfl,rfl⟩;go_wp2_with fail;go_ret;first | exact HF.o _ (ah _ _) | exact .inl ⟨rfl,ah _ _⟩
 ·have gN:¬ (N 0:Int)=1:=by omega
  generalize N 0=N0 at *;generalize A 0=A0 at *;generalize C 0=C0 at *;clear hs hr hd L H o h4 p;delta ClZ;go_in;go_wp2_with fail;go_ret;first | exact HF.o _ (ah _ _) | exact .inl ⟨rfl,ah _ _⟩

theorem yA (ao lo:OA) (L a n j:Nat) (xs:LN) (A:Nat->OA) (N C:Nat->Nat) (c:Nat->LN) (w:World) (hu:Row .u64 w (.slice ao L a) xs) (E:Digs xs) (hL:L<=1000000) (hs:Slots w lo n A N C) (hr:∀ i,i<n->Row .u64 w (.slice (A i) (N i) (C i)) (c i)) (hd:∀ i,i<n->Digs (c i)) (hn:n<=2000000) (o:∀ i,i<n->N i<=2000000) (heq:0<n->val xs=val (c (n-1))) :
  ClZ 8 #[.slice ao L a,.slice lo n j] w fun e w'=>∃ R:Bool,e=.returned (.bool R)/\(R=true->PrimeN (val xs))/\Kept aa w w':=by
 have HF:HzD (∀ W,Kept aa w W->∃ R:Bool,Ending.returned (.bool false)=.returned (.bool R)/\(R=true->PrimeN (val xs))/\Kept aa w W):=fun W k=>⟨false,rfl,(fun h=>by cases h),k⟩
 obtain ⟨_,_,_,e1,l,-,-,-,-⟩:=hu.open;cases e1
 have JX:HzD (∀ W,Kept aa w W->ClZ 19 #[.slice ao L a] W fun r w'=>∃ v',r=.returned v'/\IsBig w' v' (val xs)/\(∀ b,v'.ownBlock=some b->W.heap.size<=b)/\Kept aa W w'):=fun W k=>rOf _ _ W (hu.g k) E (by rw [l.o];omega)
 have JP:HzD (∀ W,Kept aa w W->ClZ 20 #[.slice lo n j] W fun e w'=>∃ R:Bool,e=.returned (.bool R)/\(R=true->0<n/\PrimeN (val (c (n-1))))/\Kept aa W w'):=fun W k=>AZ lo n j A N C c W (hs.g k) (fun i hi=>(hr i hi).g k) hd hn o
 have kd:Kept aa w w.drew:=(ah _ _).drew;by_cases h0:n=0
 ·subst h0;clear hs hr hd hu l heq;delta ClZ;go_in;go_wp2_with fail;go_quiet (fail);go_wp2_with fail;go_ret;first | exact HF.o _ ((ah _ _).drewN _) | exact .inl ⟨rfl,(ah _ _).drewN _⟩
 ·have g0:(0:Int)<(n:Int):=by omega
  have I:0<n:=by omega
  obtain ⟨m,hm⟩:∃ m,n=m+1:=⟨n-1,by omega⟩
  have z:n-1=m:=by omega
  rw [z] at JP heq;have heq:=heq (by omega);obtain ⟨lb,d,rfl,x⟩:=hs m (by omega);have p:=hr m (by omega);have y:=hd m (by omega);have H:=o m (by omega);obtain ⟨_,_,_,e1,t,-,-,-,-⟩:=p.open;cases e1
  have JL:HzD (∀ W,Kept aa w W->ClZ 19 #[.slice (A m) (N m) (C m)] W fun r w'=>∃ v',r=.returned v'/\IsBig w' v' (val (c m))/\(∀ b,v'.ownBlock=some b->W.heap.size<=b)/\Kept aa W w'):=fun W k=>rOf _ _ W (p.g k) y (by rw [t.o];omega)
  have JC:HzD (∀ W,Kept aa w W->W.cell? ⟨lb,d+m,none⟩=some (.slice (A m) (N m) (C m))):=fun W k=>k.cellN x
  have gw:IntKind.i64.wrap ((n:Int)-1)=(m:Int):=jN
  have F:(0:Int)<=(m:Int):=by omega
  have G:(m:Int)<(n:Int):=by omega
  generalize val (c m)=V1 at *;generalize val xs=V0 at *;generalize A m=a1 at *;generalize N m=n1 at *;generalize C m=c1 at *;clear hs hr hd hu l t p y hm z o h0;delta ClZ;go_in;go_wp2_with fail;go_region_held3 (fun w'=>w'.cell? ⟨lb,d+m,none⟩=some (.slice a1 n1 c1))
   (((try dsimp only);first | (go_keep;done) | assumption))
   (first
   | (go_at_call 20;refine (JP.o _ g).mono ?_;rintro e w4 ⟨R4,rfl,v,k4⟩;have s:=g.trans k4;have t0:=JC.o _ s)
   | (go_at_call 18;refine (m7 _ _ _ _ _ (b1.g k2) b2).mono ?_;rw [jx heq];rintro e w3 ⟨rfl,m3,rfl⟩;have g:=q.drewN m3;have s0:=JC.o _ g)
   | (go_at_call_of 19 (Value.slice a1 n1 c1);refine (JL.o _ f).mono ?_;rintro e w2 ⟨v2,rfl,b2,_,k2⟩;have q:=f.trans k2;have r0:=JC.o _ q)
   | (go_at_call_of 19 (Value.slice ao L a);refine (JX.o _ kd).mono ?_;rintro e w1 ⟨v1,rfl,b1,_,k1⟩;have f:=kd.trans k1;have q1:=JC.o _ f))
  all_goals
   have B:=af s;have D:HzD (R4=true->PrimeN V0):=fun h=>by rw [heq];exact (v h).2
   clear v gw q1 r0 s0 t0 k1 k2 k4 f q g s b1 b2 kd heq x;go_wp2_with fail;go_ret;exact ⟨R4,rfl,D.o,B.o⟩

theorem yB (ao lo:OA) (L d n l:Nat) (xs:LN) (A:Nat->OA) (N C:Nat->Nat) (j:Nat->LN) (w:World) (hu:Row .u64 w (.slice ao L d) xs) (G:Digs xs) (hL:L<=1000000) (hs:Slots w lo n A N C) (hr:∀ i,i<n->Row .u64 w (.slice (A i) (N i) (C i)) (j i)) (hd:∀ i,i<n->Digs (j i)) (hn:n<=2000000) (z:∀ i,i<n->N i<=2000000) (Q:0<n) (R:val xs≠val (j (n-1))) :
  ClZ 8 #[.slice ao L d,.slice lo n l] w fun e w'=>e=.returned (.bool false)/\Kept aa w w':=by
 obtain ⟨_,_,_,e1,x,-,-,-,-⟩:=hu.open;cases e1
 have JX:HzD (∀ W,Kept aa w W->ClZ 19 #[.slice ao L d] W fun r w'=>∃ v',r=.returned v'/\IsBig w' v' (val xs)/\(∀ b,v'.ownBlock=some b->W.heap.size<=b)/\Kept aa W w'):=fun W k=>rOf _ xs W (hu.g k) G (by rw [x.o];omega)
 have kd:Kept aa w w.drew:=(ah _ _).drew;have g0:(0:Int)<(n:Int):=by omega
 have cb:decide ((0:Int)<(n:Int))=true:=dR g0;obtain ⟨m,hm⟩:∃ m,n=m+1:=⟨n-1,by omega⟩
 have H:n-1=m:=by omega
 rw [H] at R;obtain ⟨lb,a,rfl,P⟩:=hs m (by omega);have q:=hr m (by omega);have F:=hd m (by omega);have O:=z m (by omega);obtain ⟨_,_,_,e1,v,-,-,-,-⟩:=q.open;cases e1
 have JL:HzD (∀ W,Kept aa w W->ClZ 19 #[.slice (A m) (N m) (C m)] W fun r w'=>∃ v',r=.returned v'/\IsBig w' v' (val (j m))/\(∀ b,v'.ownBlock=some b->W.heap.size<=b)/\Kept aa W w'):=fun W k=>rOf _ (j m) W (q.g k) F (by rw [v.o];omega)
 have JC:HzD (∀ W,Kept aa w W->W.cell? ⟨lb,a+m,none⟩=some (.slice (A m) (N m) (C m))):=fun W k=>k.cellN P
 have gw:IntKind.i64.wrap ((n:Int)-1)=(m:Int):=jN
 have J:(0:Int)<=(m:Int):=by omega
 have M:(m:Int)<(n:Int):=by omega
 have p:∀ f,f=19\/f=18->∀ args w,(callFunc f args).run prog w=.ok (.enter f args) w:=fun f h args w=>by rcases h with rfl | rfl <;> simp [go_sem]
 generalize val (j m)=V1 at *;generalize val xs=V0 at *;generalize A m=a1 at *;generalize N m=n1 at *;generalize C m=c1 at *;clear hs hr hd hu x v q F hm H z O G hL hn;delta ClZ;go_in;go_wp2_with fail;refine wp_region_held_drew (S:=fun w'=>w'.cell? ⟨lb,a+m,none⟩=some (.slice a1 n1 c1)) (by kernel_rfl) (JC.o _ kd) (fun hS=>?_);have c:=hS;refine aM 0 (some 5) (Value.slice (some ⟨lb,a,none⟩) n l) c ?_;simp only [aT];refine aM 1 (some 6) (.int .i64 (n:Int)) c ?_;simp only [aT];refine aM 2 (some 7) (.bool true) c ?_ (y:=dJ fun w h=>by simp [execOp,go_sem,Q]);simp only [aT]
 refine aM 3 (some 8) (.bool true) c ?_;simp only [aT];refine aM 4 (some 9) (.slice ao L d) c ?_;simp only [aT];refine aM 6 (some 11) (Value.slice (some ⟨lb,a,none⟩) n l) c ?_;simp only [aT];refine aM 7 (some 12) (Value.slice (some ⟨lb,a,none⟩) n l) c ?_;simp only [aT];refine aM 8 (some 13) (.int .i64 (n:Int)) c ?_;simp only [aT];refine aM 9 (some 14) (.int .i64 (m:Int)) c ?_ (y:=dJ fun w h=>by simp [execOp,go_sem,gw]);simp only [aT]
 refine aM 10 (some 15) (.pointer (some ⟨lb,a+m,none⟩)) c ?_ (y:=dJ fun w h=>by simp [execOp,go_sem,J,M]);simp only [aT];refine aM 11 (some 16) (.slice a1 n1 c1) c ?_ (y:=dJ fun w h=>by simp [execOp,go_sem,h]);simp only [aT];refine yY 5 (some 10) (by kernel_rfl) rfl rfl (by rfl) 19 _ _ [.slice ao L d] rfl rfl (p _ (.inl rfl)) (JX.o _ kd) ?_;rintro e w1 ⟨v1,rfl,b1,_,k1⟩;have o:=kd.trans k1;have B:=JC.o _ o;refine .inl ⟨_,rfl,B,?_⟩;simp only [aT];refine yY 12 (some 17) (by kernel_rfl) rfl rfl (by rfl) 19 _ _ [.slice a1 n1 c1] rfl rfl (p _ (.inl rfl)) (JL.o _ o) ?_
 rintro e w2 ⟨v2,rfl,b2,_,k2⟩;have s:=o.trans k2;have D:=JC.o _ s;refine .inl ⟨_,rfl,D,?_⟩;simp only [aT];refine yY 13 (some 18) (by kernel_rfl) rfl rfl (by rfl) 18 _ _ [v1,v2] rfl rfl (p _ (.inr rfl)) (m7 _ _ _ _ _ (b1.g k2) b2) ?_;rintro e w3 ⟨rfl,m3,rfl⟩;have t:=s.drewN m3;have g:=JC.o _ t;have E:¬ dh V0 V1=0:=by
  unfold dh
  split
  ·decide
  ·first | decide | (split <;> first | decide | omega)
 refine .inl ⟨_,rfl,g,?_⟩;simp only [aT];refine aM 14 (some 19) (.bool false) g ?_ (y:=dJ fun w h=>by simp [execOp,go_sem,E]);simp only [aT];refine aM 15 (some 20) (.bool false) g ?_;simp only [aT];refine aM 16 (some 21) (.bool false) g ?_;simp only [aT];refine aM 17 (some 22) undef g ?_ (y:=.inr ⟨by rfl,rfl⟩);simp only [aT];refine Ge 18 (some 23) g ?_;simp only [aT];refine aM 19 (some 24) (.bool false) g ?_;simp only [aT];refine aM 20 (some 4) (.bool false) g ?_;simp only [aT]
 refine wpAnyH_done (by kernel_rfl) ?_ _;have I:=af t;clear E b1 b2 k1 k2 o s t hS B D g JX JL JC;go_wp2_with fail;go_ret;exact ⟨rfl,I.o⟩

theorem vL (ao lo:OA) (L a n c:Nat) (xs:LN) (A:Nat->OA) (N C:Nat->Nat) (b:Nat->LN) (w:World) (hu:Row .u64 w (.slice ao L a) xs) (f:Digs xs) (hL:L<=1000000) (hs:Slots w lo n A N C) (hr:∀ i,i<n->Row .u64 w (.slice (A i) (N i) (C i)) (b i)) (hd:∀ i,i<n->Digs (b i)) (hn:n<=2000000) (d:∀ i,i<n->N i<=2000000) :
  ClZ 8 #[.slice ao L a,.slice lo n c] w fun e w'=>∃ R:Bool,e=.returned (.bool R)/\(R=true->PrimeN (val xs))/\Kept aa w w':=by
 by_cases h:0<n->val xs=val (b (n-1))
 ·exact yA ao lo L a n c xs A N C b w hu f hL hs hr hd hn d h
 ·have g:0<n:=Nat.pos_of_ne_zero (fun e=>h (fun h1=>by omega));have j:val xs≠val (b (n-1)):=fun e=>h (fun _=>e)
  refine (yB ao lo L a n c xs A N C b w hu f hL hs hr hd hn d g j).mono ?_;rintro e w' ⟨rfl,k⟩;exact ⟨false,rfl,(fun h=>by cases h),k⟩

theorem rL (az:Bp) (aB:Bo) (hA:VPri) (hP:VPla) (hB:Gl) (s:KS) (l:KL) (pv:Value) (pn:Nat) (pA:Nat->OA) (pL pC:Nat->Nat) (px:Nat->LN) (qv:Value) (qn:Nat) (qA:Nat->OA) (qL qC:Nat->Nat) (qx:Nat->LN) (u:Value) (cs:LN) (v:Value) (bs:LN) (at_:Int) (fv:Value) (fs:LN) (w:World) (hr:s.Rows w l) (hp:NatsIn w pv pn pA pL pC px) (hq:NatsIn w qv qn qA qL qC qx) (hu:Row .u8 w u cs) (hv:Row .u8 w v bs) (hf:Row .u64 w fv fs) (hd:l.Digs) (dc:Digs cs 256) (db:Digs bs 256) (df:Digs fs) (he:s.en<18446744073709551616) (I:AtOk at_) (ac:pn<=2000000/\∀ i,i<pn->pL i<=2000000) (ae:qn<=2000000/\∀ i,i<qn->qL i<=2000000) :
  ClZ 4 #[.agg s.v,pv,qv,u,v,.agg #[.int .i64 at_,fv]] w fun e w'=>e=.returned (.bool true)/\Below w.heap.size w w':=by
 obtain ⟨i0,aW,aZ,a8,a9⟩:=info_parts Tryz.info8s;obtain ⟨co,cl,cc,rfl,aD,_⟩:=hu.open;obtain ⟨uo,un,uc,rfl,ak,_⟩:=hv.open;obtain ⟨fo,fl,fc,rfl,_⟩:=hf.open;obtain ⟨W0,H⟩:=aj ((w.alloc (.cells s.v 26)).alloc (.cells #[.int .i64 at_,.slice fo fl fc] 32))
 have k0:Kept aa w W0:=by rw [H];exact ((ah aa w).alloc _).alloc _
 have al:W0.heap[w.heap.size]? = some (.cells s.v 26 (0,0)):=by rw [H];exact au (heap_alloc_new _ _)
 have am:W0.heap[w.heap.size+1]? = some (.cells #[.int .i64 at_,.slice fo fl fc] 32 (0,0)):=by
  rw [H];have:=heap_alloc_new (w.alloc (.cells s.v 26)) (.cells #[.int .i64 at_,.slice fo fl fc] 32)
  rwa [World.size_alloc] at this
 have JC:HzD (∀ W,Kept aa W0 W->W.cell? ⟨w.heap.size,0,none⟩=some (.slice s.no s.nl s.nc)/\W.cell? ⟨w.heap.size,1,none⟩=some (.int .u64 ((s.en:Nat):Int))/\W.cell? ⟨w.heap.size,2,none⟩=some (.slice s.dO s.dl s.dc)/\W.cell? ⟨w.heap.size,3,none⟩=some (.slice s.po s.pl s.pc)/\W.cell? ⟨w.heap.size,4,none⟩=some (.slice s.qo s.ql s.qc)/\W.cell? ⟨w.heap.size,5,none⟩=some (.slice s.dpo s.dpl s.dpc)/\W.cell? ⟨w.heap.size,6,none⟩=some (.slice s.dqo s.dql s.dqc)/\W.cell? ⟨w.heap.size,7,none⟩=some (.slice s.qio s.qil s.qic)):=fun W k=>aY ((k.block _ (lt_of_block al) (fun f=>f)).trans al)
 have JD:HzD (∀ W,Kept aa W0 W->W.cell? ⟨w.heap.size+1,0,none⟩=some (.int .i64 at_)/\W.cell? ⟨w.heap.size+1,1,none⟩=some (.slice fo fl fc)):=fun W k=>⟨k.cellN ((cell_of_row W0 _ 0 _ _ _ am).trans rfl),k.cellN ((cell_of_row W0 _ 1 _ _ _ am).trans rfl)⟩
 have JA:=BY az aB hB W0;have JF:=af fun W R hR=>Gy s co uo fo cl cc un uc fl fc at_ R hR W
 obtain ⟨po,pc,rfl,_,_,aG,ad⟩:=hp;obtain ⟨qo,qc,rfl,_,_,aI,ag⟩:=hq;obtain ⟨E9,Y⟩:∃ E9,(E9=0/\KeyGood l.n l.d l.p l.q l.dp l.dq l.qi s.en)\/(E9=190/\¬ KeyGood l.n l.d l.p l.q l.dp l.dq l.qi s.en):=by
  by_cases h:KeyGood l.n l.d l.p l.q l.dp l.dq l.qi s.en
  ·exact ⟨0,.inl ⟨rfl,h⟩⟩
  ·exact ⟨190,.inr ⟨rfl,h⟩⟩
 have JK:=af fun W (k:Kept aa W0 W) (hl:s.light)=>Dg s.no s.dO s.po s.qo s.dpo s.dqo s.qio s.nl s.nc s.dl s.dc s.pl s.pc s.ql s.qc s.dpl s.dpc s.dql s.dqc s.qil s.qic s.en l.n l.d l.p l.q l.dp l.dq l.qi he E9 Y W (hr.g (k0.trans k)).n (hr.g (k0.trans k)).d (hr.g (k0.trans k)).p (hr.g (k0.trans k)).q (hr.g (k0.trans k)).dp (hr.g (k0.trans k)).dq (hr.g (k0.trans k)).qi hd.p hd.q (by have:=hl.2.2.1;omega) (by have:=hl.2.2.2.1;omega)
 have ax:=af fun W (k:Kept aa W0 W) (hl:s.light)=>vL s.po po s.pl s.pc pn pc l.p pA pL pC px W (hr.g (k0.trans k)).p hd.p (by have:=hl.2.2.1;omega) (aG.g (k0.trans k)) (fun i hi=>(ad i hi).1.g (k0.trans k)) (fun i hi=>(ad i hi).2) ac.1 ac.2
 have ay:=af fun W (k:Kept aa W0 W) (hl:s.light)=>vL s.qo qo s.ql s.qc qn qc l.q qA qL qC qx W (hr.g (k0.trans k)).q hd.q (by have:=hl.2.2.2.1;omega) (aI.g (k0.trans k)) (fun i hi=>(ag i hi).1.g (k0.trans k)) (fun i hi=>(ag i hi).2) ae.1 ae.2
 have V:=af fun W (k:Kept aa W0 W) (hl:s.light) (hc:cl<=10000)=>hP s l co cl cc cs W he (hr.g (k0.trans k)) hd hl (hu.g (k0.trans k)) dc hc
 have aN:=af Y;have JL:=af fun p B W (k:Kept aa W0 W) (hl:s.light) (hc:cl<=10000) hs hB (hb:un<=500) (hfl:fl<=1000)=>hA s l co cl cc cs p B bs at_ fo fl fc fs W he (hr.g (k0.trans k)) hd hl (hu.g (k0.trans k)) dc hc hs hB db (by rw [ak.o];omega) (hf.g (k0.trans k)) df hfl I
 have HV:=af fun W (k:Kept aa W0 W)=>hv.g (k0.trans k)
 have aU:=af ak.o;have Q:=af aD.o;have N:=af H;have m:=af k0;clear hr hu hv hf hd dc db df he aD ak H k0 al am az aB hA hP hB aG ad aI ag ac ae Y;by_cases hfew:s.few/\s.nl<=9/\cl<=200/\un<=500/\fl<=20
 ·have C:=af hfew.1.light;have j:HzD (cl<=200/\un<=500/\fl<=20):=hfew.2.2;have J1:=fun W=>JF.o W true (iff_of_true rfl hfew)
  clear hfew JF;unfold KS.v at N J1 JL JK V ⊢;delta ClZ;go_in;go_wp2_with (rw [<- N.o]);refine JA.mono ?_;rintro r w1 ⟨rfl,k1⟩;obtain ⟨c0,c1,c2,c3,c4,c5,c6,c7⟩:=JC.o w1 k1;obtain ⟨m0,m1⟩:=JD.o w1 k1;have S:=af k1;clear JA k1;go_wp2_with fail;refine (J1 w1).mono ?_;rintro r aL ⟨rfl,k2⟩;have c:=af (S.o.trans k2);obtain ⟨a0,a1,a2,a3,a4,a5,a6,a7⟩:=JC.o aL c.o;have J9:=JK.o aL c.o C.o;clear J1 k2 c0 c1 c2 c3 c4 c5 c6 c7 m0 m1;rcases aN.o with ⟨rfl,hgood⟩ | ⟨rfl,hno⟩
  case inr=>
   go_wp2_with fail;refine J9.mono ?_;rintro r an ⟨rfl,k3⟩;have a:=af (c.o.trans k3);clear J9 k3 a0 a1 a2 a3 a4 a5 a6 a7 hno;go_wp2_with fail;go_ret;exact ⟨rfl,gU (m.o.trans a.o) (leR _)⟩
  go_wp2_with fail;refine J9.mono ?_;rintro r an ⟨rfl,k3⟩;have o:=af (c.o.trans k3);obtain ⟨b0,b1,b2,b3,b4,b5,b6,b7⟩:=JC.o an o.o;have av:=ax.o an o.o C.o;clear J9 k3 a0 a1 a2 a3 a4 a5 a6 a7 hgood;go_wp2_with fail;refine av.mono ?_;rintro r aM ⟨R1,rfl,Z,k4⟩;have a:=af (o.o.trans k4);obtain ⟨a0,a1,a2,a3,a4,a5,a6,a7⟩:=JC.o aM a.o;clear av k4 b0 b1 b2 b3 b4 b5 b6 b7;cases R1
  case false=>
   clear Z;go_wp2_with fail;go_ret;exact ⟨rfl,gU (m.o.trans a.o) (leR _)⟩
  have aq:=af (Z rfl);have aw:=ay.o aM a.o C.o;have T:=a;clear Z a;go_wp2_with fail;refine aw.mono ?_;rintro r w2 ⟨R2,rfl,ab,k5⟩;have a:=af (T.o.trans k5);clear aw k5 a0 a1 a2 a3 a4 a5 a6 a7;cases R2
  case false=>
   clear ab;go_wp2_with fail;go_ret;exact ⟨rfl,gU (m.o.trans a.o) (leR _)⟩
  have ar:=af (ab rfl);have x:=a;clear ab a;have O:Kept aa w2 w2.drew:=(ah aa w2).drew;obtain ⟨d0,d1,d2,d3,d4,d5,d6,d7⟩:=JC.o w2 x.o;obtain ⟨dx,dy⟩:=JD.o w2 x.o;have J2:=Ii _ _ w2.drew (HV.o _ (x.o.trans O)) (by have:=aU.o;have:=j.o;omega);have U:HzD (W0.heap.size<=w2.drew.heap.size):=(x.o.trans O).size;have aA:=JL.o;have HQ:HzD (∀ w3 g,Kept aa W0 w3->W0.heap.size<=g->∀ w4,Kept (ofP (some ⟨g,0,none⟩)) w3 w4->Kept aa W0 w4):=fun w3 g k hg w4 k4=>k.next k4 (fun y hy f=>by have h1:=qR f;omega)
  go_wp2_with fail;go_region_held3 (fun w'=>(w'.cell? ⟨w.heap.size,0,none⟩=some (.slice s.no s.nl s.nc)/\w'.cell? ⟨w.heap.size,1,none⟩=some (.int .u64 ((s.en:Nat):Int))/\w'.cell? ⟨w.heap.size,2,none⟩=some (.slice s.dO s.dl s.dc)/\w'.cell? ⟨w.heap.size,3,none⟩=some (.slice s.po s.pl s.pc)/\w'.cell? ⟨w.heap.size,4,none⟩=some (.slice s.qo s.ql s.qc)/\w'.cell? ⟨w.heap.size,5,none⟩=some (.slice s.dpo s.dpl s.dpc)/\w'.cell? ⟨w.heap.size,6,none⟩=some (.slice s.dqo s.dql s.dqc)/\w'.cell? ⟨w.heap.size,7,none⟩=some (.slice s.qio s.qil s.qic))/\(w'.cell? ⟨w.heap.size+1,0,none⟩=some (.int .i64 at_)/\w'.cell? ⟨w.heap.size+1,1,none⟩=some (.slice fo fl fc)))
   (((try dsimp only);(repeat' apply And.intro) <;> first | (go_keep;done) | assumption))
   (first
   | (go_at_call 9;refine (aA (some ⟨g,0,none⟩) w3.heap.size w3 K3 C.o (by have:=j.o;omega) aK (leR _) j.o.2.1 (by have:=j.o;omega)).mono ?_;rintro r w4 ⟨v4,E,rfl,RL,rest,aF,⟨b,J⟩,k4⟩;have K4:=HQ.o w3 g K3 ap w4 k4;obtain ⟨vo,vn,vc,rfl,aE,_,_,_,_⟩:=b.open;obtain ⟨p0,p1,p2,p3,p4,p5,p6,p7⟩:=JC.o w4 K4;obtain ⟨px,py⟩:=JD.o w4 K4)
   | (go_at_call 10;refine J2.mono ?_;rintro r w3 ⟨g,rfl,hg,aK,k3⟩;have K3:=(x.o.trans O).trans k3;have ap:W0.heap.size<=g:=aH U.o hg;obtain ⟨e0,e1,e2,e3,e4,e5,e6,e7⟩:=JC.o w3 K3;obtain ⟨ex,ey⟩:=JD.o w3 K3))
  have aS:=af b;have A:=af aF;have aO:=af K4;have aQ:=af aE.o;have J5:=V.o w4 K4 C.o (by have:=j.o;omega);clear J2 aA JL aK k3 b J k4 aF K3 K4 ap e0 e1 e2 e3 e4 e5 e6 e7 ex ey d0 d1 d2 d3 d4 d5 d6 d7 dx dy px py O HQ hg aE;go_wp2_with fail;refine J5.mono ?_;rintro r w5 ⟨v5,E5,rfl,RP,L,⟨ai,_⟩,k5⟩;obtain ⟨o5,n5,c5,rfl,_⟩:=ai.open;have M:=af (aO.o.trans k5);have D:=af (aS.o.g k5);have aT:=af ai;have aR:=af L;obtain ⟨fx,fy⟩:=JD.o w5 M.o;clear J5 ai k5 L p0 p1 p2 p3 p4 p5 p6 p7;by_cases hE:E=0
  ·subst hE;obtain ⟨aV,aC⟩:=CU A.o aq.o ar.o aR.o;subst aV;have JM:=zR _ _ RL RL w5 D.o (by rw [<- aC];exact aT.o) A.o.digs A.o.digs;rw [dR rfl] at JM;clear aC;go_wp2_with fail;refine JM.mono ?_;rintro r w6 ⟨rfl,rfl⟩;clear JM;go_wp2_with fail;go_ret;exact ⟨by first | rfl | simp,gU (m.o.trans M.o) (leR _)⟩
  ·by_cases hE2:E=220
   ·subst hE2;have G:=AW A.o;have ao:=af A.o.digs;have I:1<=at_/\at_<=4:=by
     rcases Decidable.em (1<=at_/\at_<=4) with h | h
     ·exact h
     ·exact absurd A.o (vH h aq.o ar.o)
    have t1:at_≥1:=I.1;have t2:at_<=4:=I.2;clear hE I;obtain ⟨CL,X⟩:=aj (madeCells #[Value.int .u8 0] cl)
    have ba:∀ W:World,(Instr.makeSlice 28 (.int .i64 (cl:Int)) (.int .i64 (cl:Int))).run prog W=.ok (.slice (some ⟨W.heap.size,0,none⟩) cl cl) (W.alloc (.cells CL 5)):=fun W=>by rw [X];exact run_make_row (P:=prog) _ _ i0 _ underlying28 aW aZ a8 rfl _ _ cl (by rw [a9];have:=j.o;omega) (by have:=j.o;omega) W
    have F:CL=((List.replicate cl 0).map fun z:Nat=>Value.int .u8 (z:Int)).toArray:=by
     have h:=bw .u8 cl;rw [bH] at h;rw [<- h,X];simp [Value.cells]
    have aJ:Row .u8 (w5.alloc (.cells CL 5)) (.slice (some ⟨w5.heap.size,0,none⟩) cl cl) (List.replicate cl 0):=by
     rw [F];exact Row.of_block (t:=5) (heap_alloc_new _ _) (bu ..) (by unfold maxLen;have:=j.o;omega)
    have JM:=zR _ _ RL RL _ (D.o.g ((ah aa w5).alloc (.cells CL 5))) (by rw [G,Q.o];exact aJ) ao.o ao.o;rw [dR rfl] at JM;have aP:=af (M.o.alloc (.cells CL 5));clear X F aJ G;go_wp2_with fail;refine JM.mono ?_;rintro r w7 ⟨rfl,rfl⟩;clear JM;go_wp2_with fail;go_ret;exact ⟨by first | rfl | simp,gU (m.o.trans aP.o) (leR _)⟩
   ·have G:=CZ A.o hE hE2;have aX:vn=0:=by
     have h1:=aQ.o;rw [G] at h1;exact h1.symm
    subst aX;have g1:¬ (E:Int)=0:=by omega
    have g2:¬ (E:Int)=220:=by omega
    have d1:((E:Int) == 0)=false:=by simp;omega
    have d2:((E:Int) == 220)=false:=by simp;omega
    clear hE hE2 G;go_wp2_with fail;go_ret;exact ⟨by first | rfl | simp,gU (m.o.trans M.o) (leR _)⟩
 ·have J1:=fun W=>JF.o W false (iff_of_false (by decide) hfew)
  clear hfew JF JL JK ax ay V;unfold KS.v at N J1 ⊢;delta ClZ;go_in;go_wp2_with (rw [<- N.o]);refine JA.mono ?_;rintro r w1 ⟨rfl,k1⟩;obtain ⟨c0,c1,c2,c3,c4,c5,c6,c7⟩:=JC.o w1 k1;obtain ⟨m0,m1⟩:=JD.o w1 k1;have S:=af k1;clear JA k1;go_wp2_with fail;refine (J1 w1).mono ?_;rintro r w2 ⟨rfl,k2⟩;have x:=af (m.o.trans (S.o.trans k2));clear J1 k2 c0 c1 c2 c3 c4 c5 c6 c7 m0 m1;go_wp2_with fail;go_ret;exact ⟨rfl,gU x.o (leR _)⟩

theorem walkPrivateRight (s:KS) (l:KL) (pv:Value) (pn:Nat) (pA:Nat->OA) (pL pC:Nat->Nat) (px:Nat->LN) (qv:Value) (qn:Nat) (qA:Nat->OA) (qL qC:Nat->Nat) (qx:Nat->LN) (u:Value) (cs:LN) (v:Value) (bs:LN) (at_:Int) (fv:Value) (fs:LN) (w:World) (hr:s.Rows w l) (hp:NatsIn w pv pn pA pL pC px) (hq:NatsIn w qv qn qA qL qC qx) (hu:Row .u8 w u cs) (hv:Row .u8 w v bs) (hf:Row .u64 w fv fs) (hd:l.Digs) (dc:Digs cs 256) (db:Digs bs 256) (df:Digs fs) (he:s.en<18446744073709551616) (a:AtOk at_) (b:pn<=2000000/\∀ i,i<pn->pL i<=2000000) (c:qn<=2000000/\∀ i,i<qn->qL i<=2000000) (_:NoTab w) :
  ClZ 4 #[.agg s.v,pv,qv,u,v,.agg #[.int .i64 at_,fv]] w fun e w'=>e=.returned (.bool true)/\Below w.heap.size w w':=
 rL zI.plain.no zL.no zI.plain zL zJ s l pv pn pA pL pC px qv qn qA qL qC qx u cs v bs at_ fv fs w hr hp hq hu hv hf hd dc db df he a b c

end Go.Proofs.YtpkmoamgpjcdeaaGreatDoor
