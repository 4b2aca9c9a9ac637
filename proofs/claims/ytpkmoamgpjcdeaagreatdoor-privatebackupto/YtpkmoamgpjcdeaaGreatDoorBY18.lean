/- Put together of: Prw9 Prw10 Prm6 Prm7 Prm8 Prm9 WPrvBack LPrivateBack. -/
import Derived.Test.YtpkmoamgpjcdeaaGreatDoorBY17

namespace Go.Proofs.YtpkmoamgpjcdeaaGreatDoor
open _root_.Go.Proofs.Tryz
set_option maxRecDepth 100000
set_option maxHeartbeats 4000000
open Go.RowKit
variable {B e n:Nat} {S:Nat->Prop} {bs fs:LN} {m:List Ev} {o':Tr} {p:OA} {w w':World}

def DidS (S:Nat->Prop) (w:World) (o:Tr) (m:List Ev) (w':World) (o':Tr):Prop:=
 Kept (fun x=>S x\/dr o x) w w'/\((o=none/\o'=none)\/∃ p g l g',o=some (p,g,l)/\o'=some (p,g',l ++ m)/\IsTr w' p g' (l ++ m)/\(g'=g\/∃ x,g'=some x/\w.heap.size<=x))

theorem DidS.of {w1:World} {o:Tr} (k:Kept S w w1) (d:Did w1 o m w' o'):DidS S w o m w' o':=by
 refine ⟨(k.mono (fun x _ h=>.inl h)).trans (d.1.mono (fun x _ h=>.inr h)),?_⟩;rcases d.2 with h1 | ⟨p,g,l,g',e1,e2,ht,hg⟩
 ·exact .inl h1
 ·refine .inr ⟨p,g,l,g',e1,e2,ht,?_⟩;rcases hg with hg | ⟨x,e,hx⟩
  ·exact .inl hg
  ·exact .inr ⟨x,e,aI k.size hx⟩

theorem DidS.g {w2:World} {o:Tr} (h:DidS S w o m w' o') (k:Kept af w' w2):DidS S w o m w2 o':=by
 refine ⟨h.1.trans k.any,?_⟩;rcases h.2 with h1 | ⟨p,g,l,g',e1,e2,ht,hg⟩
 ·exact .inl h1
 ·exact .inr ⟨p,g,l,g',e1,e2,ht.g k,hg⟩

theorem DidS.put {w2:World} {o:Tr} {b:Nat} (h:DidS S w o m w' o') (k:Kept (fun x=>x=b) w' w2) (hb:b<w.heap.size->S b) (hf:¬ dr o' b):DidS S w o m w2 o':=by
 refine ⟨h.1.next k (fun x hx e=>.inl (by have e':x=b:=e;subst e';exact hb hx)),?_⟩;rcases h.2 with h1 | ⟨p,g,l,g',e1,e2,ht,hg⟩
 ·exact .inl h1
 ·subst e2;exact .inr ⟨p,g,l,g',e1,rfl,ht.kept k (fun e=>hf (.inl e.symm)) (fun x hx e=>hf (.inr (by rw [<- e];exact hx))),hg⟩

theorem DidS.b {T:Nat->Prop} {a:World} {o:Tr} (k:Kept af a w) (h:DidS T w o m w' o') (hT:∀ x,x<a.heap.size->T x->S x):DidS S a o m w' o':=by
 refine ⟨(k.any:Kept (fun x=>S x\/dr o x) a w).next h.1 (fun x hx e=>e.imp (hT x hx) id),?_⟩;rcases h.2 with h1 | ⟨p,g,l,g',e1,e2,ht,hg⟩
 ·exact .inl h1
 ·refine .inr ⟨p,g,l,g',e1,e2,ht,?_⟩;rcases hg with hg | ⟨x,e,hx⟩
  ·exact .inl hg
  ·exact .inr ⟨x,e,aI k.size hx⟩

theorem DidS.trIn {o:Tr} {k:Nat} (h:DidS S w o m w' o') (hr:TrRoom w o k) (hm:m.length<=k):TrIn w' o':=by
 rcases h.2 with ⟨_,rfl⟩ | ⟨p,g,l,g',rfl,rfl,ht,_⟩
 ·trivial
 ·have h2:=hr.2;simp only [pD] at h2;exact ⟨ht,by rw [bk];omega⟩

theorem DidS.split {o:Tr} (h:DidS (ofP p) w o m w' o') (hp:∀ x,ofP p x->x<w.heap.size):∃ w1 o2,Kept (ofP p) w w1/\Did w1 o m w' o2:=by
 cases p with
 | none=>exact ⟨w,o',ah _ _,h.1.mono (fun x _ e=>e.elim (fun f=>by simp [ofP] at f) id),h.2⟩
 | some a=>
  have hb:a.block<w.heap.size:=hp _ (by simp [ofP]);have b:a.block<w'.heap.size:=bi hb h.1.size;refine ⟨{ w with heap:=w.heap.setIfInBounds a.block (w'.heap[a.block]'(b)) },o',⟨rfl,rfl,rfl,?_,?_⟩,⟨h.1.os,h.1.tape,h.1.output,?_,?_⟩,?_⟩
  ·simp
  ·intro k hk hn;have c:a.block≠k:=fun e=>hn (by subst e;simp [ofP])
   simp [Array.getElem?_setIfInBounds_ne c]
  ·simpa using h.1.size
  ·intro k hk hn;by_cases e:a.block=k
   ·subst e;simp [hb,b]
   ·rw [h.1.block k (by simpa using hk) (fun f=>f.elim (fun f=>e (by simpa [ofP] using f)) hn)];simp [Array.getElem?_setIfInBounds_ne e]
  ·simpa using h.2

theorem TrIn.script {o:Tr} (ht:TrIn w o) (h:Lsc w p B bs) (k:Kept (ofP p) w w'):TrIn w' o:=by
 have ha:=AZ h o ht;cases o with
 | none=>trivial
 | some x=>
  obtain ⟨a,g,l⟩:=x;exact ⟨ht.1.kept k (ha a (.inl rfl)) (fun y hy=>ha y (.inr hy)),ht.2⟩

theorem RowT.script {o:Tr} {v:Value} {xs:LN} (hv:RowT w o v xs) (h:Lsc w p B bs) (k:Kept (ofP p) w w'):RowT w' o v xs:=⟨lL h hv.1 k,hv.2⟩

theorem KRows.script {o:Tr} {s:KS} {l:KL} {fo:OA} {fl fc:Nat} (r:KRows w o s l fo fl fc fs) (h:Lsc w p B bs) (k:Kept (ofP p) w w'):KRows w' o s l fo fl fc fs:=⟨r.n.script h k,r.d.script h k,r.p.script h k,r.q.script h k,r.dp.script h k,r.dq.script h k,r.qi.script h k,r.f.script h k⟩

theorem xL (n:Nat):bes 0 n n=List.replicate n 0:=by
 refine List.ext_getElem? fun j=>?_
 by_cases h:j<n
 ·rw [qd _ _ _ _ h,eF,ai h];simp [dig]
 ·rw [ip (by rw [dt];omega),ip (by simp;omega)]

theorem Hi {l k f i b c a:LN} (h:KeyGood l k f i b c a e):val a<val f:=by
 obtain ⟨-,d,u,-,-,j,-,-,-,-,-,-,-,g⟩:=h;generalize val f=P at *;generalize val i=Q at *;rw [g,ay,aB (bi j (eH ((aC P _).1 (Nat.le_max_left _ _))))];exact j

theorem Bd {l:KL} {at_:Int} {cs r1 rest:LN} {k T M:Nat} (hg:KeyGood l.n l.d l.p l.q l.dp l.dq l.qi e) (a:iR (val l.n) cs=0) (hb:oI l.n bs=(r1,k,0,rest)) (hn:l.n.length=n) (hT:T<(val l.n)/\val r1*T%(val l.n)=1)
  (hM:M=xY at_ fs (bev cs*(val r1^e%(val l.n))%(val l.n)) T (val l.n) (val l.p) (val l.q) (val l.dp) (val l.dq) (val l.qi) n (am (val l.p)) (am (val l.q))) :
  (M^e%(val l.n)=bev cs->PrvL l.n l.d l.p l.q l.dp l.dq l.qi e at_ fs cs bs 0 (bes M cs.length cs.length) rest)/\(M^e%(val l.n)≠bev cs->PrvL l.n l.d l.p l.q l.dp l.dq l.qi e at_ fs cs bs 220 (List.replicate cs.length 0) rest):=by
 have hf:=hg.a;have h1:=hf.2.1.1;have h2:=hf.2.2.1.1;rw [B9 (by omega) (by omega) hf.1.symm,<- hn] at hM;exact ⟨fun h=>.inr (.inr ⟨hg,a,r1,k,0,hb,.inr ⟨rfl,T,hT.1,hT.2,M,hM,.inr ⟨h,rfl,rfl⟩⟩⟩),fun h=>.inr (.inr ⟨hg,a,r1,k,0,hb,.inr ⟨rfl,T,hT.1,hT.2,M,hM,.inl ⟨h,rfl,rfl⟩⟩⟩)⟩

def nL (n nP nQ _e:Nat):List Ev:=qj n nP nQ (max nP nQ) (max nP nQ)

theorem Aw {n nP nQ:Nat} (hn:n<=130) (hP:nP<=130) (hQ:nQ<=130):(nL n nP nQ e).length<=1000000000:=by
 have a1:=kJ hn;have a2:=sk (n:=n) (nP:=nP) (nQ:=nQ) (LP:=max nP nQ) (LQ:=max nP nQ) hP hQ;have a3:=jr n;have a4:=oU hn;unfold nL qj;simp only [bk,dh,fB];omega

def ApEnd (bO:Nat) (o:Tr) (l:KL) (e:Nat) (at_:Int) (fs cs bs:LN) (p:OA) (w:World) (r:Ending) (w':World):Prop:=∃ E RL rest m o',PrvL l.n l.d l.p l.q l.dp l.dq l.qi e at_ fs cs bs E RL rest/\((E=0\/E=220)->m=nL (am (val l.n)) (am (val l.p)) (am (val l.q)) e)/\m.length<=1000000000/\(∃ v,Box w' bO v 28/\Row .u8 w' v RL/\Fresh w v)/\DidS (fun x=>ofP p x\/x=bO) w o m w' o'/\((E=0/\r=.returned (.tuple #[]))\/(E≠0/\r=.panicked [refusal (E:Nat)]))

theorem ApEnd.no {bO:Nat} {o:Tr} {l:KL} {at_:Int} {cs rest:LN} {E:Nat} (h:PrvL l.n l.d l.p l.q l.dp l.dq l.qi e at_ fs cs bs E [] rest) (h0:E≠0) (h2:E≠220) (hO:Box w' bO (.slice none 0 0) 28) (d:DidS (fun x=>ofP p x\/x=bO) w o [] w' o):ApEnd bO o l e at_ fs cs bs p w (.panicked [refusal (E:Nat)]) w':=
 ⟨E,[],rest,[],o,h,fun h=>by omega,by simp,⟨_,hO,Row.nil _ _,fun b hb=>by simp [Value.ownBlock] at hb⟩,d,.inr ⟨h0,rfl⟩⟩

theorem H8 (bK bC bS bT bF bO:Nat) (o:Tr) (s:KS) (l:KL) (co:OA) (cl cc:Nat) (cs:LN) (p:OA) (B:Nat) (bs:LN) (at_:Int) (fo:OA) (fl fc:Nat) (fs:LN) (w:World) (ht:TrRoom w o 1000000000) (he:s.en<18446744073709551616) (hR:KRows w o s l fo fl fc fs) (hd:l.Digs) (hl:s.light) (hc:Row .u8 w (.slice co cl cc) cs) (F:Digs cs 256) (h:Lsc w p B bs) (hB:B<=w.heap.size) (O:Digs bs 256) (P:bs.length<=10000) (gf:Digs fs) (N:rJ at_)
  (xK:w.heap[bK]? = some (.cells #[.slice s.no s.nl s.nc,.int .u64 (s.en:Nat),.slice s.dO s.dl s.dc,.slice s.po s.pl s.pc,.slice s.qo s.ql s.qc,.slice s.dpo s.dpl s.dpc,.slice s.dqo s.dql s.dqc,.slice s.qio s.qil s.qic] 26 (0,0))) (xC:Box w bC (.slice co cl cc) 28) (xS:Box w bS (.pointer p) 38) (xT:Box w bT (aP o) 57) (xF:w.heap[bF]? = some (.cells #[.int .i64 at_,.slice fo fl fc] 32 (0,0))) (xO:Box w bO (.slice none 0 0) 28) (Q:∀ x,ofP p x->x≠bK/\x≠bC/\x≠bT/\x≠bF/\x≠bO) :
  ClZ 22 #[.pointer (some ⟨bK,0,none⟩),.pointer (some ⟨bC,0,none⟩),.pointer (some ⟨bS,0,none⟩),.pointer (some ⟨bT,0,none⟩),.pointer (some ⟨bF,0,none⟩),.pointer (some ⟨bO,0,none⟩)] w fun r w'=>ApEnd bO o l s.en at_ fs cs bs p w r w':=by
 obtain ⟨_,_,_,e1,z,-,-,-,-⟩:=hc.open;cases e1
 have hr:s.Rows w l:=⟨hR.n.1,hR.d.1,hR.p.1,hR.q.1,hR.dp.1,hR.dq.1,hR.qi.1⟩
 obtain ⟨q0,q1,q2,q3,q4,q5,q6,q7⟩:=aZ xK;have c0:=xC.cell;have dd:∀ {w1:World},Kept af w w1->DidS (fun x=>ofP p x\/x=bO) w o [] w1 o:=fun k=>DidS.of (ah _ _) (Did.of_kept k ht.1)
 by_cases hg:KeyGood l.n l.d l.p l.q l.dp l.dq l.qi s.en
 case neg=>
  have J1:=Dp s l co cl cc cs w hr hd hl hc hg;have HP:HzD (PrvL l.n l.d l.p l.q l.dp l.dq l.qi s.en at_ fs cs bs 190 [] bs):=.inl ⟨hg,rfl,rfl,rfl⟩;have a:=aa fun w1 (k:Kept af w w1)=>ApEnd.no (w:=w) (p:=p) HP.o (by decide) (by decide) (xO.g k) (dd k)
  clear ht he hR hd hl hc F h hB O P gf N xK xC xS xT xF xO Q hr hg z dd;delta ClZ;go_in;go_wp2_with fail;refine J1.mono ?_;rintro e w1 ⟨rfl,k1⟩;exact ⟨rfl,a.o w1 k1⟩
 by_cases hlen:cs.length=fI (val l.n)
 case neg=>
  have J1:=Dq s l co cl cc cs w hr hd hl hc hg hlen;have HP:HzD (PrvL l.n l.d l.p l.q l.dp l.dq l.qi s.en at_ fs cs bs 1 [] bs):=.inr (.inl ⟨hg,by unfold iR;rw [ar (fun h=>hlen h.1)],rfl,rfl,rfl⟩);have a:=aa fun w1 (k:Kept af w w1)=>ApEnd.no (w:=w) (p:=p) HP.o (by decide) (by decide) (xO.g k) (dd k)
  clear ht he hR hd hl hc F h hB O P gf N xK xC xS xT xF xO Q hr hg z dd hlen;delta ClZ;go_in;go_wp2_with fail;refine J1.mono ?_;rintro e w1 ⟨rfl,k1⟩;exact ⟨rfl,a.o w1 k1⟩
 by_cases hlt:bev cs<(val l.n)
 case neg=>
  have J1:=Dr s l co cl cc cs w hr hd hl hc F hg hlen hlt;have HP:HzD (PrvL l.n l.d l.p l.q l.dp l.dq l.qi s.en at_ fs cs bs 1 [] bs):=.inr (.inl ⟨hg,by unfold iR;rw [ar (fun h=>hlt h.2)],rfl,rfl,rfl⟩);have a:=aa fun w1 (k:Kept af w w1)=>ApEnd.no (w:=w) (p:=p) HP.o (by decide) (by decide) (xO.g k) (dd k)
  clear ht he hR hd hl hc F h hB O P gf N xK xC xS xT xF xO Q hr hg z dd hlen hlt;delta ClZ;go_in;go_wp2_with fail;refine J1.mono ?_;rintro e w1 ⟨rfl,k1⟩;exact ⟨rfl,a.o w1 k1⟩
 have J1:=Ds s l co cl cc cs w hr hd hl hc F hg hlen hlt;have m:iR (val l.n) cs=0:=by unfold iR;rw [ai ⟨hlen,hlt⟩]
 obtain ⟨_,_,_,e1,L,-,-,-,-⟩:=hr.n.open;cases e1
 obtain ⟨_,_,_,e1,an,-,-,-,-⟩:=hr.p.open;cases e1
 obtain ⟨_,_,_,e1,ao,-,-,-,-⟩:=hr.q.open;cases e1
 obtain ⟨_,_,_,e1,A,-,-,-,-⟩:=hr.dp.open;cases e1
 obtain ⟨_,_,_,e1,C,-,-,-,-⟩:=hr.dq.open;cases e1
 obtain ⟨V,ae,aq,av,G,H,ap,ac,ad⟩:=pT hg L.o hl.1;have aw:=(eu ac).1;have ax:=(eu ad).1;have hf:=hg.a;have e1:s.pl=max (am (val l.p)) (am (val l.q)):=by rw [<- an.o];exact aq
 have e2:s.ql=max (am (val l.p)) (am (val l.q)):=by rw [<- ao.o];exact av
 have e3:s.dpl=max (am (val l.p)) (am (val l.q)):=by rw [<- A.o];exact G
 have e4:s.dql=max (am (val l.p)) (am (val l.q)):=by rw [<- C.o];exact H
 have ak:HzD ((val l.n)<18446744073709551616^s.nl):=by unfold HzD;rw [<- L.o];exact aE (by omega) hd.n
 have aR:cl<=8*s.nl:=by
  have h9:aN (val l.n)<=64*s.nl:=(bh _ _).2 (by rw [aW];exact ak.o);have h8:=z.o;rw [hlen] at h8;unfold fI at h8;omega
 obtain ⟨⟨r1,k1,i,rest⟩,D⟩:∃ r,oI l.n bs=r:=⟨_,rfl⟩
 have JB:=aa fun W (k:Kept af w W)=>zZ p B bs l.n s.no s.nl s.nc r1 k1 i rest W D (h.g k) (aI hB k.size) O P (hr.n.g k) hd.n (by omega)
 have ab:=aa xK;have bg:=aa xC;have aL:=aa xS;have bj:=aa xT;have aK:=aa xF;have al:=aa xO;have aD:=aa h;have J:=aa Q;have Z:=aa ht;have bc:=aa hR;by_cases hE0:i=0
 case neg=>
  have HP:HzD (PrvL l.n l.d l.p l.q l.dp l.dq l.qi s.en at_ fs cs bs i [] rest):=.inr (.inr ⟨hg,m,r1,k1,i,D,.inl ⟨hE0,rfl,rfl⟩⟩);have aO:i≠220:=by rcases pO D with h | h | h <;> omega
  have hY:=ic (i:Int);have gb:(((i:Nat):Int) != 0)=true:=by simp;omega
  have aA:HzD (i≠0/\i≠220):=⟨hE0,aO⟩
  clear ht he hR hd hl hc F h hB O P gf N xK xC xS xT xF xO Q hr hg z dd hlen hlt m L an ao A C V ae aq av G H ap ac ad aw ax hf e1 e2 e3 e4 aR D hE0 aO;delta ClZ;go_in;go_wp2_with fail;refine J1.mono ?_;rintro e w1 ⟨vo,vc,rfl,-,-,g⟩;have I:=aa g;obtain ⟨p0,-⟩:=aZ (au ab.o g);have s0:=(aL.o.g g).cell;have J2:=JB.o w1 g;clear J1 g q0 q1 q2 q3 q4 q5 q6 q7 c0 JB;go_wp2_with fail;refine J2.mono ?_;rintro e w2 ⟨u,rfl,⟨hu,-⟩,ag,k2⟩;obtain ⟨uo,un,uc,rfl,-⟩:=hu.open;have bB:=aa ag;have ba:=aa k2;clear J2 hu ag k2 p0 s0;go_wp2_with fail;try rw [gb]
  refine (hY _).mono ?_;rintro e w3 ⟨rfl,rfl⟩;have kk:Kept (ofP p) w w3:=I.o.any.trans ba.o;exact ⟨rfl,ApEnd.no HP.o aA.o.1 aA.o.2 (al.o.kept kk (fun f=>(J.o _ f).2.2.2.2 rfl)) (DidS.of (kk.mono (fun x _ f=>.inl f)) (Did.of_kept (ah af w3) (Z.o.1.script aD.o kk)))⟩
 subst hE0;obtain ⟨aT,aU,aV,aX⟩:=AB D hd.n;have t:=aa fun T M (hT:T<(val l.n)/\val r1*T%(val l.n)=1) hM=>Bd (at_:=at_) (fs:=fs) (M:=M) (n:=s.nl) hg m D L.o hT hM
 obtain ⟨X,hX⟩:=aj (bev cs)
 rw [<- hX] at J1 hlt t;have aM:=aa fun (vo uo:OA) (vc uc Rn:Nat) W (t':TrRoom W o 500000000) (r':KRows W o s l fo fl fc fs) (x':NumT W o (.slice vo s.nl vc) s.nl X) (y':NumT W o (.slice uo s.nl uc) s.nl Rn) (hRn:Rn<(val l.n)) (hgc:Nat.gcd Rn (val l.n)=1)=>Lf o at_ N s l fo fl fc fs vo uo s.nl vc uc X Rn (val l.n) (val l.p) (val l.q) (am (val l.p)) (am (val l.q)) W t' r' gf hd he rfl ap ae rfl rfl rfl ac ad rfl rfl (by omega) (by omega) (by omega) (by omega) (Hi hg) hf.1.symm x' hlt y' hRn hgc
 have a8:HzD (qj s.nl (am (val l.p)) (am (val l.q)) s.dpl s.dql=nL (am (val l.n)) (am (val l.p)) (am (val l.q)) s.en):=by unfold HzD nL;rw [e3,e4,<- ae]
 have S:HzD ((nL (am (val l.n)) (am (val l.p)) (am (val l.q)) s.en).length<=1000000000):=Aw (by omega) aw ax;have aC:=aa z.o;have HG:HzD (Digs r1/\r1.length=s.nl/\Nat.gcd (val r1) (val l.n)=1/\val r1<(val l.n)):=⟨aT,by rw [aU];exact L.o,aV,aX⟩
 have bi:HzD (X<18446744073709551616^s.nl):=bH hlt ak.o;have br:=eZ 0;have bv:=eZ 220;have bw:=ic 220;clear ht he hR hd hl hc F h hB O P gf N xK xC xS xT xF xO Q hr hg z dd hlen hlt m L an ao A C ae aq av G H ap ac ad aw ax hf e1 e2 e3 e4 D aT aU aV aX hX ak;delta ClZ;go_in;go_wp2_with fail;refine J1.mono ?_;rintro e w1 ⟨vo,vc,rfl,rv,fv,g⟩;have I:=aa g;obtain ⟨p0,-⟩:=aZ (au ab.o g);have s0:=(aL.o.g g).cell;have J2:=JB.o w1 g;have bd:=aa rv;have a9:=aa fv;clear J1 g q0 q1 q2 q3 q4 q5 q6 q7 c0 JB rv fv;go_wp2_with fail;refine J2.mono ?_
 rintro e w2 ⟨u,rfl,⟨hu,aS⟩,ag,k2⟩;have j:=aD.o.g I.o;have t1:TrRoom w1 o 1000000000:=Z.o.g I.o;have t2:TrIn w2 o:=t1.1.script j k2;have aQ:RowT w2 o u r1:=ji aS t1.1 hu;have nR:=NumT.of aQ HG.o.1 HG.o.2.1;obtain ⟨uo,uc,rfl⟩:=nR.s;have nX:NumT w2 o (.slice vo s.nl vc) s.nl X:=⟨(ji a9.o Z.o.1 bd.o).script j k2,bi.o⟩
 have kk:Kept (ofP p) w w2:=I.o.any.trans k2;have R2:=(bc.o.g I.o).script j k2;have yK:=(kk.block _ (lt_of_block ab.o) (fun f=>(J.o _ f).1 rfl)).trans ab.o;have yF:=(kk.block _ (lt_of_block aK.o) (fun f=>(J.o _ f).2.2.2.1 rfl)).trans aK.o;have yC:=bg.o.kept kk (fun f=>(J.o _ f).2.1 rfl);have yT:=bj.o.kept kk (fun f=>(J.o _ f).2.2.1 rfl);have yO:=al.o.kept kk (fun f=>(J.o _ f).2.2.2.2 rfl);have J3:=aM.o vo uo vc uc _ w2 (⟨t2,by have:=t1.2;omega⟩) R2 nX nR HG.o.2.2.2 HG.o.2.2.1;obtain ⟨a0,a1,a2,a3,a4,a5,a6,a7⟩:=aZ yK;have b0:=yT.cell;obtain ⟨d0,d1⟩:=jD yF;have bk:=aa yC;have bl:=aa yO;have aG:=aa t2
 have bb:=aa kk;clear J2 hu aS ag k2 j t1 t2 aQ nR nX kk R2 yK yF yC yT yO p0 s0 aM;go_wp2_with fail;refine (br _).mono ?_;rintro e bD ⟨rfl,bz⟩;obtain rfl:=bz.symm;go_wp2_with fail;refine J3.mono ?_;rintro e w3 ⟨zo,zc,Tn,b,M,o3,rfl,hT,hM,hb,nZ,dC⟩;have v:=t.o Tn M hT hM;have zC:=dC.cells bk.o aG.o;have zO:=dC.cells bl.o aG.o;have DS:DidS (fun x=>ofP p x\/x=bO) w o (qj s.nl (am (val l.p)) (am (val l.q)) s.dpl s.dql) w3 o3:=DidS.of (bb.o.mono (fun x _ f=>.inl f)) dC;rw [a8.o] at DS;have c4:=Gz zo s.nl zc (cZ b M 0) cl w3 nZ.1.1 aR
 have c3:=(show Box w3 bC (.slice co cl cc) 28 from zC).cell;have az:=aa v;have aY:=aa DS;have bm:=aa zO;have ay:=aa hb;have bo:b=0\/b=1:=by rw [hb];unfold dF;split <;> omega
 have bf:HzD (w.heap.size<=w3.heap.size):=DS.1.size;clear J3 v zC zO DS nZ dC hT hM hb a0 a1 a2 a3 a4 a5 a6 a7 b0 d0 d1;go_wp2_with fail;refine c4.mono ?_;rintro e w4 ⟨yo,yn,yc,rfl,ry,fy,k4⟩;have wO:=(show Box w3 bO (.slice none 0 0) 28 from bm.o).g k4;have o4:=wO.cell;have f4:=wO.free;have aJ:=aa wO;have be:=aa ry;have aB:HzD (Fresh w (.slice yo yn yc)):=fun x hx=>aI bf.o (fy x hx)
 have R:=aa (aY.o.g k4);clear c4 ry fy k4 wO c3;have Y:HzD (∀ E RL,PrvL l.n l.d l.p l.q l.dp l.dq l.qi s.en at_ fs cs bs E RL rest->bes (cZ b M 0) cl cl=RL->∀ r,((E=0/\r=.returned (.tuple #[]))\/(E≠0/\r=.panicked [refusal (E:Nat)]))->ApEnd bO o l s.en at_ fs cs bs p w r (w4.setCell ⟨bO,0,none⟩ (.slice yo yn yc))):=fun E RL hp bu r bt=>by
  have kb:=aF w4 bO (.slice yo yn yc);have bn:bO<w.heap.size:=al.o.lt;have bp:∀ x,(Value.slice yo yn yc).ownBlock=some x->¬ x=bO:=fun x hx e=>by have h1:=aB.o x hx;omega
  have bx:=R.o.trIn Z.o S.o;have bq:¬ dr o3 bO:=aH aJ.o bx;refine ⟨E,RL,rest,_,o3,hp,fun _=>rfl,S.o,⟨_,aJ.o.set _,?_,aB.o⟩,R.o.put kb (fun _=>.inr rfl) bq,bt⟩;rw [<- bu];exact be.o.kept kb bp
 rcases bo with rfl | rfl
 ·have U:M^s.en%(val l.n)≠X:=fun e=>by have h1:=ay.o;rw [dV e] at h1;exact absurd h1 (by decide)
  have c:=Y.o 220 _ (az.o.2 U) (by rw [<- aC.o];exact xL _);have y:=aa c;clear c Y U;go_wp2_with fail;refine (bw _).mono ?_;rintro e w5 ⟨rfl,rfl⟩;exact ⟨rfl,y.o _ (by first | exact .inr ⟨by decide,rfl⟩ | simp)⟩
 ·have U:M^s.en%(val l.n)=X:=Classical.byContradiction fun e=>by have h1:=ay.o;rw [cI e] at h1;exact absurd h1 (by decide)
  have c:=Y.o 0 _ (az.o.1 U) (by rw [<- aC.o];rfl);have y:=aa c;clear c Y U;go_wp2_with fail;refine (bv _).mono ?_;rintro e w5 ⟨rfl,bA⟩;obtain rfl:=bA.symm;go_wp2_with fail;go_end0
  exact y.o _ (by first | exact .inl ⟨rfl,rfl⟩ | simp)

theorem zY:VPriT:=by
 refine ⟨nL,fun a b c e=>by unfold nL qj vv;simp,?_⟩;intro o s l co cl cc cs p B bs at_ fo fl fc fs w ht he g hd hl hc P ad h hB M O gf ae L;have hR:KRows w o s l fo fl fc fs:=⟨g _ _ (by simp),g _ _ (by simp),g _ _ (by simp),g _ _ (by simp),g _ _ (by simp),g _ _ (by simp),g _ _ (by simp),g _ _ (by simp)⟩
 have Q:∀ args w,(callFunc 22 args).run prog w=.ok (.enter 22 args) w:=fun _ _=>by simp [go_sem]
 obtain ⟨po,S⟩:=aM o;obtain ⟨Wa,y⟩:=aj (w.alloc (.cells #[.pointer po] 57))
 obtain ⟨Wb,z⟩:=aj (Wa.alloc (.cells #[.slice s.no s.nl s.nc,.int .u64 (s.en:Nat),.slice s.dO s.dl s.dc,.slice s.po s.pl s.pc,.slice s.qo s.ql s.qc,.slice s.dpo s.dpl s.dpc,.slice s.dqo s.dql s.dqc,.slice s.qio s.qil s.qic] 26))
 obtain ⟨Wc,A⟩:=aj (Wb.alloc (.cells #[.slice co cl cc] 28))
 obtain ⟨Wd,C⟩:=aj (Wc.alloc (.cells #[.pointer p] 38))
 obtain ⟨We,D⟩:=aj (Wd.alloc (.cells #[.int .i64 at_,.slice fo fl fc] 32))
 obtain ⟨W,hW⟩:=aj (We.alloc (.cells #[.slice none 0 0] 28))
 have ka:Kept af w Wa:=by rw [y];exact (ah af w).alloc _
 have kb:Kept af Wa Wb:=by rw [z];exact (ah af Wa).alloc _
 have kc:Kept af Wb Wc:=by rw [A];exact (ah af Wb).alloc _
 have kd:Kept af Wc Wd:=by rw [C];exact (ah af Wc).alloc _
 have ke:Kept af Wd We:=by rw [D];exact (ah af Wd).alloc _
 have kf:Kept af We W:=by rw [hW];exact (ah af We).alloc _
 have za:Wa.heap.size=w.heap.size+1:=by rw [y];simp
 have zb:Wb.heap.size=w.heap.size+1+1:=by rw [z];simp [za]
 have zc:Wc.heap.size=w.heap.size+1+1+1:=by rw [A];simp [zb]
 have zd:Wd.heap.size=w.heap.size+1+1+1+1:=by rw [C];simp [zc]
 have ze:We.heap.size=w.heap.size+1+1+1+1+1:=by rw [D];simp [zd]
 have zf:W.heap.size=w.heap.size+1+1+1+1+1+1:=by rw [hW];simp [ze]
 have xa:Box Wa w.heap.size (.pointer po) 57:=by rw [y];exact Box.new w _ _
 have xb:Wb.heap[w.heap.size+1]? = some (.cells #[.slice s.no s.nl s.nc,.int .u64 (s.en:Nat),.slice s.dO s.dl s.dc,.slice s.po s.pl s.pc,.slice s.qo s.ql s.qc,.slice s.dpo s.dpl s.dpc,.slice s.dqo s.dql s.dqc,.slice s.qio s.qil s.qic] 26 (0,0)):=by rw [z,<- za];exact heap_alloc_new _ _
 have xc:Box Wc (w.heap.size+1+1) (.slice co cl cc) 28:=by rw [A,<- zb];exact Box.new Wb _ _
 have xd:Box Wd (w.heap.size+1+1+1) (.pointer p) 38:=by rw [C,<- zc];exact Box.new Wc _ _
 have xf:We.heap[w.heap.size+1+1+1+1]? = some (.cells #[.int .i64 at_,.slice fo fl fc] 32 (0,0)):=by rw [D,<- zd];exact heap_alloc_new _ _
 have xg:Box W (w.heap.size+1+1+1+1+1) (.slice none 0 0) 28:=by rw [hW,<- ze];exact Box.new We _ _
 have kE:=(ah af W).alloc (.cells #[.int .i64 0] 35);have xe:Box (W.alloc (.cells #[.int .i64 0] 35)) W.heap.size (.int .i64 0) 35:=Box.new W (.int .i64 0) 35;have k0:=((((ka.trans kb).trans kc).trans kd).trans ke).trans kf;have k1:=k0.trans kE;have i:∀ x,w.heap.size<=x->¬ ofP p x:=fun x hx f=>by have:=(h.inP f).2;omega
 have R:∀ x,w.heap.size<=x->¬ dr o x:=fun x hx f=>by have:=ht.1.foot x f;omega
 have t:=H8 (w.heap.size+1) (w.heap.size+1+1) (w.heap.size+1+1+1) w.heap.size (w.heap.size+1+1+1+1) (w.heap.size+1+1+1+1+1) o s l co cl cc cs p B bs at_ fo fl fc fs _ (ht.g k1) he (hR.g k1) hd hl (hc.g k1) P (h.g k1) (aI hB k1.size) M O gf L (au xb ((((kc.trans kd).trans ke).trans kf).trans kE)) (xc.g (((kd.trans ke).trans kf).trans kE)) (xd.g ((ke.trans kf).trans kE)) (by rw [S];exact xa.g (((((kb.trans kc).trans kd).trans ke).trans kf).trans kE)) (au xf (kf.trans kE)) (xg.g kE) (fun x f=>⟨fun e=>i _ (by omega) f,fun e=>i _ (by omega) f,fun e=>i _ (by omega) f,fun e=>i _ (by omega) f,fun e=>i _ (by omega) f⟩)
 have I:=oW 22 _ W (fun c W'=>∃ E RL rest m o',c=(E:Nat)/\PrvL l.n l.d l.p l.q l.dp l.dq l.qi s.en at_ fs cs bs E RL rest/\((E=0\/E=220)->m=nL (am (val l.n)) (am (val l.p)) (am (val l.q)) s.en)/\m.length<=1000000000/\∃ v,Box W' (w.heap.size+1+1+1+1+1) v 28/\Row .u8 W' v RL/\HzD (∀ x,v.ownBlock=some x->w.heap.size<=x/\x≠W.heap.size/\x≠w.heap.size+1+1+1+1+1)/\DidS (ofP p) w o m W' o') Q (t.mono (by
  rintro r w' ⟨E,RL,rest,m,o',hp,hm,j,⟨v,hb,hr,hf⟩,hD,ag⟩;have J:Box w' W.heap.size (.int .i64 0) 35:=xe.kept hD.1 (fun f=>f.elim (fun f=>f.elim (fun f=>i _ (by omega) f) (fun e=>by omega)) (fun f=>R _ (by omega) f));have hv:∀ x,v.ownBlock=some x->w.heap.size<=x/\x≠W.heap.size/\x≠w.heap.size+1+1+1+1+1:=fun x hx=>by have h1:=hf x hx;rw [World.size_alloc] at h1;omega
  have k:DidS (ofP p) w o m w' o':=DidS.b k1 hD (fun x hx f=>f.elim id (fun e=>by omega));rcases ag with ⟨h0,rfl⟩ | ⟨h0,rfl⟩
  ·exact ⟨J,.inl ⟨rfl,E,RL,rest,m,o',by rw [h0];rfl,hp,hm,j,v,hb,hr,hv,k⟩⟩
  ·exact ⟨J,.inr ⟨_,rfl,E,RL,rest,m,o',rfl,hp,hm,j,v,hb,hr,hv,k⟩⟩))
 have HW:HzD (W=(((((w.alloc (.cells #[.pointer po] 57)).alloc (.cells #[.slice s.no s.nl s.nc,.int .u64 (s.en:Nat),.slice s.dO s.dl s.dc,.slice s.po s.pl s.pc,.slice s.qo s.ql s.qc,.slice s.dpo s.dpl s.dpc,.slice s.dqo s.dql s.dqc,.slice s.qio s.qil s.qic] 26)).alloc (.cells #[.slice co cl cc] 28)).alloc (.cells #[.pointer p] 38)).alloc (.cells #[.int .i64 at_,.slice fo fl fc] 32)).alloc (.cells #[.slice none 0 0] 28)):=by unfold HzD;rw [hW,D,C,A,z,y]
 have HS:=aa zf;have Y:HzD (∀ x,ofP p x->x<w.heap.size):=fun x f=>(h.inP f).2
 have HT:=aa ht;rw [S];unfold KS.v;clear t hR g hd hl hc P ad h hB M O gf ae L ht he ka kb kc kd ke kf za zb zc zd ze zf xa xb xc xd xf xg kE xe k0 k1 i R hW y z A C D Q;delta ClZ;go_in;go_wp2_with (rw [<- HW.o]);refine I.mono ?_;rintro r w' ⟨n,w1,rfl,⟨⟨E,RL,rest,m,o',rfl,hp,hm,j,v,hb,hr,hv,hD⟩,N⟩,rfl⟩;obtain ⟨vo,vn,vc,rfl,-⟩:=hr.open;have ai:W.heap.size=w.heap.size+1+1+1+1+1+1:=HS.o;have H:=hD.trIn HT.o j;have F:Box w1 W.heap.size (.int .i64 0) 35:=N;have n1:¬ dr o' W.heap.size:=aH F H;have n2:¬ dr o' (w.heap.size+1+1+1+1+1):=aH hb H
 have kx:=aF w1 W.heap.size (.int .i64 (E:Nat));have G:=hb.kept kx (by show ¬ w.heap.size+1+1+1+1+1=W.heap.size;omega);have T:=hr.kept kx (fun x hx e=>(hv.o x hx).2.1 e);have k:=hD.put kx (fun hx=>by omega) n1;have ak:=G.cell;have al:=G.free;have U:=aa G;have ab:=aa hp;have HM:=aa hm;have Z:=aa j;generalize w1.setCell ⟨W.heap.size,0,none⟩ (.int .i64 (E:Nat))=W2 at *;have ky:=aF W2 (w.heap.size+1+1+1+1+1) (.slice vo vn vc);have ac:=aa (T.kept ky (fun x hx e=>(hv.o x hx).2.2 e));have V:=aa ((k.put ky (fun hx=>by omega) n2).split Y.o)
 have X:HzD (∀ b,(Value.slice vo vn vc).ownBlock=some b->w.heap.size<=b):=fun b hx=>(hv.o b hx).1
 clear I hb hr N kx G T hD k hp hm j ai H F n1 n2 ky hv;go_wp2_with fail;exact bodyPost_ret (v:=.tuple #[.slice vo vn vc,.int .i64 (E:Nat)]) (by simp [results,results9,go_sem,(U.o.set (.slice vo vn vc)).cell]) rfl ⟨_,E,rfl,RL,rest,m,ab.o,⟨ac.o,X.o⟩,Z.o,HM.o,V.o⟩

theorem Fx (u v:Value) (Q N:Nat) (w:World) (hu:IsBig w u Q) (hv:IsBig w v N) (hQ:cC Q<=1000) (hN:cC N<=1000) :
  ClZ 55 #[u,v] w fun e w'=>∃ R:Bool,e=.returned (.bool R)/\(R=true->PrimeN Q->PrimeN N)/\Kept af w w':=by
 obtain ⟨uo,un,uc,rfl,_,_⟩:=hu.length;obtain ⟨vo,vn,vc,rfl,_,_⟩:=hv.length;have h1:=jp 1 (by omega) w;have HU:=aa hu;have HV:=aa hv;clear hu hv;delta ClZ;go_in;go_wp2_with fail;refine h1.mono ?_;rintro e w1 ⟨v1,rfl,A,_,k1⟩;have h2:=mI _ v1 N 1 w1 (HV.o.g k1) A;have E:=aa A;clear h1 A;by_cases hN1:N<=1
 ·have hc:=zy hN1;generalize cY N 1=c at *;go_wp2_with fail;refine h2.mono ?_;rintro e w2 ⟨rfl,m2,rfl⟩;go_wp2_with fail;go_ret;exact ⟨false,rfl,(fun h=>by cases h),k1.drewN m2⟩
 ·rw [jA (show 1<N by omega)] at h2;go_wp2_with fail;refine h2.mono ?_;rintro e ap ⟨rfl,m2,rfl⟩;have K2:=k1.drewN m2;have B2:=E.o.g ((ah af w1).drewN m2);obtain ⟨w2,T⟩:=aj (w1.drewN m2)
  rw [<- T] at K2 B2 ⊢;have h3:=Dx _ _ Q Q w2 (HU.o.g K2) (HU.o.g K2);clear h2 T k1 E;go_wp2_with fail;refine h3.mono ?_;rintro e w3 ⟨v3,rfl,J,_,k3⟩;have K3:=K2.trans k3;have B3:=B2.g k3;have h4:=mI v3 _ (Q*Q) N w3 J (HV.o.g K3);clear h3 J K2 B2 k3;by_cases hqq:Q*Q<=N
  ·have hc:=zy hqq;generalize cY (Q*Q) N=c at *;go_wp2_with fail;refine h4.mono ?_;rintro e w4 ⟨rfl,m4,rfl⟩;go_wp2_with fail;go_ret;exact ⟨false,rfl,(fun h=>by cases h),K3.drewN m4⟩
  ·rw [jA (show N<Q*Q by omega)] at h4;have I:0<Q:=by
    rcases cE Q with e | e
    ·subst e;omega
    ·exact e
   have Z:=aa hqq;clear hqq;go_wp2_with fail;refine h4.mono ?_;rintro e aq ⟨rfl,m4,rfl⟩;have K4:=K3.drewN m4;have B4:=B3.g ((ah af w3).drewN m4);obtain ⟨w4,U⟩:=aj (w3.drewN m4)
   rw [<- U] at K4 B4 ⊢;have h5:=vZ _ v1 N 1 w4 (HV.o.g K4) B4;clear h4 U K3 B3;go_wp2_with fail;refine h5.mono ?_;rintro e w5 ⟨v5,rfl,L,_,k5⟩;have K5:=K4.trans k5;have B5:=B4.g k5;have h6:=pZ v5 _ (N-1) Q w5 L (HU.o.g K5) I (by have:=ef (show N-1<=N by omega);omega);clear h5 K4 B4 k5 L;go_wp2_with fail;refine h6.mono ?_;rintro e w6 ⟨v6,ao,rfl,M,i,_,_,k6⟩;obtain ⟨ro,rn,rc,rfl,_,_⟩:=i.length;have b:=aa (K5.trans k6);have q:=aa (B5.g k6);have F:=aa M;obtain ⟨kq,S⟩:=aj ((N-1)/Q)
   rw [<- S] at F;clear h6 K5 B5 k6 M i S;by_cases hrn:0<rn
   ·have g1:(0:Int)<(rn:Int):=by omega
    go_wp2_with fail;go_ret;exact ⟨false,rfl,(fun h=>by cases h),b.o⟩
   ·have g1:¬ (0:Int)<(rn:Int):=by omega
    have g2:¬ (rn:Int) > 0:=by omega
    go_wp2_with fail;go_loopw [9] (fun av wr=>∃ a:Nat,2<=a/\a<=30/\av=.int .u64 (a:Int)/\HzD (Kept af w6 wr)) (fun av _=>30-(intOf av).toNat)
    case atStart=>exact ⟨2,by omega,by omega,rfl,ah _ _⟩
    case round=>
     obtain ⟨a,am,ha,rfl,B⟩:=hrel;by_cases hlt:a<30
     ·have ga:(a:Int)<30:=by omega
      have h7:=jp a (by omega) wr;go_wp2_with fail;refine h7.mono ?_;rintro e w7 ⟨v7,rfl,O,_,k7⟩;have K7:=B.o.trans k7;have G:=b.o.trans K7;have h8:=tG v7 v6 _ a kq N w7 O (F.o.g K7) (HV.o.g G) (by omega) (by have:=(dI a 1).2 (by omega);omega);clear h7 O k7;go_wp2_with fail;refine h8.mono ?_;rintro e w8 ⟨v8,rfl,o,_,k8⟩;have K8:=K7.trans k8;have x:=b.o.trans K8;obtain ⟨X,hX⟩:=aj (a^kq%N)
      have z:X<N:=by rw [hX];exact bu
      rw [<- hX] at o;have an:cC X<=1000:=by have:=ef (eH z);omega
      have h9:=tG v8 _ _ X Q N w8 o (HU.o.g x) (HV.o.g x);clear h8 K7 G k8 hX;go_wp2_with fail;refine h9.mono ?_;rintro e w9 ⟨v9,rfl,P,_,k9⟩;have K9:=K8.trans k9;have m:=mI v9 v1 _ 1 w9 P (q.o.g K9);have D:=o.g k9;clear h9 P o K8 x k9;by_cases hone:X^Q%N=1
      ·rw [jz hone] at m;have ab:1<=X:=by
        rcases cE X with e | e
        ·subst e;rw [Nat.zero_pow I] at hone;simp at hone
        ·exact e
       have s:=aa hone;clear hone;go_wp2_with fail;refine m.mono ?_;rintro e ae ⟨rfl,k,rfl⟩;have d:=K9.drewN k;have p:=D.g ((ah af w9).drewN k);obtain ⟨Y,j⟩:=aj (w9.drewN k)
       rw [<- j] at d p ⊢;have y:=Ag v8 v1 _ X 1 N Y p (q.o.g d) (HV.o.g (b.o.trans d));rw [ai ab] at y;clear m j K9 D p;go_wp2_with fail;refine y.mono ?_;rintro e ag ⟨ac,rfl,f,_,V⟩;have t:=d.trans V;have H:=Id ac _ (X-1) N ag f (HV.o.g (b.o.trans t)) (by have:=ef (show X-1<=X by omega);omega);clear y d V f;go_wp2_with fail;refine H.mono ?_;rintro e ak ⟨ad,rfl,g,_,W⟩;have l:=t.trans W;have n:=mI ad v1 _ 1 ak g (q.o.g l);clear H t W g;by_cases hg:Nat.gcd (X-1) N=1
       ·rw [jz hg] at n;have HG:HzD (PrimeN Q->PrimeN N):=fun hq=>vI hq (by omega) (by have:=Z.o;omega) s.o hg
        go_wp2_with fail;refine n.mono ?_;rintro e al ⟨rfl,C,rfl⟩;go_wp2_with fail;go_ret;exact ⟨true,rfl,(fun _=>HG.o),(b.o.trans l).drewN C⟩
       ·have hc:=xZ hg;generalize cY (Nat.gcd (X-1) N) 1=cg at *;go_wp2_with fail;refine n.mono ?_;rintro e al ⟨rfl,C,rfl⟩;have r:=aa (l.drewN C);clear n l;go_wp2_with fail;go_roundw
        case rel=>exact ⟨a+1,by omega,by omega,by go_num,r⟩
        case measure=>simp [intOf];omega
      ·have hc:=xZ hone;generalize cY (X^Q%N) 1=c10 at *;go_wp2_with fail;refine m.mono ?_;rintro e Y ⟨rfl,k,rfl⟩;go_wp2_with fail;go_ret;exact ⟨false,rfl,(fun h=>by cases h),(b.o.trans K9).drewN k⟩
     ·have ga:¬ (a:Int)<30:=by omega
      go_wp2_with fail;go_ret;first | exact .inl ⟨rfl,b.o.trans B.o⟩ | exact ⟨false,rfl,(fun h=>by cases h),b.o.trans B.o⟩

theorem qu {xs:LN} (hd:Digs xs) (hl:xs.length<=n):cC (val xs)<=2*n:=
 (dI _ _).2 (by
  rw [aW];exact bi (aE (by omega) hd) (bj (by omega) hl))

theorem Bg (lo:OA) (n an:Nat) (A:Nat->OA) (N C:Nat->Nat) (a:Nat->LN) (w:World) (hs:Slots w lo n A N C) (hr:∀ i,i<n->Row .u64 w (.slice (A i) (N i) (C i)) (a i)) (hd:∀ i,i<n->Digs (a i)) (hn:n<=2000000) (p:∀ i,i<n->N i<=2000000) :
  ClZ 20 #[.slice lo n an] w fun e w'=>∃ R:Bool,e=.returned (.bool R)/\(R=true->0<n/\PrimeN (val (a (n-1))))/\Kept af w w':=by
 have HF:HzD (∀ W,Kept af w W->∃ R:Bool,Ending.returned (.bool false)=.returned (.bool R)/\(R=true->0<n/\PrimeN (val (a (n-1))))/\Kept af w W):=fun W k=>⟨false,rfl,(fun h=>by cases h),k⟩
 by_cases h0:n=0
 ·subst h0;clear hs hr hd;delta ClZ;go_in;go_wp2_with fail;go_ret;first | exact HF.o _ (ah _ _) | exact .inl ⟨rfl,ah _ _⟩
 have g0:¬ (n:Int)=0:=by omega
 have q0:((n:Int) == 0)=false:=by simp;omega
 by_cases h8:8<n
 ·have g8:(n:Int) > 8:=by omega
  clear hs hr hd;delta ClZ;go_in;go_wp2_with fail;go_ret;first | exact HF.o _ (ah _ _) | exact .inl ⟨rfl,ah _ _⟩
 have g8:¬ (n:Int) > 8:=by omega
 obtain ⟨lb,d,rfl,s⟩:=hs 0 (by omega);have L:=hr 0 (by omega);have H:=hd 0 (by omega);obtain ⟨_,_,_,e1,o,-,-,-,h4⟩:=L.open;cases e1
 rw [aV] at s;have gn:(0:Int)<(n:Int):=by omega
 have ap:=p 0 (by omega);by_cases hN1:N 0=1
 ·rw [hN1] at s h4 o;obtain ⟨zb,av,Y,G⟩:=h4 0 (by omega);rw [Y] at s;rw [aV] at G;obtain ⟨z,hz⟩:=aj ((a 0).getD 0 0)
  rw [<- hz] at G;have Q:a 0=[z]:=by
   have:=o.o
   match hxs:a 0 with
   | []=>rw [hxs] at this;simp at this
   | [y]=>rw [hz,hxs];rfl
   | y :: y' :: l=>rw [hxs] at this;simp at this
  have aB:z<18446744073709551616:=H z (by rw [Q];simp);have P:HzD (val (a 0)=z):=by unfold HzD;rw [Q];simp [val]
  have HS:=aa hs;have HR:=aa hr;have HD:=aa hd;have HN:=aa p;clear hs hr hd H L o h4 Q hz p ap;by_cases hz6:1000000<=z
  ·have gz:(z:Int)≥1000000:=by omega
   delta ClZ;go_in;go_wp2_with fail;go_ret;first | exact HF.o _ (ah _ _) | exact .inl ⟨rfl,ah _ _⟩
  ·have gz:¬ (z:Int)≥1000000:=by omega
   by_cases hP:PrimeN z
   ·have q:=vW z (by omega) true (by simp [hP]) w;have X:HzD (PrimeN (val (a 0))):=by unfold HzD;rw [P.o];exact hP
    clear hP P;delta ClZ;go_in;go_wp2_with fail;refine q.mono ?_;rintro e w1 ⟨rfl,rfl⟩;clear q;go_wp2_with fail;go_loopw [3] (fun iv wr=>∃ i:Nat,1<=i/\i<=n/\iv=.int .i64 (i:Int)/\HzD (PrimeN (val (a (i-1))))/\HzD (N (i-1)<=20)/\HzD (Kept af w1 wr)) (fun iv _=>n-(intOf iv).toNat)
    case atStart=>exact ⟨1,by omega,by omega,rfl,X.o,(by unfold HzD;show N 0<=20;omega),ah _ _⟩
    case round=>
     obtain ⟨i,az,aA,rfl,t,g,c⟩:=hrel;by_cases hlt:i<n
     ·have g1:(i:Int)<(n:Int):=by omega
      have aw:(0:Int)<=(i:Int):=by omega
      obtain ⟨j,au⟩:∃ j,i=j+1:=⟨i-1,by omega⟩
      have f:i-1=j:=by omega
      obtain ⟨_,_,e1,ab⟩:=(HS.o.g c.o) i hlt;cases e1
      obtain ⟨_,_,e1,ac⟩:=(HS.o.g c.o) j (by omega);cases e1
      have gj:(i:Int)-1=(j:Int):=by omega
      have gw:IntKind.i64.wrap ((i:Int)-1)=(j:Int):=jN
      have ay:(j:Int)<(n:Int):=by omega
      have ax:(0:Int)<=(j:Int):=by omega
      rw [f] at t g;have O:=(HR.o j (by omega)).g c.o;have M:=(HR.o i hlt).g c.o;have J:=HD.o j (by omega);have I:=HD.o i hlt;have ar:=HN.o j (by omega);have aq:=HN.o i hlt;obtain ⟨_,_,_,e1,F,-,-,-,-⟩:=O.open;cases e1
      obtain ⟨_,_,_,e1,E,-,-,-,-⟩:=M.open;cases e1
      have JO:HzD (∀ W,Kept af wr W->ClZ 19 #[.slice (A j) (N j) (C j)] W fun r w'=>∃ v',r=.returned v'/\IsBig w' v' (val (a j))/\(∀ b,v'.ownBlock=some b->W.heap.size<=b)/\Kept af W w'):=fun W k=>rOf _ _ W (O.g k) J (by rw [F.o];omega)
      have JI:HzD (∀ W,Kept af wr W->ClZ 19 #[.slice (A i) (N i) (C i)] W fun r w'=>∃ v',r=.returned v'/\IsBig w' v' (val (a i))/\(∀ b,v'.ownBlock=some b->W.heap.size<=b)/\Kept af W w'):=fun W k=>rOf _ _ W (M.g k) I (by rw [E.o];omega)
      have U:HzD (N i<=20->cC (val (a i))<=1000):=fun h=>by have:=qu I (show (a i).length<=20 by rw [E.o];exact h);omega
      have V:HzD (N j<=20->cC (val (a j))<=1000):=fun h=>by have:=qu J (show (a j).length<=20 by rw [F.o];exact h);omega
      have JC:HzD (∀ W,Kept af wr W->W.cell? ⟨lb,d+i,none⟩=some (.slice (A i) (N i) (C i))/\W.cell? ⟨lb,d+j,none⟩=some (.slice (A j) (N j) (C j))):=fun W k=>⟨k.cellN ab,k.cellN ac⟩
      have ag:HzD (N i<=20->∀ W x y,IsBig W x (val (a j))->IsBig W y (val (a i))->ClZ 55 #[x,y] W fun e w'=>∃ R:Bool,e=.returned (.bool R)/\(R=true->PrimeN (val (a i)))/\Kept af W w'):=fun D W x y hx hy=>by
       refine (Fx x y _ _ W hx hy (V.o g.o) (U.o D)).mono ?_;rintro e w' ⟨R,rfl,h,k⟩;exact ⟨R,rfl,fun hR=>h hR t.o,k⟩
      have ae:HzD (PrimeN (val (a i))->PrimeN (val (a (i+1-1)))):=fun h=>by rw [gF];exact h
      have kd:Kept af wr wr.drew:=(ah _ _).drew;clear O M J I ar aq F E U V au f;have ai:HzD (N i<=20->N (i+1-1)<=20):=fun h=>by rw [gF];exact h
      generalize val (a j)=V0 at *;generalize val (a i)=V1 at *;generalize N i=n1 at *;generalize N j=n0 at *;generalize A i=a1 at *;generalize A j=a0 at *;generalize C i=c1 at *;generalize C j=c0 at *;by_cases D:20<n1
      ·have m:(20:Int)<(n1:Int):=by omega
       go_wp2_with fail;go_quiet (fail);go_wp2_with fail;go_ret;first | exact HF.o _ (c.o.drewN _) | exact .inl ⟨rfl,c.o.drewN _⟩
      ·have m:¬ (20:Int)<(n1:Int):=by omega
       have cb:decide ((20:Int)<(n1:Int))=false:=cI m;have ao:decide ((n1:Int) > 20)=false:=cI m;clear s G HS HR HD HN X Y hN1 q0 g0 gj;go_wp2_with fail;go_region_held3 (fun w'=>w'.cell? ⟨lb,d+i,none⟩=some (.slice a1 n1 c1)/\w'.cell? ⟨lb,d+j,none⟩=some (.slice a0 n0 c0))
        (((try dsimp only);(repeat' apply And.intro) <;> first | (go_keep;done) | assumption))
        (first
        | (go_at_call 55;refine (ag.o (by omega) _ _ _ (b1.g k2) b2).mono ?_;rintro e w3 ⟨R3,rfl,Z,k3⟩;have T:=S.trans k3;obtain ⟨s0,s1⟩:=JC.o _ T)
        | (go_at_call_of 19 (Value.slice a1 n1 c1);refine (JI.o _ v).mono ?_;rintro e w2 ⟨v2,rfl,b2,_,k2⟩;have S:=v.trans k2;obtain ⟨r0,r1⟩:=JC.o _ S)
        | (go_at_call_of 19 (Value.slice a0 n0 c0);refine (JO.o _ kd).mono ?_;rintro e w2 ⟨v1,rfl,b1,_,k1⟩;have v:=kd.trans k1;obtain ⟨q1,q2⟩:=JC.o _ v))
       all_goals
        have B:=aa (c.o.trans T);have am:=aa Z;have ad:HzD (n1<=20):=by unfold HzD;omega
        clear Z ab ac gw ao q1 q2 r0 r1 s0 s1 k1 k2 k3 v S T b1 b2 kd;try rw [cb]
        clear cb m D;cases R3
        ·rw [show (!false)=true from rfl];go_wp2_with fail;go_ret;first | exact HF.o _ B.o | exact .inl ⟨rfl,B.o⟩
        ·have al:=aa (ae.o (am.o rfl));have ak:=aa (ai.o ad.o);rw [show (!true)=false from rfl];go_wp2_with fail;go_roundw
         case rel=>exact ⟨i+1,by omega,by omega,by go_num,al.o,ak.o,B.o⟩
         case measure=>simp [intOf];omega
     ·have g1:¬ (i:Int)<(n:Int):=by omega
      obtain rfl:i=n:=by omega
      go_wp2_with fail;go_ret;first | exact ⟨true,rfl,(fun _=>⟨by omega,t.o⟩),c.o⟩ | exact .inr ⟨rfl,⟨by omega,t.o⟩,c.o⟩
   ·have q:=vW z (by omega) false (by simp [hP]) w;clear hP P;delta ClZ;go_in;go_wp2_with fail;refine q.mono ?_;rintro e w1 ⟨rfl,rfl⟩;go_wp2_with fail;go_ret;first | exact HF.o _ (ah _ _) | exact .inl ⟨rfl,ah _ _⟩
 ·have gN:¬ (N 0:Int)=1:=by omega
  generalize N 0=N0 at *;generalize A 0=A0 at *;generalize C 0=C0 at *;clear hs hr hd L H o h4 p;delta ClZ;go_in;go_wp2_with fail;go_ret;first | exact HF.o _ (ah _ _) | exact .inl ⟨rfl,ah _ _⟩

theorem yP (ao lo:OA) (L a n j:Nat) (xs:LN) (A:Nat->OA) (N C:Nat->Nat) (c:Nat->LN) (w:World) (hu:Row .u64 w (.slice ao L a) xs) (E:Digs xs) (hL:L<=1000000) (hs:Slots w lo n A N C) (hr:∀ i,i<n->Row .u64 w (.slice (A i) (N i) (C i)) (c i)) (hd:∀ i,i<n->Digs (c i)) (hn:n<=2000000) (o:∀ i,i<n->N i<=2000000) (heq:0<n->val xs=val (c (n-1))) :
  ClZ 8 #[.slice ao L a,.slice lo n j] w fun e w'=>∃ R:Bool,e=.returned (.bool R)/\(R=true->PrimeN (val xs))/\Kept af w w':=by
 have HF:HzD (∀ W,Kept af w W->∃ R:Bool,Ending.returned (.bool false)=.returned (.bool R)/\(R=true->PrimeN (val xs))/\Kept af w W):=fun W k=>⟨false,rfl,(fun h=>by cases h),k⟩
 obtain ⟨_,_,_,e1,l,-,-,-,-⟩:=hu.open;cases e1
 have JX:HzD (∀ W,Kept af w W->ClZ 19 #[.slice ao L a] W fun r w'=>∃ v',r=.returned v'/\IsBig w' v' (val xs)/\(∀ b,v'.ownBlock=some b->W.heap.size<=b)/\Kept af W w'):=fun W k=>rOf _ _ W (hu.g k) E (by rw [l.o];omega)
 have JP:HzD (∀ W,Kept af w W->ClZ 20 #[.slice lo n j] W fun e w'=>∃ R:Bool,e=.returned (.bool R)/\(R=true->0<n/\PrimeN (val (c (n-1))))/\Kept af W w'):=fun W k=>Bg lo n j A N C c W (hs.g k) (fun i hi=>(hr i hi).g k) hd hn o
 have kd:Kept af w w.drew:=(ah _ _).drew;by_cases h0:n=0
 ·subst h0;clear hs hr hd hu l heq;delta ClZ;go_in;go_wp2_with fail;go_quiet (fail);go_wp2_with fail;go_ret;first | exact HF.o _ ((ah _ _).drewN _) | exact .inl ⟨rfl,(ah _ _).drewN _⟩
 ·have g0:(0:Int)<(n:Int):=by omega
  have I:0<n:=by omega
  obtain ⟨m,hm⟩:∃ m,n=m+1:=⟨n-1,by omega⟩
  have z:n-1=m:=by omega
  rw [z] at JP heq;have heq:=heq (by omega);obtain ⟨lb,d,rfl,x⟩:=hs m (by omega);have p:=hr m (by omega);have y:=hd m (by omega);have H:=o m (by omega);obtain ⟨_,_,_,e1,t,-,-,-,-⟩:=p.open;cases e1
  have JL:HzD (∀ W,Kept af w W->ClZ 19 #[.slice (A m) (N m) (C m)] W fun r w'=>∃ v',r=.returned v'/\IsBig w' v' (val (c m))/\(∀ b,v'.ownBlock=some b->W.heap.size<=b)/\Kept af W w'):=fun W k=>rOf _ _ W (p.g k) y (by rw [t.o];omega)
  have JC:HzD (∀ W,Kept af w W->W.cell? ⟨lb,d+m,none⟩=some (.slice (A m) (N m) (C m))):=fun W k=>k.cellN x
  have gw:IntKind.i64.wrap ((n:Int)-1)=(m:Int):=jN
  have F:(0:Int)<=(m:Int):=by omega
  have G:(m:Int)<(n:Int):=by omega
  generalize val (c m)=V1 at *;generalize val xs=V0 at *;generalize A m=a1 at *;generalize N m=n1 at *;generalize C m=c1 at *;clear hs hr hd hu l t p y hm z o h0;delta ClZ;go_in;go_wp2_with fail;go_region_held3 (fun w'=>w'.cell? ⟨lb,d+m,none⟩=some (.slice a1 n1 c1))
   (((try dsimp only);first | (go_keep;done) | assumption))
   (first
   | (go_at_call 20;refine (JP.o _ g).mono ?_;rintro e w4 ⟨R4,rfl,v,k4⟩;have s:=g.trans k4;have t0:=JC.o _ s)
   | (go_at_call 18;refine (mI _ _ _ _ _ (b1.g k2) b2).mono ?_;rw [jz heq];rintro e w3 ⟨rfl,m3,rfl⟩;have g:=q.drewN m3;have s0:=JC.o _ g)
   | (go_at_call_of 19 (Value.slice a1 n1 c1);refine (JL.o _ f).mono ?_;rintro e w2 ⟨v2,rfl,b2,_,k2⟩;have q:=f.trans k2;have r0:=JC.o _ q)
   | (go_at_call_of 19 (Value.slice ao L a);refine (JX.o _ kd).mono ?_;rintro e w1 ⟨v1,rfl,b1,_,k1⟩;have f:=kd.trans k1;have q1:=JC.o _ f))
  all_goals
   have B:=aa s;have D:HzD (R4=true->PrimeN V0):=fun h=>by rw [heq];exact (v h).2
   clear v gw q1 r0 s0 t0 k1 k2 k4 f q g s b1 b2 kd heq x;go_wp2_with fail;go_ret;exact ⟨R4,rfl,D.o,B.o⟩

theorem yQ (ao lo:OA) (L d n l:Nat) (xs:LN) (A:Nat->OA) (N C:Nat->Nat) (j:Nat->LN) (w:World) (hu:Row .u64 w (.slice ao L d) xs) (G:Digs xs) (hL:L<=1000000) (hs:Slots w lo n A N C) (hr:∀ i,i<n->Row .u64 w (.slice (A i) (N i) (C i)) (j i)) (hd:∀ i,i<n->Digs (j i)) (hn:n<=2000000) (z:∀ i,i<n->N i<=2000000) (Q:0<n) (R:val xs≠val (j (n-1))) :
  ClZ 8 #[.slice ao L d,.slice lo n l] w fun e w'=>e=.returned (.bool false)/\Kept af w w':=by
 obtain ⟨_,_,_,e1,x,-,-,-,-⟩:=hu.open;cases e1
 have JX:HzD (∀ W,Kept af w W->ClZ 19 #[.slice ao L d] W fun r w'=>∃ v',r=.returned v'/\IsBig w' v' (val xs)/\(∀ b,v'.ownBlock=some b->W.heap.size<=b)/\Kept af W w'):=fun W k=>rOf _ xs W (hu.g k) G (by rw [x.o];omega)
 have kd:Kept af w w.drew:=(ah _ _).drew;have g0:(0:Int)<(n:Int):=by omega
 have cb:decide ((0:Int)<(n:Int))=true:=dV g0;obtain ⟨m,hm⟩:∃ m,n=m+1:=⟨n-1,by omega⟩
 have H:n-1=m:=by omega
 rw [H] at R;obtain ⟨lb,a,rfl,P⟩:=hs m (by omega);have q:=hr m (by omega);have F:=hd m (by omega);have O:=z m (by omega);obtain ⟨_,_,_,e1,v,-,-,-,-⟩:=q.open;cases e1
 have JL:HzD (∀ W,Kept af w W->ClZ 19 #[.slice (A m) (N m) (C m)] W fun r w'=>∃ v',r=.returned v'/\IsBig w' v' (val (j m))/\(∀ b,v'.ownBlock=some b->W.heap.size<=b)/\Kept af W w'):=fun W k=>rOf _ (j m) W (q.g k) F (by rw [v.o];omega)
 have JC:HzD (∀ W,Kept af w W->W.cell? ⟨lb,a+m,none⟩=some (.slice (A m) (N m) (C m))):=fun W k=>k.cellN P
 have gw:IntKind.i64.wrap ((n:Int)-1)=(m:Int):=jN
 have J:(0:Int)<=(m:Int):=by omega
 have M:(m:Int)<(n:Int):=by omega
 have p:∀ f,f=19\/f=18->∀ args w,(callFunc f args).run prog w=.ok (.enter f args) w:=fun f h args w=>by rcases h with rfl | rfl <;> simp [go_sem]
 generalize val (j m)=V1 at *;generalize val xs=V0 at *;generalize A m=a1 at *;generalize N m=n1 at *;generalize C m=c1 at *;clear hs hr hd hu x v q F hm H z O G hL hn;delta ClZ;go_in;go_wp2_with fail;refine wp_region_held_drew (S:=fun w'=>w'.cell? ⟨lb,a+m,none⟩=some (.slice a1 n1 c1)) (by kernel_rfl) (JC.o _ kd) (fun hS=>?_);have c:=hS;refine aO 0 (some 5) (Value.slice (some ⟨lb,a,none⟩) n l) c ?_;simp only [aU];refine aO 1 (some 6) (.int .i64 (n:Int)) c ?_;simp only [aU];refine aO 2 (some 7) (.bool true) c ?_ (y:=dL fun w h=>by simp [execOp,go_sem,Q]);simp only [aU]
 refine aO 3 (some 8) (.bool true) c ?_;simp only [aU];refine aO 4 (some 9) (.slice ao L d) c ?_;simp only [aU];refine aO 6 (some 11) (Value.slice (some ⟨lb,a,none⟩) n l) c ?_;simp only [aU];refine aO 7 (some 12) (Value.slice (some ⟨lb,a,none⟩) n l) c ?_;simp only [aU];refine aO 8 (some 13) (.int .i64 (n:Int)) c ?_;simp only [aU];refine aO 9 (some 14) (.int .i64 (m:Int)) c ?_ (y:=dL fun w h=>by simp [execOp,go_sem,gw]);simp only [aU]
 refine aO 10 (some 15) (.pointer (some ⟨lb,a+m,none⟩)) c ?_ (y:=dL fun w h=>by simp [execOp,go_sem,J,M]);simp only [aU];refine aO 11 (some 16) (.slice a1 n1 c1) c ?_ (y:=dL fun w h=>by simp [execOp,go_sem,h]);simp only [aU];refine zw 5 (some 10) (by kernel_rfl) rfl rfl (by rfl) 19 _ _ [.slice ao L d] rfl rfl (p _ (.inl rfl)) (JX.o _ kd) ?_;rintro e w1 ⟨v1,rfl,b1,_,k1⟩;have o:=kd.trans k1;have B:=JC.o _ o;refine .inl ⟨_,rfl,B,?_⟩;simp only [aU];refine zw 12 (some 17) (by kernel_rfl) rfl rfl (by rfl) 19 _ _ [.slice a1 n1 c1] rfl rfl (p _ (.inl rfl)) (JL.o _ o) ?_
 rintro e w2 ⟨v2,rfl,b2,_,k2⟩;have s:=o.trans k2;have D:=JC.o _ s;refine .inl ⟨_,rfl,D,?_⟩;simp only [aU];refine zw 13 (some 18) (by kernel_rfl) rfl rfl (by rfl) 18 _ _ [v1,v2] rfl rfl (p _ (.inr rfl)) (mI _ _ _ _ _ (b1.g k2) b2) ?_;rintro e w3 ⟨rfl,m3,rfl⟩;have t:=s.drewN m3;have g:=JC.o _ t;have E:¬ cY V0 V1=0:=by
  unfold cY
  split
  ·decide
  ·first | decide | (split <;> first | decide | omega)
 refine .inl ⟨_,rfl,g,?_⟩;simp only [aU];refine aO 14 (some 19) (.bool false) g ?_ (y:=dL fun w h=>by simp [execOp,go_sem,E]);simp only [aU];refine aO 15 (some 20) (.bool false) g ?_;simp only [aU];refine aO 16 (some 21) (.bool false) g ?_;simp only [aU];refine aO 17 (some 22) undef g ?_ (y:=.inr ⟨by rfl,rfl⟩);simp only [aU];refine GB 18 (some 23) g ?_;simp only [aU];refine aO 19 (some 24) (.bool false) g ?_;simp only [aU];refine aO 20 (some 4) (.bool false) g ?_;simp only [aU]
 refine wpAnyH_done (by kernel_rfl) ?_ _;have I:=aa t;clear E b1 b2 k1 k2 o s t hS B D g JX JL JC;go_wp2_with fail;go_ret;exact ⟨rfl,I.o⟩

theorem vV (ao lo:OA) (L a n c:Nat) (xs:LN) (A:Nat->OA) (N C:Nat->Nat) (b:Nat->LN) (w:World) (hu:Row .u64 w (.slice ao L a) xs) (f:Digs xs) (hL:L<=1000000) (hs:Slots w lo n A N C) (hr:∀ i,i<n->Row .u64 w (.slice (A i) (N i) (C i)) (b i)) (hd:∀ i,i<n->Digs (b i)) (hn:n<=2000000) (d:∀ i,i<n->N i<=2000000) :
  ClZ 8 #[.slice ao L a,.slice lo n c] w fun e w'=>∃ R:Bool,e=.returned (.bool R)/\(R=true->PrimeN (val xs))/\Kept af w w':=by
 by_cases h:0<n->val xs=val (b (n-1))
 ·exact yP ao lo L a n c xs A N C b w hu f hL hs hr hd hn d h
 ·have g:0<n:=Nat.pos_of_ne_zero (fun e=>h (fun h1=>by omega));have j:val xs≠val (b (n-1)):=fun e=>h (fun _=>e)
  refine (yQ ao lo L a n c xs A N C b w hu f hL hs hr hd hn d g j).mono ?_;rintro e w' ⟨rfl,k⟩;exact ⟨false,rfl,(fun h=>by cases h),k⟩

theorem tU (ay:BF) (aC:BE) (hA:VPri) (hP:VPla) (hB:GI) (s:KS) (l:KL) (pv:Value) (pn:Nat) (pA:Nat->OA) (pL pC:Nat->Nat) (px:Nat->LN) (qv:Value) (qn:Nat) (qA:Nat->OA) (qL qC:Nat->Nat) (qx:Nat->LN) (u:Value) (cs:LN) (v:Value) (bs:LN) (w:World) (hr:s.Rows w l) (hp:NatsIn w pv pn pA pL pC px) (hq:NatsIn w qv qn qA qL qC qx) (hu:Row .u8 w u cs) (hv:Row .u8 w v bs) (hd:l.Digs) (dc:Digs cs 256) (db:Digs bs 256) (he:s.en<18446744073709551616) (Z:pn<=2000000/\∀ i,i<pn->pL i<=2000000) (ac:qn<=2000000/\∀ i,i<qn->qL i<=2000000) :
  ClZ 3 #[.agg s.v,pv,qv,u,v] w fun e w'=>e=.returned (.bool true)/\Below w.heap.size w w':=by
 obtain ⟨co,cl,cc,rfl,aD,_⟩:=hu.open;obtain ⟨uo,un,uc,rfl,ai,_⟩:=hv.open;obtain ⟨W0,L⟩:=aj (w.alloc (.cells s.v 26))
 have k0:Kept af w W0:=by rw [L];exact (ah af w).alloc _
 have al:W0.heap[w.heap.size]? = some (.cells s.v 26 (0,0)):=by rw [L];exact heap_alloc_new _ _
 have JC:HzD (∀ W,Kept af W0 W->W.cell? ⟨w.heap.size,0,none⟩=some (.slice s.no s.nl s.nc)/\W.cell? ⟨w.heap.size,1,none⟩=some (.int .u64 ((s.en:Nat):Int))/\W.cell? ⟨w.heap.size,2,none⟩=some (.slice s.dO s.dl s.dc)/\W.cell? ⟨w.heap.size,3,none⟩=some (.slice s.po s.pl s.pc)/\W.cell? ⟨w.heap.size,4,none⟩=some (.slice s.qo s.ql s.qc)/\W.cell? ⟨w.heap.size,5,none⟩=some (.slice s.dpo s.dpl s.dpc)/\W.cell? ⟨w.heap.size,6,none⟩=some (.slice s.dqo s.dql s.dqc)/\W.cell? ⟨w.heap.size,7,none⟩=some (.slice s.qio s.qil s.qic)):=fun W k=>aZ ((k.block _ (lt_of_block al) (fun f=>f)).trans al)
 have JA:=Cj ay aC hB W0;have JF:=aa fun W R hR=>GW s co uo none cl cc un uc 0 0 0 R hR W
 have O:=aa dc;obtain ⟨po,pc,rfl,_,_,aH,ab⟩:=hp;obtain ⟨qo,qc,rfl,_,_,aJ,ad⟩:=hq;obtain ⟨E9,V⟩:∃ E9,(E9=0/\KeyGood l.n l.d l.p l.q l.dp l.dq l.qi s.en)\/(E9=190/\¬ KeyGood l.n l.d l.p l.q l.dp l.dq l.qi s.en):=by
  by_cases h:KeyGood l.n l.d l.p l.q l.dp l.dq l.qi s.en
  ·exact ⟨0,.inl ⟨rfl,h⟩⟩
  ·exact ⟨190,.inr ⟨rfl,h⟩⟩
 have JK:=aa fun W (k:Kept af W0 W) (hl:s.light)=>Dv s.no s.dO s.po s.qo s.dpo s.dqo s.qio s.nl s.nc s.dl s.dc s.pl s.pc s.ql s.qc s.dpl s.dpc s.dql s.dqc s.qil s.qic s.en l.n l.d l.p l.q l.dp l.dq l.qi he E9 V W (hr.g (k0.trans k)).n (hr.g (k0.trans k)).d (hr.g (k0.trans k)).p (hr.g (k0.trans k)).q (hr.g (k0.trans k)).dp (hr.g (k0.trans k)).dq (hr.g (k0.trans k)).qi hd.p hd.q (by have:=hl.2.2.1;omega) (by have:=hl.2.2.2.1;omega)
 have aw:=aa fun W (k:Kept af W0 W) (hl:s.light)=>vV s.po po s.pl s.pc pn pc l.p pA pL pC px W (hr.g (k0.trans k)).p hd.p (by have:=hl.2.2.1;omega) (aH.g (k0.trans k)) (fun i hi=>(ab i hi).1.g (k0.trans k)) (fun i hi=>(ab i hi).2) Z.1 Z.2
 have ax:=aa fun W (k:Kept af W0 W) (hl:s.light)=>vV s.qo qo s.ql s.qc qn qc l.q qA qL qC qx W (hr.g (k0.trans k)).q hd.q (by have:=hl.2.2.2.1;omega) (aJ.g (k0.trans k)) (fun i hi=>(ad i hi).1.g (k0.trans k)) (fun i hi=>(ad i hi).2) ac.1 ac.2
 have U:=aa fun W (k:Kept af W0 W) (hl:s.light) (hc:cl<=10000)=>hP s l co cl cc cs W he (hr.g (k0.trans k)) hd hl (hu.g (k0.trans k)) dc hc
 have aN:=aa V;have JL:=aa fun p B W (k:Kept af W0 W) (hl:s.light) (hc:cl<=10000) hs hB (hb:un<=500)=>hA s l co cl cc cs p B bs 0 none 0 0 [] W he (hr.g (k0.trans k)) hd hl (hu.g (k0.trans k)) dc hc hs hB db (by rw [ai.o];omega) (Row.nil _ _) (Digs.nil _) (by omega) (by unfold rJ;omega)
 have aV:=aa fun W (k:Kept af W0 W) bo M dap ms hv hdm (hlm:M<=1000000) (hl:s.light)=>Dw s.no s.nl s.nc l.n s.en he bo M dap ms W ((hr.g (k0.trans k)).n) hd.n (by have:=hl.1;omega) hv hdm hlm
 have HV:=aa fun W (k:Kept af W0 W)=>hv.g (k0.trans k)
 have HU:=aa fun W (k:Kept af W0 W)=>hu.g (k0.trans k)
 have aU:=aa ai.o;have N:=aa aD.o;have I:=aa L;have o:=aa k0;clear hr hu hv hd dc db he aD ai L k0 al ay aC hA hP hB aH ab aJ ad Z ac V;by_cases hfew:s.few/\s.nl<=9/\cl<=200/\un<=500/\(0:Nat)<=20
 ·have A:=aa hfew.1.light;have C:HzD (cl<=200/\un<=500):=⟨hfew.2.2.1,hfew.2.2.2.1⟩
  have J1:=fun W=>JF.o W true (iff_of_true rfl hfew)
  clear hfew JF;unfold KS.v at I J1 JL JK U ⊢;delta ClZ;go_in;go_wp2_with (rw [<- I.o]);refine JA.mono ?_;rintro r w1 ⟨rfl,k1⟩;obtain ⟨c0,c1,c2,c3,c4,c5,c6,c7⟩:=JC.o w1 k1;have P:=aa k1;clear JA k1;go_wp2_with fail;refine (J1 w1).mono ?_;rintro r aL ⟨rfl,k2⟩;have j:=aa (P.o.trans k2);obtain ⟨a0,a1,a2,a3,a4,a5,a6,a7⟩:=JC.o aL j.o;have J9:=JK.o aL j.o A.o;clear J1 k2 c0 c1 c2 c3 c4 c5 c6 c7;rcases aN.o with ⟨rfl,hgood⟩ | ⟨rfl,hno⟩
  case inr=>
   go_wp2_with fail;refine J9.mono ?_;rintro r am ⟨rfl,k3⟩;have a:=aa (j.o.trans k3);clear J9 k3 a0 a1 a2 a3 a4 a5 a6 a7 hno;go_wp2_with fail;go_ret;exact ⟨rfl,gW (o.o.trans a.o) (leR _)⟩
  go_wp2_with fail;refine J9.mono ?_;rintro r am ⟨rfl,k3⟩;have t:=aa (j.o.trans k3);obtain ⟨b0,b1,b2,b3,b4,b5,b6,b7⟩:=JC.o am t.o;have au:=aw.o am t.o A.o;have aO:=aa hgood;clear J9 k3 a0 a1 a2 a3 a4 a5 a6 a7 hgood;go_wp2_with fail;refine au.mono ?_;rintro r aM ⟨R1,rfl,X,k4⟩;have a:=aa (t.o.trans k4);obtain ⟨a0,a1,a2,a3,a4,a5,a6,a7⟩:=JC.o aM a.o;clear au k4 b0 b1 b2 b3 b4 b5 b6 b7;cases R1
  case false=>
   clear X;go_wp2_with fail;go_ret;exact ⟨rfl,gW (o.o.trans a.o) (leR _)⟩
  have ap:=aa (X rfl);have av:=ax.o aM a.o A.o;have Q:=a;clear X a;go_wp2_with fail;refine av.mono ?_;rintro r w2 ⟨R2,rfl,Y,k5⟩;have a:=aa (Q.o.trans k5);clear av k5 a0 a1 a2 a3 a4 a5 a6 a7;cases R2
  case false=>
   clear Y;go_wp2_with fail;go_ret;exact ⟨rfl,gW (o.o.trans a.o) (leR _)⟩
  have aq:=aa (Y rfl);have x:=a;clear Y a;have J:Kept af w2 w2.drew:=(ah af w2).drew;obtain ⟨d0,d1,d2,d3,d4,d5,d6,d7⟩:=JC.o w2 x.o;have J2:=IG _ _ w2.drew (HV.o _ (x.o.trans J)) (by have:=aU.o;have:=C.o;omega);have T:HzD (W0.heap.size<=w2.drew.heap.size):=(x.o.trans J).size;have aA:=JL.o;have HQ:HzD (∀ w3 g,Kept af W0 w3->W0.heap.size<=g->∀ w4,Kept (ofP (some ⟨g,0,none⟩)) w3 w4->Kept af W0 w4):=fun w3 g k hg w4 k4=>k.next k4 (fun y hy f=>by have h1:=qX f;omega)
  go_wp2_with fail;go_region_held3 (fun w'=>(w'.cell? ⟨w.heap.size,0,none⟩=some (.slice s.no s.nl s.nc)/\w'.cell? ⟨w.heap.size,1,none⟩=some (.int .u64 ((s.en:Nat):Int))/\w'.cell? ⟨w.heap.size,2,none⟩=some (.slice s.dO s.dl s.dc)/\w'.cell? ⟨w.heap.size,3,none⟩=some (.slice s.po s.pl s.pc)/\w'.cell? ⟨w.heap.size,4,none⟩=some (.slice s.qo s.ql s.qc)/\w'.cell? ⟨w.heap.size,5,none⟩=some (.slice s.dpo s.dpl s.dpc)/\w'.cell? ⟨w.heap.size,6,none⟩=some (.slice s.dqo s.dql s.dqc)/\w'.cell? ⟨w.heap.size,7,none⟩=some (.slice s.qio s.qil s.qic)))
   (((try dsimp only);(repeat' apply And.intro) <;> first | (go_keep;done) | assumption))
   (first
   | (go_at_call 9;refine (aA (some ⟨g,0,none⟩) w3.heap.size w3 K3 A.o (by have:=C.o;omega) aK (leR _) C.o.2).mono ?_;rintro r w4 ⟨v4,E,rfl,RL,rest,aG,⟨b,G⟩,k4⟩;have K4:=HQ.o w3 g K3 an w4 k4;obtain ⟨vo,vn,vc,rfl,aF,_,_,_,_⟩:=b.open;obtain ⟨p0,p1,p2,p3,p4,p5,p6,p7⟩:=JC.o w4 K4)
   | (go_at_call 10;refine J2.mono ?_;rintro r w3 ⟨g,rfl,hg,aK,k3⟩;have K3:=(x.o.trans J).trans k3;have an:W0.heap.size<=g:=aI T.o hg;obtain ⟨e0,e1,e2,e3,e4,e5,e6,e7⟩:=JC.o w3 K3))
  have aT:=aa b;have c:=aa aG;have aP:=aa K4;have ao:=aa aF.o;have J5:=U.o w4 K4 A.o (by have:=C.o;omega);clear J2 aA JL aK k3 b G k4 aG K3 K4 an e0 e1 e2 e3 e4 e5 e6 e7 d0 d1 d2 d3 d4 d5 d6 d7 J HQ hg aF;go_wp2_with fail;refine J5.mono ?_;rintro r w5 ⟨v5,E5,rfl,RP,H,⟨ae,_⟩,k5⟩;obtain ⟨o5,n5,c5,rfl,aE,_,_,_,_⟩:=ae.open;have z:=aa (aP.o.trans k5);have S:=aa (aT.o.g k5);have ar:=aa ae;have aR:=aa aE.o;have aS:=aa H;obtain ⟨f0,f1,f2,f3,f4,f5,f6,f7⟩:=JC.o w5 z.o;clear J5 ae k5 aE H p0 p1 p2 p3 p4 p5 p6 p7;rcases Dn c.o aO.o with hE | hE | hE | hE
  ·subst hE;obtain ⟨aW,aX⟩:=Dj c.o ap.o aq.o aS.o;subst aW;subst aX;obtain ⟨az,aB⟩:=Fu c.o O.o;have F:n5<=1000000:=by
    obtain ⟨_,_,m,_,_,h5⟩:=yM c.o;have h1:=aR.o;rw [h5,dt] at h1;have h2:=C.o;have h3:=N.o;omega
   have J6:=aV.o w5 z.o o5 n5 c5 RP ar.o c.o.digs F A.o;rw [az,aB] at J6;clear az aB F;go_wp2_with fail;refine J6.mono ?_;rintro r w6 ⟨v6,rfl,ag,_,k6⟩;obtain ⟨o6,n6,c6,rfl,_⟩:=ag.open;have JM:=Ae _ _ RP RP w6 (S.o.g k6) (ar.o.g k6) c.o.digs c.o.digs;have JN:=Ae _ _ cs cs w6 ag ((HU.o w5 z.o).g k6) O.o O.o;rw [dV rfl] at JM JN;have aQ:=aa (z.o.trans k6);clear J6 ag k6 f0 f1 f2 f3 f4 f5 f6 f7;go_wp2_with fail;refine JM.mono ?_;rintro r w7 ⟨rfl,rfl⟩;clear JM;go_wp2_with fail;refine JN.mono ?_;rintro r w8 ⟨rfl,rfl⟩;clear JN;go_wp2_with fail;go_ret
   exact ⟨by first | rfl | simp,gW (o.o.trans aQ.o) (leR _)⟩
  ·subst hE;have D:=vR c.o (by decide) (by decide);have ak:vn=0:=by
    have h1:=ao.o;rw [D] at h1;exact h1.symm
   subst ak;clear D;go_wp2_with fail;go_ret;exact ⟨by first | rfl | simp,gW (o.o.trans z.o) (leR _)⟩
  ·subst hE;have D:=vR c.o (by decide) (by decide);have ak:vn=0:=by
    have h1:=ao.o;rw [D] at h1;exact h1.symm
   subst ak;clear D;go_wp2_with fail;go_ret;exact ⟨by first | rfl | simp,gW (o.o.trans z.o) (leR _)⟩
  ·subst hE;exact absurd c.o (vO (by decide) ap.o aq.o)
 ·have J1:=fun W=>JF.o W false (iff_of_false (by decide) hfew)
  clear hfew JF JL JK aw ax U;unfold KS.v at I J1 ⊢;delta ClZ;go_in;go_wp2_with (rw [<- I.o]);refine JA.mono ?_;rintro r w1 ⟨rfl,k1⟩;obtain ⟨c0,c1,c2,c3,c4,c5,c6,c7⟩:=JC.o w1 k1;have P:=aa k1;clear JA k1;go_wp2_with fail;refine (J1 w1).mono ?_;rintro r w2 ⟨rfl,k2⟩;have x:=aa (o.o.trans (P.o.trans k2));clear J1 k2 c0 c1 c2 c3 c4 c5 c6 c7;go_wp2_with fail;go_ret;exact ⟨rfl,gW x.o (leR _)⟩

theorem walkPrivateBack (s:KS) (l:KL) (pv:Value) (pn:Nat) (pA:Nat->OA) (pL pC:Nat->Nat) (px:Nat->LN) (qv:Value) (qn:Nat) (qA:Nat->OA) (qL qC:Nat->Nat) (qx:Nat->LN) (u:Value) (cs:LN) (v:Value) (bs:LN) (w:World) (hr:s.Rows w l) (hp:NatsIn w pv pn pA pL pC px) (hq:NatsIn w qv qn qA qL qC qx) (hu:Row .u8 w u cs) (hv:Row .u8 w v bs) (hd:l.Digs) (dc:Digs cs 256) (db:Digs bs 256) (he:s.en<18446744073709551616) (a:pn<=2000000/\∀ i,i<pn->pL i<=2000000) (b:qn<=2000000/\∀ i,i<qn->qL i<=2000000) (_:NoTab w) :
  ClZ 3 #[.agg s.v,pv,qv,u,v] w fun e w'=>e=.returned (.bool true)/\Below w.heap.size w w':=
 tU zY.plain.no Ab.no zY.plain Ab zZ s l pv pn pA pL pC px qv qn qA qL qC qx u cs v bs w hr hp hq hu hv hd dc db he a b

end Go.Proofs.YtpkmoamgpjcdeaaGreatDoor
