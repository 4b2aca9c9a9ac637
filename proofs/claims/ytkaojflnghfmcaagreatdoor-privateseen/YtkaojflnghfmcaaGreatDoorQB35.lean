/- Put together of: Prw9 Prw10. -/
import Derived.Test.YtkaojflnghfmcaaGreatDoorQB34

namespace Go.Proofs.YtkaojflnghfmcaaGreatDoor
set_option maxRecDepth 100000
set_option maxHeartbeats 4000000
open Go.RowKit

def DidS (S:Nat→Prop) (w:World) (o:Tr) (m:List Ev) (w':World) (o':Tr):Prop:=
 Kept (fun x=>S x∨aN o x) w w'∧((o=none∧o'=none)∨∃ p g l g',o=some (p,g,l)∧o'=some (p,g',l ++ m)∧IsTr w' p g' (l ++ m)∧(g'=g∨∃ x,g'=some x∧w.heap.size≤x))

theorem DidS.of {S:Nat→Prop} {w w1 w':World} {o o':Tr} {m:List Ev} (k:Kept S w w1) (d:Did w1 o m w' o'):DidS S w o m w' o':=by
 refine ⟨(k.mono (fun x _ h=>.inl h)).trans (d.1.mono (fun x _ h=>.inr h)),?_⟩;rcases d.2 with h1 | ⟨p,g,l,g',e1,e2,ht,hg⟩
 ·exact .inl h1
 ·refine .inr ⟨p,g,l,g',e1,e2,ht,?_⟩;rcases hg with hg | ⟨x,e,hx⟩
  ·exact .inl hg
  ·exact .inr ⟨x,e,Nat.le_trans k.size hx⟩

theorem DidS.grew {S:Nat→Prop} {w w' w2:World} {o o':Tr} {m:List Ev} (h:DidS S w o m w' o') (k:Kept ae w' w2):DidS S w o m w2 o':=by
 refine ⟨h.1.trans k.any,?_⟩;rcases h.2 with h1 | ⟨p,g,l,g',e1,e2,ht,hg⟩
 ·exact .inl h1
 ·exact .inr ⟨p,g,l,g',e1,e2,ht.grew k,hg⟩

theorem DidS.put {S:Nat→Prop} {w w' w2:World} {o o':Tr} {m:List Ev} {b:Nat} (h:DidS S w o m w' o') (k:Kept (fun x=>x=b) w' w2) (hb:b<w.heap.size→S b) (hf:¬ aN o' b):DidS S w o m w2 o':=by
 refine ⟨h.1.next k (fun x hx e=>.inl (by have e':x=b:=e;subst e';exact hb hx)),?_⟩;rcases h.2 with h1 | ⟨p,g,l,g',e1,e2,ht,hg⟩
 ·exact .inl h1
 ·subst e2;exact .inr ⟨p,g,l,g',e1,rfl,ht.kept k (fun e=>hf (.inl e.symm)) (fun x hx e=>hf (.inr (by rw [← e];exact hx))),hg⟩

theorem DidS.after {S T:Nat→Prop} {a w w':World} {o o':Tr} {m:List Ev} (k:Kept ae a w) (h:DidS T w o m w' o') (hT:∀ x,x<a.heap.size→T x→S x):DidS S a o m w' o':=by
 refine ⟨(k.any:Kept (fun x=>S x∨aN o x) a w).next h.1 (fun x hx e=>e.imp (hT x hx) id),?_⟩;rcases h.2 with h1 | ⟨p,g,l,g',e1,e2,ht,hg⟩
 ·exact .inl h1
 ·refine .inr ⟨p,g,l,g',e1,e2,ht,?_⟩;rcases hg with hg | ⟨x,e,hx⟩
  ·exact .inl hg
  ·exact .inr ⟨x,e,Nat.le_trans k.size hx⟩

theorem DidS.trIn {S:Nat→Prop} {w w':World} {o o':Tr} {m:List Ev} {k:Nat} (h:DidS S w o m w' o') (hr:TrRoom w o k) (hm:m.length≤k):TrIn w' o':=by
 rcases h.2 with ⟨_,rfl⟩ | ⟨p,g,l,g',rfl,rfl,ht,_⟩
 ·trivial
 ·have h2:=hr.2;simp only [cX] at h2;exact ⟨ht,by rw [List.length_append];omega⟩

theorem DidS.split {p:Option Addr} {w w':World} {o o':Tr} {m:List Ev} (h:DidS (ofP p) w o m w' o') (hp:∀ x,ofP p x→x<w.heap.size):∃ w1 o2,Kept (ofP p) w w1∧Did w1 o m w' o2:=by
 cases p with
 | none=>exact ⟨w,o',ag _ _,h.1.mono (fun x _ e=>e.elim (fun f=>by simp [ofP] at f) id),h.2⟩
 | some a=>
  have hb:a.block<w.heap.size:=hp _ (by simp [ofP]);have b:a.block<w'.heap.size:=Nat.lt_of_lt_of_le hb h.1.size;refine ⟨{ w with heap:=w.heap.setIfInBounds a.block (w'.heap[a.block]'b) },o',⟨rfl,rfl,rfl,?_,?_⟩,⟨h.1.os,h.1.tape,h.1.output,?_,?_⟩,?_⟩
  ·simp
  ·intro k hk hn;have c:a.block≠k:=fun e=>hn (by subst e;simp [ofP])
   simp [Array.getElem?_setIfInBounds_ne c]
  ·simpa using h.1.size
  ·intro k hk hn;by_cases e:a.block=k
   ·subst e;simp [hb,b]
   ·rw [h.1.block k (by simpa using hk) (fun f=>f.elim (fun f=>e (by simpa [ofP] using f)) hn)];simp [Array.getElem?_setIfInBounds_ne e]
  ·simpa using h.2

theorem TrIn.script {w w':World} {o:Tr} {p:Option Addr} {B:Nat} {bs:List Nat} (ht:TrIn w o) (h:Lsc w p B bs) (k:Kept (ofP p) w w'):TrIn w' o:=by
 have ha:=jo h o ht;cases o with
 | none=>trivial
 | some x=>
  obtain ⟨a,g,l⟩:=x;exact ⟨ht.1.kept k (ha a (.inl rfl)) (fun y hy=>ha y (.inr hy)),ht.2⟩

theorem RowT.script {w w':World} {o:Tr} {v:Value} {xs:List Nat} {p:Option Addr} {B:Nat} {bs:List Nat} (hv:RowT w o v xs) (h:Lsc w p B bs) (k:Kept (ofP p) w w'):RowT w' o v xs:=⟨gD h hv.1 k,hv.2⟩

theorem KRows.script {w w':World} {o:Tr} {s:KS} {l:KL} {fo:Option Addr} {fl fc:Nat} {fs:List Nat} {p:Option Addr} {B:Nat} {bs:List Nat} (r:KRows w o s l fo fl fc fs) (h:Lsc w p B bs) (k:Kept (ofP p) w w'):KRows w' o s l fo fl fc fs:=⟨r.n.script h k,r.d.script h k,r.p.script h k,r.q.script h k,r.dp.script h k,r.dq.script h k,r.qi.script h k,r.f.script h k⟩

theorem oW (n:Nat):bes 0 n n=List.replicate n 0:=by
 refine List.ext_getElem? fun j=>?_
 by_cases h:j<n
 ·rw [jX _ _ _ _ h,List.getElem?_replicate,if_pos h];simp [dig]
 ·rw [List.getElem?_eq_none (by rw [cZ];omega),List.getElem?_eq_none (by simp;omega)]

theorem At {l k f i b c a:List Nat} {e:Nat} (h:KeyGood l k f i b c a e):val a<val f:=by
 obtain ⟨-,d,u,-,-,j,-,-,-,-,-,-,-,g⟩:=h;generalize val f=P at *;generalize val i=Q at *;rw [g,au,ar (Nat.lt_of_lt_of_le j (Nat.le_of_lt ((aA P _).1 (Nat.le_max_left _ _))))];exact j

theorem rV {l:KL} {e:Nat} {at_:Int} {fs cs bs r1 rest:List Nat} {k T M n:Nat} (hg:KeyGood l.n l.d l.p l.q l.dp l.dq l.qi e) (a:pG (val l.n) cs=0) (hb:jf l.n bs=(r1,k,0,rest)) (hn:l.n.length=n) (hT:T<(val l.n)∧val r1*T%(val l.n)=1)
  (hM:M=pf at_ fs (bev cs*(val r1^e%(val l.n))%(val l.n)) T (val l.n) (val l.p) (val l.q) (val l.dp) (val l.dq) (val l.qi) n (ah (val l.p)) (ah (val l.q))) :
  (M^e%(val l.n)=bev cs→jV l.n l.d l.p l.q l.dp l.dq l.qi e at_ fs cs bs 0 (bes M cs.length cs.length) rest)∧(M^e%(val l.n)≠bev cs→jV l.n l.d l.p l.q l.dp l.dq l.qi e at_ fs cs bs 220 (List.replicate cs.length 0) rest):=by
 have hf:=hg.facts;have h1:=hf.2.1.1;have h2:=hf.2.2.1.1;rw [sP (by omega) (by omega) hf.1.symm,← hn] at hM;exact ⟨fun h=>.inr (.inr ⟨hg,a,r1,k,0,hb,.inr ⟨rfl,T,hT.1,hT.2,M,hM,.inr ⟨h,rfl,rfl⟩⟩⟩),fun h=>.inr (.inr ⟨hg,a,r1,k,0,hb,.inr ⟨rfl,T,hT.1,hT.2,M,hM,.inl ⟨h,rfl,rfl⟩⟩⟩)⟩

def iF (n nP nQ _e:Nat):List Ev:=jZ n nP nQ (max nP nQ) (max nP nQ)

theorem rj {n nP nQ e:Nat} (hn:n≤130) (hP:nP≤130) (hQ:nQ≤130):(iF n nP nQ e).length≤1000000000:=by
 have a1:=fL hn;have a2:=lP (n:=n) (nP:=nP) (nQ:=nQ) (LP:=max nP nQ) (LQ:=max nP nQ) hP hQ (by omega) (by omega);have a3:=eE n;have a4:=jr hn;unfold iF jZ;simp only [List.length_append,List.length_cons,List.length_nil];omega

def ApEnd (bO:Nat) (o:Tr) (l:KL) (e:Nat) (at_:Int) (fs cs bs:List Nat) (p:Option Addr) (w:World) (r:Ending) (w':World):Prop:=∃ E RL rest m o',jV l.n l.d l.p l.q l.dp l.dq l.qi e at_ fs cs bs E RL rest∧((E=0∨E=220)→m=iF (ah (val l.n)) (ah (val l.p)) (ah (val l.q)) e)∧m.length≤1000000000∧(∃ v,Box w' bO v 27∧Row .u8 w' v RL∧Fresh w v)∧DidS (fun x=>ofP p x∨x=bO) w o m w' o'∧((E=0∧r=.returned (.tuple #[]))∨(E≠0∧r=.panicked [refusal (E:Nat)]))

theorem ApEnd.no {bO:Nat} {o:Tr} {l:KL} {e:Nat} {at_:Int} {fs cs bs rest:List Nat} {p:Option Addr} {w w':World} {E:Nat} (h:jV l.n l.d l.p l.q l.dp l.dq l.qi e at_ fs cs bs E [] rest) (h0:E≠0) (h2:E≠220) (hO:Box w' bO (.slice none 0 0) 27) (d:DidS (fun x=>ofP p x∨x=bO) w o [] w' o):ApEnd bO o l e at_ fs cs bs p w (.panicked [refusal (E:Nat)]) w':=
 ⟨E,[],rest,[],o,h,fun h=>by omega,by simp,⟨_,hO,Row.nil _ _,fun b hb=>by simp [Value.ownBlock] at hb⟩,d,.inr ⟨h0,rfl⟩⟩

theorem AO (bK bC bS bT bF bO:Nat) (o:Tr) (s:KS) (l:KL) (co:Option Addr) (cl cc:Nat) (cs:List Nat) (p:Option Addr) (B:Nat) (bs:List Nat) (at_:Int) (fo:Option Addr) (fl fc:Nat) (fs:List Nat) (w:World) (ht:TrRoom w o 1000000000) (he:s.en<18446744073709551616) (hR:KRows w o s l fo fl fc fs) (hd:l.Digs) (hl:s.light) (hc:Row .u8 w (.slice co cl cc) cs) (F:Digs cs 256) (h:Lsc w p B bs) (hB:B≤w.heap.size) (O:Digs bs 256) (P:bs.length≤10000) (gf:Digs fs) (N:AtOk at_)
  (xK:w.heap[bK]? = some (.cells #[.slice s.no s.nl s.nc,.int .u64 (s.en:Nat),.slice s.dO s.dl s.dc,.slice s.po s.pl s.pc,.slice s.qo s.ql s.qc,.slice s.dpo s.dpl s.dpc,.slice s.dqo s.dql s.dqc,.slice s.qio s.qil s.qic] 26 (0,0))) (xC:Box w bC (.slice co cl cc) 27) (xS:Box w bS (.pointer p) 39) (xT:Box w bT (aC o) 53) (xF:w.heap[bF]? = some (.cells #[.int .i64 at_,.slice fo fl fc] 31 (0,0))) (xO:Box w bO (.slice none 0 0) 27) (Q:∀ x,ofP p x→x≠bK∧x≠bC∧x≠bT∧x≠bF∧x≠bO) :
  Calls Tryz.prog 49 #[.pointer (some ⟨bK,0,none⟩),.pointer (some ⟨bC,0,none⟩),.pointer (some ⟨bS,0,none⟩),.pointer (some ⟨bT,0,none⟩),.pointer (some ⟨bF,0,none⟩),.pointer (some ⟨bO,0,none⟩)] w fun r w'=>ApEnd bO o l s.en at_ fs cs bs p w r w':=by
 obtain ⟨_,_,_,e1,z,-,-,-,-⟩:=hc.open;cases e1
 have hr:s.Rows w l:=⟨hR.n.1,hR.d.1,hR.p.1,hR.q.1,hR.dp.1,hR.dq.1,hR.qi.1⟩
 obtain ⟨q0,q1,q2,q3,q4,q5,q6,q7⟩:=aJ xK;have c0:=xC.cell;have dd:∀ {w1:World},Kept ae w w1→DidS (fun x=>ofP p x∨x=bO) w o [] w1 o:=fun k=>DidS.of (ag _ _) (Did.of_kept k ht.1)
 by_cases hg:KeyGood l.n l.d l.p l.q l.dp l.dq l.qi s.en
 case neg=>
  have J1:=pP s l co cl cc cs w hr hd hl hc hg;have HP:Hid (jV l.n l.d l.p l.q l.dp l.dq l.qi s.en at_ fs cs bs 190 [] bs):=.inl ⟨hg,rfl,rfl,rfl⟩;have a:=aa fun w1 (k:Kept ae w w1)=>ApEnd.no (w:=w) (p:=p) HP.out (by decide) (by decide) (xO.grew k) (dd k)
  clear ht he hR hd hl hc F h hB O P gf N xK xC xS xT xF xO Q hr hg z dd;go_enter Tryz.func49,Tryz.ntmps49;go_wp2_with fail;refine J1.mono ?_;rintro e w1 ⟨rfl,k1⟩;exact ⟨rfl,a.out w1 k1⟩
 by_cases hlen:cs.length=fB (val l.n)
 case neg=>
  have J1:=AL s l co cl cc cs w hr hd hl hc hg hlen;have HP:Hid (jV l.n l.d l.p l.q l.dp l.dq l.qi s.en at_ fs cs bs 1 [] bs):=.inr (.inl ⟨hg,by unfold pG;rw [if_neg (fun h=>hlen h.1)],rfl,rfl,rfl⟩);have a:=aa fun w1 (k:Kept ae w w1)=>ApEnd.no (w:=w) (p:=p) HP.out (by decide) (by decide) (xO.grew k) (dd k)
  clear ht he hR hd hl hc F h hB O P gf N xK xC xS xT xF xO Q hr hg z dd hlen;go_enter Tryz.func49,Tryz.ntmps49;go_wp2_with fail;refine J1.mono ?_;rintro e w1 ⟨rfl,k1⟩;exact ⟨rfl,a.out w1 k1⟩
 by_cases hlt:bev cs<(val l.n)
 case neg=>
  have J1:=AM s l co cl cc cs w hr hd hl hc F hg hlen hlt;have HP:Hid (jV l.n l.d l.p l.q l.dp l.dq l.qi s.en at_ fs cs bs 1 [] bs):=.inr (.inl ⟨hg,by unfold pG;rw [if_neg (fun h=>hlt h.2)],rfl,rfl,rfl⟩);have a:=aa fun w1 (k:Kept ae w w1)=>ApEnd.no (w:=w) (p:=p) HP.out (by decide) (by decide) (xO.grew k) (dd k)
  clear ht he hR hd hl hc F h hB O P gf N xK xC xS xT xF xO Q hr hg z dd hlen hlt;go_enter Tryz.func49,Tryz.ntmps49;go_wp2_with fail;refine J1.mono ?_;rintro e w1 ⟨rfl,k1⟩;exact ⟨rfl,a.out w1 k1⟩
 have J1:=AN s l co cl cc cs w hr hd hl hc F hg hlen hlt;have m:pG (val l.n) cs=0:=by unfold pG;rw [if_pos ⟨hlen,hlt⟩]
 obtain ⟨_,_,_,e1,L,-,-,-,-⟩:=hr.n.open;cases e1
 obtain ⟨_,_,_,e1,am,-,-,-,-⟩:=hr.p.open;cases e1
 obtain ⟨_,_,_,e1,an,-,-,-,-⟩:=hr.q.open;cases e1
 obtain ⟨_,_,_,e1,A,-,-,-,-⟩:=hr.dp.open;cases e1
 obtain ⟨_,_,_,e1,C,-,-,-,-⟩:=hr.dq.open;cases e1
 obtain ⟨V,ai,ap,aq,G,H,ao,ad,af⟩:=mE hg L.out hl.1;have ar:=(be ad).1;have au:=(be af).1;have hf:=hg.facts;have e1:s.pl=max (ah (val l.p)) (ah (val l.q)):=by rw [← am.out];exact ap
 have e2:s.ql=max (ah (val l.p)) (ah (val l.q)):=by rw [← an.out];exact aq
 have e3:s.dpl=max (ah (val l.p)) (ah (val l.q)):=by rw [← A.out];exact G
 have e4:s.dql=max (ah (val l.p)) (ah (val l.q)):=by rw [← C.out];exact H
 have ak:Hid ((val l.n)<18446744073709551616^s.nl):=by unfold Hid;rw [← L.out];exact aD (by omega) hd.n
 have aR:cl≤8*s.nl:=by
  have h9:aF (val l.n)≤64*s.nl:=(aI _ _).2 (by rw [Nat.pow_mul];exact ak.out);have h8:=z.out;rw [hlen] at h8;unfold fB at h8;omega
 obtain ⟨⟨r1,k1,i,rest⟩,D⟩:∃ r,jf l.n bs=r:=⟨_,rfl⟩
 have JB:=aa fun W (k:Kept ae w W)=>qL p B bs l.n s.no s.nl s.nc r1 k1 i rest W D (h.grew k) (Nat.le_trans hB k.size) O P (hr.n.grew k) hd.n (by omega)
 have ac:=aa xK;have bi:=aa xC;have aL:=aa xS;have bk:=aa xT;have aK:=aa xF;have al:=aa xO;have aE:=aa h;have J:=aa Q;have ab:=aa ht;have bc:=aa hR;have bE:=aa hB;by_cases hE0:i=0
 case neg=>
  have HP:Hid (jV l.n l.d l.p l.q l.dp l.dq l.qi s.en at_ fs cs bs i [] rest):=.inr (.inr ⟨hg,m,r1,k1,i,D,.inl ⟨hE0,rfl,rfl⟩⟩);have aO:i≠220:=by rcases vS D with h | h | h <;> omega
  have hY:=dt (i:Int);have g0:¬ ((i:Nat):Int)=0:=by omega
  have gb:(((i:Nat):Int) != 0)=true:=by simp;omega
  have ay:Hid (i≠0∧i≠220):=⟨hE0,aO⟩
  clear ht he hR hd hl hc F h hB O P gf N xK xC xS xT xF xO Q hr hg z dd hlen hlt m L am an A C V ai ap aq G H ao ad af ar au hf e1 e2 e3 e4 aR D hE0 aO;go_enter Tryz.func49,Tryz.ntmps49;go_wp2_with fail;refine J1.mono ?_;rintro e w1 ⟨vo,vc,rfl,-,-,g⟩;have I:=aa g;obtain ⟨p0,-⟩:=aJ (aj ac.out g);have s0:=(aL.out.grew g).cell;have J2:=JB.out w1 g;clear J1 g q0 q1 q2 q3 q4 q5 q6 q7 c0 JB;go_wp2_with fail;refine J2.mono ?_;rintro e w2 ⟨u,rfl,⟨hu,-⟩,Y,k2⟩;obtain ⟨uo,un,uc,rfl,-⟩:=hu.open;have bg:=aa Y;have ba:=aa k2;clear J2 hu Y k2 p0 s0;go_wp2_with fail;try rw [gb]
  refine (hY _).mono ?_;rintro e w3 ⟨rfl,rfl⟩;have kk:Kept (ofP p) w w3:=I.out.any.trans ba.out;exact ⟨rfl,ApEnd.no HP.out ay.out.1 ay.out.2 (al.out.kept kk (fun f=>(J.out _ f).2.2.2.2 rfl)) (DidS.of (kk.mono (fun x _ f=>.inl f)) (Did.of_kept (ag ae w3) (ab.out.1.script aE.out kk)))⟩
 subst hE0;obtain ⟨aT,aU,aV,aY⟩:=rt D hd.n;have t:=aa fun T M (hT:T<(val l.n)∧val r1*T%(val l.n)=1) hM=>rV (at_:=at_) (fs:=fs) (M:=M) (n:=s.nl) hg m D L.out hT hM
 obtain ⟨X,hX⟩:∃ X,X=bev cs:=⟨_,rfl⟩
 rw [← hX] at J1 hlt t;have aM:=aa fun (vo uo:Option Addr) (vc uc Rn:Nat) W (t':TrRoom W o 500000000) (r':KRows W o s l fo fl fc fs) (x':NumT W o (.slice vo s.nl vc) s.nl X) (y':NumT W o (.slice uo s.nl uc) s.nl Rn) (hRn:Rn<(val l.n)) (hgc:Nat.gcd Rn (val l.n)=1)=>Ct o at_ N s l fo fl fc fs vo uo s.nl vc uc X Rn (val l.n) (val l.p) (val l.q) (ah (val l.p)) (ah (val l.q)) W t' r' gf hd he rfl ao ai rfl rfl rfl ad af rfl rfl (by omega) (by omega) (by omega) (by omega) (At hg) hf.1.symm x' hlt y' hRn hgc
 have a8:Hid (jZ s.nl (ah (val l.p)) (ah (val l.q)) s.dpl s.dql=iF (ah (val l.n)) (ah (val l.p)) (ah (val l.q)) s.en):=by unfold Hid iF;rw [e3,e4,← ai]
 have S:Hid ((iF (ah (val l.n)) (ah (val l.p)) (ah (val l.q)) s.en).length≤1000000000):=rj (by omega) ar au;have aA:=aa z.out;have HG:Hid (Digs r1∧r1.length=s.nl∧Nat.gcd (val r1) (val l.n)=1∧val r1<(val l.n)):=⟨aT,by rw [aU];exact L.out,aV,aY⟩
 have bj:Hid (X<18446744073709551616^s.nl):=Nat.lt_trans hlt ak.out;have bt:=bZ 0;have bx:=bZ 220;have bz:=dt 220;have bG:=aa hX;clear ht he hR hd hl hc F h hB O P gf N xK xC xS xT xF xO Q hr hg z dd hlen hlt m L am an A C ai ap aq G H ao ad af ar au hf e1 e2 e3 e4 D aT aU aV aY hX ak;go_enter Tryz.func49,Tryz.ntmps49;go_wp2_with fail;refine J1.mono ?_;rintro e w1 ⟨vo,vc,rfl,rv,fv,g⟩;have I:=aa g;obtain ⟨p0,-⟩:=aJ (aj ac.out g);have s0:=(aL.out.grew g).cell;have J2:=JB.out w1 g;have bd:=aa rv;have a9:=aa fv;clear J1 g q0 q1 q2 q3 q4 q5 q6 q7 c0 JB rv fv;go_wp2_with fail
 refine J2.mono ?_;rintro e w2 ⟨u,rfl,⟨hu,aS⟩,Y,k2⟩;have j:=aE.out.grew I.out;have t1:TrRoom w1 o 1000000000:=ab.out.grew I.out;have t2:TrIn w2 o:=t1.1.script j k2;have aP:RowT w2 o u r1:=eu aS t1.1 hu;have nR:=NumT.of aP HG.out.1 HG.out.2.1;obtain ⟨uo,uc,rfl⟩:=nR.shape;have nX:NumT w2 o (.slice vo s.nl vc) s.nl X:=⟨(eu a9.out ab.out.1 bd.out).script j k2,bj.out⟩
 have kk:Kept (ofP p) w w2:=I.out.any.trans k2;have R2:=(bc.out.grew I.out).script j k2;have yK:=(kk.block _ (lt_of_block ac.out) (fun f=>(J.out _ f).1 rfl)).trans ac.out;have yF:=(kk.block _ (lt_of_block aK.out) (fun f=>(J.out _ f).2.2.2.1 rfl)).trans aK.out;have yC:=bi.out.kept kk (fun f=>(J.out _ f).2.1 rfl);have yT:=bk.out.kept kk (fun f=>(J.out _ f).2.2.1 rfl);have yO:=al.out.kept kk (fun f=>(J.out _ f).2.2.2.2 rfl);have J3:=aM.out vo uo vc uc _ w2 (⟨t2,by have:=t1.2;omega⟩) R2 nX nR HG.out.2.2.2 HG.out.2.2.1;obtain ⟨a0,a1,a2,a3,a4,a5,a6,a7⟩:=aJ yK;have b0:=yT.cell;obtain ⟨d0,d1⟩:=eH yF;have bl:=aa yC;have bm:=aa yO;have aG:=aa t2
 have bg:=aa Y;have bb:=aa kk;clear J2 hu aS Y k2 j t1 t2 aP nR nX kk R2 yK yF yC yT yO p0 s0 aM;go_wp2_with fail;refine (bt _).mono ?_;rintro e bH ⟨rfl,bB⟩;obtain rfl:=bB.symm;go_wp2_with fail;refine J3.mono ?_;rintro e w3 ⟨zo,zc,Tn,b,M,o3,rfl,hT,hM,hb,nZ,dC⟩;have v:=t.out Tn M hT hM;have zC:=dC.cells bl.out aG.out (by decide) (by decide);have zO:=dC.cells bm.out aG.out (by decide) (by decide);have DS:DidS (fun x=>ofP p x∨x=bO) w o (jZ s.nl (ah (val l.p)) (ah (val l.q)) s.dpl s.dql) w3 o3:=DidS.of (bb.out.mono (fun x _ f=>.inl f)) dC;rw [a8.out] at DS;have c4:=Cs zo s.nl zc (aQ b M 0) cl w3 nZ.1.1 aR (by omega)
 have c3:=(show Box w3 bC (.slice co cl cc) 27 from zC).cell;have ax:=aa v;have aZ:=aa DS;have bn:=aa zO;have av:=aa hb;have bp:b=0∨b=1:=by rw [hb];unfold aX;split <;> omega
 have bh:Hid (w.heap.size≤w3.heap.size):=DS.1.size;clear J3 v zC zO DS nZ dC hT hM hb a0 a1 a2 a3 a4 a5 a6 a7 b0 d0 d1;go_wp2_with fail;refine c4.mono ?_;rintro e w4 ⟨yo,yn,yc,rfl,ry,fy,k4⟩;have wO:=(show Box w3 bO (.slice none 0 0) 27 from bn.out).grew k4;have o4:=wO.cell;have f4:=wO.free;have aH:=aa wO;have bf:=aa ry;have az:Hid (Fresh w (.slice yo yn yc)):=fun x hx=>Nat.le_trans bh.out (fy x hx)
 have R:=aa (aZ.out.grew k4);clear c4 ry fy k4 wO c3;have Z:Hid (∀ E RL,jV l.n l.d l.p l.q l.dp l.dq l.qi s.en at_ fs cs bs E RL rest→bes (aQ b M 0) cl cl=RL→∀ r,((E=0∧r=.returned (.tuple #[]))∨(E≠0∧r=.panicked [refusal (E:Nat)]))→ApEnd bO o l s.en at_ fs cs bs p w r (w4.setCell ⟨bO,0,none⟩ (.slice yo yn yc))):=fun E RL hp bv r bu=>by
  have kb:=aw w4 bO (.slice yo yn yc);have bo:bO<w.heap.size:=al.out.lt;have bq:∀ x,(Value.slice yo yn yc).ownBlock=some x→¬ x=bO:=fun x hx e=>by have h1:=az.out x hx;omega
  have bA:=R.out.trIn ab.out S.out;have br:¬ aN o3 bO:=aB aH.out bA (by decide) (by decide);refine ⟨E,RL,rest,_,o3,hp,fun _=>rfl,S.out,⟨_,aH.out.set _,?_,az.out⟩,R.out.put kb (fun _=>.inr rfl) br,bu⟩;rw [← bv];exact bf.out.kept kb bq
 rcases bp with rfl | rfl
 ·have U:M^s.en%(val l.n)≠X:=fun e=>by have h1:=av.out;rw [bw e] at h1;exact absurd h1 (by decide)
  have c:=Z.out 220 _ (ax.out.2 U) (by rw [← aA.out];exact oW _);have y:=aa c;clear c Z U;go_wp2_with fail;refine (bz _).mono ?_;rintro e w5 ⟨rfl,rfl⟩;exact ⟨rfl,y.out _ (by first | exact .inr ⟨by decide,rfl⟩ | simp)⟩
 ·have U:M^s.en%(val l.n)=X:=Classical.byContradiction fun e=>by have h1:=av.out;rw [aW e] at h1;exact absurd h1 (by decide)
  have c:=Z.out 0 _ (ax.out.1 U) (by rw [← aA.out];rfl);have y:=aa c;clear c Z U;go_wp2_with fail;refine (bx _).mono ?_;rintro e w5 ⟨rfl,bD⟩;obtain rfl:=bD.symm;go_wp2_with fail;go_end0
  exact y.out _ (by first | exact .inl ⟨rfl,rfl⟩ | simp)

theorem yl:zh:=by
 refine ⟨iF,fun a b c e=>by unfold iF jZ oq;simp,?_⟩;intro o s l co cl cc cs p B bs at_ fo fl fc fs w ht he g hd hl hc P ad h hB M O gf af L;have hR:KRows w o s l fo fl fc fs:=⟨g _ _ (by simp),g _ _ (by simp),g _ _ (by simp),g _ _ (by simp),g _ _ (by simp),g _ _ (by simp),g _ _ (by simp),g _ _ (by simp)⟩
 have an:=dM;have Q:∀ args w,(callFunc 49 args).run Tryz.prog w=.ok (.enter 49 args) w:=fun _ _=>by simp [go_sem]
 obtain ⟨po,S⟩:=aE o;obtain ⟨Wa,y⟩:∃ W,W=w.alloc (.cells #[.pointer po] 53):=⟨_,rfl⟩
 obtain ⟨Wb,z⟩:∃ W,W=Wa.alloc (.cells #[.slice s.no s.nl s.nc,.int .u64 (s.en:Nat),.slice s.dO s.dl s.dc,.slice s.po s.pl s.pc,.slice s.qo s.ql s.qc,.slice s.dpo s.dpl s.dpc,.slice s.dqo s.dql s.dqc,.slice s.qio s.qil s.qic] 26):=⟨_,rfl⟩
 obtain ⟨Wc,A⟩:∃ W,W=Wb.alloc (.cells #[.slice co cl cc] 27):=⟨_,rfl⟩
 obtain ⟨Wd,C⟩:∃ W,W=Wc.alloc (.cells #[.pointer p] 39):=⟨_,rfl⟩
 obtain ⟨We,D⟩:∃ W,W=Wd.alloc (.cells #[.int .i64 at_,.slice fo fl fc] 31):=⟨_,rfl⟩
 obtain ⟨W,hW⟩:∃ W,W=We.alloc (.cells #[.slice none 0 0] 27):=⟨_,rfl⟩
 have ka:Kept ae w Wa:=by rw [y];exact (ag ae w).alloc _
 have kb:Kept ae Wa Wb:=by rw [z];exact (ag ae Wa).alloc _
 have kc:Kept ae Wb Wc:=by rw [A];exact (ag ae Wb).alloc _
 have kd:Kept ae Wc Wd:=by rw [C];exact (ag ae Wc).alloc _
 have ke:Kept ae Wd We:=by rw [D];exact (ag ae Wd).alloc _
 have kf:Kept ae We W:=by rw [hW];exact (ag ae We).alloc _
 have za:Wa.heap.size=w.heap.size+1:=by rw [y];simp
 have zb:Wb.heap.size=w.heap.size+1+1:=by rw [z];simp [za]
 have zc:Wc.heap.size=w.heap.size+1+1+1:=by rw [A];simp [zb]
 have zd:Wd.heap.size=w.heap.size+1+1+1+1:=by rw [C];simp [zc]
 have ze:We.heap.size=w.heap.size+1+1+1+1+1:=by rw [D];simp [zd]
 have zf:W.heap.size=w.heap.size+1+1+1+1+1+1:=by rw [hW];simp [ze]
 have xa:Box Wa w.heap.size (.pointer po) 53:=by rw [y];exact Box.new w _ _
 have xb:Wb.heap[w.heap.size+1]? = some (.cells #[.slice s.no s.nl s.nc,.int .u64 (s.en:Nat),.slice s.dO s.dl s.dc,.slice s.po s.pl s.pc,.slice s.qo s.ql s.qc,.slice s.dpo s.dpl s.dpc,.slice s.dqo s.dql s.dqc,.slice s.qio s.qil s.qic] 26 (0,0)):=by rw [z,← za];exact heap_alloc_new _ _
 have xc:Box Wc (w.heap.size+1+1) (.slice co cl cc) 27:=by rw [A,← zb];exact Box.new Wb _ _
 have xd:Box Wd (w.heap.size+1+1+1) (.pointer p) 39:=by rw [C,← zc];exact Box.new Wc _ _
 have xf:We.heap[w.heap.size+1+1+1+1]? = some (.cells #[.int .i64 at_,.slice fo fl fc] 31 (0,0)):=by rw [D,← zd];exact heap_alloc_new _ _
 have xg:Box W (w.heap.size+1+1+1+1+1) (.slice none 0 0) 27:=by rw [hW,← ze];exact Box.new We _ _
 have kE:=(ag ae W).alloc (.cells #[.int .i64 0] 32);have xe:Box (W.alloc (.cells #[.int .i64 0] 32)) W.heap.size (.int .i64 0) 32:=Box.new W (.int .i64 0) 32;have k0:=((((ka.trans kb).trans kc).trans kd).trans ke).trans kf;have k1:=k0.trans kE;have i:∀ x,w.heap.size≤x→¬ ofP p x:=fun x hx f=>by have:=(h.inP f).2;omega
 have R:∀ x,w.heap.size≤x→¬ aN o x:=fun x hx f=>by have:=ht.1.foot x f;omega
 have t:=AO (w.heap.size+1) (w.heap.size+1+1) (w.heap.size+1+1+1) w.heap.size (w.heap.size+1+1+1+1) (w.heap.size+1+1+1+1+1) o s l co cl cc cs p B bs at_ fo fl fc fs _ (ht.grew k1) he (hR.grew k1) hd hl (hc.grew k1) P (h.grew k1) (Nat.le_trans hB k1.size) M O gf L (aj xb ((((kc.trans kd).trans ke).trans kf).trans kE)) (xc.grew (((kd.trans ke).trans kf).trans kE)) (xd.grew ((ke.trans kf).trans kE)) (by rw [S];exact xa.grew (((((kb.trans kc).trans kd).trans ke).trans kf).trans kE)) (aj xf (kf.trans kE)) (xg.grew kE) (fun x f=>⟨fun e=>i _ (by omega) f,fun e=>i _ (by omega) f,fun e=>i _ (by omega) f,fun e=>i _ (by omega) f,fun e=>i _ (by omega) f⟩)
 have I:=ia 49 _ W (fun c W'=>∃ E RL rest m o',c=(E:Nat)∧jV l.n l.d l.p l.q l.dp l.dq l.qi s.en at_ fs cs bs E RL rest∧((E=0∨E=220)→m=iF (ah (val l.n)) (ah (val l.p)) (ah (val l.q)) s.en)∧m.length≤1000000000∧∃ v,Box W' (w.heap.size+1+1+1+1+1) v 27∧Row .u8 W' v RL∧Hid (∀ x,v.ownBlock=some x→w.heap.size≤x∧x≠W.heap.size∧x≠w.heap.size+1+1+1+1+1)∧DidS (ofP p) w o m W' o') Q (t.mono (by
  rintro r w' ⟨E,RL,rest,m,o',hp,hm,j,⟨v,hb,hr,hf⟩,hD,ai⟩;have J:Box w' W.heap.size (.int .i64 0) 32:=xe.kept hD.1 (fun f=>f.elim (fun f=>f.elim (fun f=>i _ (by omega) f) (fun e=>by omega)) (fun f=>R _ (by omega) f));have hv:∀ x,v.ownBlock=some x→w.heap.size≤x∧x≠W.heap.size∧x≠w.heap.size+1+1+1+1+1:=fun x hx=>by have h1:=hf x hx;rw [World.size_alloc] at h1;omega
  have k:DidS (ofP p) w o m w' o':=DidS.after k1 hD (fun x hx f=>f.elim id (fun e=>by omega));rcases ai with ⟨h0,rfl⟩ | ⟨h0,rfl⟩
  ·exact ⟨J,.inl ⟨rfl,E,RL,rest,m,o',by rw [h0];rfl,hp,hm,j,v,hb,hr,hv,k⟩⟩
  ·exact ⟨J,.inr ⟨_,rfl,E,RL,rest,m,o',rfl,hp,hm,j,v,hb,hr,hv,k⟩⟩))
 have HW:Hid (W=(((((w.alloc (.cells #[.pointer po] 53)).alloc (.cells #[.slice s.no s.nl s.nc,.int .u64 (s.en:Nat),.slice s.dO s.dl s.dc,.slice s.po s.pl s.pc,.slice s.qo s.ql s.qc,.slice s.dpo s.dpl s.dpc,.slice s.dqo s.dql s.dqc,.slice s.qio s.qil s.qic] 26)).alloc (.cells #[.slice co cl cc] 27)).alloc (.cells #[.pointer p] 39)).alloc (.cells #[.int .i64 at_,.slice fo fl fc] 31)).alloc (.cells #[.slice none 0 0] 27)):=by unfold Hid;rw [hW,D,C,A,z,y]
 have HS:=aa zf;have Y:Hid (∀ x,ofP p x→x<w.heap.size):=fun x f=>(h.inP f).2
 have HT:=aa ht;rw [S];unfold KS.v;clear t hR g hd hl hc P ad h hB M O gf af L ht he ka kb kc kd ke kf za zb zc zd ze zf xa xb xc xd xf xg kE xe k0 k1 i R hW y z A C D Q;go_enter Tryz.func19,Tryz.ntmps19;go_wp2_with (rw [← HW.out]);refine I.mono ?_;rintro r w' ⟨n,w1,rfl,⟨⟨E,RL,rest,m,o',rfl,hp,hm,j,v,hb,hr,hv,hD⟩,N⟩,rfl⟩;obtain ⟨vo,vn,vc,rfl,-⟩:=hr.open;have ak:W.heap.size=w.heap.size+1+1+1+1+1+1:=HS.out;have H:=hD.trIn HT.out j;have F:Box w1 W.heap.size (.int .i64 0) 32:=N;have n1:¬ aN o' W.heap.size:=aB F H (by decide) (by decide);have n2:¬ aN o' (w.heap.size+1+1+1+1+1):=aB hb H (by decide) (by decide)
 have kx:=aw w1 W.heap.size (.int .i64 (E:Nat));have G:=hb.kept kx (by show ¬ w.heap.size+1+1+1+1+1=W.heap.size;omega);have T:=hr.kept kx (fun x hx e=>(hv.out x hx).2.1 e);have k:=hD.put kx (fun hx=>by omega) n1;have al:=G.cell;have am:=G.free;have U:=aa G;have ab:=aa hp;have HM:=aa hm;have Z:=aa j;generalize w1.setCell ⟨W.heap.size,0,none⟩ (.int .i64 (E:Nat))=W2 at *;have ky:=aw W2 (w.heap.size+1+1+1+1+1) (.slice vo vn vc);have ac:=aa (T.kept ky (fun x hx e=>(hv.out x hx).2.2 e));have V:=aa ((k.put ky (fun hx=>by omega) n2).split Y.out)
 have X:Hid (∀ b,(Value.slice vo vn vc).ownBlock=some b→w.heap.size≤b):=fun b hx=>(hv.out b hx).1
 clear I hb hr N kx G T hD k hp hm j ak H F n1 n2 ky hv;go_wp2_with fail;exact bodyPost_ret (v:=.tuple #[.slice vo vn vc,.int .i64 (E:Nat)]) (by simp [results,Tryz.results19,go_sem,(U.out.set (.slice vo vn vc)).cell]) rfl ⟨_,E,rfl,RL,rest,m,ab.out,⟨ac.out,X.out⟩,Z.out,HM.out,V.out⟩

end Go.Proofs.YtkaojflnghfmcaaGreatDoor
