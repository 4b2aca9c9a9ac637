/- Put together of: Key5 Num1 Key6 Law19 Law19b OpenKey OpenFault Tra1 Rnd1. -/
import Derived.Test.YtkaojflnghfmcaaGreatDoorQC3
import Derived.Deep.Strs
import Derived.ChangeSame
import Derived.Laws.CopyRow
import Derived.Deep.RegionLaw
import Derived.RangeFuncWrites
import Derived.RangeFuncNested
import Derived.RangeFuncBound
import Derived.RangeFuncCalls
import Derived.RangeFuncLeaves
import Derived.RangeFuncBox
import Derived.Shelf.Abstract
import Derived.Shelf.RegionOpen
import Derived.OwnWalkIn
import Derived.TacticsInMore
import Derived.LoopNIn
import Derived.LoopIn

namespace Go.Proofs.YtkaojflnghfmcaaGreatDoor
open _root_.Go.Proofs.Tryz
set_option maxRecDepth 100000
set_option maxHeartbeats 4000000
open Go.RowKit

def oe (w:World) (p:Nat) (x0 x1 x2 x3 x4 x5 x6 x7:Value):World:=((((((((w.setCell ⟨p,0,none⟩ x0).setCell ⟨p,1,none⟩ x1).setCell ⟨p,2,none⟩ x2).setCell ⟨p,3,none⟩ x3).setCell ⟨p,4,none⟩ x4).setCell ⟨p,5,none⟩ x5).setCell ⟨p,6,none⟩ x6).setCell ⟨p,7,none⟩ x7)

theorem oM {w w3:World} {p:Nat} {a0 a1 a2 a3 a4 a5 a6 a7:Value} {t:TypeId} (hk:Kept af w w3) (hp:w.heap.size<=p) (a:w3.heap[p]? = some (.cells #[a0,a1,a2,a3,a4,a5,a6,a7] t (0,0))) (x0 x1 x2 x3 x4 x5 x6 x7:Value) :
  (oe w3 p x0 x1 x2 x3 x4 x5 x6 x7).heap[p]? = some (.cells #[x0,x1,x2,x3,x4,x5,x6,x7] t (0,0))/\Kept af w (oe w3 p x0 x1 x2 x3 x4 x5 x6 x7)/\Kept (fun q=>q=p) w3 (oe w3 p x0 x1 x2 x3 x4 x5 x6 x7):=by
 unfold oe;refine ⟨?_,?_,?_⟩
 ·have h0:=heap_setCell_same w3 p 0 _ _ x0 a;have h1:=heap_setCell_same _ p 1 _ _ x1 h0;have h2:=heap_setCell_same _ p 2 _ _ x2 h1;have h3:=heap_setCell_same _ p 3 _ _ x3 h2;have h4:=heap_setCell_same _ p 4 _ _ x4 h3;have h5:=heap_setCell_same _ p 5 _ _ x5 h4;have h6:=heap_setCell_same _ p 6 _ _ x6 h5;have h7:=heap_setCell_same _ p 7 _ _ x7 h6;simpa using h7
 ·exact ((((((((hk.setCell ⟨p,0,none⟩ (fun h=>by simp at h;omega) _).setCell ⟨p,1,none⟩ (fun h=>by simp at h;omega) _).setCell ⟨p,2,none⟩ (fun h=>by simp at h;omega) _).setCell ⟨p,3,none⟩ (fun h=>by simp at h;omega) _).setCell ⟨p,4,none⟩ (fun h=>by simp at h;omega) _).setCell ⟨p,5,none⟩ (fun h=>by simp at h;omega) _).setCell ⟨p,6,none⟩ (fun h=>by simp at h;omega) _).setCell ⟨p,7,none⟩ (fun h=>by simp at h;omega) _)
 ·exact ((((((((aj (fun q=>q=p) w3).setCell ⟨p,0,none⟩ (fun _=>rfl) _).setCell ⟨p,1,none⟩ (fun _=>rfl) _).setCell ⟨p,2,none⟩ (fun _=>rfl) _).setCell ⟨p,3,none⟩ (fun _=>rfl) _).setCell ⟨p,4,none⟩ (fun _=>rfl) _).setCell ⟨p,5,none⟩ (fun _=>rfl) _).setCell ⟨p,6,none⟩ (fun _=>rfl) _).setCell ⟨p,7,none⟩ (fun _=>rfl) _

theorem dh {W:World} {p:Nat} {cs:Array Value} {t:TypeId} (h:W.heap[p]? = some (.cells cs t (0,0))) (j:Nat):W.frozen? ⟨p,j,none⟩=false:=frozen_of_row W _ j _ _ h

abbrev zeroKey:Array Value:=#[.slice none 0 0,.int .u64 0,.slice none 0 0,.slice none 0 0,.slice none 0 0,.slice none 0 0,.slice none 0 0,.slice none 0 0]

theorem cX {X n:Nat} (h:aM X<=64*n):ar X<=n:=(aG X n).2 (by
 have:=(aX X (64*n)).1 h;rw [bh] at this;exact this)

theorem mJ {X n:Nat} (h:aM X<=32*n):dj X<=n:=(eI X n).2 (by
 have:=(aX X (32*n)).1 h;rw [bh] at this;exact this)

def eO (P:Nat):Prop:=3<=P/\P%2=1/\aM P<=8192

def di (P Q:Nat):List Nat:=digs (P*Q) (max (ar (P*Q)) 1)

def iL (L M P Q e:Nat):Prop:=(L<=300/\M<=300)/\eO P/\eO Q/\Nat.gcd P Q=1/\fW (di P Q) e=0/\Nat.gcd e (jL P Q)=1

def KeyAt (w:World) (P Q e:Nat) (kv:Array Value):Prop:=
 ∃ (vn vd vp vq vdp vdq vqi:Value) (d u:Nat),kv=#[vn,.int .u64 (e:Nat),vd,vp,vq,vdp,vdq,vqi]/\Row .u64 w vn (di P Q)/\d<jL P Q/\e*d%jL P Q=1/\Row .u64 w vd (digs d (di P Q).length) /\
  Row .u64 w vp (digs P (max (ar P) (ar Q)))/\Row .u64 w vq (digs Q (max (ar P) (ar Q)))/\Row .u64 w vdp (digs (d%(P-1)) (max (ar P) (ar Q)))/\Row .u64 w vdq (digs (d%(Q-1)) (max (ar P) (ar Q)))/\u<P/\Q*u%P=1/\Row .u64 w vqi (digs u (max (ar P) (ar Q)))

def kJ (B:Nat) (kv:Array Value):Prop:=∀ v ∈ kv.toList,∀ x,v.ownBlock=some x->B<x

theorem tR (B:Nat):kJ B zeroKey:=by
 intro v hv x hx;have a:v ∈ [Value.slice none 0 0,.int .u64 0,.slice none 0 0,.slice none 0 0,.slice none 0 0,.slice none 0 0,.slice none 0 0,.slice none 0 0]:=hv;simp only [fC,List.not_mem_nil,or_false] at a;rcases a with rfl | rfl | rfl | rfl | rfl | rfl | rfl | rfl <;> cases hx

theorem CO {B:Nat} {v0 v2 v3 v4 v5 v6 v7:Value} {e:Int} (h0:∀ x,v0.ownBlock=some x->B<x) (h2:∀ x,v2.ownBlock=some x->B<x) (h3:∀ x,v3.ownBlock=some x->B<x) (h4:∀ x,v4.ownBlock=some x->B<x) (h5:∀ x,v5.ownBlock=some x->B<x) (h6:∀ x,v6.ownBlock=some x->B<x) (h7:∀ x,v7.ownBlock=some x->B<x):kJ B #[v0,.int .u64 e,v2,v3,v4,v5,v6,v7]:=by
 intro v hv x hx;have a:v ∈ [v0,.int .u64 e,v2,v3,v4,v5,v6,v7]:=hv;simp only [fC,List.not_mem_nil,or_false] at a;rcases a with rfl | rfl | rfl | rfl | rfl | rfl | rfl | rfl
 ·exact h0 x hx
 ·cases hx
 ·exact h2 x hx
 ·exact h3 x hx
 ·exact h4 x hx
 ·exact h5 x hx
 ·exact h6 x hx
 ·exact h7 x hx

theorem Ac {P Q:Nat} (hP:3<=P) (hQ:3<=Q):2<=jL P Q:=by
 unfold jL;have hg:Nat.gcd (P-1) (Q-1) ∣ P-1:=Nat.gcd_dvd_left _ _;have h1:1<=(P-1)/Nat.gcd (P-1) (Q-1):=Nat.div_pos (Nat.le_of_dvd (by omega) hg) (Nat.gcd_pos_of_pos_left _ (by omega));have:=bI (Q-1) h1;omega

theorem sq {p a b c:Nat} (hc:Nat.Coprime p c) (h:c*a%p=c*b%p):a%p=b%p:=by
 rcases Nat.le_total a b with hab | hab
 ·have h1:(c*b-c*a)%p=0:=oC h.symm;rw [<- j8] at h1;have h2:=hc.dvd_of_dvd_mul_left (lr h1);obtain ⟨k,hk⟩:=h2;rw [show b=a+p*k by omega];simp
 ·have h1:(c*a-c*b)%p=0:=oC h;rw [<- j8] at h1;have h2:=hc.dvd_of_dvd_mul_left (lr h1);obtain ⟨k,hk⟩:=h2;rw [show a=b+p*k by omega];simp

def vV (P Q e d u:Nat) (ns ds ps qs dps dqs qis:List Nat):Prop:=
 d<jL P Q/\e*d%jL P Q=1/\u<P/\Q*u%P=1/\ns=di P Q/\ds=digs d (di P Q).length/\ps=digs P (max (ar P) (ar Q))/\qs=digs Q (max (ar P) (ar Q))/\dps=digs (d%(P-1)) (max (ar P) (ar Q))/\dqs=digs (d%(Q-1)) (max (ar P) (ar Q))/\qis=digs u (max (ar P) (ar Q))

def KeyGood (ns ds ps qs dps dqs qis:List Nat) (e:Nat):Prop:=
 iL ps.length qs.length (val ps) (val qs) e/\∃ d u,vV (val ps) (val qs) e d u ns ds ps qs dps dqs qis

theorem vR {m a x y:Nat} (hc:Nat.Coprime m a) (hx:x<m) (hy:y<m) (h1:a*x%m=1) (h2:a*y%m=1):x=y:=by
 have:=sq hc (h1.trans h2.symm)
 rwa [ax hx,ax hy] at this

def Ii (w:World) (ao:Option Addr) (n:Nat) (A:Nat->Option Addr) (L C:Nat->Nat):Prop:=
 ∀ i,i<n->∃ b off,ao=some ⟨b,off,none⟩/\w.cell? ⟨b,off+i,none⟩=some (.slice (A i) (L i) (C i))

def fewL (L:Nat):Prop:=L<=20\/L=301\/L=131

theorem fewL.le {L:Nat} (h:fewL L):L<=301:=by unfold fewL at h;omega

theorem ET (ao:Option Addr) (n q:Nat) (A:Nat->Option Addr) (L C:Nat->Nat) (w:World) (hn:n<=1000000000000) (R:Bool) (hR:R=true↔∀ i,i<n->fewL (L i)) (hc:Ii w ao n A L C) :
  Calls prog 59 #[.slice ao n q] w fun r w'=>r=.returned (.bool R)/\w'=w:=by
 have HR:=aa hR;have HC:=aa hc;clear hR hc;go_enter func59,ntmps59;go_wp2_with fail;go_loop [7] (fun i=>∃ k:Nat,k<=n/\i=.int .i64 (k:Int)/\Hid (∀ j,j<k->fewL (L j))) (fun i=>((n:Int)-intOf i).toNat)
 case atStart=>exact ⟨0,aP _,rfl,fun j hj=>by omega⟩
 case round=>
  obtain ⟨k,hk,rfl,f⟩:=hrel;by_cases hkn:k<n
  ·have t:(k:Int)<(n:Int):=by omega
   obtain ⟨b,off,rfl,l⟩:=HC.out k hkn;obtain ⟨ao,s⟩:∃ ao,ao=A k:=⟨_,rfl⟩
   obtain ⟨a,d⟩:∃ a,a=L k:=⟨_,rfl⟩
   obtain ⟨cp,g⟩:∃ q,q=C k:=⟨_,rfl⟩
   rw [<- s,<- d,<- g] at l;have o:=aa d;have p:Hid (fewL a->∀ j,j<k+1->fewL (L j)):=fun h j hj=>by
    by_cases e:j=k
    ·subst e;rw [<- d];exact h
    ·exact f.out j (by omega)
   clear s d g;by_cases h4:a<=20
   ·have m:¬ (a:Int) > 20:=by omega
    have c:¬ (20:Int)<(a:Int):=by omega
    go_wp2_with fail;go_round
    case rel=>exact ⟨k+1,by omega,by go_num,p.out (.inl h4)⟩
    case measure=>simp [intOf];omega
   ·have m:(a:Int) > 20:=by omega
    have c:(20:Int)<(a:Int):=by omega
    by_cases h5:a=301
    ·subst h5;clear h4 m c;go_wp2_with fail;go_round
     case rel=>exact ⟨k+1,by omega,by go_num,p.out (.inr (.inl rfl))⟩
     case measure=>simp [intOf];omega
    ·by_cases h6:a=131
     ·subst h6;clear h4 m c h5;go_wp2_with fail;go_round
      case rel=>exact ⟨k+1,by omega,by go_num,p.out (.inr (.inr rfl))⟩
      case measure=>simp [intOf];omega
     ·have x:¬ (a:Int)=301:=by omega
      have y:¬ (a:Int)=131:=by omega
      have d5:((a:Int) != 301)=true:=by simp;omega
      have d6:((a:Int) != 131)=true:=by simp;omega
      have d4:decide ((a:Int) > 20)=true:=dL m;have v:decide ((20:Int)<(a:Int))=true:=dL c;have HF:Hid (R=false):=by
       cases e:R with
       | false=>rfl
       | true=>
        have:=HR.out.1 e k hkn;rw [<- o.out] at this;unfold fewL at this;omega
      go_wp2_with fail;go_ret;refine ⟨?_,rfl⟩;rw [HF.out];rfl
  ·have t:¬ (k:Int)<(n:Int):=by omega
   have e:k=n:=by omega
   subst e;have HT:Hid (R=true):=HR.out.2 f.out;go_wp2_with fail;go_ret;refine ⟨?_,rfl⟩;rw [HT.out];rfl

theorem H3 (W:World) (z:Nat):Row .u64 (W.alloc (.cells #[.int .u64 (z:Nat)] 24)) (.slice (some ⟨W.heap.size,0,none⟩) 1 1) [z]:=
 Row.of_own (base:=W.heap.size) (e:=24) (World.ownsRow_lit W #[.int .u64 (z:Nat)] 1 (leR _) (by unfold maxLen;omega) rfl)

theorem Es:¬ KeyGood [] [] [] [] [] [] [] 0:=fun h=>by
 have h1:3<=val []:=h.1.2.1.1;have h2:val []=0:=rfl;omega

structure KS where
 no:Option Addr
 nl:Nat
 nc:Nat
 en:Nat
 dO:Option Addr
 dl:Nat
 dc:Nat
 po:Option Addr
 pl:Nat
 pc:Nat
 qo:Option Addr
 ql:Nat
 qc:Nat
 dpo:Option Addr
 dpl:Nat
 dpc:Nat
 dqo:Option Addr
 dql:Nat
 dqc:Nat
 qio:Option Addr
 qil:Nat
 qic:Nat

def KS.v (t:KS):Array Value:=#[.slice t.no t.nl t.nc,.int .u64 ((t.en:Nat):Int),.slice t.dO t.dl t.dc,.slice t.po t.pl t.pc,.slice t.qo t.ql t.qc,.slice t.dpo t.dpl t.dpc,.slice t.dqo t.dql t.dqc,.slice t.qio t.qil t.qic]

structure KL where
 n:List Nat
 d:List Nat
 p:List Nat
 q:List Nat
 dp:List Nat
 dq:List Nat
 qi:List Nat

structure KS.Rows (w:World) (t:KS) (l:KL):Prop where
 n:Row .u64 w (.slice t.no t.nl t.nc) l.n
 d:Row .u64 w (.slice t.dO t.dl t.dc) l.d
 p:Row .u64 w (.slice t.po t.pl t.pc) l.p
 q:Row .u64 w (.slice t.qo t.ql t.qc) l.q
 dp:Row .u64 w (.slice t.dpo t.dpl t.dpc) l.dp
 dq:Row .u64 w (.slice t.dqo t.dql t.dqc) l.dq
 qi:Row .u64 w (.slice t.qio t.qil t.qic) l.qi

theorem KS.Rows.grew {w w':World} {t:KS} {l:KL} (h:t.Rows w l) (k:Kept af w w'):t.Rows w' l:=⟨h.n.grew k,h.d.grew k,h.p.grew k,h.q.grew k,h.dp.grew k,h.dq.grew k,h.qi.grew k⟩

structure KL.Digs (l:KL):Prop where
 n:Proofs.YtkaojflnghfmcaaGreatDoor.Digs l.n
 d:Proofs.YtkaojflnghfmcaaGreatDoor.Digs l.d
 p:Proofs.YtkaojflnghfmcaaGreatDoor.Digs l.p
 q:Proofs.YtkaojflnghfmcaaGreatDoor.Digs l.q
 dp:Proofs.YtkaojflnghfmcaaGreatDoor.Digs l.dp
 dq:Proofs.YtkaojflnghfmcaaGreatDoor.Digs l.dq
 qi:Proofs.YtkaojflnghfmcaaGreatDoor.Digs l.qi

def KeySays (L M P Q e E en:Nat) (l:KL):Prop:=
 (E=0/\iL L M P Q e/\en=e/\∃ d u,vV P Q e d u l.n l.d l.p l.q l.dp l.dq l.qi)\/(E=190/\¬ iL L M P Q e/\en=0/\l=⟨[],[],[],[],[],[],[]⟩)

theorem KeySays.uniq {L M P Q e E E' en a:Nat} {l l':KL} (h:KeySays L M P Q e E en l) (h':KeySays L M P Q e E' a l'):E'=E/\a=en/\l'=l:=by
 rcases h with ⟨rfl,hok,rfl,d,u,h1⟩ | ⟨rfl,hno,rfl,rfl⟩
 ·rcases h' with ⟨rfl,_,rfl,d',u',h2⟩ | ⟨_,hno,_⟩
  ·have hd:d'=d:=vR (Nat.Coprime.symm hok.2.2.2.2.2) h2.1 h1.1 h2.2.1 h1.2.1;have hu:u'=u:=vR hok.2.2.2.1 h2.2.2.1 h1.2.2.1 h2.2.2.2.1 h1.2.2.2.1;subst hd hu;obtain ⟨_,_,_,_,a1,a2,a3,a4,a5,a6,a7⟩:=h1;obtain ⟨_,_,_,_,b1,b2,b3,b4,b5,b6,b7⟩:=h2;refine ⟨rfl,rfl,?_⟩;cases l
   cases l'
   simp only at a1 a2 a3 a4 a5 a6 a7 b1 b2 b3 b4 b5 b6 b7;rw [a1,a2,a3,a4,a5,a6,a7,b1,b2,b3,b4,b5,b6,b7]
  ·exact absurd hok hno
 ·rcases h' with ⟨_,hok,_⟩ | ⟨rfl,_,rfl,rfl⟩
  ·exact absurd hok hno
  ·exact ⟨rfl,rfl,rfl⟩

theorem KeySays.digs {L M P Q e E en:Nat} {l:KL} (h:KeySays L M P Q e E en l):l.Digs:=by
 rcases h with ⟨_,_,_,d,u,h1⟩ | ⟨_,_,_,rfl⟩
 ·obtain ⟨_,_,_,_,a1,a2,a3,a4,a5,a6,a7⟩:=h1;refine ⟨?_,?_,?_,?_,?_,?_,?_⟩
  ·rw [a1];exact ak (by omega) _ _
  ·rw [a2];exact ak (by omega) _ _
  ·rw [a3];exact ak (by omega) _ _
  ·rw [a4];exact ak (by omega) _ _
  ·rw [a5];exact ak (by omega) _ _
  ·rw [a6];exact ak (by omega) _ _
  ·rw [a7];exact ak (by omega) _ _
 ·exact ⟨Digs.nil _,Digs.nil _,Digs.nil _,Digs.nil _,Digs.nil _,Digs.nil _,Digs.nil _⟩

def Cc (w:World) (L M P Q e:Nat) (r:Ending) (w':World):Prop:=∃ (t:KS) (E:Nat),r=.returned (.tuple #[.agg t.v,.int .i64 ((E:Nat):Int)])/\∃ l:KL,t.Rows w' l/\KeySays L M P Q e E t.en l/\kJ w.heap.size t.v/\Kept af w w'

theorem IC {w w':World} {L M P Q e:Nat} {r:Ending} (h:∃ kv E,r=.returned (.tuple #[.agg kv,.int .i64 ((E:Nat):Int)])/\((E=0/\iL L M P Q e/\KeyAt w' P Q e kv)\/(E=190/\¬ iL L M P Q e/\kv=zeroKey))/\kJ w.heap.size kv/\Kept af w w'):Cc w L M P Q e r w':=by
 obtain ⟨kv,E,rfl,hc,hf,k⟩:=h;rcases hc with ⟨rfl,hok,hat⟩ | ⟨rfl,hno,rfl⟩
 ·obtain ⟨vn,vd,vp,vq,N,O,R,d,u,rfl,rn,G,H,rd,rp,rq,n,o,I,J,p⟩:=hat;obtain ⟨y,x,v,rfl,-,-,-,-,-⟩:=rn.open;obtain ⟨t,s,q,rfl,-,-,-,-,-⟩:=rd.open;obtain ⟨B,A,z,rfl,-,-,-,-,-⟩:=rp.open;obtain ⟨F,D,C,rfl,-,-,-,-,-⟩:=rq.open;obtain ⟨c,b,a,rfl,-,-,-,-,-⟩:=n.open;obtain ⟨i,g,f,rfl,-,-,-,-,-⟩:=o.open;obtain ⟨m,l,j,rfl,-,-,-,-,-⟩:=p.open;exact ⟨⟨y,x,v,e,t,s,q,B,A,z,F,D,C,c,b,a,i,g,f,m,l,j⟩,0,rfl,⟨_,_,_,_,_,_,_⟩,⟨rn,rd,rp,rq,n,o,p⟩,.inl ⟨rfl,hok,rfl,d,u,G,H,I,J,rfl,rfl,rfl,rfl,rfl,rfl,rfl⟩,hf,k⟩
 ·exact ⟨⟨none,0,0,0,none,0,0,none,0,0,none,0,0,none,0,0,none,0,0,none,0,0⟩,190,rfl,⟨[],[],[],[],[],[],[]⟩,⟨Row.nil _ _,Row.nil _ _,Row.nil _ _,Row.nil _ _,Row.nil _ _,Row.nil _ _,Row.nil _ _⟩,.inr ⟨rfl,hno,rfl,rfl⟩,hf,k⟩

open Go.RowKit Go.Deep Go.ChangeShapes

theorem Tryz.cells26:prog.cellsOf 26=8:=by kernel_rfl

theorem uB:∃ f0 f1 f2 f3 f4 f5 f6 f7:Field,prog.underlying 26=some (.struct #[f0,f1,f2,f3,f4,f5,f6,f7])/\(f0.type=23/\f1.type=24/\f2.type=23/\f3.type=23/\f4.type=23/\f5.type=23/\f6.type=23/\f7.type=23)/\f0.offset=0/\f1.offset=1/\f2.offset=2/\f3.offset=3/\f4.offset=4/\f5.offset=5/\f6.offset=6/\f7.offset=7:=
 ⟨_,_,_,_,_,_,_,_,underlying26,⟨rfl,rfl,rfl,rfl,rfl,rfl,rfl,rfl⟩,rfl,rfl,rfl,rfl,rfl,rfl,rfl,rfl⟩

theorem iu:prog.cellsOf 23=1:=by kernel_rfl

theorem yA:prog.cellsOf 24=1:=by kernel_rfl

section
variable {H : Type} {enc : TypeId × Value -> H} {w : World} {base : Nat} {held : Bool}

theorem ix {a:Nat} {cs:List Value} {x:DataW H × List MemPlace} (h:DataW.trod enc prog w base (fun _=>true) held a 23 cs=some x) :
  ∃ o n c ns,cs=[.slice o n c]/\Row .u64 w (.slice o n c) ns/\Digs ns:=by
 have hh:∃ v ns,cs=[v]/\Row .u64 w v ns/\Digs ns:=by
  rcases open_ints underlying23 underlying24 (by kernel_rfl) h with ⟨hcs,_⟩ | ⟨x,l,c,zs,hcs,_,hl,hm,hz,_,hcell,hwz⟩
  ·obtain ⟨ns,hr,hd⟩:=row_of_ints (w:=w) (k:=.u64) BX (zs:=[]) (.inl ⟨rfl,rfl,rfl,rfl⟩);exact ⟨_,ns,hcs,hr,hd⟩
  ·obtain ⟨ns,hr,hd⟩:=row_of_ints (w:=w) (k:=.u64) BX (.inr ⟨_,rfl,hl,hm,by simpa using hz,hcell,hwz⟩);exact ⟨_,ns,hcs,hr,hd⟩
 obtain ⟨v,ns,rfl,hr,hd⟩:=hh;obtain ⟨o,n,c,rfl,_⟩:=hr.open;exact ⟨o,n,c,ns,rfl,hr,hd⟩

theorem open_key {a:Nat} {cs:List Value} {x:DataW H × List MemPlace} (h:DataW.trod enc prog w base (fun _=>true) held a 26 cs=some x) :
  ∃ (t:KS) (l:KL),cs=t.v.toList/\t.Rows w l/\l.Digs/\t.en<18446744073709551616:=by
 obtain ⟨f0,f1,f2,f3,f4,f5,f6,f7,hu,⟨t0,t1,t2,t3,t4,t5,t6,t7⟩,o0,o1,o2,o3,o4,o5,o6,o7⟩:=uB;obtain ⟨xs,n,_,_,hl,b,hf⟩:=DataW.trod_struct hu h;rw [Tryz.cells26] at hl
 match xs,b with
 | [y0,y1,y2,y3,y4,y5,y6,y7],_=>
  have h0:=hf 0 f0 rfl;have h1:=hf 1 f1 rfl;have h2:=hf 2 f2 rfl;have h3:=hf 3 f3 rfl;have h4:=hf 4 f4 rfl;have h5:=hf 5 f5 rfl;have h6:=hf 6 f6 rfl;have h7:=hf 7 f7 rfl;rw [t0,o0,iu] at h0;rw [t1,o1,yA] at h1;rw [t2,o2,iu] at h2;rw [t3,o3,iu] at h3;rw [t4,o4,iu] at h4;rw [t5,o5,iu] at h5;rw [t6,o6,iu] at h6;rw [t7,o7,iu] at h7;obtain ⟨no,nl,nc,ln,e0,r0,d0⟩:=ix h0;obtain ⟨k,e1,_,hk⟩:=DataW.trod_int underlying24 h1;obtain ⟨dO,dl,dc,ld,e2,r2,d2⟩:=ix h2;obtain ⟨po,pl,pc,lp,e3,r3,d3⟩:=ix h3;obtain ⟨qo,ql,qc,lq,e4,r4,d4⟩:=ix h4;obtain ⟨e,d,c,m,e5,r5,d5⟩:=ix h5
  obtain ⟨i,g,f,o,e6,r6,d6⟩:=ix h6;obtain ⟨s,r,q,p,e7,r7,d7⟩:=ix h7;obtain ⟨j,y⟩:=bounds_u64 hk;obtain ⟨en,rfl⟩:=dY j
  match cs,hl with
  | [c0,c1,c2,c3,c4,c5,c6,c7],_=>
   simp at e0 e1 e2 e3 e4 e5 e6 e7;subst e0 e1 e2 e3 e4 e5 e6 e7;exact ⟨⟨no,nl,nc,en,dO,dl,dc,po,pl,pc,qo,ql,qc,e,d,c,i,g,f,s,r,q⟩,⟨ln,ld,lp,lq,m,o,p⟩,rfl,⟨r0,r2,r3,r4,r5,r6,r7⟩,⟨d0,d2,d3,d4,d5,d6,d7⟩,by show en<_;omega⟩

end

theorem Tryz.cells31:prog.cellsOf 31=2:=by kernel_rfl

theorem rh:∃ f0 f1:Field,prog.underlying 31=some (.struct #[f0,f1])/\f0.type=3/\f1.type=23/\f0.offset=0/\f1.offset=1:=
 ⟨_,_,underlying31,rfl,rfl,rfl,rfl⟩

theorem sD:prog.cellsOf 3=1:=by kernel_rfl

section
variable {H : Type} {enc : TypeId × Value -> H} {w : World} {base : Nat} {held : Bool}

theorem open_fault {a:Nat} {cs:List Value} {x:DataW H × List MemPlace} (h:DataW.trod enc prog w base (fun _=>true) held a 31 cs=some x) :
  ∃ (k:Int) (v:Value) (zs:List Nat),cs=[.int .i64 k,v]/\Row .u64 w v zs/\Digs zs/\-9223372036854775808<=k/\k<=9223372036854775807:=by
 obtain ⟨f0,f1,hu,t0,t1,o0,o1⟩:=rh;obtain ⟨y0,y1,n,_,hl,h0,h1⟩:=trod_struct2 hu h;rw [Tryz.cells31] at hl;rw [t0,o0,sD] at h0;rw [t1,o1,iu] at h1;obtain ⟨k,ha,_,hw⟩:=DataW.trod_int underlying3 h0;obtain ⟨o,m,c,zs,hb,r,d⟩:=ix h1
 match cs,hl with
 | [c0,c1],_=>
  simp at ha hb;subst ha hb;exact ⟨k,_,zs,rfl,r,d,by have:=bounds_i64 hw;omega⟩

end

abbrev Ev:=Int × Int × Int

def rg (e:Ev):List Value:=[.int .i64 e.1,.int .i64 e.2.1,.int .i64 e.2.2]

def gY:List Ev->List Value
 | []=>[]
 | e :: r=>rg e ++ gY r

theorem kH:∀ l m,gY (l ++ m)=gY l ++ gY m
 | [],m=>by simp [gY]
 | e :: r,m=>by simp [gY,kH r m]

def l9 (s n:Int):Int:=bits .xor .u64 s (n%18446744073709551616)*1099511628211%18446744073709551616

def yJ (s:Int) (e:Ev):Int:=l9 (l9 (l9 s e.1) e.2.1) e.2.2

def mL (l:List Ev):Int:=l.foldl yJ 14695981039346656037

theorem oZ (l:List Ev) (e:Ev):mL (l ++ [e])=yJ (mL l) e:=by simp [mL]

def EvRow (w:World) (v:Value) (l:List Ev):Prop:=w.ownsRow 0 142 3 v l.length (gY l)

theorem EvRow.lt {w:World} {v:Value} {l:List Ev} (h:EvRow w v l):∀ k,v.ownBlock=some k->k<w.heap.size:=fun k hk=>(World.ownsRow.lt h k hk).2

theorem EvRow.kept {S:Nat->Prop} {w w':World} {v:Value} {l:List Ev} (h:EvRow w v l) (k:Kept S w w') (hs:∀ k,v.ownBlock=some k->¬ S k):EvRow w' v l:=k.own h hs

def IsTr (w:World) (p:Nat) (g:Option Nat) (l:List Ev):Prop:=
 ∃ v s,w.heap[p]? = some (.cells #[v,.int .i64 l.length,.int .u64 s] 100 (0,0))/\v.ownBlock=g/\EvRow w v (l.take 1000)/\(l≠[]->s=mL l)

theorem IsTr.lt {w:World} {p:Nat} {g:Option Nat} {l:List Ev} (h:IsTr w p g l):p<w.heap.size/\∀ k,g=some k->k<w.heap.size/\k≠p:=by
 obtain ⟨v,s,hp,hg,hr,_⟩:=h;refine ⟨lt_of_block hp,fun k hk=>⟨hr.lt k (hg.trans hk),fun e=>?_⟩⟩;subst e;rcases hr.2 with ⟨rfl,_⟩ | ⟨g',cap,cur,rfl,_,hgg,_⟩
 ·subst hg;cases hk
 ·have:g'=k:=by subst hg;simpa [Value.ownBlock] using hk
  subst this;rw [hp] at hgg;simp at hgg

theorem IsTr.kept {S:Nat->Prop} {w w':World} {p:Nat} {g:Option Nat} {l:List Ev} (h:IsTr w p g l) (k:Kept S w w') (hp:¬ S p) (hg:∀ x,g=some x->¬ S x):IsTr w' p g l:=by
 obtain ⟨v,s,h1,h2,h3,h4⟩:=h;exact ⟨v,s,(k.block p (lt_of_block h1) hp).trans h1,h2,h3.kept k fun x hx=>hg x (h2.symm.trans hx),h4⟩

theorem IsTr.grew {w w':World} {p:Nat} {g:Option Nat} {l:List Ev} (h:IsTr w p g l) (k:Kept af w w'):IsTr w' p g l:=h.kept k (fun f=>f) fun _ _ f=>f

abbrev Tr:=Option (Nat × Option Nat × List Ev)

def aL:Tr->Value
 | none=>.pointer none
 | some (p,_,_)=>.pointer (some ⟨p,0,none⟩)

def ol:Tr->List Ev
 | none=>[]
 | some (_,_,l)=>l

def TrIn (w:World):Tr->Prop
 | none=>True
 | some (p,g,l)=>IsTr w p g l/\l.length<1000000000000

def cN:Tr->Nat->Prop
 | none,_=>False
 | some (p,g,_),k=>k=p\/g=some k

def Wrote (w:World) (m:List Ev) (w':World):Tr->Prop
 | none=>Kept af w w'
 | some (p,g,l)=>Kept (fun k=>k=p\/g=some k) w w'/\∃ g',IsTr w' p g' (l ++ m)/\(g'=g\/∃ x,g'=some x/\w.heap.size<=x)

theorem TrIn.grew {w w':World} {o:Tr} (h:TrIn w o) (k:Kept af w w'):TrIn w' o:=by
 cases o with
 | none=>trivial
 | some x=>exact ⟨h.1.grew k,h.2⟩

theorem TrIn.foot {w:World} {o:Tr} (h:TrIn w o):∀ k,cN o k->k<w.heap.size:=by
 cases o with
 | none=>intro k f;exact f.elim
 | some x=>
  obtain ⟨p,g,l⟩:=x;intro k f;rcases f with rfl | f
  ·exact h.1.lt.1
  ·exact (h.1.lt.2 k f).1

theorem Wrote.kept {w w':World} {m:List Ev} {o:Tr} (h:Wrote w m w' o):Kept (cN o) w w':=by
 cases o with
 | none=>exact Kept.any h
 | some x=>exact h.1

theorem BI (p:Nat) (v:Value) (n:Nat) (s r:Int) (w:World) (hp:w.heap[p]? = some (.cells #[v,.int .i64 n,.int .u64 s] 100 (0,0)))
  (hr:(n=0/\r=14695981039346656037)\/(n≠0/\r=s)) :
  Calls prog 53 #[.pointer (some ⟨p,0,none⟩)] w fun e w'=>e=.returned (.int .u64 r)/\w'=w:=by
 have c1:w.cell? ⟨p,1,none⟩=some (.int .i64 n):=by rw [cell_of_row w p 1 _ _ _ hp];rfl
 have c2:w.cell? ⟨p,2,none⟩=some (.int .u64 s):=by rw [cell_of_row w p 2 _ _ _ hp];rfl
 clear hp;have hm:Calls prog 24 #[.pointer (some ⟨p,0,none⟩)] w fun e w'=>e=.returned (.int .i64 n)/\w'=w:=by
  go_enter func24,ntmps24;go_wp2;go_ret;exact ⟨rfl,rfl⟩
 rcases hr with ⟨rfl,rfl⟩ | ⟨h0,rfl⟩
 ·go_enter func53,ntmps53;go_wp2_with fail;refine hm.mono ?_;rintro e w' ⟨rfl,rfl⟩;go_wp2;go_ret;exact ⟨rfl,rfl⟩
 ·have h1:(n:Int)≠0:=by omega
  go_enter func53,ntmps53;go_wp2_with fail;refine hm.mono ?_;rintro e w' ⟨rfl,rfl⟩;go_wp2;go_ret;exact ⟨rfl,rfl⟩

theorem H9 (s:Int) (e:Ev) (b:Nat) (w:World) (h:w.heap[b]? = some (.cells (rg e).toArray 3 (0,0))) :
  Calls prog 245 #[.int .u64 s,.slice (some ⟨b,0,none⟩) 3 3] w fun r w'=>r=.returned (.int .u64 (yJ s e))/\w'=w:=by
 obtain ⟨k,x,y⟩:=e;have c0:w.cell? ⟨b,0,none⟩=some (.int .i64 k):=by rw [cell_of_row w b 0 _ _ _ h];rfl
 have c1:w.cell? ⟨b,1,none⟩=some (.int .i64 x):=by rw [cell_of_row w b 1 _ _ _ h];rfl
 have c2:w.cell? ⟨b,2,none⟩=some (.int .i64 y):=by rw [cell_of_row w b 2 _ _ _ h];rfl
 clear h;have hm:yJ s (k,x,y)=l9 (l9 (l9 s k) x) y:=rfl;rw [hm];clear hm;go_enter func245,ntmps245;go_wp2_with fail;go_loop [0,9] (fun t i=>(i=.int .i64 0/\t=.int .u64 s)\/(i=.int .i64 1/\t=.int .u64 (l9 s k))\/(i=.int .i64 2/\t=.int .u64 (l9 (l9 s k) x))\/(i=.int .i64 3/\t=.int .u64 (l9 (l9 (l9 s k) x) y))) (fun _ i=>(3-intOf i).toNat)
 case atStart=>exact .inl ⟨rfl,rfl⟩
 case round=>
  rcases hrel with ⟨rfl,rfl⟩ | ⟨rfl,rfl⟩ | ⟨rfl,rfl⟩ | ⟨rfl,rfl⟩
  ·go_wp2;go_round
   case rel=>exact .inr (.inl ⟨by go_num,by simp [l9,IntKind.wrap_u64]⟩)
   case measure=>simp [intOf]
  ·go_wp2;go_round
   case rel=>exact .inr (.inr (.inl ⟨by go_num,by simp [l9,IntKind.wrap_u64]⟩))
   case measure=>simp [intOf]
  ·go_wp2;go_round
   case rel=>exact .inr (.inr (.inr ⟨by go_num,by simp [l9,IntKind.wrap_u64]⟩))
   case measure=>simp [intOf]
  ·go_wp2;go_ret;exact ⟨rfl,rfl⟩

theorem Tryz.info142:(prog.info? 142).map (fun i=>(i.zero,i.size,i.bytes))=some (some (.agg #[.int .i64 0,.int .i64 0,.int .i64 0]),3,24):=by kernel_rfl

theorem zY (w W:World) (A:Array Value) (t:TypeId) (j:Nat) (hs:W.heap.size=w.heap.size) (B:Obj):((W.alloc (.cells A t)).alloc B).drew.cell? ⟨w.heap.size,j,none⟩=A[j]?:=by
 rw [<- hs];exact cell_of_row _ _ _ A t (0,0) (cH (heap_alloc2_old W _ _))

theorem Ew {w:World} {p:Nat} {v n s:Value} {t:TypeId} (hp:w.heap[p]? = some (.cells #[v,n,s] t (0,0))) (u1 u2:Value):((w.setCell ⟨p,2,none⟩ u2).setCell ⟨p,1,none⟩ u1).heap[p]? = some (.cells #[v,u1,u2] t (0,0)):=by
 have h1:=heap_setCell_same w p 2 _ _ u2 hp;have h2:=heap_setCell_same _ p 1 _ _ u1 h1;simpa using h2

attribute [local go_sem ↓] Go.wp_at_zero Go.wp_at_succ

theorem zt (k x y:Int) (w:World) :
  Calls prog 210 #[.pointer none,.agg #[.int .i64 k,.int .i64 x,.int .i64 y]] w fun r w'=>r=.returned (.tuple #[])/\w'=w.alloc (.cells #[.int .i64 k,.int .i64 x,.int .i64 y] 142):=by
 go_enter func210,ntmps210;go_wp2;exact bodyPost_ret (v:=.tuple #[]) (by simp [results,results210,go_sem]) rfl ⟨rfl,rfl⟩

theorem uV (p:Nat) (ao:Option Addr) (a n:Nat) (s r k x y:Int) (w:World) (hn:n<1000000000000)
  (hp:w.heap[p]? = some (.cells #[.slice ao 1000 a,.int .i64 n,.int .u64 s] 100 (0,0))) (hr:(n=0/\r=14695981039346656037)\/(n≠0/\r=s)) :
  Calls prog 210 #[.pointer (some ⟨p,0,none⟩),.agg #[.int .i64 k,.int .i64 x,.int .i64 y]] w fun e w'=>e=.returned (.tuple #[]) /\
   w'.heap[p]? = some (.cells #[.slice ao 1000 a,.int .i64 (n+1:Nat),.int .u64 (yJ r (k,x,y))] 100 (0,0))/\Kept (fun b=>b=p) w w':=by
 have hlt:=lt_of_block hp;have c0:w.cell? ⟨p,0,none⟩=some (.slice ao 1000 a):=by rw [cell_of_row w p 0 _ _ _ hp];rfl
 have c1:w.cell? ⟨p,1,none⟩=some (.int .i64 n):=by rw [cell_of_row w p 1 _ _ _ hp];rfl
 have c2:w.cell? ⟨p,2,none⟩=some (.int .u64 s):=by rw [cell_of_row w p 2 _ _ _ hp];rfl
 have c:=World.new_ne w _ c2;have f:∀ j,w.frozen? ⟨p,j,none⟩=false:=fun j=>frozen_of_row w p j _ _ hp
 go_enter func210,ntmps210;go_wp2_with fail;go_region_held3 (fun w'=>w'.cell? ⟨w.heap.size,0,none⟩=some (.int .i64 k)/\w'.cell? ⟨w.heap.size,1,none⟩=some (.int .i64 x)/\w'.cell? ⟨w.heap.size,2,none⟩=some (.int .i64 y))
  (((try dsimp only);(repeat' apply And.intro) <;> first | (go_keep;done) | exact (zY w _ _ _ _ (by simp) _).trans rfl))
  (first
   | (go_at_call 245;refine (H9 r (k,x,y) _ _ ?_).mono ?_;(first | exact cH (heap_alloc2_new _ _ _) | exact heap_alloc2_new _ _ _ | exact Go.heap_alloc_new _ _ | (simp;done));rintro e w' ⟨rfl,rfl⟩)
   | (go_at_call 53;refine (BI p (.slice ao 1000 a) n s r _ ?_ hr).mono ?_;(first | exact cH (au hp) | exact cH (au (au hp)) | exact au (cH (au hp)));rintro e w' ⟨rfl,rfl⟩))
 all_goals
  go_wp2;go_end0
  refine ⟨rfl,?_,?_⟩
  ·rw [Int.natCast_add];exact cH (au (au (Ew hp _ _)))
  ·exact (((((aj (fun b=>b=p) w).setCell ⟨p,2,none⟩ (fun _=>rfl) _).setCell ⟨p,1,none⟩ (fun _=>rfl) _).alloc _).alloc _).drew

attribute [local go_sem ↓] Go.wp_at_zero Go.wp_at_succ

theorem pH {w:World} {base size n:Nat} {e t:TypeId} {v:Value} {xs:List Value} {p:Nat} {cs:Array Value} {fr:Nat × Nat} (h:w.ownsRow base e size v n xs) (hp:w.heap[p]? = some (.cells cs t fr)) (ht:t≠e):some p≠v.ownBlock:=by
 intro he;rcases h.2 with ⟨rfl,_⟩ | ⟨g',cap,cur,rfl,_,hgg,_⟩
 ·cases he
 ·have:p=g':=by simpa [Value.ownBlock] using he
  subst this;rw [hp] at hgg;simp only [ik,Obj.cells.injEq] at hgg;exact ht hgg.2.1

theorem nC {W:World} {bx j p i:Nat} {u:Value} (h:W.cell? ⟨bx,j,none⟩=some u) (b:bx≠p) (z:Value) (B:Obj):((W.setCell ⟨p,i,none⟩ z).alloc B).drew.cell? ⟨bx,j,none⟩=some u:=by
 have hlt:bx<W.heap.size:=World.block_lt_of_cell? W _ h;have e:((W.setCell ⟨p,i,none⟩ z).alloc B).drew.heap[bx]? = W.heap[bx]?:=(Below.heap_alloc _ _ _ (by simpa using hlt)).trans (Below.heap_setCell W _ z bx b);exact (World.cell?_of_block (a:=⟨bx,j,none⟩) e).trans h

theorem uU {w w1:World} {p m:Nat} {v u c s:Value} {A B:Array Value} {xs:List Value} {t:TypeId} (hp:w.heap[p]? = some (.cells #[v,c,s] t (0,0)))
  (a:((w.alloc (.cells A 142)).alloc (.cells B 142)).drew.grownBy w1 v.ownBlock) (f:w1.heap[p]? = some (.cells #[v,c,s] t (0,0)))
  (ho:w1.ownsRow 0 142 3 u m xs) (d:∀ b,v.ownBlock=some b->b<w.heap.size) (ht:t≠142:=by decide) :
  (w1.setCell ⟨p,0,none⟩ u).heap[p]? = some (.cells #[u,c,s] t (0,0))/\(w1.setCell ⟨p,0,none⟩ u).heap[w.heap.size]? = some (.cells A 142 (0,0)) /\
   (w1.setCell ⟨p,0,none⟩ u).ownsRow 0 142 3 u m xs/\Kept (fun b=>b=p\/v.ownBlock=some b) w (w1.setCell ⟨p,0,none⟩ u)/\w.heap.size<(w1.setCell ⟨p,0,none⟩ u).heap.size:=by
 have hlt:=lt_of_block hp;have hs:=a.size;have h:w.heap.size+2<=w1.heap.size:=by simpa using hs
 have g:some w.heap.size≠v.ownBlock:=fun e=>by have:=d _ e.symm;omega
 refine ⟨?_,?_,ownsRow_setCell_other ho (fun e=>pH ho f ht e.symm) _,?_,by simp;omega⟩
 ·simpa using heap_setCell_same w1 p 0 _ _ u f
 ·refine fM ?_ (by simp;omega) _;rw [a.block w.heap.size (by simp;omega) g];exact cH (heap_alloc2_old w _ _)
 ·exact (((((aj (fun b=>b=p\/v.ownBlock=some b) w).alloc _).alloc _).drew).grown a (fun k hk _=>.inr hk)).setCell ⟨p,0,none⟩ (fun _=>.inl rfl) _

theorem Bq {W:World} {p m:Nat} {v:Value} {cs:Array Value} {xs:List Value} {t:TypeId} (hp:W.heap[p]? = some (.cells cs t (0,0))) (ho:W.ownsRow 0 142 3 v m xs) (u1 u2:Value) (B:Obj) (ht:t≠142:=by decide) :
  (((W.setCell ⟨p,2,none⟩ u2).setCell ⟨p,1,none⟩ u1).alloc B).drew.ownsRow 0 142 3 v m xs:=
 ((ownsRow_setCell_other (ownsRow_setCell_other ho (a:=⟨p,2,none⟩) (fun e=>pH ho hp ht e.symm) u2) (a:=⟨p,1,none⟩) (fun e=>pH ho hp ht e.symm) u1).alloc B).drew

theorem uW (p:Nat) (v:Value) (ao:Option Addr) (h n:Nat) (xs:List Value) (s r k x y:Int) (w:World) (hn:n<1000) (hv:v=.slice ao n h)
  (hp:w.heap[p]? = some (.cells #[v,.int .i64 n,.int .u64 s] 100 (0,0))) (c:w.ownsRow 0 142 3 v n xs) (hr:(n=0/\r=14695981039346656037)\/(n≠0/\r=s)) :
  Calls prog 210 #[.pointer (some ⟨p,0,none⟩),.agg #[.int .i64 k,.int .i64 x,.int .i64 y]] w fun e w'=>e=.returned (.tuple #[]) /\
   ∃ g c',w'.heap[p]? = some (.cells #[.slice (some ⟨g,0,none⟩) (n+1) c',.int .i64 (n+1:Nat),.int .u64 (yJ r (k,x,y))] 100 (0,0)) /\
    w'.ownsRow 0 142 3 (.slice (some ⟨g,0,none⟩) (n+1) c') (n+1) (xs ++ rg (k,x,y))/\(v.ownBlock=some g\/w.heap.size<=g)/\Kept (fun b=>b=p\/v.ownBlock=some b) w w':=by
 subst hv;obtain ⟨i0,B,D,E,F⟩:=info_parts Tryz.info142;have hlt:=lt_of_block hp;have l:∀ b,(Value.slice ao n h).ownBlock=some b->b<w.heap.size:=fun b hb=>(c.lt b hb).2
 have J:(Value.slice ao n h).ownBlock≠some w.heap.size:=fun e=>by have:=l _ e;omega
 have c0:w.cell? ⟨p,0,none⟩=some (.slice ao n h):=by rw [cell_of_row w p 0 _ _ _ hp];rfl
 have z:=World.new_ne w _ c0;have f:∀ j,w.frozen? ⟨p,j,none⟩=false:=fun j=>frozen_of_row w p j _ _ hp
 have C:some p≠(Value.slice ao n h).ownBlock:=pH c hp (by decide);have M:(n:Int)<1000:=by omega
 go_enter func210,ntmps210;go_wp2_with fail
 go_region_law ((refine step_append_lies _ (by rfl) _ _ _ (by rfl) 0 142 i0 _ 3 24 underlying98 B D E F rfl (by omega) (.slice ao n h) n xs (by rfl) (((c.alloc _).alloc _).drew) ⟨w.heap.size+1,0,none⟩ 1 1 [.int .i64 k,.int .i64 x,.int .i64 y] (by rfl) (by rfl) (World.news_of_block (cs:=#[.int .i64 k,.int .i64 x,.int .i64 y]) (t:=142) (fr:=(0,0)) (heap_alloc2_new w _ _)) (by simp [Value.oneCell']) (by omega) (by unfold maxLen;omega) (by omega) (by simp) (w.heap.size+2) (by simp) ?_;intro gg c' w1 i a A G;have m:=(a.block p (by simp;omega) C).trans (cH (au (au hp)));have cp:=(cell_of_row w1 p 0 _ _ _ m).trans rfl;have fp:=frozen_of_row w1 p 0 _ _ m))
 all_goals
  go_wp2_with fail;obtain ⟨d,q,L,H,N⟩:=uU (u:=.slice (some ⟨gg,0,none⟩) (n+1) c') hp a m i l;have o:(Value.slice ao n h).ownBlock=some gg\/w.heap.size<=gg:=A.imp id (fun e=>by omega);clear i a m cp fp c hp c0 f A G C l J B D E F;generalize w1.setCell ⟨p,0,none⟩ (.slice (some ⟨gg,0,none⟩) (n+1) c')=W at *;clear w1;have b0:W.cell? ⟨w.heap.size,0,none⟩=some (.int .i64 k):=(cell_of_row W _ 0 _ _ _ q).trans rfl;have b1:W.cell? ⟨w.heap.size,1,none⟩=some (.int .i64 x):=(cell_of_row W _ 1 _ _ _ q).trans rfl;have b2:W.cell? ⟨w.heap.size,2,none⟩=some (.int .i64 y):=(cell_of_row W _ 2 _ _ _ q).trans rfl
  have c1:W.cell? ⟨p,1,none⟩=some (.int .i64 n):=by rw [cell_of_row W p 1 _ _ _ d];rfl
  have c2:W.cell? ⟨p,2,none⟩=some (.int .u64 s):=by rw [cell_of_row W p 2 _ _ _ d];rfl
  have f:∀ j,W.frozen? ⟨p,j,none⟩=false:=fun j=>frozen_of_row W p j _ _ d
  have I:=lt_of_block d;generalize hbx:w.heap.size=bx at *;have HB:Hid (w.heap.size=bx):=hbx;clear hbx;go_region_held3 (fun w'=>w'.cell? ⟨bx,0,none⟩=some (.int .i64 k)/\w'.cell? ⟨bx,1,none⟩=some (.int .i64 x)/\w'.cell? ⟨bx,2,none⟩=some (.int .i64 y))
   (((try dsimp only);(repeat' apply And.intro) <;> first | (go_keep;done) | exact nC b0 z _ _ | exact nC b1 z _ _ | exact nC b2 z _ _))
   (first
    | (go_at_call 245;refine (H9 r (k,x,y) _ _ ?_).mono ?_;(first | exact cH (Go.heap_alloc_new _ _) | exact Go.heap_alloc_new _ _ );rintro e w' ⟨rfl,rfl⟩)
    | (go_at_call 53;refine (BI p (.slice (some ⟨gg,0,none⟩) (n+1) c') n s r _ ?_ hr).mono ?_;(first | exact cH d | exact cH (au d) | exact au (cH d));rintro e w' ⟨rfl,rfl⟩))
  all_goals
   go_wp2;go_end0
   refine ⟨rfl,gg,c',?_,?_,by rw [HB.out];exact o,?_⟩
   ·rw [Int.natCast_add];exact cH (au (Ew d _ _))
   ·exact Bq d L _ _ _
   ·exact H.trans (((((aj (fun b=>b=p\/(Value.slice ao n h).ownBlock=some b) W).setCell ⟨p,2,none⟩ (fun _=>.inl rfl) _).setCell ⟨p,1,none⟩ (fun _=>.inl rfl) _).alloc _).drew)

def Ef (e:Ev):Value:=.agg #[.int .i64 e.1,.int .i64 e.2.1,.int .i64 e.2.2]

theorem BH {l:List Ev} {s:Int} (hs:l≠[]->s=mL l):(l.length=0/\mL l=14695981039346656037)\/(l.length≠0/\mL l=s):=by
 by_cases h:l=[]
 ·subst h;exact .inl ⟨rfl,rfl⟩
 ·exact .inr ⟨fun e=>h (jZ e),(hs h).symm⟩

theorem BJ (l:List Ev) (h:l.length<1000):l.take 1000=l:=dJ (by omega)

theorem pJ (l:List Ev) (e:Ev) (h:l.length<1000):(l ++ [e]).take 1000=l ++ [e]:=dJ (by simp;omega)

theorem pI (l:List Ev) (e:Ev) (h:1000<=l.length):(l ++ [e]).take 1000=l.take 1000:=List.take_append_of_le_length h

theorem FX (o:Tr) (e:Ev) (w:World) (h:TrIn w o) :
  Calls prog 210 #[aL o,Ef e] w fun r w'=>r=.returned (.tuple #[])/\Wrote w [e] w' o:=by
 obtain ⟨k,x,y⟩:=e;cases o with
 | none=>
  refine (zt k x y w).mono ?_;rintro r w' ⟨rfl,rfl⟩;exact ⟨rfl,(aj af w).alloc _⟩
 | some q=>
  obtain ⟨p,g,l⟩:=q;obtain ⟨⟨v,s,hp,hg,hr,hs⟩,hl⟩:=h;by_cases hf:l.length<1000
  ·have ht:=BJ l hf;unfold EvRow at hr;rw [ht] at hr;obtain ⟨ao,c,hv⟩:=dg hr;refine (uW p v ao c l.length (gY l) s (mL l) k x y w hf hv hp hr (BH hs)).mono ?_;rintro r w' ⟨rfl,g',c',d,i,f,hk⟩;refine ⟨rfl,?_⟩;rw [hg] at f hk;refine ⟨hk,some g',⟨_,_,by simpa using d,rfl,?_,fun _=>(oZ l _).symm⟩,?_⟩
   ·unfold EvRow;rw [pJ l _ hf,kH];simpa [gY] using i
   ·rcases f with h | h
    ·exact .inl h.symm
    ·exact .inr ⟨g',rfl,h⟩
  ·have a:(l.take 1000).length=1000:=by rw [aO];omega
   have j:w.ownsRow 0 142 3 v 1000 (gY (l.take 1000)):=by rw [<- a];rw [a];unfold EvRow at hr;rw [a] at hr;exact hr
   obtain ⟨ao,c,rfl⟩:=dg j;refine (uV p ao c l.length s (mL l) k x y w hl hp (BH hs)).mono ?_;rintro r w' ⟨rfl,d,hk⟩;refine ⟨rfl,hk.mono (fun _ _ h=>.inl h),g,⟨_,_,by simpa using d,hg,?_,fun _=>(oZ l _).symm⟩,.inl rfl⟩;rw [pI l _ (by omega)];refine EvRow.kept hr hk fun b hb e=>?_
   subst e;exact pH hr hp (by decide) hb.symm

theorem Ia (o:Tr) (n:Int) (w:World) (h:TrIn w o) :
  Calls prog 150 #[aL o,.int .i64 n] w fun r w'=>r=.returned (.tuple #[])/\Wrote w [(1,n,0)] w' o:=by
 have hc:=FX o (1,n,0) w h;unfold Ef at hc;generalize aL o=tp at *;go_enter func150,ntmps150;go_wp2_with fail;refine hc.mono ?_;rintro e w' ⟨rfl,hw⟩;go_wp2;go_end0
 exact ⟨rfl,hw⟩

def Did (w:World) (o:Tr) (m:List Ev) (w':World) (o':Tr):Prop:=
 Kept (cN o) w w'/\((o=none/\o'=none)\/∃ p g l g',o=some (p,g,l)/\o'=some (p,g',l ++ m)/\IsTr w' p g' (l ++ m)/\(g'=g\/∃ x,g'=some x/\w.heap.size<=x))

def TrRoom (w:World) (o:Tr) (k:Nat):Prop:=TrIn w o/\(ol o).length+k<1000000000000

theorem TrRoom.none (w:World) (k:Nat) (hk:k<1000000000000):TrRoom w none k:=⟨trivial,by simp [ol];omega⟩

theorem TrRoom.less {w:World} {o:Tr} {k j:Nat} (h:TrRoom w o k) (hj:j<=k):TrRoom w o j:=⟨h.1,by have:=h.2;omega⟩

theorem TrRoom.grew {w w':World} {o:Tr} {k:Nat} (h:TrRoom w o k) (hk:Kept af w w'):TrRoom w' o k:=⟨h.1.grew hk,h.2⟩

theorem Did.kept {w w':World} {o o':Tr} {m:List Ev} (h:Did w o m w' o'):Kept (cN o) w w':=h.1

theorem Did.size {w w':World} {o o':Tr} {m:List Ev} (h:Did w o m w' o'):w.heap.size<=w'.heap.size:=h.1.size

theorem Did.ptr {w w':World} {o o':Tr} {m:List Ev} (h:Did w o m w' o'):aL o'=aL o:=by
 rcases h.2 with ⟨rfl,rfl⟩ | ⟨p,g,l,g',rfl,rfl,_⟩ <;> rfl

theorem Did.len {w w':World} {o o':Tr} {m:List Ev} (h:Did w o m w' o'):(ol o').length<=(ol o).length+m.length:=by
 rcases h.2 with ⟨rfl,rfl⟩ | ⟨p,g,l,g',rfl,rfl,_⟩
 ·simp
 ·simp [ol]

theorem Did.room {w w':World} {o o':Tr} {m:List Ev} {k:Nat} (h:Did w o m w' o') (hr:TrRoom w o (m.length+k)):TrRoom w' o' k:=by
 have hl:=h.len;have h2:=hr.2;refine ⟨?_,by omega⟩;rcases h.2 with ⟨rfl,rfl⟩ | ⟨p,g,l,g',rfl,rfl,ht,_⟩
 ·trivial
 ·exact ⟨ht,by simp only [ol] at hl;simp only [ol] at h2;rw [aZ];omega⟩

theorem Did.foot {w w':World} {o o':Tr} {m:List Ev} (h:Did w o m w' o') {b:Nat} (hb:b<w.heap.size) (hf:cN o' b):cN o b:=by
 rcases h.2 with ⟨rfl,rfl⟩ | ⟨p,g,l,g',rfl,rfl,_,hg⟩
 ·exact hf
 ·rcases hf with rfl | hf
  ·exact .inl rfl
  ·rcases hg with rfl | ⟨x,rfl,hx⟩
   ·exact .inr hf
   ·simp at hf;omega

theorem Did.trans {w w1 w2:World} {o o1 o2:Tr} {m m':List Ev} (h:Did w o m w1 o1) (k:Did w1 o1 m' w2 o2):Did w o (m ++ m') w2 o2:=by
 refine ⟨h.1.next k.1 (fun x hx hf=>h.foot hx hf),?_⟩;rcases h.2 with ⟨rfl,rfl⟩ | ⟨p,g,l,g',rfl,rfl,ht,hg⟩
 ·rcases k.2 with ⟨_,rfl⟩ | ⟨_,_,_,_,e,_⟩
  ·exact .inl ⟨rfl,rfl⟩
  ·cases e
 ·rcases k.2 with ⟨e,_⟩ | ⟨p2,g2,l2,g2',e,rfl,ht2,hg2⟩
  ·cases e
  ·simp only [ik,fi] at e;obtain ⟨rfl,rfl,rfl⟩:=e;refine .inr ⟨_,_,_,_,rfl,by rw [dr],by rw [<- dr];exact ht2,?_⟩;rcases hg2 with rfl | ⟨x,rfl,hx⟩
   ·exact hg
   ·exact .inr ⟨x,rfl,aR h.1.size hx⟩

theorem Did.of_kept {w w':World} {o:Tr} (h:Kept af w w') (ht:TrIn w o):Did w o [] w' o:=by
 refine ⟨h.any,?_⟩;cases o with
 | none=>exact .inl ⟨rfl,rfl⟩
 | some x=>
  obtain ⟨p,g,l⟩:=x;exact .inr ⟨p,g,l,g,rfl,by simp,by simpa using ht.1.grew h,.inl rfl⟩

theorem Did.grew {w w' w2:World} {o o':Tr} {m:List Ev} (h:Did w o m w' o') (k:Kept af w' w2):Did w o m w2 o':=by
 refine ⟨h.1.trans k.any,?_⟩;rcases h.2 with h1 | ⟨p,g,l,g',e1,e2,ht,hg⟩
 ·exact .inl h1
 ·exact .inr ⟨p,g,l,g',e1,e2,ht.grew k,hg⟩

theorem Did.after {a w w':World} {o o':Tr} {m:List Ev} (k:Kept af a w) (h:Did w o m w' o'):Did a o m w' o':=by
 refine ⟨k.any.trans h.1,?_⟩;rcases h.2 with h1 | ⟨p,g,l,g',e1,e2,ht,hg⟩
 ·exact .inl h1
 ·refine .inr ⟨p,g,l,g',e1,e2,ht,?_⟩;rcases hg with hg | ⟨x,e,hx⟩
  ·exact .inl hg
  ·exact .inr ⟨x,e,aR k.size hx⟩

theorem Did.of_wrote {w w':World} {o:Tr} {m:List Ev} (h:Wrote w m w' o):∃ o',Did w o m w' o':=by
 have hk:=h.kept;cases o with
 | none=>exact ⟨none,hk,.inl ⟨rfl,rfl⟩⟩
 | some x=>
  obtain ⟨p,g,l⟩:=x;obtain ⟨_,g',ht,hg⟩:=h;exact ⟨some (p,g',l ++ m),hk,.inr ⟨p,g,l,g',rfl,rfl,ht,hg⟩⟩

theorem Did.none {w w':World} {o':Tr} {m:List Ev} (h:Did w none m w' o'):o'=none/\Kept af w w':=by
 rcases h.2 with ⟨_,rfl⟩ | ⟨_,_,_,_,e,_⟩
 ·exact ⟨rfl,h.1.mono (fun _ _ f=>f)⟩
 ·cases e

def RowT (w:World) (o:Tr) (v:Value) (xs:List Nat):Prop:=Row .u64 w v xs/\(xs≠[]->∀ b,v.ownBlock=some b->¬ cN o b)

theorem RowT.none {w:World} {v:Value} {xs:List Nat} (h:Row .u64 w v xs):RowT w none v xs:=⟨h,fun _ _ _ f=>f⟩

theorem RowT.did {w w':World} {o o':Tr} {m:List Ev} {v:Value} {xs:List Nat} (h:RowT w o v xs) (d:Did w o m w' o'):RowT w' o' v xs:=
 ⟨h.1.kept' d.1 h.2,fun a b hb hf=>h.2 a b hb (d.foot (h.1.lt a b hb) hf)⟩

theorem RowT.grew {w w':World} {o:Tr} {v:Value} {xs:List Nat} (h:RowT w o v xs) (k:Kept af w w'):RowT w' o v xs:=⟨h.1.grew k,h.2⟩

theorem eG {w:World} {o:Tr} {base size n:Nat} {v:Value} {xs:List Value} (h:w.ownsRow base 24 size v n xs) (ht:TrIn w o):∀ b,v.ownBlock=some b->¬ cN o b:=by
 cases o with
 | none=>intro _ _ f;exact f
 | some x=>
  obtain ⟨p,g,l⟩:=x;obtain ⟨⟨u,s,hp,hg,hr,_⟩,_⟩:=ht;rcases h.2 with ⟨rfl,_⟩ | ⟨g',cap,cur,rfl,_,hgg,_⟩
  ·intro b hb;cases hb
  ·intro b hb hf;have e:g'=b:=by simpa [Value.ownBlock] using hb
   subst e;rcases hf with rfl | hf
   ·rw [hp] at hgg;simp at hgg
   ·rcases hr.2 with ⟨rfl,_⟩ | ⟨g2,cap2,cur2,rfl,_,hgg2,_⟩
    ·rw [<- hg] at hf;cases hf
    ·rw [<- hg] at hf;have e:g2=g':=by simpa [Value.ownBlock] using hf
     subst e;rw [hgg2] at hgg;simp at hgg

theorem aI {w:World} {o:Tr} {g:Nat} {cs:Array Value} {t:TypeId} {fr:Nat × Nat} (h:w.heap[g]? = some (.cells cs t fr)) (ht:TrIn w o) (h1:t≠100) (h2:t≠142):¬ cN o g:=by
 cases o with
 | none=>intro f;exact f
 | some x=>
  obtain ⟨p,g1,l⟩:=x;obtain ⟨⟨u,s,hp,hg,hr,_⟩,_⟩:=ht;intro hf;rcases hf with rfl | hf
  ·rw [hp] at h;simp only [ik,Obj.cells.injEq] at h;exact h1 h.2.1.symm
  ·rcases hr.2 with ⟨rfl,_⟩ | ⟨g2,cap2,cur2,rfl,_,hgg2,_⟩
   ·rw [<- hg] at hf;cases hf
   ·rw [<- hg] at hf;have e:g2=g:=by simpa [Value.ownBlock] using hf
    subst e;rw [hgg2] at h;simp only [ik,Obj.cells.injEq] at h;exact h2 h.2.1.symm

theorem fU {w:World} {o:Tr} {base n:Nat} {v:Value} {zs:List Nat} (h:OwnN .u64 24 w base v n zs) (hl:zs.length=n) (ht:TrIn w o):RowT w o v zs:=
 ⟨Row.of_own (base:=base) (e:=24) (by rw [hl];exact h),fun _=>eG h ht⟩

theorem Did.wroteNew {w w' w2:World} {o o':Tr} {m:List Ev} {h:Nat} (d:Did w o m w' o') (k:Kept (fun b=>b=h) w' w2) (hh:w.heap.size<=h) (hf:¬ cN o' h):Did w o m w2 o':=by
 refine ⟨d.1.next k (fun x hx e=>by omega),?_⟩;rcases d.2 with h1 | ⟨p,g,l,g',e1,e2,ht,hg⟩
 ·exact .inl h1
 ·subst e2;exact .inr ⟨p,g,l,g',e1,rfl,ht.kept k (fun e=>hf (.inl e.symm)) (fun x hx e=>hf (.inr (by rw [<- e];exact hx))),hg⟩

theorem fz (o:Tr) (n:Int) (w:World) (h:TrIn w o) :
  Calls prog 150 #[aL o,.int .i64 n] w fun r w'=>r=.returned (.tuple #[])/\∃ o',Did w o [(1,n,0)] w' o':=by
 refine (Ia o n w h).mono ?_;rintro r w' ⟨rfl,hw⟩;exact ⟨rfl,Did.of_wrote hw⟩

def U64s (w:World) (v:Value):Prop:=∀ b,v.ownBlock=some b->∃ cs fr,w.heap[b]? = some (.cells cs 24 fr)

theorem U64s.own {w:World} {base n:Nat} {v:Value} {zs:List Nat} (h:OwnN .u64 24 w base v n zs):U64s w v:=by
 intro b hb;rcases h.2 with ⟨rfl,_⟩ | ⟨g',cap,cur,rfl,_,hgg,_⟩
 ·cases hb
 ·have e:g'=b:=by simpa [Value.ownBlock] using hb
  subst e;exact ⟨_,_,hgg⟩

theorem U64s.kept {S:Nat->Prop} {w w':World} {v:Value} (h:U64s w v) (k:Kept S w w') (hS:∀ b,v.ownBlock=some b->¬ S b):U64s w' v:=by
 intro b hb;obtain ⟨cs,fr,hg⟩:=h b hb;exact ⟨cs,fr,(k.block _ (lt_of_block hg) (hS b hb)).trans hg⟩

theorem U64s.grew {w w':World} {v:Value} (h:U64s w v) (k:Kept af w w'):U64s w' v:=h.kept k (fun _ _ f=>f)

theorem U64s.nil (w:World):U64s w (.slice none 0 0):=fun b hb=>by cases hb

theorem U64s.rowT {w:World} {o:Tr} {v:Value} {xs:List Nat} (h:U64s w v) (hr:Row .u64 w v xs) (ht:TrIn w o):RowT w o v xs:=
 ⟨hr,fun _ b hb=>by
  obtain ⟨cs,fr,hg⟩:=h b hb;exact aI hg ht (by decide) (by decide)⟩

theorem U64s.did {w w':World} {o o':Tr} {m:List Ev} {v:Value} (h:U64s w v) (d:Did w o m w' o') (ht:TrIn w o):U64s w' v:=
 h.kept d.kept (fun b hb=>by
  obtain ⟨cs,fr,hg⟩:=h b hb;exact aI hg ht (by decide) (by decide))

open Go.RowKit Go.Shelf

theorem uN {P:Program} {o:Oper} {a:Act} {w:World} {l n:Nat} {K:Act->World->Prop} {Q:Exit->Act->World->Prop} (hd:∀ c,o.op≠.defer c) (h:o.wp P a w K Q):o.wpIn (Fence.wide.inRound l) n P a w K Q:=by
 refine ⟨fun _ _=>trivial,?_⟩;rw [show (Fence.wide.inRound l).round=some l from rfl,Oper.semAt_some l a.eval o hd];unfold Oper.wp at h;generalize (execOp a.eval o).run P w=r at *;cases r with
 | ok x w'=>
  cases x with
  | enter f args=>exact ⟨fun e=>(by cases e),CallsIn.inRound l (callsIn_wide.2 h)⟩
  | row row args=>exact ⟨fun e=>(by cases e),fun c cs _=>let ⟨v,w'',r,s⟩:=h c cs;⟨v,w'',r,stepsIn_wide.2 s⟩⟩
  | round l f tmps assign body=>exact h.elim
  | _=>exact h
 | halt x w'=>cases x <;> exact h

def oI (ops:Array Oper):Bool:=ops.toList.all fun o=>match o.op with | .defer _=>false | _=>true

theorem uK {ops:Array Oper} (h:oI ops=true) {i:Nat} {o:Oper} (ho:ops[i]? = some o):∀ c,o.op≠.defer c:=by
 intro c e;unfold oI at h;rw [List.all_eq_true] at h;have hm:o ∈ ops.toList:=by
  rw [Array.mem_toList_iff];exact Array.mem_of_getElem? ho
 have:=h o hm;rw [e] at this;cases this

theorem jo {P:Program} {md:Region.Mode} {ops:Array Oper} {Q:Exit->Act->World->Prop} {l n:Nat} (d:oI ops=true) (c:¬ LetsOut Q):∀ (fuel:Nat) (b:Array Bool) (a:Act) (w:World),wpAny P md ops Q fuel b a w->wpAnyIn (Fence.wide.inRound l) n P md ops Q fuel b a w
 | 0,_,_,_,h=>h
 | fuel+1,b,a,w,h=>⟨h.1,fun i hi=>by
  have h2:=h.2 i hi;unfold wpOp at h2;unfold wpOpIn;cases ho:ops[i]? with
  | none=>
   rw [ho] at h2;exact jo d c fuel _ a w h2
  | some o=>
   rw [ho] at h2;dsimp only at h2 ⊢
   split
   ·rename_i hw
    rw [ah hw] at h2;rcases h2 with h2 | h2
    ·exact Oper.wpIn_mono (fun a w=>jo d c fuel _ a w) (uN (uK d ho) h2)
    ·exact absurd h2.2 c
   ·rename_i hw
    rw [ai hw] at h2;exact ⟨fun _ _=>trivial,jo d c fuel _ _ w h2⟩⟩

theorem rO {P:Program} {ops:Array Oper} {Q:Exit->Act->World->Prop} {S:World->Prop} {l n id:Nat} {a:Act} {w:World} (hm:P.follows .mixedOrders=true) (c:oI ops=true) (b:¬ LetsOut Q)
  (h:wpAnyH P .any ops Q S ops.size (Array.replicate ops.size false) a w.drew):(Code.region id ops true).wpIn (Fence.wide.inRound l) n P Q a w:=
 wpIn_region_any hm (jo c b _ _ _ _ (wpAny_of_held _ _ _ _ h))

theorem iy {P:Program} {ops:Array Oper} {o:Oper} {a:Act} {w:World} {K:Act->World->Prop} {Q:Exit->Act->World->Prop} {E:Prop} (f:Nat) (args:List Operand) (d:Array TypeId) (b:List Value) (hg:o.guard=none)
  (ho:o.op=.call { callee:=.value (.func f),args:=args.toArray,argTypes:=d }) (hv:args.map a.eval=b) (he:∀ args w,(callFunc f args).run P w=.ok (.enter f args) w) {R:Ending->World->Prop} (hc:Calls P f b.toArray w R)
  (h:∀ e w',R e w'->∃ v,e=.returned v/\K (a.put o.dst v) w') :
  if Region.wanted o (yielded ops a.tmps)=true then Oper.wp P o a w K Q else E:=by
 have hw:Region.wanted o (yielded ops a.tmps)=true:=by simp [Region.wanted,hg]
 rw [ah hw];have c:Calls P f b.toArray w fun
   | .returned v,w''=>K (a.put o.dst v) w''
   | .panicked chain,w''=>Q (.panic chain) a w''
   | .outgrown,_=>LetsOut Q:=hc.mono (fun e w' r=>by
  obtain ⟨v,rfl,hk⟩:=h e w' r;exact hk)
 unfold Oper.wp;simp [execOp,ho,resolve,invoke,hv,he,go_sem];exact c

end Go.Proofs.YtkaojflnghfmcaaGreatDoor
