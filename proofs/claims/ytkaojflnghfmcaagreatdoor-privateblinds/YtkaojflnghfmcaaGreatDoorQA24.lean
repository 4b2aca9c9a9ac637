/- Put together of: Lsc4 Lsc5 Nob1 Lsc6. -/
import Derived.Test.YtkaojflnghfmcaaGreatDoorQA23
import Derived.Laws.OwnMore

namespace Go.Proofs.YtkaojflnghfmcaaGreatDoor
set_option maxRecDepth 100000
set_option maxHeartbeats 4000000
open Go.RowKit Go.Shelf

attribute [local go_sem] Oper.semAt_some

theorem rF {x:Nat} {r:List Nat} (hr:Digs r 256) {t s:Nat} (hs:s<8) (ht:t+s=8*(r.length+1)):bev (x%2^(8-s) :: r)=bev (x :: r)%2^t:=by
 have e:∀ y,bev (y :: r)=y*256^r.length+bev r:=fun y=>by
  have:=iW [y] r;simpa [bev] using this
 have hp:2^t=256^r.length*2^(8-s):=by
  rw [show (256:Nat)=2^8 from rfl,← Nat.pow_mul,← Nat.pow_add]
  congr 1
  omega
 have hl:=ik hr;have a:0<256^r.length:=Nat.pow_pos (by omega);rw [e,e,hp,Nat.mod_mul,Nat.mul_comm x,Nat.mul_add_mod,ak hl,Nat.mul_add_div a,Nat.div_eq_of_lt hl,Nat.add_zero,Nat.mul_comm (x%_)];omega

theorem ru {x s:Nat} (hs:s<8):x &&& (255/2^s)=x%2^(8-s):=by
 have e:255/2^s=2^(8-s)-1:=by
  obtain rfl | rfl | rfl | rfl | rfl | rfl | rfl | rfl:s=0∨s=1∨s=2∨s=3∨s=4∨s=5∨s=6∨s=7:=by omega
  all_goals rfl
 rw [e,Nat.and_two_pow_sub_one_eq_mod]

def j8 (t z:Nat) (bs:List Nat) (k:Nat):Nat:=bev ((bs.drop (k*z)).take z)%2^t

def DrwX (p:Option Addr) (B t z L:Nat) (bs:List Nat) (N:Nat) (pre:List (Nat × Value)) (x:Nat × Value) (A:World):Prop:=
 x.1=pre.length+1∧(pre.length+1)*z≤bs.length∧(Row .u64 A x.2 (digs (j8 t z bs pre.length) L)∧∀ b,x.2.ownBlock=some b→N≤b)∧Lsc A p B (bs.drop ((pre.length+1)*z))

def Bo (p:Option Addr) (B z:Nat) (bs:List Nat) (s:List (Nat × Value)) (A:World):Prop:=s.length*z≤bs.length∧bs.length<(s.length+1)*z∧Lsc A p B []

theorem DrwX.put {p:Option Addr} {B t z L l N:Nat} {bs:List Nat} {a:List (Nat × Value)} {x:Nat × Value} {A:World} {o:Obj} (o':Obj) (h:DrwX p B t z L bs N a x A) (hl:A.heap[l]? = some o) (ho:o.isCells=false):DrwX p B t z L bs N a x (A.putObj l o'):=
 ⟨h.1,h.2.1,⟨l7 o' h.2.2.1.1 hl ho,h.2.2.1.2⟩,h.2.2.2.put o' hl ho⟩

theorem Ab (p:Option Addr) (t n:Nat) (w:World) (ht:t≤1000000) :
  Calls Tryz.prog 131 #[.pointer p,.int .i64 (t:Int),.int .i64 (n:Int)] w fun e w'=>e=.returned (.func (.func 186) #[] #[.pointer (some ⟨w.heap.size,0,none⟩),.pointer (some ⟨w.heap.size+3,0,none⟩),.pointer (some ⟨w.heap.size+1,0,none⟩),.pointer (some ⟨w.heap.size+2,0,none⟩)]) ∧
   Boxed w' w.heap.size 39 (.pointer p)∧Boxed w' (w.heap.size+1) 3 (.int .i64 (t:Int))∧Boxed w' (w.heap.size+2) 3 (.int .i64 (n:Int))∧Boxed w' (w.heap.size+3) 3 (.int .i64 ((t+7)/8:Nat))∧Kept af w w'∧w'.heap.size=w.heap.size+4:=by
 obtain ⟨z,hz⟩:∃ z,z=(t+7)/8:=⟨_,rfl⟩
 rw [← hz];have g1:((t:Int)+8-1)/8=(z:Int):=by omega
 have g2:((t:Int)+8-1).tdiv 8=(z:Int):=by rw [Int.tdiv_eq_ediv_of_nonneg (by omega)];exact g1
 have b0:=(((Boxed.new w 39 (.pointer p)).alloc (.cells #[.int .i64 (t:Int)] 3)).alloc (.cells #[.int .i64 (n:Int)] 3)).alloc (.cells #[.int .i64 (z:Int)] 3);have b1:=((Boxed.new (w.alloc (.cells #[.pointer p] 39)) 3 (.int .i64 (t:Int))).alloc (.cells #[.int .i64 (n:Int)] 3)).alloc (.cells #[.int .i64 (z:Int)] 3);have b2:=(Boxed.new ((w.alloc (.cells #[.pointer p] 39)).alloc (.cells #[.int .i64 (t:Int)] 3)) 3 (.int .i64 (n:Int))).alloc (.cells #[.int .i64 (z:Int)] 3);have b3:=Boxed.new (((w.alloc (.cells #[.pointer p] 39)).alloc (.cells #[.int .i64 (t:Int)] 3)).alloc (.cells #[.int .i64 (n:Int)] 3)) 3 (.int .i64 (z:Int));simp only [World.size_alloc] at b1 b2 b3
 have c1:((w.alloc (.cells #[.pointer p] 39)).alloc (.cells #[.int .i64 (t:Int)] 3)).cell? ⟨w.heap.size+1,0,none⟩=some (.int .i64 (t:Int)):=by
  have:=(Boxed.new (w.alloc (.cells #[.pointer p] 39)) 3 (.int .i64 (t:Int))).cell
  rwa [World.size_alloc] at this
 have f:=(((Boxed.new (w.alloc (.cells #[.pointer p] 39)) 3 (.int .i64 (t:Int))).alloc (.cells #[.int .i64 (n:Int)] 3)).cell)
 rw [World.size_alloc] at f;have a:=aa b0;have b:=aa b1;have c:=aa b2;have d:=aa b3;have c3:=b3.cell;have f3:=b3.frozen;clear hz b0 b1 b2 b3;go_enter Tryz.func131,Tryz.ntmps131;go_wp2_with fail;go_ret;exact ⟨rfl,a.out,b.out,c.out,d.out,((((ah af w).alloc _).alloc _).alloc _).alloc _,by simp⟩

structure BtwD (W wr:World) (p:Option Addr) (B z k bp bz bt bn t L:Nat) (bs:List Nat):Prop where
 few:k*z≤bs.length
 scr:Lsc wr p B (bs.drop (k*z))
 pb:Boxed wr bp 39 (.pointer p)
 zb:Boxed wr bz 3 (.int .i64 (z:Nat))
 tb:Boxed wr bt 3 (.int .i64 (t:Nat))
 nb:Boxed wr bn 3 (.int .i64 (L:Nat))
 size:W.heap.size≤wr.heap.size

theorem BtwD.kept {S:Nat→Prop} {W wr w':World} {p:Option Addr} {B z k bp bz bt bn t L:Nat} {bs:List Nat} (b:BtwD W wr p B z k bp bz bt bn t L bs) (kk:Kept S wr w') (hB:∀ x,x<B→¬ S x) (h1:¬ S bp) (h2:¬ S bz) (h3:¬ S bt) (h4:¬ S bn):BtwD W w' p B z k bp bz bt bn t L bs:=
 ⟨b.few,b.scr.kept kk hB,cj b.pb kk h1,cj b.zb kk h2,cj b.tb kk h3,cj b.nb kk h4,Nat.le_trans b.size kk.size⟩

theorem BtwD.next {S:Nat→Prop} {W wr w':World} {p:Option Addr} {B z k bp bz bt bn t L:Nat} {bs:List Nat} (b:BtwD W wr p B z k bp bz bt bn t L bs) (kk:Kept S wr w') (hf:(k+1)*z≤bs.length) (hs:Lsc w' p B (bs.drop ((k+1)*z))) (h1:¬ S bp) (h2:¬ S bz) (h3:¬ S bt) (h4:¬ S bn):BtwD W w' p B z (k+1) bp bz bt bn t L bs:=
 ⟨hf,hs,cj b.pb kk h1,cj b.zb kk h2,cj b.tb kk h3,cj b.nb kk h4,Nat.le_trans b.size kk.size⟩

theorem xH (n:Nat) (hn:1≤n) (p:Option Addr) (B t z s L bp bz bt bn:Nat) (bs:List Nat) (w:World) (Sb:Nat→Prop) (hz:1≤z) (al:t+s=8*z) (ai:s<8) (hL:L≤300) (aH:t≤64*L)
  (I:Lsc w p B bs) (hd:Digs bs 256) (hp:Boxed w bp 39 (.pointer p)) (U:Boxed w bz 3 (.int .i64 (z:Nat))) (S:Boxed w bt 3 (.int .i64 (t:Nat))) (P:Boxed w bn 3 (.int .i64 (L:Nat)))
  (hB:B≤w.heap.size) (lp:B≤bp) (lz:B≤bz) (lt:B≤bt) (ln:B≤bn) (hSb:∀ b,Sb b→B≤b∧b<w.heap.size) (sp:¬ Sb bp) (sz:¬ Sb bz) (st:¬ Sb bt) (sn:¬ Sb bn) :
  Ah n Tryz.prog 186 #[.pointer (some ⟨bp,0,none⟩),.pointer (some ⟨bz,0,none⟩),.pointer (some ⟨bt,0,none⟩),.pointer (some ⟨bn,0,none⟩)] (fun x:Nat × Value=>#[.int .i64 (x.1:Nat),x.2]) (DrwX p B t z L bs w.heap.size) Sb (ofP p) (Bo p B z bs) w:=by
 rintro l J Jx W o ag ak hJ hY h0;have ap:=hp.lt;have au:=U.lt;have ar:=S.lt;have ao:=P.lt;have H0:Hid (BtwD W W p B z 0 bp bz bt bn t L bs):=⟨by omega,by rw [Nat.zero_mul];exact I.grew o,fH hp o,fH U o,fH S o,fH P o,leR _⟩
 have aN:=I.len;have HD:=aa hd;have V:=aa h0;have G:Hid (∀ x,ofP p x→x<B):=fun x hx=>(I.inP hx).1
 have c:Hid (B≤w.heap.size∧B≤bp∧B≤bz∧B≤bt∧B≤bn∧bp<w.heap.size∧bz<w.heap.size∧bt<w.heap.size∧bn<w.heap.size∧l=w.heap.size+1∧W.heap.size=w.heap.size+2):=⟨hB,lp,lz,lt,ln,ap,au,ar,ao,ag,ak⟩
 have A:Hid (t+s=8*z∧t≤64*L∧1≤z):=⟨al,aH,hz⟩
 have gs:(8:Int)*(z:Int)-(t:Int)=(s:Int):=by omega
 obtain ⟨y,hy⟩:∃ y,y=255/2^s:=⟨_,rfl⟩
 have gy:(255:Int)/2^s=(y:Int):=by rw [hy];simp
 have aI:y<256:=by rw [hy];exact Nat.lt_of_le_of_lt (Nat.div_le_self _ _) (by omega)
 have HY:=aa hy;have aL:(0:Int)≤(s:Int):=by omega
 have U:z≤2401:=by omega
 clear I hd hp S P o h0 hB lp lz lt ln ap au ar ao ag ak hy;refine callsIn_of_wp Tryz.func186 rfl trivial ?_ rfl;simp only [Tryz.ntmps186,List.size_toArray,List.length_cons,List.length_nil,Nat.reduceAdd,Nat.reduceSub,Array.replicate_succ,Array.replicate_zero,List.push_toArray,List.append_toArray,List.nil_append,List.cons_append];refine wpIn_wide.2 ?_;go_wp2_with fail;refine (wpIn_wide (n:=n)).1 ?_
 gi_loopw [6] (fun iv wr=>∃ (k:Nat) (m:List (Nat × Value)),iv=.int .i64 ((k+1:Nat):Int)∧Hid (m.length=k)∧Hid (J m wr)∧Hid (BtwD W wr p B z k bp bz bt bn t L bs)) (fun iv _=>1000002-(intOf iv).toNat)
 case atStart=>exact ⟨0,[],rfl,rfl,V.out,H0.out⟩
 case round=>
  clear V H0;obtain ⟨k,m,rfl,HP,HJ,HB⟩:=hrel;obtain ⟨j,hj⟩:∃ j,j=k+1:=⟨_,rfl⟩
  rw [← hj];have Z:=aa hj;have aR:k≤1000000:=by
   have h1:=HB.out.few;have h2:k*1≤k*z:=Nat.mul_le_mul_left _ A.out.2.2;omega
  have aQ:j≤1000001:=by omega
  have gj:IntKind.i64.wrap ((j:Int)+1)=(j:Int)+1:=by rw [IntKind.wrap_i64];omega
  clear hj;have J1:=Bk p B (bs.drop (k*z)) z wr HB.out.scr;have cp:=HB.out.pb.cell;have cz:=HB.out.zb.cell;by_cases hlen:(bs.drop (k*z)).length<z
  ·have t1:bu (bs.drop (k*z)) (z:Int)=150:=by unfold bu;rw [if_neg (by omega),if_pos (by omega)]
   have t2:cK (bs.drop (k*z)) (z:Int)=[]:=by unfold cK;rw [if_neg (by omega)];exact List.drop_of_length_le (by show _≤((z:Int)).toNat;omega)
   rw [t1,t2] at J1;have ax:Hid (bs.length<(k+1)*z):=by unfold Hid;rw [List.length_drop] at hlen;rw [Nat.succ_mul];have:=HB.out.few;omega
   clear t1 t2 hlen
   gi_wp2_with fail
   refine ⟨trivial,?_⟩;refine (callsIn_wide.2 J1).mono ?_;rintro e w3 ⟨u,rfl,hO,h3,k3⟩;have F:=aa (hJ _ _ _ HJ.out (k3.mono fun _ _ e=>.inl e));obtain ⟨xo,xc,rfl⟩:=aW hO;have ay:=aa h3;clear J1 hO h3 k3
   gi_wp2_with fail
   refine bodyPost_ret (results_none rfl _ _ _) rfl ?_;exact ⟨⟨_,rfl⟩,.inl ⟨m,⟨by rw [HP.out];exact HB.out.few,by rw [HP.out];exact ax.out,ay.out⟩,F.out⟩⟩
  ·have t1:bu (bs.drop (k*z)) (z:Int)=0:=by unfold bu;rw [if_neg (by omega),if_neg (by omega)]
   have D:(k+1)*z≤bs.length:=by rw [List.length_drop] at hlen;rw [Nat.succ_mul];have:=HB.out.few;omega
   have t2:cK (bs.drop (k*z)) (z:Int)=bs.drop ((k+1)*z):=by unfold cK;rw [if_neg (by omega),List.drop_drop,Nat.succ_mul];rfl
   have t3:cN (bs.drop (k*z)) (z:Int)=(bs.drop (k*z)).take z:=by unfold cN;rw [t1];rfl
   rw [t1,t2,t3] at J1;obtain ⟨x0,tl,E⟩:∃ x0 tl,(bs.drop (k*z)).take z=x0 :: tl:=by
    cases hc:(bs.drop (k*z)).take z with
    | nil=>
     have e1:=congrArg List.length hc;rw [List.length_take] at e1;have e2:([]:List Nat).length=0:=rfl;omega
    | cons a b=>exact ⟨a,b,rfl⟩
   have H:Digs (x0 :: tl) 256:=by rw [← E];exact (HD.out.drop _).take _
   have T:tl.length+1=z:=by
    have e1:=congrArg List.length E;rw [List.length_take,List.length_cons] at e1;omega
   rw [E] at J1;have am:x0<256:=H.head;have e6:=u8_and_nat x0 y am aI;obtain ⟨q,hq⟩:∃ q,q=x0 &&& y:=⟨_,rfl⟩
   rw [← hq] at e6;have R:q=x0%2^(8-s):=by rw [hq,HY.out];exact ru ai
   have aG:q<256:=by rw [R];exact Nat.lt_of_le_of_lt (Nat.mod_le _ _) am
   have HV:Hid (bev (q :: tl)=j8 t z bs k):=by unfold Hid j8;rw [E,R];exact rF H.tail ai (by rw [T];exact al)
   have av:Hid (Digs (q :: tl) 256):=fun d hd=>by
    rcases List.mem_cons.1 hd with rfl | hd
    ·exact aG
    ·exact H.tail d hd
   have aK:Hid ((q :: tl).length=z):=by unfold Hid;rw [List.length_cons];exact T
   have v:=aa D;clear t1 t2 t3 hlen hq R E H D
   gi_wp2_with fail
   refine ⟨trivial,?_⟩;refine (callsIn_wide.2 J1).mono ?_;rintro e w3 ⟨u,rfl,hO,h3,k3⟩;have F:=aa (hJ _ _ _ HJ.out (k3.mono fun _ _ e=>.inl e));have B3:=aa (HB.out.next k3 v.out h3 (fun e=>by have:=G.out _ e;have:=c.out;omega) (fun e=>by have:=G.out _ e;have:=c.out;omega) (fun e=>by have:=G.out _ e;have:=c.out;omega) (fun e=>by have:=G.out _ e;have:=c.out;omega));have C:w3.ownsRow wr.heap.size 5 1 u z ((x0 :: tl).map fun a:Nat=>Value.int .u8 (a:Int)):=by
    have:=hO;unfold OwnB OwnN at this;rw [List.length_cons,T] at this;exact this
   obtain ⟨g,i,rfl⟩:∃ g i,u=.slice (some ⟨g,0,none⟩) z i:=by
    rcases C.2 with ⟨_,e⟩ | ⟨g,i,_,e,_⟩
    ·omega
    ·exact ⟨g,i,e⟩
   have aC:w3.cell? ⟨g,0,none⟩=some (.int .u8 (x0:Nat)):=by
    obtain ⟨_,_,_,e,_,_,_,_,Q⟩:=hO.row.open;cases e
    obtain ⟨b',aJ,e,hc⟩:=Q 0 (by omega);cases e
    exact hc
   have aD:=C.frozenAt 0;obtain ⟨ae,aE⟩:=C.stored 0 (.int .u8 (q:Int));have aF:=C.lt g rfl;have k4:Kept (fun x=>wr.heap.size≤x) w3 (w3.setCell ⟨g,0,none⟩ (.int .u8 (q:Int))):=(ah _ _).setCell _ (fun _=>aF.1) _;have ac:Hid (Row .u8 (w3.setCell ⟨g,0,none⟩ (.int .u8 (q:Int))) (.slice (some ⟨g,0,none⟩) z i) (q :: tl)):=(OwnB.of (n:=z) (zs:=q :: tl) ae).row;have aB:=B3.out.zb.cell;have aA:=B3.out.tb.cell;have aP:g≠bz:=by have:=c.out;have:=HB.out.size;omega
   have aO:g≠bt:=by have:=c.out;have:=HB.out.size;omega
   have aM:(0:Int)<(z:Int):=by omega
   have ab:=aa k4;clear J1 hO C ae aE h3 k3 k4 cp cz
   gi_wp2_with fail
   gi_region
   have k4:Kept (fun x=>wr.heap.size≤x) w3 (w3.setCell ⟨g,0,none⟩ (.int .u8 (q:Int))).drew:=ab.out.drew;have r4:Row .u8 (w3.setCell ⟨g,0,none⟩ (.int .u8 (q:Int))).drew (.slice (some ⟨g,0,none⟩) z i) (q :: tl):=ac.out.grew ((ah _ _).drew);generalize (w3.setCell ⟨g,0,none⟩ (.int .u8 (q:Int))).drew=w4 at *;have h:∀ x,x<w.heap.size→¬ wr.heap.size≤x:=fun x hx=>by have:=c.out;have:=HB.out.size;omega
   have B4:=aa (B3.out.kept k4 (fun x hx=>h x (by have:=c.out;omega)) (h _ (by have:=c.out;omega)) (h _ (by have:=c.out;omega)) (h _ (by have:=c.out;omega)) (h _ (by have:=c.out;omega)));have X:=aa (hJ _ _ _ F.out (k4.mono fun x _ (e:wr.heap.size≤x)=>.inr (by have:=HB.out.size;omega)));have O:aj (j8 t z bs k)≤L:=by
    rw [aq];refine Nat.lt_of_lt_of_le (Nat.mod_lt _ (Nat.pow_pos (by omega))) ?_;rw [show (18446744073709551616:Nat)=2^64 from rfl,← Nat.pow_mul];exact Nat.pow_le_pow_right (by omega) A.out.2.1
   have N:=zi (.slice (some ⟨g,0,none⟩) z i) (q :: tl) (L:Int) w4 r4 av.out;rw [HV.out,(lZ hL O).1,(lZ hL O).2] at N;have az:=B4.out.nb.cell;clear k4 r4 ab ac O aC aD aB aA F B3 h e6
   gi_wp2_with fail
   refine ⟨trivial,?_⟩;refine (callsIn_wide.2 N).mono ?_;rintro e w5 ⟨v5,rfl,r5,f5,k5⟩;have af:∀ b,v5.ownBlock=some b→w.heap.size≤b:=fun b hb=>by have h1:=f5 b hb;have h2:=B4.out.size;have h3:=c.out;omega
   have B5:=aa (B4.out.kept k5 (fun _ _ f=>f) (fun f=>f) (fun f=>f) (fun f=>f) (fun f=>f));have Y:=aa (hJ _ _ _ X.out k5.any);have an:DrwX p B t z L bs w.heap.size m (j,v5) w5:=⟨by rw [HP.out];exact Z.out,by rw [HP.out];exact v.out,⟨by rw [HP.out];exact r5,af⟩,by rw [HP.out];exact B5.out.scr⟩
   obtain ⟨fn,tmps,assign,body,hy,hR⟩:=hY m (j,v5) w5 Y.out an;obtain ⟨xo,xn,xc,rfl,_⟩:=r5.open;clear N r5 f5 af k5 az an B4 X
   gi_wp2_with fail
   refine hR.mono ?_;rintro e w6 (⟨rfl,ad,k6⟩ | ⟨rfl,M⟩)
   ·have r:∀ x,x<w.heap.size→¬ Sb x→¬ (Sb x∨x=l∨x+1=l):=fun x hx hs=>by
     have:=c.out;rintro (e | e | e)
     ·exact hs e
     ·omega
     ·omega
    have B6:=aa (B5.out.kept k6 (fun x hx=>r x (by have:=c.out;omega) (fun e=>by have:=(hSb x e).1;omega)) (r _ (by have:=c.out;omega) sp) (r _ (by have:=c.out;omega) sz) (r _ (by have:=c.out;omega) st) (r _ (by have:=c.out;omega) sn));have aw:=aa ad;clear hR hy ad k6 B5 Y r
    gi_wp2_with fail
    go_roundw
    case rel=>exact ⟨k+1,m ++ [(j,Value.slice xo xn xc)],by rw [← Z.out];first | rfl | (rw [gj];rfl),by unfold Hid;rw [List.length_append,HP.out];rfl,aw,B6⟩
    case measure=>simp [intOf];omega
   ·gi_wp2_with fail
    refine bodyPost_ret (results_none rfl _ _ _) rfl ?_;exact ⟨⟨_,rfl⟩,.inr ⟨_,M⟩⟩

attribute [local go_sem] Oper.semAt_some

theorem iR {k:IntKind} {w:World} {b:Nat} {cs:Array Value} {t:TypeId} {v:Value} {xs:List Nat} (hb:w.heap[b]? = some (.cells cs t (0,0))) (hc:∀ u ∈ cs,∀ z,u≠.int k z) (hv:Row k w v xs) (hx:xs≠[]):v.ownBlock≠some b:=by
 intro e;obtain ⟨ao,L,f,rfl,hL,_,_,_,c⟩:=hv.open;have d:0<L:=by
  rw [← hL.out];exact List.length_pos_iff.2 hx
 obtain ⟨b',off,rfl,a⟩:=c 0 d;cases e
 rw [cell_of_row w b' (off+0) _ _ _ hb] at a;exact hc _ (Array.mem_of_getElem? a) _ rfl

theorem Lsc.apart {k:IntKind} {w:World} {p:Option Addr} {B:Nat} {bs xs:List Nat} {v:Value} (h:Lsc w p B bs) (hv:Row k w v xs) (hx:xs≠[]) (hk:k≠.i64:=by decide):∀ x,v.ownBlock=some x→¬ ofP p x:=by
 intro x e hp;rcases h with ⟨rfl,_⟩ | ⟨b,v',ps,pl,rfl,_,h⟩
 ·cases hp
 ·cases hp
  refine iR h.1 ?_ hv hx e;obtain ⟨_,_,rfl,_⟩:=h.2.1;intro u hu z;simp at hu;rcases hu with rfl | rfl
  ·simp
  ·intro e;cases e
   exact hk rfl

theorem fY {w:World} {b:Nat} {t:TypeId} {u v:Value} {xs:List Nat} (hb:Boxed w b t u) (hu:∀ z,u≠.int .u64 z) (hv:Row .u64 w v xs) (hx:xs≠[]):v.ownBlock≠some b:=
 iR hb (fun y hy z=>by simp at hy;rw [hy];exact hu z) hv hx

structure BtwB (w W:World) (p:Option Addr) (v:Value) (gm gx gk ge:Nat):Prop where
 mb:Boxed W gm 23 v
 xb:Boxed W gx 23 (.slice none 0 0)
 kb:Boxed W gk 3 (.int .i64 0)
 eb:Boxed W ge 32 (.int .i64 0)
 old:Kept (ofP p) w W

theorem BtwB.kept {S:Nat→Prop} {w W W':World} {p:Option Addr} {v:Value} {gm gx gk ge:Nat} (b:BtwB w W p v gm gx gk ge) (k:Kept S W W') (h0:¬ S gm) (h1:¬ S gx) (h2:¬ S gk) (h3:¬ S ge) (ho:∀ x,x<w.heap.size→S x→ofP p x):BtwB w W' p v gm gx gk ge:=
 ⟨cj b.mb k h0,cj b.xb k h1,cj b.kb k h2,cj b.eb k h3,b.old.next k ho⟩

structure EndB (w W:World) (p:Option Addr) (B:Nat) (gx gk ge:Nat) (X:List Nat) (K E:Nat) (r:List Nat) (u:Value):Prop where
 xb:Boxed W gx 23 u
 kb:Boxed W gk 3 (.int .i64 (K:Nat))
 eb:Boxed W ge 32 (.int .i64 (E:Nat))
 row:Row .u64 W u X
 scr:Lsc W p B r
 old:Kept (ofP p) w W
 new:∀ b,u.ownBlock=some b→w.heap.size≤b

theorem EndB.put {w W:World} {p:Option Addr} {B gx gk ge K E l:Nat} {X r:List Nat} {u:Value} {o:Obj} (o':Obj) (h:EndB w W p B gx gk ge X K E r u) (hl:W.heap[l]? = some o) (ho:o.isCells=false) (hw:w.heap.size≤l):EndB w (W.putObj l o') p B gx gk ge X K E r u:=by
 have a:∀ {b:Nat} {t:TypeId} {v:Value},Boxed W b t v→Boxed (W.putObj l o') b t v:=fun {b t v} hb=>(World.putObj_heap_other fun e=>by
  subst e;have c:W.heap[_]? = some (Obj.cells _ _ _):=hb;rw [hl] at c;cases c
  cases ho).trans hb
 exact ⟨a h.xb,a h.kb,a h.eb,l7 o' h.row hl ho,h.scr.put o' hl ho,h.old.next (jE W l o') (fun x hx e=>by
  have e':x=l:=e;omega),h.new⟩

theorem dV {w:World} {b:Nat} {t:TypeId} {v:Value} (h:Boxed w b t v) (c:Nat) (u:Value) (d:b≠c):Boxed (w.setCell ⟨c,0,none⟩ u) b t v:=dt (a:=⟨c,0,none⟩) h d u

theorem BtwB.ends {w W:World} {p:Option Addr} {v u:Value} {gm gx gk ge B:Nat} {X r:List Nat} (I:BtwB w W p v gm gx gk ge) (a:Row .u64 W u X) (d:∀ b,u.ownBlock=some b→w.heap.size≤b) (f:Lsc W p B r) (n1:gx≠gk) (n2:gx≠ge) (n3:gk≠ge) (lx:w.heap.size≤gx) (lk:w.heap.size≤gk) (le:w.heap.size≤ge) (hB:B≤w.heap.size) (K E:Nat) :
  EndB w (((W.setCell ⟨gx,0,none⟩ u).setCell ⟨gk,0,none⟩ (.int .i64 (K:Nat))).setCell ⟨ge,0,none⟩ (.int .i64 (E:Nat))) p B gx gk ge X K E r u∧Kept (fun b=>b=gx∨b=gk∨b=ge) W (((W.setCell ⟨gx,0,none⟩ u).setCell ⟨gk,0,none⟩ (.int .i64 (K:Nat))).setCell ⟨ge,0,none⟩ (.int .i64 (E:Nat))):=by
 have kS:Kept (fun b=>b=gx∨b=gk∨b=ge) W (((W.setCell ⟨gx,0,none⟩ u).setCell ⟨gk,0,none⟩ (.int .i64 (K:Nat))).setCell ⟨ge,0,none⟩ (.int .i64 (E:Nat))):=
  (((ah _ _).setCell ⟨gx,0,none⟩ (fun _=>.inl rfl) _).setCell ⟨gk,0,none⟩ (fun _=>.inr (.inl rfl)) _).setCell ⟨ge,0,none⟩ (fun _=>.inr (.inr rfl)) _
 have x1:Boxed (W.setCell ⟨gx,0,none⟩ u) gx 23 u:=I.xb.set u;have k1:=dV I.kb gx u n1.symm;have e1:=dV I.eb gx u n2.symm;have x2:=dV x1 gk (.int .i64 (K:Nat)) n1;have k2:Boxed _ gk 3 (.int .i64 (K:Nat)):=k1.set (.int .i64 (K:Nat));have e2:=dV e1 gk (.int .i64 (K:Nat)) n3.symm;have x3:=dV x2 ge (.int .i64 (E:Nat)) n2;have k3:=dV k2 ge (.int .i64 (E:Nat)) n3;have e3:Boxed _ ge 32 (.int .i64 (E:Nat)):=e2.set (.int .i64 (E:Nat));refine ⟨⟨x3,k3,e3,a.kept' kS ?_,f.kept kS ?_,I.old.next kS ?_,d⟩,kS⟩
 ·rintro c x hx (rfl | rfl | rfl)
  ·exact fY I.xb (fun z e=>by cases e) a c hx
  ·exact fY I.kb (fun z e=>by cases e) a c hx
  ·exact fY I.eb (fun z e=>by cases e) a c hx
 ·rintro x hx (e | e | e) <;> omega
 ·rintro x hx (e | e | e) <;> omega

def BelK (M t z:Nat) (bs:List Nat) (k:Nat):Prop:=∃ f,(bs.drop (k*z)).length<f∧dh M t z (bs.length+1) bs 1=dh M t z f (bs.drop (k*z)) (k+1)

theorem BelK.zero (M t z:Nat) (bs:List Nat):BelK M t z bs 0:=⟨bs.length+1,by simp,by simp⟩

theorem BelK.step {M t z k:Nat} {bs:List Nat} (h:BelK M t z bs k) (hz:0<z) (hl:(k+1)*z≤bs.length) :
  (0<j8 t z bs k∧j8 t z bs k<M∧dh M t z (bs.length+1) bs 1=(j8 t z bs k,k+1,bs.drop ((k+1)*z)))∨(¬ (0<j8 t z bs k∧j8 t z bs k<M)∧BelK M t z bs (k+1)):=by
 obtain ⟨f,hf,e⟩:=h;have hd:(bs.drop (k*z)).drop z=bs.drop ((k+1)*z):=by rw [List.drop_drop,Nat.succ_mul]
 have a:¬ (bs.drop (k*z)).length<z:=by rw [List.length_drop];rw [Nat.succ_mul] at hl;omega
 rcases gC (M:=M) (t:=t) (k:=k+1) hf hz with ⟨h1,_⟩ | ⟨_,h2,h3⟩ | ⟨_,h2,f',hf',h3⟩
 ·exact absurd h1 a
 ·rw [hd] at h3;exact .inl ⟨h2.1,h2.2,e.trans h3⟩
 ·rw [hd] at h3 hf';exact .inr ⟨h2,f',hf',e.trans h3⟩

theorem BelK.spent {M t z k:Nat} {bs:List Nat} (h:BelK M t z bs k) (hz:0<z) (h0:k*z≤bs.length) (hl:bs.length<(k+1)*z):dh M t z (bs.length+1) bs 1=(0,0,[]):=by
 obtain ⟨f,hf,e⟩:=h;have a:(bs.drop (k*z)).length<z:=by rw [List.length_drop];rw [Nat.succ_mul] at hl;omega
 rcases gC (M:=M) (t:=t) (k:=k+1) hf hz with ⟨_,h3⟩ | ⟨h1,_⟩ | ⟨h1,_⟩
 ·exact e.trans h3
 ·exact absurd a h1
 ·exact absurd a h1

theorem kU (p:Option Addr) (B:Nat) (bs xs:List Nat) (v:Value) (w:World) (h:Lsc w p B bs) (hv:Row .u64 w v xs) (hd:Digs xs) (hl:xs.length≤1000000) (b:300<xs.length∨val xs<2) :
  Calls Tryz.prog 81 #[.pointer p,v] w fun e w'=>e=.returned (.tuple #[.slice none 0 0,.int .i64 0,.int .i64 (bH xs bs:Nat)])∧Lsc w' p B bs∧Kept af w w':=by
 have HS:=aa h;have JB:=aa fun W (k:Kept af w W)=>dX v xs W (hv.grew k) hd (by omega)
 obtain ⟨ao,L,a,rfl,hL,g,i,j,_⟩:=hv.open;have f:L≤1000000:=by have:=hL.out;omega
 have bM:=(((Boxed.new w 23 (.slice ao L a)).alloc (.cells #[.slice none 0 0] 23)).alloc (.cells #[.int .i64 0] 3)).alloc (.cells #[.int .i64 0] 32);have bR:∀ E:Int,((((w.alloc (.cells #[.slice ao L a] 23)).alloc (.cells #[.slice none 0 0] 23)).alloc (.cells #[.int .i64 0] 3)).alloc (.cells #[.int .i64 E] 32)).cell? ⟨w.heap.size+1,0,none⟩=some (.slice none 0 0) ∧
   ((((w.alloc (.cells #[.slice ao L a] 23)).alloc (.cells #[.slice none 0 0] 23)).alloc (.cells #[.int .i64 0] 3)).alloc (.cells #[.int .i64 E] 32)).cell? ⟨w.heap.size+1+1,0,none⟩=some (.int .i64 0) ∧
   ((((w.alloc (.cells #[.slice ao L a] 23)).alloc (.cells #[.slice none 0 0] 23)).alloc (.cells #[.int .i64 0] 3)).alloc (.cells #[.int .i64 E] 32)).cell? ⟨w.heap.size+1+1+1,0,none⟩=some (.int .i64 E):=fun E=>by
  have bX:=(((Boxed.new (w.alloc (.cells #[.slice ao L a] 23)) 23 (.slice none 0 0)).alloc (.cells #[.int .i64 0] 3)).alloc (.cells #[.int .i64 E] 32)).cell;have bK:=((Boxed.new ((w.alloc (.cells #[.slice ao L a] 23)).alloc (.cells #[.slice none 0 0] 23)) 3 (.int .i64 0)).alloc (.cells #[.int .i64 E] 32)).cell;have bE:=(Boxed.new (((w.alloc (.cells #[.slice ao L a] 23)).alloc (.cells #[.slice none 0 0] 23)).alloc (.cells #[.int .i64 0] 3)) 32 (.int .i64 E)).cell;simp only [World.size_alloc] at bX bK bE;exact ⟨bX,bK,bE⟩
 have kR:∀ E:Int,Kept af w ((((w.alloc (.cells #[.slice ao L a] 23)).alloc (.cells #[.slice none 0 0] 23)).alloc (.cells #[.int .i64 0] 3)).alloc (.cells #[.int .i64 E] 32)):=fun E=>((((ah af w).alloc _).alloc _).alloc _).alloc _
 have cM:=bM.cell;have d:=aa bR;have c:=aa kR;clear bR kR;by_cases h1:300<L
 ·have e1:bH xs bs=2:=by unfold bH;rw [hL.out,if_pos h1]
  rw [e1];have g1:(L:Int) > 300:=by omega
  have g2:(300:Int)<(L:Int):=by omega
  clear e1 b JB bM h hv hd;go_enter Tryz.func81,Tryz.ntmps81;go_wp2_with fail;obtain ⟨q1,q2,q3⟩:=d.out 2;refine bodyPost_ret (v:=.tuple #[.slice none 0 0,.int .i64 0,.int .i64 2]) (by simp [results,Tryz.results81,go_sem,q1,q2,q3]) rfl ?_;exact ⟨rfl,HS.out.grew (c.out 2),c.out 2⟩
 ·have hV:val xs<2:=by
   have:=hL.out;rcases b with h | h
   ·omega
   ·exact h
  have e1:bH xs bs=1:=by unfold bH;rw [hL.out,if_neg h1,if_pos hV]
  rw [e1];have g1:¬ (L:Int) > 300:=by omega
  have g2:¬ (300:Int)<(L:Int):=by omega
  have l:au (val xs)≤1:=(aA _ 1).2 (by omega);generalize au (val xs)=t at *;have g3:(t:Int)<2:=by omega
  clear e1 b hV bM h hv hd;go_enter Tryz.func81,Tryz.ntmps81;go_wp2_with fail;refine (JB.out _ (c.out 0)).mono ?_;rintro e w1 ⟨rfl,rfl⟩;clear JB;obtain ⟨p1,p2,p3⟩:=d.out 0;go_wp2_with fail;obtain ⟨q1,q2,q3⟩:=d.out 1;refine bodyPost_ret (v:=.tuple #[.slice none 0 0,.int .i64 0,.int .i64 1]) (by simp [results,Tryz.results81,go_sem,q1,q2,q3]) rfl ?_;exact ⟨rfl,HS.out.grew (c.out 1),c.out 1⟩

theorem pP (p:Option Addr) (B:Nat) (bs xs:List Nat) (v:Value) (w:World) (h:Lsc w p B bs) (hB:B≤w.heap.size) (aM:Digs bs 256) (hv:Row .u64 w v xs) (hd:Digs xs) (hl:xs.length≤300) (ac:2≤val xs) :
  Calls Tryz.prog 81 #[.pointer p,v] w fun e w'=>∃ u,e=.returned (.tuple #[u,.int .i64 (eO xs bs:Nat),.int .i64 (bH xs bs:Nat)])∧(Row .u64 w' u (dH xs bs)∧∀ b,u.ownBlock=some b→w.heap.size≤b)∧Lsc w' p B (dG xs bs)∧Kept (ofP p) w w':=by
 obtain ⟨M,hM⟩:∃ M,M=val xs:=⟨_,rfl⟩
 obtain ⟨t,ht⟩:∃ t,t=au M:=⟨_,rfl⟩
 obtain ⟨z,hz⟩:∃ z,z=(t+7)/8:=⟨_,rfl⟩
 rw [← hM] at ac;have ad:M<18446744073709551616^xs.length:=by rw [hM];exact ap (by omega) hd
 have ay:t≤64*xs.length:=by rw [ht,hM];exact jq hd
 have a9:2≤t:=by
  have:=(aA M 1).1;rw [← ht] at this;by_cases h1:t≤1
  ·have:=this h1;omega
  ·omega
 have P:xs≠[]:=by
  rintro rfl;have:val []=0:=rfl;omega
 have aR:Hid (∀ x,v.ownBlock=some x→¬ ofP p x):=h.apart hv P;have I:Hid (∀ W,Kept (ofP p) w W→Row .u64 W v xs):=fun W k=>hv.kept' k (fun _=>aR.out)
 have JB:=aa fun W (k:Kept (ofP p) w W)=>dX v xs W (I.out W k) hd (by omega)
 have JC:=aa fun u ys W (k:Kept (ofP p) w W) (hu:Row .u64 W u ys) (hdu:Digs ys)=>iw u v ys xs W hu (I.out W k) hdu hd
 rw [← hM] at JB JC;rw [← ht] at JB;have aH:Hid (∀ x,ofP p x→x<B):=fun x hx=>(h.inP hx).1
 have H:Hid (ia M bs=dh M t z (bs.length+1) bs 1):=by unfold Hid ia;rw [← ht,← hz]
 have HE:Hid (bH xs bs=if (dh M t z (bs.length+1) bs 1).1=0 then 150 else 0):=by
  unfold Hid bH;rw [if_neg (by omega),if_neg (by rw [← hM];omega),← hM,H.out]
 have HX:Hid (dH xs bs=if bH xs bs=0 then digs (dh M t z (bs.length+1) bs 1).1 xs.length else []):=by unfold Hid dH;rw [← hM,H.out]
 have aG:Hid (eO xs bs=if bH xs bs=0 then (dh M t z (bs.length+1) bs 1).2.1 else 0):=by unfold Hid eO;rw [← hM,H.out]
 have aI:Hid (dG xs bs=(dh M t z (bs.length+1) bs 1).2.2):=by unfold Hid dG;rw [if_neg (by rw [← hM];omega),← hM,H.out]
 obtain ⟨ao,L,i,rfl,hL,a7,a8,a2,_⟩:=hv.open;have a1:L≤300:=by have:=hL.out;omega
 have g1:¬ (L:Int) > 300:=by omega
 have a5:¬ (300:Int)<(L:Int):=by omega
 have g2:¬ (t:Int)<2:=by omega
 rw [hL.out] at ay ad HX;have HL:=aa hL.out;have HS:=aa h;have HZ:=aa hz;have az:1≤z:=by omega
 have ba:t≤19200:=by omega
 have Q:Hid (2≤M∧M<18446744073709551616^L∧t=au M∧t≤64*L):=⟨ac,ad,ht,ay⟩
 have aS:=aa aM;have g:=aa hB;clear hv hd hl ac ad ht hz ay P a2 hL h hM H aM hB;refine (callsIn_wide (n:=9)).1 ?_;refine callsIn_of_wp_marks Tryz.func81 rfl trivial ?_ rfl;simp only [Tryz.ntmps81,List.size_toArray,List.length_cons,List.length_nil,Nat.reduceAdd,Nat.reduceSub,Array.replicate_succ,Array.replicate_zero,List.push_toArray,List.append_toArray,List.nil_append,List.cons_append];refine wpIn_wide.2 ?_;have bM:=(((Boxed.new w 23 (.slice ao L i)).alloc (.cells #[.slice none 0 0] 23)).alloc (.cells #[.int .i64 0] 3)).alloc (.cells #[.int .i64 0] 32)
 have bX:=((Boxed.new (w.alloc (.cells #[.slice ao L i] 23)) 23 (.slice none 0 0)).alloc (.cells #[.int .i64 0] 3)).alloc (.cells #[.int .i64 0] 32);have bK:=(Boxed.new ((w.alloc (.cells #[.slice ao L i] 23)).alloc (.cells #[.slice none 0 0] 23)) 3 (.int .i64 0)).alloc (.cells #[.int .i64 0] 32);have bE:=Boxed.new (((w.alloc (.cells #[.slice ao L i] 23)).alloc (.cells #[.slice none 0 0] 23)).alloc (.cells #[.int .i64 0] 3)) 32 (.int .i64 0);have kA:Kept af w ((((w.alloc (.cells #[.slice ao L i] 23)).alloc (.cells #[.slice none 0 0] 23)).alloc (.cells #[.int .i64 0] 3)).alloc (.cells #[.int .i64 0] 32)):=((((ah af w).alloc _).alloc _).alloc _).alloc _
 have sA:((((w.alloc (.cells #[.slice ao L i] 23)).alloc (.cells #[.slice none 0 0] 23)).alloc (.cells #[.int .i64 0] 3)).alloc (.cells #[.int .i64 0] 32)).heap.size=w.heap.size+4:=by simp
 simp only [World.size_alloc] at bX bK bE;have cM:=bM.cell;go_wp2_with fail;refine (JB.out _ kA.any).mono ?_;rintro e w1 ⟨rfl,rfl⟩;generalize (((w.alloc (.cells #[.slice ao L i] 23)).alloc (.cells #[.slice none 0 0] 23)).alloc (.cells #[.int .i64 0] 3)).alloc (.cells #[.int .i64 0] 32)=W1 at *;obtain ⟨gm,an⟩:∃ gm,gm=w.heap.size:=⟨_,rfl⟩
 obtain ⟨gx,aq⟩:∃ gx,gx=w.heap.size+1:=⟨_,rfl⟩
 obtain ⟨gk,am⟩:∃ gk,gk=w.heap.size+1+1:=⟨_,rfl⟩
 obtain ⟨ge,aj⟩:∃ ge,ge=w.heap.size+1+1+1:=⟨_,rfl⟩
 rw [← aj] at bE ⊢;rw [← am] at bK ⊢;rw [← aq] at bX ⊢;rw [← an] at bM cM ⊢;have HG:Hid (gm=w.heap.size∧gx=w.heap.size+1∧gk=w.heap.size+2∧ge=w.heap.size+3∧W1.heap.size=w.heap.size+4):=⟨an,aq,am,aj,sA⟩
 have aE:Hid (BtwB w W1 p (.slice ao L i) gm gx gk ge):=⟨bM,bX,bK,bE,kA.any⟩
 have aJ:=aa (HS.out.grew kA);have JD:=Ab p t L W1 (by omega);rw [← HZ.out] at JD;clear an aq am aj bM bX bK bE sA HS kA;go_wp2_with fail;refine JD.mono ?_;rintro e W2 ⟨rfl,b0,b1,b2,b3,k2,s2⟩;have T:=aa (aE.out.kept k2 (fun f=>f) (fun f=>f) (fun f=>f) (fun f=>f) (fun _ _ f=>f.elim));have Z:=aa (aJ.out.grew k2);obtain ⟨n1,aO⟩:∃ n1,n1=W1.heap.size:=⟨_,rfl⟩
 rw [← aO] at b0 b1 b2 b3 s2 ⊢;have a:Hid (gm=w.heap.size∧gx=w.heap.size+1∧gk=w.heap.size+2∧ge=w.heap.size+3∧n1=w.heap.size+4∧W2.heap.size=w.heap.size+8):=by have:=HG.out;refine ⟨?_,?_,?_,?_,?_,?_⟩ <;> omega
 clear JD k2 aE aJ HG aO cM s2;go_wp2_with fail;refine (wpIn_wide (n:=9)).1 ?_;obtain ⟨sh,a3⟩:∃ sh,sh=8*z-t:=⟨_,rfl⟩
 have aw:t+sh=8*z:=by have:=HZ.out;omega
 have ax:sh<8:=by have:=HZ.out;omega
 clear a3;refine j6 (n:=9) (by omega) (gf:=186) (lb:=#[.pointer (some ⟨n1,0,none⟩),.pointer (some ⟨n1+3,0,none⟩),.pointer (some ⟨n1+1,0,none⟩),.pointer (some ⟨n1+2,0,none⟩)]) rfl (enters_of Tryz.func186 (by kernel_rfl) rfl)
  (xH 8 (by omega) p B t z sh L n1 (n1+3) (n1+1) (n1+2) bs W2 (fun b=>b=gx∨b=gk∨b=ge) az aw ax a1 Q.out.2.2.2 Z.out aS.out b0 b3 b1 b2 ?q0 ?q1 ?q2 ?q3 ?q4 ?q5 ?q6 ?q7 ?q8 ?q9) (fun _=>rfl) ?hSb ?hT (fun _ _ _ _ _ o' hx hl ho=>hx.put o' hl ho)
  (fun E W=>Hid (BelK M t z bs E.length)∧Hid (BtwB w W p (.slice ao L i) gm gx gk ge)) (fun c _ W=>c=.ret∧∃ u,EndB w W p B gx gk ge (dH xs bs) (eO xs bs) (bH xs bs) (dG xs bs) u)
  ?low ?lowx ?lows ⟨BelK.zero _ _ _ _,T.out⟩ ?act ?assign ?body ?done ?stop
 case q0=>have:=a.out;have:=g.out;omega
 case q1=>have:=a.out;have:=g.out;omega
 case q2=>have:=a.out;have:=g.out;omega
 case q3=>have:=a.out;have:=g.out;omega
 case q4=>have:=a.out;have:=g.out;omega
 case q5=>
  have:=a.out;have:=g.out;rintro b (rfl | rfl | rfl) <;> omega
 case q6=>have:=a.out;omega
 case q7=>have:=a.out;omega
 case q8=>have:=a.out;omega
 case q9=>have:=a.out;omega
 case hSb=>
  have:=a.out;rintro b (rfl | rfl | rfl) <;> omega
 case hT=>
  intro b hb;have:=aH.out b hb;have:=a.out;have:=g.out;omega
 case low=>
  rintro s A C ⟨h1,h2⟩ k;have:=a.out;have:=g.out;have R:∀ x,w.heap.size≤x→x<W2.heap.size→¬ (ofP p x∨W2.heap.size≤x):=fun x h3 h4=>by
   rintro (e | e)
   ·have:=aH.out x e;omega
   ·omega
  exact ⟨h1,h2.out.kept k (R _ (by omega) (by omega)) (R _ (by omega) (by omega)) (R _ (by omega) (by omega)) (R _ (by omega) (by omega)) (fun x hx e=>by
   rcases e with e | e
   ·exact e
   ·omega)⟩
 case lowx=>
  rintro c s A l o o' ⟨h1,u,h2⟩ hl hA ho;have:=a.out;exact ⟨h1,u,h2.put o' hA ho (by omega)⟩
 case lows=>
  rintro s A l o o' ⟨h1,h2,h3⟩ hl hA ho;exact ⟨h1,h2,h3.put o' hA ho⟩
 case assign=>
  intro l x W K hK
  gi_wp2
  exact hK
 case body=>
  rintro l E ⟨j,xv⟩ W ⟨hK,hI⟩ ⟨hj,ae,⟨N,J⟩,O⟩;have a6:1≤L:=by
   have h1:=Q.out.1;have h2:=Q.out.2.1;cases L with
   | zero=>simp at h2;omega
   | succ n=>omega
  obtain ⟨V,hV⟩:∃ V,V=j8 t z bs E.length:=⟨_,rfl⟩
  have aN:j=E.length+1:=hj;have d:Row .u64 W xv (digs V L):=by rw [hV];exact N
  have aL:V<18446744073709551616^L:=by
   rw [hV];refine Nat.lt_of_lt_of_le (Nat.mod_lt _ (Nat.pow_pos (by omega))) ?_;rw [show (18446744073709551616:Nat)=2^64 from rfl,← Nat.pow_mul];exact Nat.pow_le_pow_right (by omega) Q.out.2.2.2
  have q:=dX xv _ W d (ai (by omega) V L) (by rw [ag];omega);have r:=JC.out xv _ W hI.out.old d (ai (by omega) V L);rw [al,ak aL] at q r;have Y:=aa d;have ab:=aa O;have X:Hid (∀ b,xv.ownBlock=some b→w.heap.size≤b):=fun b hb=>by have h1:=J b hb;have h2:=a.out;omega
  have U:=aa hI.out;have aQ:=hK.out.step az ae;rw [← hV] at aQ;obtain ⟨nb,ar⟩:∃ nb,nb=au V:=⟨_,rfl⟩
  rw [← ar] at q;have m:nb=0↔V=0:=by
   have:=aA V 0;rw [← ar] at this;simp at this;exact this
  have a4:Hid (digs V L≠[]):=fun e=>by
   have:=congrArg List.length e;rw [ag] at this;simp at this;omega
  obtain ⟨xo,xn,xc,rfl,_⟩:=d.open;have cM:=hI.out.mb.cell;have aZ:=aa aN;clear J N d O hI hK hj aN hV aL ar T b0 b1 b2 b3 Z;rcases aQ with ⟨h1,h2,h3⟩ | ⟨h1,h2⟩
  ·have g3:(nb:Int) > 0:=by omega
   have a0:(0:Int)<(nb:Int):=by omega
   rw [bk h2] at r;have e1:bH xs bs=0:=by rw [HE.out,h3,if_neg (by show ¬ V=0;omega)]
   have e2:dH xs bs=digs V L:=by rw [HX.out,if_pos e1,h3]
   have e3:eO xs bs=j:=by rw [aG.out,if_pos e1,h3];exact aZ.out.symm
   have e4:dG xs bs=bs.drop ((E.length+1)*z):=by rw [aI.out,h3]
   have aU:Hid (bH xs bs=0∧dH xs bs=digs V L∧eO xs bs=j∧dG xs bs=bs.drop ((E.length+1)*z)):=⟨e1,e2,e3,e4⟩
   clear h1 h2 h3 e1 e2 e3 e4 m
   gi_wp2_with fail
   refine ⟨trivial,?_⟩;refine (CallsIn.inRound l (callsIn_wide.2 q)).mono ?_;rintro e w1 ⟨rfl,rfl⟩
   gi_wp2_with fail
   refine ⟨trivial,?_⟩;refine (CallsIn.inRound l (callsIn_wide.2 r)).mono ?_;rintro e w2 ⟨rfl,k2⟩;have I2:=aa (U.out.kept k2 (fun f=>f) (fun f=>f) (fun f=>f) (fun f=>f) (fun _ _ f=>f.elim));have R2:=aa (Y.out.grew k2);have S2:=aa (ab.out.grew k2);have cx:=I2.out.xb.cell;have fx:=I2.out.xb.frozen;have ck:=I2.out.kb.cell;have fk:=I2.out.kb.frozen;have ce:=I2.out.eb.cell;have fe:=I2.out.eb.frozen;have av:gx≠gk∧gx≠ge∧gk≠ge:=by have:=a.out;omega
   obtain ⟨aB,aC,aD⟩:=av;obtain ⟨aF,kS⟩:=I2.out.ends R2.out X.out S2.out aB aC aD (by have:=a.out;omega) (by have:=a.out;omega) (by have:=a.out;omega) g.out j 0;have aV:Hid (EndB w (((w2.setCell ⟨gx,0,none⟩ (.slice xo xn xc)).setCell ⟨gk,0,none⟩ (.int .i64 (j:Int))).setCell ⟨ge,0,none⟩ (.int .i64 0)) p B gx gk ge (dH xs bs) (eO xs bs) (bH xs bs) (dG xs bs) (.slice xo xn xc)):=by
    obtain ⟨q1,q2,q3,q4⟩:=aU.out;rw [q1,q2,q3,q4];exact aF
   have aY:Hid (Kept (fun b=>b=gx∨b=gk∨b=ge) w1 (((w2.setCell ⟨gx,0,none⟩ (.slice xo xn xc)).setCell ⟨gk,0,none⟩ (.int .i64 (j:Int))).setCell ⟨ge,0,none⟩ (.int .i64 0))):=(k2.any).trans kS;clear q r k2 kS aF
   gi_wp2_with fail
   exact ⟨aY.out,rfl,_,aV.out⟩
  ·have HN:Hid (BelK M t z bs (E ++ [(j,Value.slice xo xn xc)]).length):=by unfold Hid;rw [List.length_append];exact h2
   by_cases hV0:V=0
   ·obtain rfl:=m.2 hV0;clear h1 h2 m hV0 r
    gi_wp2_with fail
    refine ⟨trivial,?_⟩;refine (CallsIn.inRound l (callsIn_wide.2 q)).mono ?_;rintro e w1 ⟨rfl,rfl⟩;clear q
    gi_wp2_with fail
    refine ⟨trivial,?_⟩
    gi_wp2_with fail
    exact ⟨ah _ _,HN,U⟩
   ·have g3:(nb:Int) > 0:=by omega
    have a0:(0:Int)<(nb:Int):=by omega
    obtain ⟨C,hC⟩:∃ C,C=aK V M:=⟨_,rfl⟩
    rw [← hC] at r;have g4:¬ C<0:=by
     rw [hC];unfold aK;rw [if_neg (by omega)]
     split <;> omega
    clear h1 h2 m hV0 hC
    gi_wp2_with fail
    refine ⟨trivial,?_⟩;refine (CallsIn.inRound l (callsIn_wide.2 q)).mono ?_;rintro e w1 ⟨rfl,rfl⟩
    gi_wp2_with fail
    refine ⟨trivial,?_⟩;refine (CallsIn.inRound l (callsIn_wide.2 r)).mono ?_;rintro e w2 ⟨rfl,k2⟩;have I2:=aa (U.out.kept k2 (fun f=>f) (fun f=>f) (fun f=>f) (fun f=>f) (fun _ _ f=>f.elim));have aX:=aa (k2.any (S:=fun b=>b=gx∨b=gk∨b=ge));clear q r k2
    gi_wp2_with fail
    exact ⟨aX.out,HN,I2⟩
 case done=>
  rintro D s W hD ⟨h0,h1,aP⟩ ⟨hK,hI⟩ F;have hf:=hK.out.spent az h0 h1;have e1:bH xs bs=150:=by rw [HE.out,hf];rfl
  have e2:dH xs bs=[]:=by rw [HX.out,e1];rfl
  have e3:eO xs bs=0:=by rw [aG.out,e1];rfl
  have e4:dG xs bs=[]:=by rw [aI.out,hf]
  have aW:Hid (bH xs bs=150∧dH xs bs=[]∧eO xs bs=0∧dG xs bs=[]):=⟨e1,e2,e3,e4⟩
  have cx:=hI.out.xb.cell;have fx:=hI.out.xb.frozen;have ck:=hI.out.kb.cell;have fk:=hI.out.kb.frozen;have ce:=hI.out.eb.cell;have fe:=hI.out.eb.frozen;have av:gx≠gk∧gx≠ge∧gk≠ge:=by have:=a.out;omega
  obtain ⟨aB,aC,aD⟩:=av;obtain ⟨G,kS⟩:=hI.out.ends (u:=.slice none 0 0) (Row.nil _ _) (fun b hb=>by cases hb) aP aB aC aD (by have:=a.out;omega) (by have:=a.out;omega) (by have:=a.out;omega) g.out 0 150;have y:=(kS.block D (lt_of_block F) (by have:=a.out;rintro (e | e | e) <;> omega)).trans F;have HF:Hid (EndB w ((((W.setCell ⟨gx,0,none⟩ (.slice none 0 0)).setCell ⟨gk,0,none⟩ (.int .i64 0)).setCell ⟨ge,0,none⟩ (.int .i64 150)).putObj D (.deferred none)) p B gx gk ge [] 0 150 [] (.slice none 0 0)):=G.put (.deferred none) y rfl (by have:=a.out;omega);have aT:=aa y;clear e1 e2 e3 e4 hf hK h0 h1 aP hI G kS y F T b0 b1 b2 b3 Z;go_wp2_with fail
  refine ⟨by simp,.inl ⟨_,_,rfl,run_takeDeferred aT.out,?_⟩⟩;have q1:=HF.out.xb.cell;have q2:=HF.out.kb.cell;have q3:=HF.out.eb.cell;obtain ⟨e1,e2,e3,e4⟩:=aW.out;rw [e1,e2,e3,e4];refine ⟨.tuple #[.slice none 0 0,.int .i64 0,.int .i64 150],?_,_,rfl,⟨Row.nil _ _,HF.out.new⟩,HF.out.scr,HF.out.old⟩;simp [results,Tryz.f81,go_sem,q1,q2,q3]
 case stop=>
  rintro D c s W hD ⟨rfl,u,G⟩ F;have hF:=G.put (.deferred none) F rfl (by have:=a.out;omega);obtain ⟨uo,un,uc,rfl,_⟩:=G.row.open;have HF:=aa hF;clear G hF
  gi_wp2
  refine ⟨by simp,.inl ⟨_,_,rfl,run_takeDeferred F,?_⟩⟩;have q1:=HF.out.xb.cell;have q2:=HF.out.kb.cell;have q3:=HF.out.eb.cell;refine ⟨.tuple #[.slice uo un uc,.int .i64 (eO xs bs:Nat),.int .i64 (bH xs bs:Nat)],?_,_,rfl,⟨HF.out.row,HF.out.new⟩,HF.out.scr,HF.out.old⟩;simp [results,Tryz.f81,go_sem,q1,q2,q3]

theorem Aa (p:Option Addr) (B:Nat) (bs xs:List Nat) (v:Value) (w:World) (h:Lsc w p B bs) (hB:B≤w.heap.size) (b:Digs bs 256) (hv:Row .u64 w v xs) (hd:Digs xs) (hl:xs.length≤300) (a:2≤val xs) :
  Calls Tryz.prog 81 #[.pointer p,v] w fun e w'=>∃ u,e=.returned (.tuple #[u,.int .i64 (eO xs bs:Nat),.int .i64 (bH xs bs:Nat)])∧Row .u64 w' u (dH xs bs)∧Lsc w' p B (dG xs bs)∧Kept (ofP p) w w':=by
 refine (pP p B bs xs v w h hB b hv hd hl a).mono ?_;rintro e w' ⟨u,he,h1,h2⟩;exact ⟨u,he,h1.1,h2⟩

open Go.RowKit

def NoTab (_:World):Prop:=True

theorem ml {xs bs:List Nat} (h:300<xs.length∨val xs<2):dH xs bs=[]∧eO xs bs=0∧dG xs bs=bs:=by
 have e:bH xs bs≠0:=by
  unfold bH
  split
  ·omega
  ·next h1=>
   rw [if_pos (by omega)];omega
 exact ⟨if_neg e,if_neg e,if_pos h⟩

theorem Ae (p:Option Addr) (B:Nat) (bs xs:List Nat) (v:Value) (w:World) (h:Lsc w p B bs) (hB:B≤w.heap.size) (a:Digs bs 256) (hv:Row .u64 w v xs) (hd:Digs xs) (hl:xs.length≤1000000) :
  Calls Tryz.prog 81 #[.pointer p,v] w fun e w'=>∃ u,e=.returned (.tuple #[u,.int .i64 (eO xs bs:Nat),.int .i64 (bH xs bs:Nat)])∧Row .u64 w' u (dH xs bs)∧Lsc w' p B (dG xs bs)∧Kept (ofP p) w w':=by
 by_cases hb:300<xs.length∨val xs<2
 ·obtain ⟨e1,e2,e3⟩:=ml (bs:=bs) hb;rw [e1,e2,e3];refine (kU p B bs xs v w h hv hd hl hb).mono ?_;rintro e w' ⟨rfl,h1,k1⟩;exact ⟨_,rfl,Row.nil _ _,h1,k1.any⟩
 ·exact Aa p B bs xs v w h hB a hv hd (by omega) (by omega)

theorem rj (p:Option Addr) (B:Nat) (bs xs:List Nat) (v:Value) (w:World) (h:Lsc w p B bs) (hB:B≤w.heap.size) (a:Digs bs 256) (hv:Row .u64 w v xs) (hd:Digs xs) (hl:xs.length≤1000000) :
  Calls Tryz.prog 81 #[.pointer p,v] w fun e w'=>∃ u,e=.returned (.tuple #[u,.int .i64 (eO xs bs:Nat),.int .i64 (bH xs bs:Nat)])∧(Row .u64 w' u (dH xs bs)∧∀ b,u.ownBlock=some b→w.heap.size≤b)∧Lsc w' p B (dG xs bs)∧Kept (ofP p) w w':=by
 by_cases hb:300<xs.length∨val xs<2
 ·obtain ⟨e1,e2,e3⟩:=ml (bs:=bs) hb;rw [e1,e2,e3];refine (kU p B bs xs v w h hv hd hl hb).mono ?_;rintro e w' ⟨rfl,h1,k1⟩;exact ⟨_,rfl,⟨Row.nil _ _,(fun b hb=>by cases hb)⟩,h1,k1.any⟩
 ·exact pP p B bs xs v w h hB a hv hd (by omega) (by omega)

theorem ScrAt.apart {k:IntKind} {w:World} {b B:Nat} {bs xs:List Nat} {v:Value} (h:ScrAt w b B bs) (hv:Row k w v xs) (hx:xs≠[]):v.ownBlock≠some b:=by
 obtain ⟨u,h,_⟩:=h;refine iR h.1 ?_ hv hx;obtain ⟨_,_,rfl,_⟩:=h.2.1;intro y hy z;simp at hy;rw [hy];simp

theorem ix {a y:Nat} (h:ofP (some ⟨a,0,none⟩) y):y=a:=(Option.some.inj h).symm

theorem ScrAt.noP {w:World} {p:Option Addr} {b B C:Nat} {bs cs:List Nat} (h:ScrAt w b C cs) (hp:Lsc w p B bs):¬ ofP p b:=by
 obtain ⟨v,⟨h1,_⟩,_⟩:=h;intro f;rcases hp with ⟨rfl,_⟩ | ⟨b',v',ps,pl,rfl,e,h3,_⟩
 ·cases f
 ·cases f
  have a:w.heap[b']? = some (.cells #[v',.int .i64 (pl:Nat)] 84 (0,0)):=h3;rw [a] at h1;cases h1

theorem ScrAt.other {w w':World} {p:Option Addr} {b B C:Nat} {bs cs:List Nat} (h:ScrAt w b C cs) (hp:Lsc w p B bs) (k:Kept (ofP p) w w'):ScrAt w' b C cs:=by
 have hn:=h.noP hp;obtain ⟨v,h1,h2,h3⟩:=h;exact ⟨v,h1.kept k hn (fun hx=>hp.apart h1.2.1 hx),h2,h3⟩

theorem Lsc.plain {w w':World} {p:Option Addr} {b B C:Nat} {bs cs:List Nat} (hp:Lsc w p B bs) (h:ScrAt w b C cs) (k:Kept (fun x=>x=b) w w'):Lsc w' p B bs:=by
 have hn:=h.noP hp;rcases hp with h' | ⟨b',v,ps,pl,rfl,e,h1,h2,h3⟩
 ·exact .inl h'
 ·refine .inr ⟨b',v,ps,pl,rfl,e,(k.block b' (lt_of_block h1) (fun f=>hn (by rw [f];rfl))).trans h1,h2.kept' k (fun hx x ex f=>h.apart h2 hx (by rw [ex,f])),h3⟩

theorem oY (p:Option Addr) (B:Nat) (bs:List Nat) (w:World) (h:Lsc w p B bs) :
  Calls Tryz.prog 18 #[.pointer p] w fun e w'=>e=.returned (.int .i64 (bs.length:Nat))∧∃ m,w'=w.drewN m:=by
 rcases h with ⟨rfl,rfl⟩ | ⟨b,v,ps,k,rfl,rfl,h⟩
 ·go_enter Tryz.func18,Tryz.ntmps18;go_wp2_with fail;go_ret;exact ⟨rfl,0,rfl⟩
 ·obtain ⟨c0,c1⟩:=h.cells;obtain ⟨ao,L,f,rfl,hL,i,j,c,a⟩:=h.2.1.open;have hk:k≤L:=by rw [← hL.out];exact h.2.2.1
  have g:L≤1000000:=by rw [← hL.out];exact h.2.2.2.1
  have e1:(ps.drop k).length=L-k:=by rw [List.length_drop,hL.out]
  rw [e1];obtain ⟨d,hd⟩:∃ d,d=L-k:=⟨_,rfl⟩
  rw [← hd];have g1:(L:Int)-(k:Int)=(d:Int):=by omega
  clear hd e1 a h c;go_enter Tryz.func18,Tryz.ntmps18;go_wp2_with fail;go_quiet (fail);go_wp2_with fail;go_ret;exact ⟨rfl,_,rfl⟩

theorem oR {w:World} {o:Option Addr} {l c:Nat} {bs:List Nat} (h:Row .u8 w (.slice o l c) bs):ScrAt (w.alloc (.cells #[.slice o l c] 43)) w.heap.size (w.heap.size+1) bs:=by
 have hlt:=h.lt;have k:Kept af w (w.alloc (.cells #[.slice o l c] 43)):=(ah _ _).alloc _;refine ⟨_,⟨heap_alloc_new _ _,h.grew k,fun e x hx=>?_⟩,by omega,fun e x hx=>?_⟩
 ·have:=hlt e x hx;omega
 ·have:=hlt e x hx;omega

end Go.Proofs.YtkaojflnghfmcaaGreatDoor
