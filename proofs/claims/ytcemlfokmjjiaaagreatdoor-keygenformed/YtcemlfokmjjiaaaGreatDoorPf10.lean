/- Put together of: Lsc4 Lsc5 Nob1 Lsc6 Law20. -/
import Derived.Test.YtcemlfokmjjiaaaGreatDoorPf9
import Derived.Laws.OwnMore

namespace Go.Proofs.YtcemlfokmjjiaaaGreatDoor
set_option maxRecDepth 100000
set_option maxHeartbeats 4000000
open Go.RowKit Go.Shelf

attribute [local go_sem] Oper.semAt_some

theorem uk {x:Nat} {r:List Nat} (hr:Digs r 256) {t s:Nat} (hs:s<8) (ht:t+s=8*(r.length+1)):bev (x%2^(8-s) :: r)=bev (x :: r)%2^t:=by
 have e:∀ y,bev (y :: r)=y*256^r.length+bev r:=fun y=>by
  have:=jt [y] r;simpa [bev] using this
 have hp:2^t=256^r.length*2^(8-s):=by
  rw [show (256:Nat)=2^8 from rfl,← Nat.pow_mul,← Nat.pow_add]
  congr 1
  omega
 have hl:=px hr;have a:0<256^r.length:=Nat.pow_pos (by omega);rw [e,e,hp,Nat.mod_mul,Nat.mul_comm x,Nat.mul_add_mod,al hl,Nat.mul_add_div a,Nat.div_eq_of_lt hl,Nat.add_zero,Nat.mul_comm (x%_)];omega

theorem up {x s:Nat} (hs:s<8):x &&& (255/2^s)=x%2^(8-s):=by
 have e:255/2^s=2^(8-s)-1:=by
  obtain rfl | rfl | rfl | rfl | rfl | rfl | rfl | rfl:s=0∨s=1∨s=2∨s=3∨s=4∨s=5∨s=6∨s=7:=by omega
  all_goals rfl
 rw [e,Nat.and_two_pow_sub_one_eq_mod]

def kt (t z:Nat) (bs:List Nat) (k:Nat):Nat:=bev ((bs.drop (k*z)).take z)%2^t

def DrwX (p:Option Addr) (B t z L:Nat) (bs:List Nat) (N:Nat) (pre:List (Nat × Value)) (x:Nat × Value) (A:World):Prop:=
 x.1=pre.length+1∧(pre.length+1)*z≤bs.length∧(Row .u64 A x.2 (digs (kt t z bs pre.length) L)∧∀ b,x.2.ownBlock=some b→N≤b)∧Lsc A p B (bs.drop ((pre.length+1)*z))

def CD (p:Option Addr) (B z:Nat) (bs:List Nat) (s:List (Nat × Value)) (A:World):Prop:=s.length*z≤bs.length∧bs.length<(s.length+1)*z∧Lsc A p B []

theorem DrwX.put {p:Option Addr} {B t z L l N:Nat} {bs:List Nat} {a:List (Nat × Value)} {x:Nat × Value} {A:World} {o:Obj} (o':Obj) (h:DrwX p B t z L bs N a x A) (hl:A.heap[l]? = some o) (ho:o.isCells=false):DrwX p B t z L bs N a x (A.putObj l o'):=
 ⟨h.1,h.2.1,⟨iM o' h.2.2.1.1 hl ho,h.2.2.1.2⟩,h.2.2.2.put o' hl ho⟩

theorem AV (p:Option Addr) (t n:Nat) (w:World) (ht:t≤1000000) :
  Calls Tryz.prog 209 #[.pointer p,.int .i64 (t:Int),.int .i64 (n:Int)] w fun e w'=>e=.returned (.func (.func 239) #[] #[.pointer (some ⟨w.heap.size,0,none⟩),.pointer (some ⟨w.heap.size+3,0,none⟩),.pointer (some ⟨w.heap.size+1,0,none⟩),.pointer (some ⟨w.heap.size+2,0,none⟩)]) ∧
   Boxed w' w.heap.size 26 (.pointer p)∧Boxed w' (w.heap.size+1) 3 (.int .i64 (t:Int))∧Boxed w' (w.heap.size+2) 3 (.int .i64 (n:Int))∧Boxed w' (w.heap.size+3) 3 (.int .i64 ((t+7)/8:Nat))∧Kept af w w'∧w'.heap.size=w.heap.size+4:=by
 obtain ⟨z,hz⟩:∃ z,z=(t+7)/8:=⟨_,rfl⟩
 rw [← hz];have g1:((t:Int)+8-1)/8=(z:Int):=by omega
 have g2:((t:Int)+8-1).tdiv 8=(z:Int):=by rw [Int.tdiv_eq_ediv_of_nonneg (by omega)];exact g1
 have b0:=(((Boxed.new w 26 (.pointer p)).alloc (.cells #[.int .i64 (t:Int)] 3)).alloc (.cells #[.int .i64 (n:Int)] 3)).alloc (.cells #[.int .i64 (z:Int)] 3);have b1:=((Boxed.new (w.alloc (.cells #[.pointer p] 26)) 3 (.int .i64 (t:Int))).alloc (.cells #[.int .i64 (n:Int)] 3)).alloc (.cells #[.int .i64 (z:Int)] 3);have b2:=(Boxed.new ((w.alloc (.cells #[.pointer p] 26)).alloc (.cells #[.int .i64 (t:Int)] 3)) 3 (.int .i64 (n:Int))).alloc (.cells #[.int .i64 (z:Int)] 3);have b3:=Boxed.new (((w.alloc (.cells #[.pointer p] 26)).alloc (.cells #[.int .i64 (t:Int)] 3)).alloc (.cells #[.int .i64 (n:Int)] 3)) 3 (.int .i64 (z:Int));simp only [World.size_alloc] at b1 b2 b3
 have c1:((w.alloc (.cells #[.pointer p] 26)).alloc (.cells #[.int .i64 (t:Int)] 3)).cell? ⟨w.heap.size+1,0,none⟩=some (.int .i64 (t:Int)):=by
  have:=(Boxed.new (w.alloc (.cells #[.pointer p] 26)) 3 (.int .i64 (t:Int))).cell
  rwa [World.size_alloc] at this
 have b:=(((Boxed.new (w.alloc (.cells #[.pointer p] 26)) 3 (.int .i64 (t:Int))).alloc (.cells #[.int .i64 (n:Int)] 3)).cell)
 rw [World.size_alloc] at b;have c:=aa b0;have f:=aa b1;have a:=aa b2;have d:=aa b3;have c3:=b3.cell;have f3:=b3.frozen;clear hz b0 b1 b2 b3;go_enter Tryz.func209,Tryz.ntmps209;go_wp2_with fail;go_ret;exact ⟨rfl,c.out,f.out,a.out,d.out,((((ai af w).alloc _).alloc _).alloc _).alloc _,by simp⟩

structure BtwD (W wr:World) (p:Option Addr) (B z k bp bz bt bn t L:Nat) (bs:List Nat):Prop where
 few:k*z≤bs.length
 scr:Lsc wr p B (bs.drop (k*z))
 pb:Boxed wr bp 26 (.pointer p)
 zb:Boxed wr bz 3 (.int .i64 (z:Nat))
 tb:Boxed wr bt 3 (.int .i64 (t:Nat))
 nb:Boxed wr bn 3 (.int .i64 (L:Nat))
 size:W.heap.size≤wr.heap.size

theorem BtwD.kept {S:Nat→Prop} {W wr w':World} {p:Option Addr} {B z k bp bz bt bn t L:Nat} {bs:List Nat} (b:BtwD W wr p B z k bp bz bt bn t L bs) (kk:Kept S wr w') (hB:∀ x,x<B→¬ S x) (h1:¬ S bp) (h2:¬ S bz) (h3:¬ S bt) (h4:¬ S bn):BtwD W w' p B z k bp bz bt bn t L bs:=
 ⟨b.few,b.scr.kept kk hB,aH b.pb kk h1,aH b.zb kk h2,aH b.tb kk h3,aH b.nb kk h4,Nat.le_trans b.size kk.size⟩

theorem BtwD.next {S:Nat→Prop} {W wr w':World} {p:Option Addr} {B z k bp bz bt bn t L:Nat} {bs:List Nat} (b:BtwD W wr p B z k bp bz bt bn t L bs) (kk:Kept S wr w') (hf:(k+1)*z≤bs.length) (hs:Lsc w' p B (bs.drop ((k+1)*z))) (h1:¬ S bp) (h2:¬ S bz) (h3:¬ S bt) (h4:¬ S bn):BtwD W w' p B z (k+1) bp bz bt bn t L bs:=
 ⟨hf,hs,aH b.pb kk h1,aH b.zb kk h2,aH b.tb kk h3,aH b.nb kk h4,Nat.le_trans b.size kk.size⟩

theorem xd (n:Nat) (hn:1≤n) (p:Option Addr) (B t z s L bp bz bt bn:Nat) (bs:List Nat) (w:World) (Sb:Nat→Prop) (hz:1≤z) (ah:t+s=8*z) (ag:s<8) (hL:L≤300) (aI:t≤64*L)
  (H:Lsc w p B bs) (hd:Digs bs 256) (hp:Boxed w bp 26 (.pointer p)) (S:Boxed w bz 3 (.int .i64 (z:Nat))) (M:Boxed w bt 3 (.int .i64 (t:Nat))) (P:Boxed w bn 3 (.int .i64 (L:Nat)))
  (hB:B≤w.heap.size) (lp:B≤bp) (lz:B≤bz) (lt:B≤bt) (ln:B≤bn) (hSb:∀ b,Sb b→B≤b∧b<w.heap.size) (sp:¬ Sb bp) (sz:¬ Sb bz) (st:¬ Sb bt) (sn:¬ Sb bn) :
  BB n Tryz.prog 239 #[.pointer (some ⟨bp,0,none⟩),.pointer (some ⟨bz,0,none⟩),.pointer (some ⟨bt,0,none⟩),.pointer (some ⟨bn,0,none⟩)] (fun x:Nat × Value=>#[.int .i64 (x.1:Nat),x.2]) (DrwX p B t z L bs w.heap.size) Sb (ofP p) (CD p B z bs) w:=by
 rintro l J Jx W m an V hJ hY h0;have al:=hp.lt;have ao:=S.lt;have U:=M.lt;have ac:=P.lt;have H0:Hid (BtwD W W p B z 0 bp bz bt bn t L bs):=⟨by omega,by rw [Nat.zero_mul];exact H.grew m,bC hp m,bC S m,bC M m,bC P m,leR _⟩
 have aJ:=H.len;have HD:=aa hd;have ae:=aa h0;have G:Hid (∀ x,ofP p x→x<B):=fun x hx=>(H.inP hx).1
 have c:Hid (B≤w.heap.size∧B≤bp∧B≤bz∧B≤bt∧B≤bn∧bp<w.heap.size∧bz<w.heap.size∧bt<w.heap.size∧bn<w.heap.size∧l=w.heap.size+1∧W.heap.size=w.heap.size+2):=⟨hB,lp,lz,lt,ln,al,ao,U,ac,an,V⟩
 have C:Hid (t+s=8*z∧t≤64*L∧1≤z):=⟨ah,aI,hz⟩
 have gs:(8:Int)*(z:Int)-(t:Int)=(s:Int):=by omega
 obtain ⟨y,hy⟩:∃ y,y=255/2^s:=⟨_,rfl⟩
 have gy:(255:Int)/2^s=(y:Int):=by rw [hy];simp
 have au:y<256:=by rw [hy];exact Nat.lt_of_le_of_lt (Nat.div_le_self _ _) (by omega)
 have HY:=aa hy;have aQ:(0:Int)≤(s:Int):=by omega
 have S:z≤2401:=by omega
 clear H hd hp M P m h0 hB lp lz lt ln al ao U ac an V hy;refine callsIn_of_wp Tryz.func239 rfl trivial ?_ rfl;simp only [Tryz.ntmps239,List.size_toArray,List.length_cons,List.length_nil,Nat.reduceAdd,Nat.reduceSub,Array.replicate_succ,Array.replicate_zero,List.push_toArray,List.append_toArray,List.nil_append,List.cons_append];refine wpIn_wide.2 ?_;go_wp2_with fail;refine (wpIn_wide (n:=n)).1 ?_
 gi_loopw [6] (fun iv wr=>∃ (k:Nat) (i:List (Nat × Value)),iv=.int .i64 ((k+1:Nat):Int)∧Hid (i.length=k)∧Hid (J i wr)∧Hid (BtwD W wr p B z k bp bz bt bn t L bs)) (fun iv _=>1000002-(intOf iv).toNat)
 case atStart=>exact ⟨0,[],rfl,rfl,ae.out,H0.out⟩
 case round=>
  clear ae H0;obtain ⟨k,i,rfl,HP,HJ,HB⟩:=hrel;obtain ⟨j,hj⟩:∃ j,j=k+1:=⟨_,rfl⟩
  rw [← hj];have ad:=aa hj;have aP:k≤1000000:=by
   have h1:=HB.out.few;have h2:k*1≤k*z:=Nat.mul_le_mul_left _ C.out.2.2;omega
  have aL:j≤1000001:=by omega
  have gj:IntKind.i64.wrap ((j:Int)+1)=(j:Int)+1:=by rw [IntKind.wrap_i64];omega
  clear hj;have J1:=yT p B (bs.drop (k*z)) z wr HB.out.scr;have cp:=HB.out.pb.cell;have cz:=HB.out.zb.cell;by_cases hlen:(bs.drop (k*z)).length<z
  ·have t1:cL (bs.drop (k*z)) (z:Int)=150:=by unfold cL;rw [if_neg (by omega),if_pos (by omega)]
   have t2:dH (bs.drop (k*z)) (z:Int)=[]:=by unfold dH;rw [if_neg (by omega)];exact List.drop_of_length_le (by show _≤((z:Int)).toNat;omega)
   rw [t1,t2] at J1;have av:Hid (bs.length<(k+1)*z):=by unfold Hid;rw [List.length_drop] at hlen;rw [Nat.succ_mul];have:=HB.out.few;omega
   clear t1 t2 hlen
   gi_wp2_with fail
   refine ⟨trivial,?_⟩;refine (callsIn_wide.2 J1).mono ?_;rintro e w3 ⟨u,rfl,hO,h3,k3⟩;have F:=aa (hJ _ _ _ HJ.out (k3.mono fun _ _ e=>.inl e));obtain ⟨xo,xc,rfl⟩:=bh hO;have ax:=aa h3;clear J1 hO h3 k3
   gi_wp2_with fail
   refine bodyPost_ret (results_none rfl _ _ _) rfl ?_;exact ⟨⟨_,rfl⟩,.inl ⟨i,⟨by rw [HP.out];exact HB.out.few,by rw [HP.out];exact av.out,ax.out⟩,F.out⟩⟩
  ·have t1:cL (bs.drop (k*z)) (z:Int)=0:=by unfold cL;rw [if_neg (by omega),if_neg (by omega)]
   have D:(k+1)*z≤bs.length:=by rw [List.length_drop] at hlen;rw [Nat.succ_mul];have:=HB.out.few;omega
   have t2:dH (bs.drop (k*z)) (z:Int)=bs.drop ((k+1)*z):=by unfold dH;rw [if_neg (by omega),List.drop_drop,Nat.succ_mul];rfl
   have t3:dt (bs.drop (k*z)) (z:Int)=(bs.drop (k*z)).take z:=by unfold dt;rw [t1];rfl
   rw [t1,t2,t3] at J1;obtain ⟨x0,tl,A⟩:∃ x0 tl,(bs.drop (k*z)).take z=x0 :: tl:=by
    cases hc:(bs.drop (k*z)).take z with
    | nil=>
     have e1:=congrArg List.length hc;rw [List.length_take] at e1;have e2:([]:List Nat).length=0:=rfl;omega
    | cons a b=>exact ⟨a,b,rfl⟩
   have E:Digs (x0 :: tl) 256:=by rw [← A];exact (HD.out.drop _).take _
   have I:tl.length+1=z:=by
    have e1:=congrArg List.length A;rw [List.length_take,List.length_cons] at e1;omega
   rw [A] at J1;have aq:x0<256:=E.head;have e6:=u8_and_nat x0 y aq au;obtain ⟨q,hq⟩:∃ q,q=x0 &&& y:=⟨_,rfl⟩
   rw [← hq] at e6;have R:q=x0%2^(8-s):=by rw [hq,HY.out];exact up ag
   have aB:q<256:=by rw [R];exact Nat.lt_of_le_of_lt (Nat.mod_le _ _) aq
   have HV:Hid (bev (q :: tl)=kt t z bs k):=by unfold Hid kt;rw [A,R];exact uk E.tail ag (by rw [I];exact ah)
   have aA:Hid (Digs (q :: tl) 256):=fun d hd=>by
    rcases List.mem_cons.1 hd with rfl | hd
    ·exact aB
    ·exact E.tail d hd
   have aK:Hid ((q :: tl).length=z):=by unfold Hid;rw [List.length_cons];exact I
   have r:=aa D;clear t1 t2 t3 hlen hq R A E D
   gi_wp2_with fail
   refine ⟨trivial,?_⟩;refine (callsIn_wide.2 J1).mono ?_;rintro e w3 ⟨u,rfl,hO,h3,k3⟩;have F:=aa (hJ _ _ _ HJ.out (k3.mono fun _ _ e=>.inl e));have B3:=aa (HB.out.next k3 r.out h3 (fun e=>by have:=G.out _ e;have:=c.out;omega) (fun e=>by have:=G.out _ e;have:=c.out;omega) (fun e=>by have:=G.out _ e;have:=c.out;omega) (fun e=>by have:=G.out _ e;have:=c.out;omega));have v:w3.ownsRow wr.heap.size 5 1 u z ((x0 :: tl).map fun a:Nat=>Value.int .u8 (a:Int)):=by
    have:=hO;unfold OwnB OwnN at this;rw [List.length_cons,I] at this;exact this
   obtain ⟨g,cap,rfl⟩:∃ g cap,u=.slice (some ⟨g,0,none⟩) z cap:=by
    rcases v.2 with ⟨_,e⟩ | ⟨g,cap,_,e,_⟩
    ·omega
    ·exact ⟨g,cap,e⟩
   have aD:w3.cell? ⟨g,0,none⟩=some (.int .u8 (x0:Nat)):=by
    obtain ⟨_,_,_,e,_,_,_,_,Q⟩:=hO.row.open;cases e
    obtain ⟨b',aH,e,hc⟩:=Q 0 (by omega);cases e
    exact hc
   have aC:=v.frozenAt 0;obtain ⟨X,az⟩:=v.stored 0 (.int .u8 (q:Int));have aF:=v.lt g rfl;have k4:Kept (fun x=>wr.heap.size≤x) w3 (w3.setCell ⟨g,0,none⟩ (.int .u8 (q:Int))):=(ai _ _).setCell _ (fun _=>aF.1) _;have Y:Hid (Row .u8 (w3.setCell ⟨g,0,none⟩ (.int .u8 (q:Int))) (.slice (some ⟨g,0,none⟩) z cap) (q :: tl)):=(OwnB.of (n:=z) (zs:=q :: tl) X).row;have ay:=B3.out.zb.cell;have aG:=B3.out.tb.cell;have aN:g≠bz:=by have:=c.out;have:=HB.out.size;omega
   have aO:g≠bt:=by have:=c.out;have:=HB.out.size;omega
   have aM:(0:Int)<(z:Int):=by omega
   have ak:=aa k4;clear J1 hO v X az h3 k3 k4 cp cz
   gi_wp2_with fail
   gi_region
   have k4:Kept (fun x=>wr.heap.size≤x) w3 (w3.setCell ⟨g,0,none⟩ (.int .u8 (q:Int))).drew:=ak.out.drew;have r4:Row .u8 (w3.setCell ⟨g,0,none⟩ (.int .u8 (q:Int))).drew (.slice (some ⟨g,0,none⟩) z cap) (q :: tl):=Y.out.grew ((ai _ _).drew);generalize (w3.setCell ⟨g,0,none⟩ (.int .u8 (q:Int))).drew=w4 at *;have h:∀ x,x<w.heap.size→¬ wr.heap.size≤x:=fun x hx=>by have:=c.out;have:=HB.out.size;omega
   have B4:=aa (B3.out.kept k4 (fun x hx=>h x (by have:=c.out;omega)) (h _ (by have:=c.out;omega)) (h _ (by have:=c.out;omega)) (h _ (by have:=c.out;omega)) (h _ (by have:=c.out;omega)));have ap:=aa (hJ _ _ _ F.out (k4.mono fun x _ (e:wr.heap.size≤x)=>.inr (by have:=HB.out.size;omega)));have N:aj (kt t z bs k)≤L:=by
    rw [am];refine Nat.lt_of_lt_of_le (Nat.mod_lt _ (Nat.pow_pos (by omega))) ?_;rw [show (18446744073709551616:Nat)=2^64 from rfl,← Nat.pow_mul];exact Nat.pow_le_pow_right (by omega) C.out.2.1
   have T:=CH (.slice (some ⟨g,0,none⟩) z cap) (q :: tl) (L:Int) w4 r4 aA.out;rw [HV.out,(i8 hL N).1,(i8 hL N).2] at T;have aw:=B4.out.nb.cell;clear k4 r4 ak Y N aD aC ay aG F B3 h e6
   gi_wp2_with fail
   refine ⟨trivial,?_⟩;refine (callsIn_wide.2 T).mono ?_;rintro e w5 ⟨v5,rfl,r5,f5,k5⟩;have ab:∀ b,v5.ownBlock=some b→w.heap.size≤b:=fun b hb=>by have h1:=f5 b hb;have h2:=B4.out.size;have h3:=c.out;omega
   have B5:=aa (B4.out.kept k5 (fun _ _ f=>f) (fun f=>f) (fun f=>f) (fun f=>f) (fun f=>f));have af:=aa (hJ _ _ _ ap.out k5.any);have Z:DrwX p B t z L bs w.heap.size i (j,v5) w5:=⟨by rw [HP.out];exact ad.out,by rw [HP.out];exact r.out,⟨by rw [HP.out];exact r5,ab⟩,by rw [HP.out];exact B5.out.scr⟩
   obtain ⟨fn,tmps,assign,body,hy,hR⟩:=hY i (j,v5) w5 af.out Z;obtain ⟨xo,xn,xc,rfl,_⟩:=r5.open;clear T r5 f5 ab k5 aw Z B4 ap
   gi_wp2_with fail
   refine hR.mono ?_;rintro e w6 (⟨rfl,ar,k6⟩ | ⟨rfl,O⟩)
   ·have o:∀ x,x<w.heap.size→¬ Sb x→¬ (Sb x∨x=l∨x+1=l):=fun x hx hs=>by
     have:=c.out;rintro (e | e | e)
     ·exact hs e
     ·omega
     ·omega
    have B6:=aa (B5.out.kept k6 (fun x hx=>o x (by have:=c.out;omega) (fun e=>by have:=(hSb x e).1;omega)) (o _ (by have:=c.out;omega) sp) (o _ (by have:=c.out;omega) sz) (o _ (by have:=c.out;omega) st) (o _ (by have:=c.out;omega) sn));have aE:=aa ar;clear hR hy ar k6 B5 af o
    gi_wp2_with fail
    go_roundw
    case rel=>exact ⟨k+1,i ++ [(j,Value.slice xo xn xc)],by rw [← ad.out];first | rfl | (rw [gj];rfl),by unfold Hid;rw [List.length_append,HP.out];rfl,aE,B6⟩
    case measure=>simp [intOf];omega
   ·gi_wp2_with fail
    refine bodyPost_ret (results_none rfl _ _ _) rfl ?_;exact ⟨⟨_,rfl⟩,.inr ⟨_,O⟩⟩

attribute [local go_sem] Oper.semAt_some

theorem ja {k:IntKind} {w:World} {b:Nat} {cs:Array Value} {t:TypeId} {v:Value} {xs:List Nat} (hb:w.heap[b]? = some (.cells cs t (0,0))) (hc:∀ u ∈ cs,∀ z,u≠.int k z) (hv:Row k w v xs) (hx:xs≠[]):v.ownBlock≠some b:=by
 intro e;obtain ⟨ao,L,cap,rfl,hL,_,_,_,d⟩:=hv.open;have c:0<L:=by
  rw [← hL.out];exact List.length_pos_iff.2 hx
 obtain ⟨b',off,rfl,a⟩:=d 0 c;cases e
 rw [cell_of_row w b' (off+0) _ _ _ hb] at a;exact hc _ (Array.mem_of_getElem? a) _ rfl

theorem Lsc.apart {k:IntKind} {w:World} {p:Option Addr} {B:Nat} {bs xs:List Nat} {v:Value} (h:Lsc w p B bs) (hv:Row k w v xs) (hx:xs≠[]) (hk:k≠.i64:=by decide):∀ x,v.ownBlock=some x→¬ ofP p x:=by
 intro x e hp;rcases h with ⟨rfl,_⟩ | ⟨b,v',ps,pl,rfl,_,h⟩
 ·cases hp
 ·cases hp
  refine ja h.1 ?_ hv hx e;obtain ⟨_,_,rfl,_⟩:=h.2.1;intro u hu z;simp at hu;rcases hu with rfl | rfl
  ·simp
  ·intro e;cases e
   exact hk rfl

theorem gI {w:World} {b:Nat} {t:TypeId} {u v:Value} {xs:List Nat} (hb:Boxed w b t u) (hu:∀ z,u≠.int .u64 z) (hv:Row .u64 w v xs) (hx:xs≠[]):v.ownBlock≠some b:=
 ja hb (fun y hy z=>by simp at hy;rw [hy];exact hu z) hv hx

structure BtwB (w W:World) (p:Option Addr) (v:Value) (gm gx gk ge:Nat):Prop where
 mb:Boxed W gm 32 v
 xb:Boxed W gx 32 (.slice none 0 0)
 kb:Boxed W gk 3 (.int .i64 0)
 eb:Boxed W ge 33 (.int .i64 0)
 old:Kept (ofP p) w W

theorem BtwB.kept {S:Nat→Prop} {w W W':World} {p:Option Addr} {v:Value} {gm gx gk ge:Nat} (b:BtwB w W p v gm gx gk ge) (k:Kept S W W') (h0:¬ S gm) (h1:¬ S gx) (h2:¬ S gk) (h3:¬ S ge) (ho:∀ x,x<w.heap.size→S x→ofP p x):BtwB w W' p v gm gx gk ge:=
 ⟨aH b.mb k h0,aH b.xb k h1,aH b.kb k h2,aH b.eb k h3,b.old.next k ho⟩

structure EndB (w W:World) (p:Option Addr) (B:Nat) (gx gk ge:Nat) (X:List Nat) (K E:Nat) (r:List Nat) (u:Value):Prop where
 xb:Boxed W gx 32 u
 kb:Boxed W gk 3 (.int .i64 (K:Nat))
 eb:Boxed W ge 33 (.int .i64 (E:Nat))
 row:Row .u64 W u X
 scr:Lsc W p B r
 old:Kept (ofP p) w W
 new:∀ b,u.ownBlock=some b→w.heap.size≤b

theorem EndB.put {w W:World} {p:Option Addr} {B gx gk ge K E l:Nat} {X r:List Nat} {u:Value} {o:Obj} (o':Obj) (h:EndB w W p B gx gk ge X K E r u) (hl:W.heap[l]? = some o) (ho:o.isCells=false) (hw:w.heap.size≤l):EndB w (W.putObj l o') p B gx gk ge X K E r u:=by
 have a:∀ {b:Nat} {t:TypeId} {v:Value},Boxed W b t v→Boxed (W.putObj l o') b t v:=fun {b t v} hb=>(World.putObj_heap_other fun e=>by
  subst e;have c:W.heap[_]? = some (Obj.cells _ _ _):=hb;rw [hl] at c;cases c
  cases ho).trans hb
 exact ⟨a h.xb,a h.kb,a h.eb,iM o' h.row hl ho,h.scr.put o' hl ho,h.old.next (dF W l o') (fun x hx e=>by
  have e':x=l:=e;omega),h.new⟩

theorem dR {w:World} {b:Nat} {t:TypeId} {v:Value} (h:Boxed w b t v) (c:Nat) (u:Value) (d:b≠c):Boxed (w.setCell ⟨c,0,none⟩ u) b t v:=dj (a:=⟨c,0,none⟩) h d u

theorem BtwB.ends {w W:World} {p:Option Addr} {v u:Value} {gm gx gk ge B:Nat} {X r:List Nat} (I:BtwB w W p v gm gx gk ge) (a:Row .u64 W u X) (f:∀ b,u.ownBlock=some b→w.heap.size≤b) (d:Lsc W p B r) (n1:gx≠gk) (n2:gx≠ge) (n3:gk≠ge) (lx:w.heap.size≤gx) (lk:w.heap.size≤gk) (le:w.heap.size≤ge) (hB:B≤w.heap.size) (K E:Nat) :
  EndB w (((W.setCell ⟨gx,0,none⟩ u).setCell ⟨gk,0,none⟩ (.int .i64 (K:Nat))).setCell ⟨ge,0,none⟩ (.int .i64 (E:Nat))) p B gx gk ge X K E r u∧Kept (fun b=>b=gx∨b=gk∨b=ge) W (((W.setCell ⟨gx,0,none⟩ u).setCell ⟨gk,0,none⟩ (.int .i64 (K:Nat))).setCell ⟨ge,0,none⟩ (.int .i64 (E:Nat))):=by
 have kS:Kept (fun b=>b=gx∨b=gk∨b=ge) W (((W.setCell ⟨gx,0,none⟩ u).setCell ⟨gk,0,none⟩ (.int .i64 (K:Nat))).setCell ⟨ge,0,none⟩ (.int .i64 (E:Nat))):=
  (((ai _ _).setCell ⟨gx,0,none⟩ (fun _=>.inl rfl) _).setCell ⟨gk,0,none⟩ (fun _=>.inr (.inl rfl)) _).setCell ⟨ge,0,none⟩ (fun _=>.inr (.inr rfl)) _
 have x1:Boxed (W.setCell ⟨gx,0,none⟩ u) gx 32 u:=I.xb.set u;have k1:=dR I.kb gx u n1.symm;have e1:=dR I.eb gx u n2.symm;have x2:=dR x1 gk (.int .i64 (K:Nat)) n1;have k2:Boxed _ gk 3 (.int .i64 (K:Nat)):=k1.set (.int .i64 (K:Nat));have e2:=dR e1 gk (.int .i64 (K:Nat)) n3.symm;have x3:=dR x2 ge (.int .i64 (E:Nat)) n2;have k3:=dR k2 ge (.int .i64 (E:Nat)) n3;have e3:Boxed _ ge 33 (.int .i64 (E:Nat)):=e2.set (.int .i64 (E:Nat));refine ⟨⟨x3,k3,e3,a.kept' kS ?_,d.kept kS ?_,I.old.next kS ?_,f⟩,kS⟩
 ·rintro c x hx (rfl | rfl | rfl)
  ·exact gI I.xb (fun z e=>by cases e) a c hx
  ·exact gI I.kb (fun z e=>by cases e) a c hx
  ·exact gI I.eb (fun z e=>by cases e) a c hx
 ·rintro x hx (e | e | e) <;> omega
 ·rintro x hx (e | e | e) <;> omega

def BelK (M t z:Nat) (bs:List Nat) (k:Nat):Prop:=∃ f,(bs.drop (k*z)).length<f∧eK M t z (bs.length+1) bs 1=eK M t z f (bs.drop (k*z)) (k+1)

theorem BelK.zero (M t z:Nat) (bs:List Nat):BelK M t z bs 0:=⟨bs.length+1,by simp,by simp⟩

theorem BelK.step {M t z k:Nat} {bs:List Nat} (h:BelK M t z bs k) (hz:0<z) (hl:(k+1)*z≤bs.length) :
  (0<kt t z bs k∧kt t z bs k<M∧eK M t z (bs.length+1) bs 1=(kt t z bs k,k+1,bs.drop ((k+1)*z)))∨(¬ (0<kt t z bs k∧kt t z bs k<M)∧BelK M t z bs (k+1)):=by
 obtain ⟨f,hf,e⟩:=h;have hd:(bs.drop (k*z)).drop z=bs.drop ((k+1)*z):=by rw [List.drop_drop,Nat.succ_mul]
 have a:¬ (bs.drop (k*z)).length<z:=by rw [List.length_drop];rw [Nat.succ_mul] at hl;omega
 rcases lj (M:=M) (t:=t) (k:=k+1) hf hz with ⟨h1,_⟩ | ⟨_,h2,h3⟩ | ⟨_,h2,f',hf',h3⟩
 ·exact absurd h1 a
 ·rw [hd] at h3;exact .inl ⟨h2.1,h2.2,e.trans h3⟩
 ·rw [hd] at h3 hf';exact .inr ⟨h2,f',hf',e.trans h3⟩

theorem BelK.spent {M t z k:Nat} {bs:List Nat} (h:BelK M t z bs k) (hz:0<z) (h0:k*z≤bs.length) (hl:bs.length<(k+1)*z):eK M t z (bs.length+1) bs 1=(0,0,[]):=by
 obtain ⟨f,hf,e⟩:=h;have a:(bs.drop (k*z)).length<z:=by rw [List.length_drop];rw [Nat.succ_mul] at hl;omega
 rcases lj (M:=M) (t:=t) (k:=k+1) hf hz with ⟨_,h3⟩ | ⟨h1,_⟩ | ⟨h1,_⟩
 ·exact e.trans h3
 ·exact absurd a h1
 ·exact absurd a h1

theorem lf (p:Option Addr) (B:Nat) (bs xs:List Nat) (v:Value) (w:World) (h:Lsc w p B bs) (hv:Row .u64 w v xs) (hd:Digs xs) (hl:xs.length≤1000000) (a:300<xs.length∨val xs<2) :
  Calls Tryz.prog 169 #[.pointer p,v] w fun e w'=>e=.returned (.tuple #[.slice none 0 0,.int .i64 0,.int .i64 (dn xs bs:Nat)])∧Lsc w' p B bs∧Kept af w w':=by
 have HS:=aa h;have JB:=aa fun W (k:Kept af w W)=>dG v xs W (hv.grew k) hd (by omega)
 obtain ⟨ao,L,cap,rfl,hL,f,j,d,_⟩:=hv.open;have i:L≤1000000:=by have:=hL.out;omega
 have bM:=(((Boxed.new w 32 (.slice ao L cap)).alloc (.cells #[.slice none 0 0] 32)).alloc (.cells #[.int .i64 0] 3)).alloc (.cells #[.int .i64 0] 33);have bR:∀ E:Int,((((w.alloc (.cells #[.slice ao L cap] 32)).alloc (.cells #[.slice none 0 0] 32)).alloc (.cells #[.int .i64 0] 3)).alloc (.cells #[.int .i64 E] 33)).cell? ⟨w.heap.size+1,0,none⟩=some (.slice none 0 0) ∧
   ((((w.alloc (.cells #[.slice ao L cap] 32)).alloc (.cells #[.slice none 0 0] 32)).alloc (.cells #[.int .i64 0] 3)).alloc (.cells #[.int .i64 E] 33)).cell? ⟨w.heap.size+1+1,0,none⟩=some (.int .i64 0) ∧
   ((((w.alloc (.cells #[.slice ao L cap] 32)).alloc (.cells #[.slice none 0 0] 32)).alloc (.cells #[.int .i64 0] 3)).alloc (.cells #[.int .i64 E] 33)).cell? ⟨w.heap.size+1+1+1,0,none⟩=some (.int .i64 E):=fun E=>by
  have bX:=(((Boxed.new (w.alloc (.cells #[.slice ao L cap] 32)) 32 (.slice none 0 0)).alloc (.cells #[.int .i64 0] 3)).alloc (.cells #[.int .i64 E] 33)).cell;have bK:=((Boxed.new ((w.alloc (.cells #[.slice ao L cap] 32)).alloc (.cells #[.slice none 0 0] 32)) 3 (.int .i64 0)).alloc (.cells #[.int .i64 E] 33)).cell;have bE:=(Boxed.new (((w.alloc (.cells #[.slice ao L cap] 32)).alloc (.cells #[.slice none 0 0] 32)).alloc (.cells #[.int .i64 0] 3)) 33 (.int .i64 E)).cell;simp only [World.size_alloc] at bX bK bE;exact ⟨bX,bK,bE⟩
 have kR:∀ E:Int,Kept af w ((((w.alloc (.cells #[.slice ao L cap] 32)).alloc (.cells #[.slice none 0 0] 32)).alloc (.cells #[.int .i64 0] 3)).alloc (.cells #[.int .i64 E] 33)):=fun E=>((((ai af w).alloc _).alloc _).alloc _).alloc _
 have cM:=bM.cell;have c:=aa bR;have b:=aa kR;clear bR kR;by_cases h1:300<L
 ·have e1:dn xs bs=2:=by unfold dn;rw [hL.out,if_pos h1]
  rw [e1];have g1:(L:Int) > 300:=by omega
  have g2:(300:Int)<(L:Int):=by omega
  clear e1 a JB bM h hv hd;go_enter Tryz.func169,Tryz.ntmps169;go_wp2_with fail;obtain ⟨q1,q2,q3⟩:=c.out 2;refine bodyPost_ret (v:=.tuple #[.slice none 0 0,.int .i64 0,.int .i64 2]) (by simp [results,Tryz.results169,go_sem,q1,q2,q3]) rfl ?_;exact ⟨rfl,HS.out.grew (b.out 2),b.out 2⟩
 ·have hV:val xs<2:=by
   have:=hL.out;rcases a with h | h
   ·omega
   ·exact h
  have e1:dn xs bs=1:=by unfold dn;rw [hL.out,if_neg h1,if_pos hV]
  rw [e1];have g1:¬ (L:Int) > 300:=by omega
  have g2:¬ (300:Int)<(L:Int):=by omega
  have g:au (val xs)≤1:=(aA _ 1).2 (by omega);generalize au (val xs)=t at *;have g3:(t:Int)<2:=by omega
  clear e1 a hV bM h hv hd;go_enter Tryz.func169,Tryz.ntmps169;go_wp2_with fail;refine (JB.out _ (b.out 0)).mono ?_;rintro e w1 ⟨rfl,rfl⟩;clear JB;obtain ⟨p1,p2,p3⟩:=c.out 0;go_wp2_with fail;obtain ⟨q1,q2,q3⟩:=c.out 1;refine bodyPost_ret (v:=.tuple #[.slice none 0 0,.int .i64 0,.int .i64 1]) (by simp [results,Tryz.results169,go_sem,q1,q2,q3]) rfl ?_;exact ⟨rfl,HS.out.grew (b.out 1),b.out 1⟩

theorem pQ (p:Option Addr) (B:Nat) (bs xs:List Nat) (v:Value) (w:World) (h:Lsc w p B bs) (hB:B≤w.heap.size) (aN:Digs bs 256) (hv:Row .u64 w v xs) (hd:Digs xs) (hl:xs.length≤300) (U:2≤val xs) :
  Calls Tryz.prog 169 #[.pointer p,v] w fun e w'=>∃ u,e=.returned (.tuple #[u,.int .i64 (ii xs bs:Nat),.int .i64 (dn xs bs:Nat)])∧(Row .u64 w' u (dZ xs bs)∧∀ b,u.ownBlock=some b→w.heap.size≤b)∧Lsc w' p B (eH xs bs)∧Kept (ofP p) w w':=by
 obtain ⟨M,hM⟩:∃ M,M=val xs:=⟨_,rfl⟩
 obtain ⟨t,ht⟩:∃ t,t=au M:=⟨_,rfl⟩
 obtain ⟨z,hz⟩:∃ z,z=(t+7)/8:=⟨_,rfl⟩
 rw [← hM] at U;have aB:M<18446744073709551616^xs.length:=by rw [hM];exact aq (by omega) hd
 have ax:t≤64*xs.length:=by rw [ht,hM];exact r9 hd
 have a3:2≤t:=by
  have:=(aA M 1).1;rw [← ht] at this;by_cases h1:t≤1
  ·have:=this h1;omega
  ·omega
 have O:xs≠[]:=by
  rintro rfl;have:val []=0:=rfl;omega
 have aU:Hid (∀ x,v.ownBlock=some x→¬ ofP p x):=h.apart hv O;have J:Hid (∀ W,Kept (ofP p) w W→Row .u64 W v xs):=fun W k=>hv.kept' k (fun _=>aU.out)
 have JB:=aa fun W (k:Kept (ofP p) w W)=>dG v xs W (J.out W k) hd (by omega)
 have JC:=aa fun u ys W (k:Kept (ofP p) w W) (hu:Row .u64 W u ys) (hdu:Digs ys)=>gJ u v ys xs W hu (J.out W k) hdu hd
 rw [← hM] at JB JC;rw [← ht] at JB;have aH:Hid (∀ x,ofP p x→x<B):=fun x hx=>(h.inP hx).1
 have H:Hid (oX M bs=eK M t z (bs.length+1) bs 1):=by unfold Hid oX;rw [← ht,← hz]
 have HE:Hid (dn xs bs=if (eK M t z (bs.length+1) bs 1).1=0 then 150 else 0):=by
  unfold Hid dn;rw [if_neg (by omega),if_neg (by rw [← hM];omega),← hM,H.out]
 have HX:Hid (dZ xs bs=if dn xs bs=0 then digs (eK M t z (bs.length+1) bs 1).1 xs.length else []):=by unfold Hid dZ;rw [← hM,H.out]
 have aE:Hid (ii xs bs=if dn xs bs=0 then (eK M t z (bs.length+1) bs 1).2.1 else 0):=by unfold Hid ii;rw [← hM,H.out]
 have aJ:Hid (eH xs bs=(eK M t z (bs.length+1) bs 1).2.2):=by unfold Hid eH;rw [if_neg (by rw [← hM];omega),← hM,H.out]
 obtain ⟨ao,L,cap,rfl,hL,a8,a5,aQ,_⟩:=hv.open;have aY:L≤300:=by have:=hL.out;omega
 have g1:¬ (L:Int) > 300:=by omega
 have a6:¬ (300:Int)<(L:Int):=by omega
 have g2:¬ (t:Int)<2:=by omega
 rw [hL.out] at ax aB HX;have HL:=aa hL.out;have HS:=aa h;have HZ:=aa hz;have ay:1≤z:=by omega
 have a4:t≤19200:=by omega
 have P:Hid (2≤M∧M<18446744073709551616^L∧t=au M∧t≤64*L):=⟨U,aB,ht,ax⟩
 have aT:=aa aN;have g:=aa hB;clear hv hd hl U aB ht hz ax O aQ hL h hM H aN hB;refine (callsIn_wide (n:=9)).1 ?_;refine callsIn_of_wp_marks Tryz.func169 rfl trivial ?_ rfl;simp only [Tryz.ntmps169,List.size_toArray,List.length_cons,List.length_nil,Nat.reduceAdd,Nat.reduceSub,Array.replicate_succ,Array.replicate_zero,List.push_toArray,List.append_toArray,List.nil_append,List.cons_append];refine wpIn_wide.2 ?_;have bM:=(((Boxed.new w 32 (.slice ao L cap)).alloc (.cells #[.slice none 0 0] 32)).alloc (.cells #[.int .i64 0] 3)).alloc (.cells #[.int .i64 0] 33)
 have bX:=((Boxed.new (w.alloc (.cells #[.slice ao L cap] 32)) 32 (.slice none 0 0)).alloc (.cells #[.int .i64 0] 3)).alloc (.cells #[.int .i64 0] 33);have bK:=(Boxed.new ((w.alloc (.cells #[.slice ao L cap] 32)).alloc (.cells #[.slice none 0 0] 32)) 3 (.int .i64 0)).alloc (.cells #[.int .i64 0] 33);have bE:=Boxed.new (((w.alloc (.cells #[.slice ao L cap] 32)).alloc (.cells #[.slice none 0 0] 32)).alloc (.cells #[.int .i64 0] 3)) 33 (.int .i64 0);have kA:Kept af w ((((w.alloc (.cells #[.slice ao L cap] 32)).alloc (.cells #[.slice none 0 0] 32)).alloc (.cells #[.int .i64 0] 3)).alloc (.cells #[.int .i64 0] 33)):=((((ai af w).alloc _).alloc _).alloc _).alloc _
 have sA:((((w.alloc (.cells #[.slice ao L cap] 32)).alloc (.cells #[.slice none 0 0] 32)).alloc (.cells #[.int .i64 0] 3)).alloc (.cells #[.int .i64 0] 33)).heap.size=w.heap.size+4:=by simp
 simp only [World.size_alloc] at bX bK bE;have cM:=bM.cell;go_wp2_with fail;refine (JB.out _ kA.any).mono ?_;rintro e w1 ⟨rfl,rfl⟩;generalize (((w.alloc (.cells #[.slice ao L cap] 32)).alloc (.cells #[.slice none 0 0] 32)).alloc (.cells #[.int .i64 0] 3)).alloc (.cells #[.int .i64 0] 33)=W1 at *;obtain ⟨gm,Y⟩:∃ gm,gm=w.heap.size:=⟨_,rfl⟩
 obtain ⟨gx,Z⟩:∃ gx,gx=w.heap.size+1:=⟨_,rfl⟩
 obtain ⟨gk,am⟩:∃ gk,gk=w.heap.size+1+1:=⟨_,rfl⟩
 obtain ⟨ge,ar⟩:∃ ge,ge=w.heap.size+1+1+1:=⟨_,rfl⟩
 rw [← ar] at bE ⊢;rw [← am] at bK ⊢;rw [← Z] at bX ⊢;rw [← Y] at bM cM ⊢;have HG:Hid (gm=w.heap.size∧gx=w.heap.size+1∧gk=w.heap.size+2∧ge=w.heap.size+3∧W1.heap.size=w.heap.size+4):=⟨Y,Z,am,ar,sA⟩
 have aP:Hid (BtwB w W1 p (.slice ao L cap) gm gx gk ge):=⟨bM,bX,bK,bE,kA.any⟩
 have aL:=aa (HS.out.grew kA);have JD:=AV p t L W1 (by omega);rw [← HZ.out] at JD;clear Y Z am ar bM bX bK bE sA HS kA;go_wp2_with fail;refine JD.mono ?_;rintro e W2 ⟨rfl,b0,b1,b2,b3,k2,s2⟩;have az:=aa (aP.out.kept k2 (fun f=>f) (fun f=>f) (fun f=>f) (fun f=>f) (fun _ _ f=>f.elim));have X:=aa (aL.out.grew k2);obtain ⟨n1,aF⟩:∃ n1,n1=W1.heap.size:=⟨_,rfl⟩
 rw [← aF] at b0 b1 b2 b3 s2 ⊢;have a:Hid (gm=w.heap.size∧gx=w.heap.size+1∧gk=w.heap.size+2∧ge=w.heap.size+3∧n1=w.heap.size+4∧W2.heap.size=w.heap.size+8):=by have:=HG.out;refine ⟨?_,?_,?_,?_,?_,?_⟩ <;> omega
 clear JD k2 aP aL HG aF cM s2;go_wp2_with fail;refine (wpIn_wide (n:=9)).1 ?_;obtain ⟨sh,a2⟩:∃ sh,sh=8*z-t:=⟨_,rfl⟩
 have T:t+sh=8*z:=by have:=HZ.out;omega
 have aj:sh<8:=by have:=HZ.out;omega
 clear a2;refine jV (n:=9) (by omega) (gf:=239) (lb:=#[.pointer (some ⟨n1,0,none⟩),.pointer (some ⟨n1+3,0,none⟩),.pointer (some ⟨n1+1,0,none⟩),.pointer (some ⟨n1+2,0,none⟩)]) rfl (enters_of Tryz.func239 (by kernel_rfl) rfl)
  (xd 8 (by omega) p B t z sh L n1 (n1+3) (n1+1) (n1+2) bs W2 (fun b=>b=gx∨b=gk∨b=ge) ay T aj aY P.out.2.2.2 X.out aT.out b0 b3 b1 b2 ?q0 ?q1 ?q2 ?q3 ?q4 ?q5 ?q6 ?q7 ?q8 ?q9) (fun _=>rfl) ?hSb ?hT (fun _ _ _ _ _ o' hx hl ho=>hx.put o' hl ho)
  (fun y W=>Hid (BelK M t z bs y.length)∧Hid (BtwB w W p (.slice ao L cap) gm gx gk ge)) (fun c _ W=>c=.ret∧∃ u,EndB w W p B gx gk ge (dZ xs bs) (ii xs bs) (dn xs bs) (eH xs bs) u)
  ?low ?lowx ?lows ⟨BelK.zero _ _ _ _,az.out⟩ ?act ?assign ?body ?done ?stop
 case q0=>have:=a.out;have:=g.out;omega
 case q1=>have:=a.out;have:=g.out;omega
 case q2=>have:=a.out;have:=g.out;omega
 case q3=>have:=a.out;have:=g.out;omega
 case q4=>have:=a.out;have:=g.out;omega
 case q5=>
  have:=a.out;have:=g.out;rintro b (rfl | rfl | rfl) <;> omega
 case q6=>have:=a.out;omega
 case q7=>have:=a.out;omega
 case q8=>have:=a.out;omega
 case q9=>have:=a.out;omega
 case hSb=>
  have:=a.out;rintro b (rfl | rfl | rfl) <;> omega
 case hT=>
  intro b hb;have:=aH.out b hb;have:=a.out;have:=g.out;omega
 case low=>
  rintro s A C ⟨h1,h2⟩ k;have:=a.out;have:=g.out;have Q:∀ x,w.heap.size≤x→x<W2.heap.size→¬ (ofP p x∨W2.heap.size≤x):=fun x h3 h4=>by
   rintro (e | e)
   ·have:=aH.out x e;omega
   ·omega
  exact ⟨h1,h2.out.kept k (Q _ (by omega) (by omega)) (Q _ (by omega) (by omega)) (Q _ (by omega) (by omega)) (Q _ (by omega) (by omega)) (fun x hx e=>by
   rcases e with e | e
   ·exact e
   ·omega)⟩
 case lowx=>
  rintro c s A l o o' ⟨h1,u,h2⟩ hl hA ho;have:=a.out;exact ⟨h1,u,h2.put o' hA ho (by omega)⟩
 case lows=>
  rintro s A l o o' ⟨h1,h2,h3⟩ hl hA ho;exact ⟨h1,h2,h3.put o' hA ho⟩
 case assign=>
  intro l x W K hK
  gi_wp2
  exact hK
 case body=>
  rintro l y ⟨j,xv⟩ W ⟨hK,hI⟩ ⟨hj,aw,⟨G,I⟩,N⟩;have a9:1≤L:=by
   have h1:=P.out.1;have h2:=P.out.2.1;cases L with
   | zero=>simp at h2;omega
   | succ n=>omega
  obtain ⟨V,hV⟩:∃ V,V=kt t z bs y.length:=⟨_,rfl⟩
  have aG:j=y.length+1:=hj;have d:Row .u64 W xv (digs V L):=by rw [hV];exact G
  have aD:V<18446744073709551616^L:=by
   rw [hV];refine Nat.lt_of_lt_of_le (Nat.mod_lt _ (Nat.pow_pos (by omega))) ?_;rw [show (18446744073709551616:Nat)=2^64 from rfl,← Nat.pow_mul];exact Nat.pow_le_pow_right (by omega) P.out.2.2.2
  have m:=dG xv _ W d (ah (by omega) V L) (by rw [ag];omega);have q:=JC.out xv _ W hI.out.old d (ah (by omega) V L);rw [ak,al aD] at m q;have ac:=aa d;have ap:=aa N;have ad:Hid (∀ b,xv.ownBlock=some b→w.heap.size≤b):=fun b hb=>by have h1:=I b hb;have h2:=a.out;omega
  have R:=aa hI.out;have aO:=hK.out.step ay aw;rw [← hV] at aO;obtain ⟨nb,av⟩:∃ nb,nb=au V:=⟨_,rfl⟩
  rw [← av] at m;have i:nb=0↔V=0:=by
   have:=aA V 0;rw [← av] at this;simp at this;exact this
  have a7:Hid (digs V L≠[]):=fun e=>by
   have:=congrArg List.length e;rw [ag] at this;simp at this;omega
  obtain ⟨xo,xn,xc,rfl,_⟩:=d.open;have cM:=hI.out.mb.cell;have aV:=aa aG;clear I G d N hI hK hj aG hV aD av az b0 b1 b2 b3 X;rcases aO with ⟨h1,h2,h3⟩ | ⟨h1,h2⟩
  ·have g3:(nb:Int) > 0:=by omega
   have a0:(0:Int)<(nb:Int):=by omega
   rw [cj h2] at q;have e1:dn xs bs=0:=by rw [HE.out,h3,if_neg (by show ¬ V=0;omega)]
   have e2:dZ xs bs=digs V L:=by rw [HX.out,if_pos e1,h3]
   have e3:ii xs bs=j:=by rw [aE.out,if_pos e1,h3];exact aV.out.symm
   have e4:eH xs bs=bs.drop ((y.length+1)*z):=by rw [aJ.out,h3]
   have aZ:Hid (dn xs bs=0∧dZ xs bs=digs V L∧ii xs bs=j∧eH xs bs=bs.drop ((y.length+1)*z)):=⟨e1,e2,e3,e4⟩
   clear h1 h2 h3 e1 e2 e3 e4 i
   gi_wp2_with fail
   refine ⟨trivial,?_⟩;refine (CallsIn.inRound l (callsIn_wide.2 m)).mono ?_;rintro e w1 ⟨rfl,rfl⟩
   gi_wp2_with fail
   refine ⟨trivial,?_⟩;refine (CallsIn.inRound l (callsIn_wide.2 q)).mono ?_;rintro e w2 ⟨rfl,k2⟩;have I2:=aa (R.out.kept k2 (fun f=>f) (fun f=>f) (fun f=>f) (fun f=>f) (fun _ _ f=>f.elim));have R2:=aa (ac.out.grew k2);have S2:=aa (ap.out.grew k2);have cx:=I2.out.xb.cell;have fx:=I2.out.xb.frozen;have ck:=I2.out.kb.cell;have fk:=I2.out.kb.frozen;have ce:=I2.out.eb.cell;have fe:=I2.out.eb.frozen;have ab:gx≠gk∧gx≠ge∧gk≠ge:=by have:=a.out;omega
   obtain ⟨an,aC,ae⟩:=ab;obtain ⟨aI,kS⟩:=I2.out.ends R2.out ad.out S2.out an aC ae (by have:=a.out;omega) (by have:=a.out;omega) (by have:=a.out;omega) g.out j 0;have a1:Hid (EndB w (((w2.setCell ⟨gx,0,none⟩ (.slice xo xn xc)).setCell ⟨gk,0,none⟩ (.int .i64 (j:Int))).setCell ⟨ge,0,none⟩ (.int .i64 0)) p B gx gk ge (dZ xs bs) (ii xs bs) (dn xs bs) (eH xs bs) (.slice xo xn xc)):=by
    obtain ⟨q1,q2,q3,q4⟩:=aZ.out;rw [q1,q2,q3,q4];exact aI
   have aX:Hid (Kept (fun b=>b=gx∨b=gk∨b=ge) w1 (((w2.setCell ⟨gx,0,none⟩ (.slice xo xn xc)).setCell ⟨gk,0,none⟩ (.int .i64 (j:Int))).setCell ⟨ge,0,none⟩ (.int .i64 0))):=(k2.any).trans kS;clear m q k2 kS aI
   gi_wp2_with fail
   exact ⟨aX.out,rfl,_,a1.out⟩
  ·have HN:Hid (BelK M t z bs (y ++ [(j,Value.slice xo xn xc)]).length):=by unfold Hid;rw [List.length_append];exact h2
   by_cases hV0:V=0
   ·obtain rfl:=i.2 hV0;clear h1 h2 i hV0 q
    gi_wp2_with fail
    refine ⟨trivial,?_⟩;refine (CallsIn.inRound l (callsIn_wide.2 m)).mono ?_;rintro e w1 ⟨rfl,rfl⟩;clear m
    gi_wp2_with fail
    refine ⟨trivial,?_⟩
    gi_wp2_with fail
    exact ⟨ai _ _,HN,R⟩
   ·have g3:(nb:Int) > 0:=by omega
    have a0:(0:Int)<(nb:Int):=by omega
    obtain ⟨C,hC⟩:∃ C,C=aK V M:=⟨_,rfl⟩
    rw [← hC] at q;have g4:¬ C<0:=by
     rw [hC];unfold aK;rw [if_neg (by omega)]
     split <;> omega
    clear h1 h2 i hV0 hC
    gi_wp2_with fail
    refine ⟨trivial,?_⟩;refine (CallsIn.inRound l (callsIn_wide.2 m)).mono ?_;rintro e w1 ⟨rfl,rfl⟩
    gi_wp2_with fail
    refine ⟨trivial,?_⟩;refine (CallsIn.inRound l (callsIn_wide.2 q)).mono ?_;rintro e w2 ⟨rfl,k2⟩;have I2:=aa (R.out.kept k2 (fun f=>f) (fun f=>f) (fun f=>f) (fun f=>f) (fun _ _ f=>f.elim));have aW:=aa (k2.any (S:=fun b=>b=gx∨b=gk∨b=ge));clear m q k2
    gi_wp2_with fail
    exact ⟨aW.out,HN,I2⟩
 case done=>
  rintro D s W hD ⟨h0,h1,aM⟩ ⟨hK,hI⟩ F;have hf:=hK.out.spent ay h0 h1;have e1:dn xs bs=150:=by rw [HE.out,hf];rfl
  have e2:dZ xs bs=[]:=by rw [HX.out,e1];rfl
  have e3:ii xs bs=0:=by rw [aE.out,e1];rfl
  have e4:eH xs bs=[]:=by rw [aJ.out,hf]
  have aS:Hid (dn xs bs=150∧dZ xs bs=[]∧ii xs bs=0∧eH xs bs=[]):=⟨e1,e2,e3,e4⟩
  have cx:=hI.out.xb.cell;have fx:=hI.out.xb.frozen;have ck:=hI.out.kb.cell;have fk:=hI.out.kb.frozen;have ce:=hI.out.eb.cell;have fe:=hI.out.eb.frozen;have ab:gx≠gk∧gx≠ge∧gk≠ge:=by have:=a.out;omega
  obtain ⟨an,aC,ae⟩:=ab;obtain ⟨E,kS⟩:=hI.out.ends (u:=.slice none 0 0) (Row.nil _ _) (fun b hb=>by cases hb) aM an aC ae (by have:=a.out;omega) (by have:=a.out;omega) (by have:=a.out;omega) g.out 0 150;have r:=(kS.block D (lt_of_block F) (by have:=a.out;rintro (e | e | e) <;> omega)).trans F;have HF:Hid (EndB w ((((W.setCell ⟨gx,0,none⟩ (.slice none 0 0)).setCell ⟨gk,0,none⟩ (.int .i64 0)).setCell ⟨ge,0,none⟩ (.int .i64 150)).putObj D (.deferred none)) p B gx gk ge [] 0 150 [] (.slice none 0 0)):=E.put (.deferred none) r rfl (by have:=a.out;omega);have aR:=aa r;clear e1 e2 e3 e4 hf hK h0 h1 aM hI E kS r F az b0 b1 b2 b3 X;go_wp2_with fail
  refine ⟨by simp,.inl ⟨_,_,rfl,run_takeDeferred aR.out,?_⟩⟩;have q1:=HF.out.xb.cell;have q2:=HF.out.kb.cell;have q3:=HF.out.eb.cell;obtain ⟨e1,e2,e3,e4⟩:=aS.out;rw [e1,e2,e3,e4];refine ⟨.tuple #[.slice none 0 0,.int .i64 0,.int .i64 150],?_,_,rfl,⟨Row.nil _ _,HF.out.new⟩,HF.out.scr,HF.out.old⟩;simp [results,Tryz.f169,go_sem,q1,q2,q3]
 case stop=>
  rintro D c s W hD ⟨rfl,u,E⟩ F;have hF:=E.put (.deferred none) F rfl (by have:=a.out;omega);obtain ⟨uo,un,uc,rfl,_⟩:=E.row.open;have HF:=aa hF;clear E hF
  gi_wp2
  refine ⟨by simp,.inl ⟨_,_,rfl,run_takeDeferred F,?_⟩⟩;have q1:=HF.out.xb.cell;have q2:=HF.out.kb.cell;have q3:=HF.out.eb.cell;refine ⟨.tuple #[.slice uo un uc,.int .i64 (ii xs bs:Nat),.int .i64 (dn xs bs:Nat)],?_,_,rfl,⟨HF.out.row,HF.out.new⟩,HF.out.scr,HF.out.old⟩;simp [results,Tryz.f169,go_sem,q1,q2,q3]

theorem zU (p:Option Addr) (B:Nat) (bs xs:List Nat) (v:Value) (w:World) (h:Lsc w p B bs) (hB:B≤w.heap.size) (b:Digs bs 256) (hv:Row .u64 w v xs) (hd:Digs xs) (hl:xs.length≤300) (a:2≤val xs) :
  Calls Tryz.prog 169 #[.pointer p,v] w fun e w'=>∃ u,e=.returned (.tuple #[u,.int .i64 (ii xs bs:Nat),.int .i64 (dn xs bs:Nat)])∧Row .u64 w' u (dZ xs bs)∧Lsc w' p B (eH xs bs)∧Kept (ofP p) w w':=by
 refine (pQ p B bs xs v w h hB b hv hd hl a).mono ?_;rintro e w' ⟨u,he,h1,h2⟩;exact ⟨u,he,h1.1,h2⟩

open Go.RowKit

def NoTab (_:World):Prop:=True

theorem mM {xs bs:List Nat} (h:300<xs.length∨val xs<2):dZ xs bs=[]∧ii xs bs=0∧eH xs bs=bs:=by
 have e:dn xs bs≠0:=by
  unfold dn
  split
  ·omega
  ·next h1=>
   rw [if_pos (by omega)];omega
 exact ⟨if_neg e,if_neg e,if_pos h⟩

theorem AZ (p:Option Addr) (B:Nat) (bs xs:List Nat) (v:Value) (w:World) (h:Lsc w p B bs) (hB:B≤w.heap.size) (a:Digs bs 256) (hv:Row .u64 w v xs) (hd:Digs xs) (hl:xs.length≤1000000) :
  Calls Tryz.prog 169 #[.pointer p,v] w fun e w'=>∃ u,e=.returned (.tuple #[u,.int .i64 (ii xs bs:Nat),.int .i64 (dn xs bs:Nat)])∧Row .u64 w' u (dZ xs bs)∧Lsc w' p B (eH xs bs)∧Kept (ofP p) w w':=by
 by_cases hb:300<xs.length∨val xs<2
 ·obtain ⟨e1,e2,e3⟩:=mM (bs:=bs) hb;rw [e1,e2,e3];refine (lf p B bs xs v w h hv hd hl hb).mono ?_;rintro e w' ⟨rfl,h1,k1⟩;exact ⟨_,rfl,Row.nil _ _,h1,k1.any⟩
 ·exact zU p B bs xs v w h hB a hv hd (by omega) (by omega)

theorem rV (p:Option Addr) (B:Nat) (bs xs:List Nat) (v:Value) (w:World) (h:Lsc w p B bs) (hB:B≤w.heap.size) (a:Digs bs 256) (hv:Row .u64 w v xs) (hd:Digs xs) (hl:xs.length≤1000000) :
  Calls Tryz.prog 169 #[.pointer p,v] w fun e w'=>∃ u,e=.returned (.tuple #[u,.int .i64 (ii xs bs:Nat),.int .i64 (dn xs bs:Nat)])∧(Row .u64 w' u (dZ xs bs)∧∀ b,u.ownBlock=some b→w.heap.size≤b)∧Lsc w' p B (eH xs bs)∧Kept (ofP p) w w':=by
 by_cases hb:300<xs.length∨val xs<2
 ·obtain ⟨e1,e2,e3⟩:=mM (bs:=bs) hb;rw [e1,e2,e3];refine (lf p B bs xs v w h hv hd hl hb).mono ?_;rintro e w' ⟨rfl,h1,k1⟩;exact ⟨_,rfl,⟨Row.nil _ _,(fun b hb=>by cases hb)⟩,h1,k1.any⟩
 ·exact pQ p B bs xs v w h hB a hv hd (by omega) (by omega)

theorem jW {a y:Nat} (h:ofP (some ⟨a,0,none⟩) y):y=a:=(Option.some.inj h).symm

def cV (n r:Int) (e:Nat):Prop:=n<32∨8192<n∨n%128≠0∨e<3∨e%2=0∨4294967296≤e∨r<1∨100<r

def KL.none:KL:=⟨[],[],[],[],[],[],[]⟩

def genSays (n r:Int) (e:Nat) (bs:List Nat) (E en:Nat) (l:KL) (R:List Nat):Prop:=(cV n r e∧E=1∧en=0∧l=KL.none∧R=bs) ∨
 (¬ cV n r e∧∃ P Q E1,PairR n.toNat e r.toNat bs (P,Q,E1,R)∧((E1≠0∧E=E1∧en=0∧l=KL.none)∨(E1=0∧KeySays P.length Q.length (val P) (val Q) e E en l)))

theorem genSays.uniq {n r:Int} {e:Nat} {bs:List Nat} {E E' en a:Nat} {l l':KL} {R R':List Nat} (h:genSays n r e bs E en l R) (h':genSays n r e bs E' a l' R'):E'=E∧a=en∧l'=l∧R'=R:=by
 rcases h with ⟨h1,rfl,rfl,rfl,rfl⟩ | ⟨h1,P,Q,E1,h2,h3⟩
 ·rcases h' with ⟨_,rfl,rfl,rfl,rfl⟩ | ⟨g1,_⟩
  ·exact ⟨rfl,rfl,rfl,rfl⟩
  ·exact absurd h1 g1
 ·rcases h' with ⟨g1,_⟩ | ⟨_,P',Q',E1',g2,g3⟩
  ·exact absurd g1 h1
  ·have:=PairR.uniq g2 h2;simp only [Prod.mk.injEq] at this;obtain ⟨rfl,rfl,rfl,rfl⟩:=this;rcases h3 with ⟨a1,rfl,rfl,rfl⟩ | ⟨a1,a2⟩
   ·rcases g3 with ⟨_,rfl,rfl,rfl⟩ | ⟨b1,_⟩
    ·exact ⟨rfl,rfl,rfl,rfl⟩
    ·exact absurd b1 a1
   ·rcases g3 with ⟨b1,_⟩ | ⟨_,b2⟩
    ·exact absurd a1 b1
    ·obtain ⟨c1,c2,c3⟩:=a2.uniq b2;exact ⟨c1,c2,c3,rfl⟩

theorem genSays.digs {n r:Int} {e:Nat} {bs:List Nat} {E en:Nat} {l:KL} {R:List Nat} (h:genSays n r e bs E en l R):l.Digs:=by
 have hn:KL.none.Digs:=⟨Digs.nil _,Digs.nil _,Digs.nil _,Digs.nil _,Digs.nil _,Digs.nil _,Digs.nil _⟩
 rcases h with ⟨_,_,_,rfl,_⟩ | ⟨_,P,Q,E1,_,⟨_,_,_,rfl⟩ | ⟨_,h⟩⟩
 ·exact hn
 ·exact hn
 ·exact h.digs

def AN:Prop:=∀ (p:Option Addr) (B:Nat) (n r:Int) (e:Nat) (bs:List Nat) (w:World),e<18446744073709551616→Lsc w p B bs→B≤w.heap.size→Digs bs 256→bs.length≤1000000 →
 Calls Tryz.prog 13 #[.pointer p,.int .i64 n,.int .u64 (e:Int),.int .i64 r] w fun q w'=>∃ (t:KS) (E:Nat),q=.returned (.tuple #[.agg t.v,.int .i64 ((E:Nat):Int)])∧∃ (l:KL) (R:List Nat),t.Rows w' l∧genSays n r e bs E t.en l R∧Lsc w' p B R∧Kept (ofP p) w w'

theorem xD:∃ t:KS,zeroKey=t.v∧t.en=0∧∀ w,t.Rows w KL.none:=⟨⟨none,0,0,0,none,0,0,none,0,0,none,0,0,none,0,0,none,0,0,none,0,0⟩,rfl,rfl,fun _=>⟨Row.nil _ _,Row.nil _ _,Row.nil _ _,Row.nil _ _,Row.nil _ _,Row.nil _ _,Row.nil _ _⟩⟩

theorem BK {w:World} {L M P Q e:Nat} {kv:Array Value} (C:bw L M P Q e) (h:KeyAt w P Q e kv):∃ (t:KS) (l:KL),kv=t.v∧t.Rows w l∧KeySays L M P Q e 0 t.en l:=by
 obtain ⟨vn,vd,vp,vq,S,R,O,d,u,rfl,rn,J,s,rd,rp,rq,n,o,G,N,p⟩:=h;obtain ⟨D,y,x,rfl,-,-,-,-,-⟩:=rn.open;obtain ⟨F,I,A,rfl,-,-,-,-,-⟩:=rd.open;obtain ⟨z,r,B,rfl,-,-,-,-,-⟩:=rp.open;obtain ⟨q,E,H,rfl,-,-,-,-,-⟩:=rq.open;obtain ⟨b,c,a,rfl,-,-,-,-,-⟩:=n.open;obtain ⟨m,k,j,rfl,-,-,-,-,-⟩:=o.open;obtain ⟨f,i,g,rfl,-,-,-,-,-⟩:=p.open;exact ⟨⟨D,y,x,e,F,I,A,z,r,B,q,E,H,b,c,a,m,k,j,f,i,g⟩,⟨_,_,_,_,_,_,_⟩,rfl,⟨rn,rd,rp,rq,n,o,p⟩,.inl ⟨rfl,C,rfl,d,u,J,s,G,N,rfl,rfl,rfl,rfl,rfl,rfl,rfl⟩⟩

theorem uE (uo:Option Addr) (un uc:Nat) (n:Int) (R:Bool) (hR:R=true↔un≤3000∧(n≤128∨8192<n)) (w:World) :
  Calls Tryz.prog 7 #[.slice uo un uc,.int .i64 n] w fun r w'=>r=.returned (.bool R)∧w'=w:=by
 by_cases h1:un≤3000
 ·have g1:(un:Int)≤3000:=by omega
  by_cases h2:n≤128
  ·obtain rfl:R=true:=hR.2 ⟨h1,.inl h2⟩;clear hR;go_enter Tryz.func7,Tryz.ntmps7;go_wp2_with fail;go_ret;exact ⟨rfl,rfl⟩
  ·by_cases h3:n > 8192
   ·obtain rfl:R=true:=hR.2 ⟨h1,.inr h3⟩;have a:8192<n:=h3;clear hR;go_enter Tryz.func7,Tryz.ntmps7;go_wp2_with fail;go_ret;exact ⟨rfl,rfl⟩
   ·obtain rfl:R=false:=by
     cases e:R with
     | false=>rfl
     | true=>have:=hR.1 e;omega
    have a:¬ 8192<n:=h3;clear hR;go_enter Tryz.func7,Tryz.ntmps7;go_wp2_with fail;go_ret;exact ⟨rfl,rfl⟩
 ·have g1:¬ (un:Int)≤3000:=by omega
  obtain rfl:R=false:=by
   cases e:R with
   | false=>rfl
   | true=>have:=hR.1 e;omega
  clear hR;go_enter Tryz.func7,Tryz.ntmps7;go_wp2_with fail;go_ret;exact ⟨rfl,rfl⟩

theorem qY:genSays 128 1 3 [] 150 0 KL.none []:=.inr ⟨by unfold cV;omega,[],[],150,⟨[],0,150,[],(show DrawR 64 3 1 (99999+1) [] 1 ([],0,150,[]) from .inl ⟨by decide,rfl⟩),.inl ⟨by omega,rfl⟩⟩,.inl ⟨by omega,rfl,rfl,rfl⟩⟩

theorem sC:genSays 129 1 3 [] 1 0 KL.none []:=.inl ⟨by unfold cV;omega,rfl,rfl,rfl,rfl⟩

theorem sq (hG:AN) (w:World):Calls Tryz.prog 6 #[] w fun r w'=>r=.returned (.bool true)∧Kept af w w':=by
 have J1:=yk (.slice none 0 0) [] w (Row.nil _ _) (by simp);have HG:=aa hG;clear hG;go_enter Tryz.func6,Tryz.ntmps6;go_wp2_with fail;refine J1.mono ?_;rintro r w1 ⟨g,rfl,hg,j,k1⟩;have J2:=HG.out (some ⟨g,0,none⟩) w1.heap.size 128 1 3 [] w1 (by omega) j (leR _) (Digs.nil _) (by simp);have z:Hid (w.heap.size≤g):=hg;have A:=aa k1;clear J1 j k1 hg;go_wp2_with fail;refine J2.mono ?_;rintro r w2 ⟨t,E,rfl,l,R,q,a,_,k2⟩;obtain ⟨rfl,-,rfl,rfl⟩:=qY.uniq a;have D:Hid (t.nl=0):=by
  obtain ⟨_,_,_,e1,h1,_⟩:=q.n.open;cases e1
  exact h1.out.symm
 have F:Hid (Kept af w w2):=A.out.next k2 (fun y hy f=>by have h1:=jW f;have h2:=z.out;omega)
 obtain ⟨W3,b⟩:∃ W3,W3=w2.alloc (.cells t.v 42):=⟨_,rfl⟩
 have k3:Kept af w2 W3:=by rw [b];exact (ai af w2).alloc _
 have i:W3.heap[w2.heap.size]? = some (.cells t.v 42 (0,0)):=by rw [b];exact heap_alloc_new _ _
 have C:=aa (F.out.trans k3);have J3:=yk (.slice none 0 0) [] W3 (Row.nil _ _) (by simp);have m:=aa i;have p:=aa b;clear J2 q a k2 k3 i b;unfold KS.v at p ⊢;go_wp2_with (rw [← p.out]);refine J3.mono ?_;rintro r w4 ⟨g4,rfl,k,h,k4⟩;have J4:=HG.out (some ⟨g4,0,none⟩) w4.heap.size 129 1 3 [] w4 (by omega) h (leR _) (Digs.nil _) (by simp);have H:Hid (W3.heap.size≤g4):=k;have B:=aa k4;clear J3 h k4 k;go_wp2_with fail;refine J4.mono ?_;rintro r w5 ⟨s,E',rfl,l',R',x,a,_,k5⟩;obtain ⟨rfl,-,rfl,rfl⟩:=sC.uniq a;have e:Kept af W3 w5:=B.out.next k5 (fun y hy f=>by have h1:=jW f;have h2:=H.out;omega)
 have d:=(e.block _ (lt_of_block m.out) (fun f=>f)).trans m.out;obtain ⟨W6,c⟩:∃ W6,W6=w5.alloc (.cells s.v 42):=⟨_,rfl⟩
 have k6:Kept af w5 W6:=by rw [c];exact (ai af w5).alloc _
 obtain ⟨c0,c1,c2,c3,c4,c5,c6,c7⟩:=aL ((k6.block _ (lt_of_block d) (fun f=>f)).trans d);rw [D.out] at c0;have G:=aa (C.out.trans (e.trans k6));have o:=aa c;clear J4 x a k5 e k6 d c;unfold KS.v at o ⊢;go_wp2_with (rw [← o.out]);go_ret;exact ⟨rfl,G.out⟩

end Go.Proofs.YtcemlfokmjjiaaaGreatDoor
