/- Put together of: NatF NatG NatH NatI Lsc4. -/
import Derived.Test.YtkaojflnghfmcaaGreatDoorQB21
import Derived.Laws.OwnMore

namespace Go.Proofs.YtkaojflnghfmcaaGreatDoor
set_option maxRecDepth 100000
set_option maxHeartbeats 4000000
open Go.RowKit Go.Shelf

attribute [local go_sem] Oper.semAt_some

theorem tQ (x y:Nat) (hx:x<72057594037927936) (hy:y<256):bits .or .u64 ((x:Int)*256) (y:Int)=((x*256+y:Nat):Int):=by
 have h:=u64_or_nat (x*256) y (by omega) (by omega);rw [nat_join 8 (x*256) y (by omega) (by omega)] at h;rw [show (x:Int)*256=((x*256:Nat):Int) by omega,h]

theorem sF (m:List Nat):∀ a,m.foldl (fun a b=>a*256+b) a=a*256^m.length+bev m:=by
 unfold bev
 induction m with
 | nil=>intro a;simp
 | cons x m ih=>
  intro a;rw [List.foldl_cons,ih,List.foldl_cons,ih (0*256+x),List.length_cons,Nat.pow_succ];simp only [Nat.zero_mul,Nat.zero_add,Nat.add_mul,Nat.mul_assoc,Nat.add_assoc,Nat.mul_comm 256]

theorem el (l m:List Nat):bev (l ++ m)=bev l*256^m.length+bev m:=by
 show (l ++ m).foldl _ 0=_
 rw [List.foldl_append,sF];rfl

theorem mq {l:List Nat} (h:Digs l 256):bev l<256^l.length:=by
 induction l with
 | nil=>simp [bev]
 | cons x m ih=>
  have e:=el [x] m;rw [List.singleton_append] at e;have hx:=h.head;have hm:=ih h.tail;rw [e,List.length_cons,Nat.pow_succ];have:(x+1)*256^m.length≤256*256^m.length:=Nat.mul_le_mul_right _ hx;rw [Nat.add_mul,Nat.one_mul] at this;have e2:bev [x]=x:=by simp [bev]
  rw [e2,Nat.mul_comm (256^m.length)];omega

theorem Dr (ao:Option Addr) (a g:Nat) (bs:List Nat) (w:World) (h:Row .u8 w (.slice ao a g) bs) (hd:Digs bs 256) (hl:a≤8) :
  Calls Tryz.prog 171 #[.slice ao a g] w fun e w'=>e=.returned (.int .u64 (bev bs:Nat))∧w'=w:=by
 obtain ⟨n,m,j,e,hL,_,_,_,d⟩:=h.open;cases e
 have HR:Hid (∀ i,i<a→NumAt .u8 w ao bs i):=d;clear d h;have o:min (a:Int) 8=(a:Int):=by omega
 have c:bs.take a=bs:=by rw [List.take_of_length_le];have:=hL.out;omega
 have HA:Hid (bev (bs.take a)=bev bs):=congrArg bev c;clear c;go_enter Tryz.func171,Tryz.ntmps171;go_wp2_with fail;go_loop [3,8] (fun x i=>∃ k:Nat,k≤a∧i=.int .i64 (k:Int)∧∃ t:Nat,Hid (t=bev (bs.take k))∧x=.int .u64 (t:Int)) (fun _ i=>((a:Int)-intOf i).toNat)
 case atStart=>exact ⟨0,by omega,rfl,0,by simp [Hid,bev],rfl⟩
 case round=>
  obtain ⟨k,hk,rfl,t,ht,rfl⟩:=hrel;by_cases hp:k<a
  ·obtain ⟨b,off,rfl,hc⟩:=HR.out k hp;have hz:bs.getD k 0<256:=hd.getD (by omega) k;have l:t<72057594037927936:=by
    rw [ht.out];have h1:=mq (hd.take k);have h2:(256:Nat)^(bs.take k).length≤256^7:=Nat.pow_le_pow_right (by omega) (by rw [List.length_take];omega);omega
   have hs:Hid (bev (bs.take (k+1))=t*256+bs.getD k 0):=by
    unfold Hid;rw [ht.out];exact kZ (by have:=hL.out;omega)
   generalize bs.getD k 0=z at *;have p:=tQ t z l hz;go_wp2_with fail;go_round
   case rel=>exact ⟨k+1,by omega,by go_num,t*256+z,hs.out.symm,rfl⟩
   case measure=>simp [intOf];omega
  ·obtain rfl:k=a:=by omega
   go_wp2_with fail;go_ret;have f:=ht.out.trans HA.out;exact ⟨by rw [f];rfl,rfl⟩

theorem Row.tail {k:IntKind} {w:World} {b off m c:Nat} {z:Nat} {zs:List Nat} (h:Row k w (.slice (some ⟨b,off,none⟩) (m+1) c) (z :: zs)) (hc:1<c):Row k w (.slice (some ⟨b,off+1,none⟩) m (c-1)) zs:=by
 obtain ⟨ao,d,e,h1,h2,_,h4⟩:=h;cases e
 refine ⟨_,_,rfl,by simp at h1;omega,by omega,(fun e=>by cases e),fun i hi=>?_⟩;obtain ⟨b',f,e,a⟩:=h4 (i+1) (by simp;omega);cases e
 exact ⟨b,off+1,rfl,by rw [show off+1+i=off+(i+1) by omega,a];rfl⟩

theorem Row.none0 (k:IntKind) (w:World) (ao:Option Addr) (a:Nat) (hc:a≤maxLen) (hn:ao=none→a=0):Row k w (.slice ao 0 a) []:=⟨ao,a,rfl,Nat.zero_le _,hc,hn,fun i hi=>absurd hi (by simp)⟩

theorem AC (v:Value) (bs:List Nat) (w:World) (h:Row .u8 w v bs) :
  Calls Tryz.prog 166 #[v,.int .u8 0] w fun r w'=>∃ v',r=.returned v'∧∃ k,Row .u8 w v' (bs.drop k)∧k≤bs.length∧(∀ i,i<k→bs.getD i 0=0)∧(k=bs.length∨bs.getD k 0≠0)∧(v'.ownBlock=v.ownBlock∨v'.ownBlock=none)∧w'=w:=by
 obtain ⟨ob,t⟩:∃ ob,ob=v.ownBlock:=⟨_,rfl⟩
 rw [← t];have E:Hid (v.ownBlock=ob):=t.symm;clear t;obtain ⟨ao,n,H,rfl,hL,h1,h2,h3,_⟩:=h.open;have hr:=h;clear h;go_enter Tryz.func166,Tryz.ntmps166;go_wp2_with fail;go_loop [0] (fun a=>∃ k,Hid (k≤bs.length∧Row .u8 w a (bs.drop k)∧(∀ i,i<k→bs.getD i 0=0)∧a.ownBlock=ob)) (fun a=>py a)
 case atStart=>exact ⟨0,Nat.zero_le _,by simpa using hr,fun i hi=>by omega,E.out⟩
 case round=>
  obtain ⟨k,hk⟩:=hrel;obtain ⟨p,c,hz,g⟩:=hk.out;obtain ⟨G,m,d,rfl,hM,g1,g2,g3,g4⟩:=c.open;have HM:Hid (m=bs.length-k):=by have:=hM.out;rw [List.length_drop] at this;exact this.symm
  cases m with
  | zero=>
   have C:Hid (k=bs.length):=by have:=HM.out;show k=bs.length;omega
   clear g4 c hr g hz h1 h2 h3 hL hM p;go_wp2;go_ret;obtain ⟨p,c,hz,g⟩:=hk.out;exact ⟨_,rfl,k,by rw [List.drop_eq_nil_of_le (by have:=C.out;omega)];exact Row.nil _ _,p,hz,.inl C.out,.inr rfl,rfl⟩
  | succ j=>
   obtain ⟨b,off,rfl,hc⟩:=g4 0 (by omega);rw [Nat.add_zero] at hc;have B:(bs.drop k).getD 0 0=bs.getD k 0:=by rw [List.getD_eq_getElem?_getD,List.getElem?_drop,List.getD_eq_getElem?_getD];rfl
   rw [B] at hc;have l:k<bs.length:=by have:=HM.out;omega
   have f:bs.drop k=bs.getD k 0 :: bs.drop (k+1):=by rw [List.drop_eq_getElem_cons l,List.getD_eq_getElem?_getD,List.getElem?_eq_getElem l];rfl
   obtain ⟨z,x⟩:∃ z,z=bs.getD k 0:=⟨_,rfl⟩
   rw [← x] at hc f;rw [f] at c;have HZ:Hid (z=bs.getD k 0):=x;have q:Hid (Row .u8 w (.slice (some ⟨b,off,none⟩) (j+1) d) (z :: bs.drop (k+1))):=c;have y:Hid (k<bs.length):=l;clear x g4 c hr g hz h1 h2 h3 hL hM p B f l;by_cases h0:z=0
   ·subst h0;have o:∀ i,i<k+1→bs.getD i 0=0:=fun i hi=>by
     by_cases e:i=k
     ·subst e;exact HZ.out.symm
     ·exact hk.out.2.2.1 i (by omega)
    have A:Hid (∀ i,i<k+1→bs.getD i 0=0):=o;clear o;by_cases hcap:d=1
    ·obtain rfl:j=0:=by omega
     subst hcap;have s:Hid (bs.drop (k+1)=[]):=by
      show bs.drop (k+1)=[]
      rw [List.drop_eq_nil_of_le];have:=HM.out;omega
     go_wp2;go_round
     case rel=>exact ⟨k+1,y.out,by rw [s.out];exact Row.none0 _ _ _ _ (by unfold maxLen;omega) (fun e=>by cases e),A.out,hk.out.2.2.2⟩
     case measure=>simp [py]
    ·have F:1<d:=by omega
     have I:(1:Int)≤(d:Int):=by omega
     have J:¬ (1:Nat)=d:=by omega
     have L:¬ (1:Int)=(d:Int):=by omega
     go_wp2;go_round
     case rel=>exact ⟨k+1,y.out,q.out.tail F,A.out,hk.out.2.2.2⟩
     case measure=>simp [py]
   ·have M:((z:Int) == 0)=false:=by simp;omega
    have N:¬ ((z:Int)=0):=by omega
    have D:Hid (bs.getD k 0≠0):=by rw [← HZ.out];exact h0
    go_wp2;go_ret;obtain ⟨p,c,hz,g⟩:=hk.out;exact ⟨_,rfl,k,c,p,hz,.inr D.out,.inl g,rfl⟩

theorem Ce (v:Value) (bs:List Nat) (w:World) (h:Row .u8 w v bs) :
  Calls Tryz.prog 112 #[v,.string { data:=#[0] }] w fun r w'=>∃ v',r=.returned v'∧∃ k,Row .u8 w v' (bs.drop k)∧k≤bs.length∧(∀ i,i<k→bs.getD i 0=0)∧(k=bs.length∨bs.getD k 0≠0)∧(v'.ownBlock=v.ownBlock∨v'.ownBlock=none)∧w'=w:=by
 have hT:=AC v bs w h;obtain ⟨ao,n,c,rfl,hL,h1,h2,h3,_⟩:=h.open;cases n with
 | zero=>
  have b:bs=[]:=List.eq_nil_of_length_eq_zero hL.out;subst b;clear hT hL h;go_enter Tryz.func112,Tryz.ntmps112;go_wp2_with fail;go_ret;exact ⟨_,rfl,0,Row.nil _ _,leR _,fun i hi=>by omega,.inl rfl,.inr rfl,rfl⟩
 | succ j=>
  clear h;go_enter Tryz.func112,Tryz.ntmps112;go_wp2_with fail;refine hT.mono ?_;rintro e w' ⟨v',rfl,a⟩;go_wp2_with fail;go_ret;exact ⟨v',rfl,a⟩

attribute [local go_sem] Oper.semAt_some

theorem ll {bs:List Nat} (hd:Digs bs 256) (i:Nat) (h:8*i<bs.length) :
  bev ((bs.drop (bs.length-8*(i+1))).take (bs.length-8*i-(bs.length-8*(i+1))))=dig (bev bs) i:=by
 obtain ⟨s,hs⟩:∃ s,s=bs.length-8*(i+1):=⟨_,rfl⟩
 obtain ⟨e,he⟩:∃ e,e=bs.length-8*i:=⟨_,rfl⟩
 rw [← hs,← he];have f:s<e:=by omega
 have d:e≤bs.length:=by omega
 have a:bs=(bs.take s ++ (bs.drop s).take (e-s)) ++ bs.drop e:=by
  rw [List.append_assoc];have h2:(bs.drop s).take (e-s) ++ bs.drop e=bs.drop s:=by
   have:=List.take_append_drop (e-s) (bs.drop s);rw [List.drop_drop,show s+(e-s)=e by omega] at this;exact this
  rw [h2,List.take_append_drop]
 have b:bev bs=(bev (bs.take s)*256^(e-s)+bev ((bs.drop s).take (e-s)))*256^(8*i)+bev (bs.drop e):=by
  conv=>lhs;rw [a]
  rw [el,el,List.length_take,List.length_drop,List.length_drop,Nat.min_eq_left (by omega),show bs.length-e=8*i by omega]
 have h1:bev (bs.drop e)<256^(8*i):=by
  have:=mq (hd.drop e)
  rwa [List.length_drop,show bs.length-e=8*i by omega] at this
 have h2:bev ((bs.drop s).take (e-s))<256^(e-s):=by
  have:=mq ((hd.drop s).take (e-s))
  rwa [List.length_take,List.length_drop,Nat.min_eq_left (by omega)] at this
 have h3:e-s=8∨s=0:=by omega
 have c:e-s≤8:=by omega
 generalize bev ((bs.drop s).take (e-s))=M at *;have hp:(18446744073709551616:Nat)^i=256^(8*i):=by rw [Nat.pow_mul]
 unfold dig;rw [hp,b,Nat.mul_comm _ (256^(8*i)),Nat.mul_add_div (Nat.pow_pos (by omega)),Nat.div_eq_of_lt h1,Nat.add_zero];rcases h3 with h8 | h0
 ·rw [h8] at h2 ⊢;rw [show (256:Nat)^8=18446744073709551616 from rfl] at h2 ⊢;omega
 ·subst h0;have h4:M<18446744073709551616:=Nat.lt_of_lt_of_le h2 (Nat.le_trans (Nat.pow_le_pow_right (by omega) c) (leR (256^8)));rw [List.take_zero,show bev []=0 from rfl,Nat.zero_mul,Nat.zero_add,ar h4]

theorem Row.part {k:IntKind} {w:World} {b off n c s e:Nat} {zs:List Nat} (h:Row k w (.slice (some ⟨b,off,none⟩) n c) zs) (h1:s<e) (h2:e≤n):Row k w (.slice (some ⟨b,off+s,none⟩) (e-s) (c-s)) ((zs.drop s).take (e-s)):=by
 obtain ⟨ao,d,e',c1,c2,_,h4⟩:=h;cases e'
 have hl:((zs.drop s).take (e-s)).length=e-s:=by rw [List.length_take,List.length_drop];omega
 refine ⟨_,_,by rw [hl],by omega,by omega,(fun e=>by cases e),fun i hi=>?_⟩;rw [hl] at hi;obtain ⟨b',f,e',a⟩:=h4 (s+i) (by omega);cases e'
 refine ⟨b,off+s,rfl,?_⟩;rw [Nat.add_assoc,a,List.getD_eq_getElem?_getD,List.getD_eq_getElem?_getD,List.getElem?_take,if_pos hi,List.getElem?_drop]

theorem DH (n:Nat) (hn:1≤n) (l Bs L:Nat) (g:Nat→Nat) (v:Value) (bs:List Nat) (hd:Digs bs 256) (hL:Hid ((bs.length+7)/8=L)) (hg:Hid (∀ j,dig (bev bs) j=g j)) (S:Nat→Prop) (hS:S Bs) (F:∀ b,v.ownBlock=some b→0<L→S b)
  (J Jx:List (Fin L)→World→Prop)
  (hY:∀ a (x:Fin L) W,J a W→a.length<L→YieldAt Fence.wide (n-1) Tryz.prog l #[.int .i64 (x.val:Nat),.int .u64 (g x.val:Nat)] W fun e W'=>
   (e=.returned (.bool true)∧J (a ++ [x]) W'∧KeepB S W W')∨(e=.returned (.bool false)∧Jx (a ++ [x]) W'))
  (W:World) (D:W.cell? ⟨Bs,0,none⟩=some v) (hr:Row .u8 W v bs) (h0:J [] W) :
  CallsIn Fence.wide n Tryz.prog 170 #[.func (.yield l) #[] #[],.pointer (some ⟨Bs,0,none⟩)] W fun e W'=>(∃ v,e=.returned v) ∧
   ((∃ ys,ys.map Fin.val=List.range L∧J ys W')∨(∃ a,True∧Jx a W')):=by
 obtain ⟨ao,m,B,rfl,hN,c1,c2,c3,f⟩:=hr.open;have HL:Hid ((m+7)/8=L):=by rw [← hN.out];exact hL
 have o:Hid (Row .u8 W (.slice ao m B) bs):=hr;have d:Hid (∀ i,i<m→NumAt .u8 W ao bs i):=f;clear f hr hL;refine callsIn_of_wp Tryz.func170 rfl trivial ?_ rfl;simp only [Tryz.ntmps170,List.size_toArray,List.length_cons,List.length_nil,Nat.reduceAdd,Nat.reduceSub,Array.replicate_succ,Array.replicate_zero,List.push_toArray,List.append_toArray,List.nil_append,List.cons_append]
 gi_wp2
 gi_loopw [3,4] (fun e i wr=>∃ k r:Nat,Hid (k≤L∧r=m-8*k)∧r≤m∧e=.int .i64 (r:Int)∧i=.int .i64 (k:Int)∧(∃ a:List (Fin L),Hid (a.map Fin.val=List.range k)∧J a wr)∧KeepB S W wr)
  (fun e _ _=>(intOf e).toNat)
 case atStart=>exact ⟨0,m,⟨Nat.zero_le _,by omega⟩,leR _,rfl,rfl,⟨[],by simp [Hid],h0⟩,KeepB.refl _ _⟩
 case round=>
  obtain ⟨k,r,z,M,rfl,rfl,⟨a,c,C⟩,y⟩:=hrel;cases r with
  | zero=>
   have HK:Hid (k=L):=by have h1:=z.out;have h2:=HL.out;show k=L;omega
   gi_wp2
   go_end0
   exact ⟨⟨_,rfl⟩,.inl ⟨a,by rw [c.out,HK.out],C⟩⟩
  | succ q=>
   have w:k<L:=by have h1:=z.out;have h2:=HL.out;omega
   have hq:8*k+(q+1)=m:=by have h1:=z.out;omega
   have I:k<4611686018427387904:=by omega
   obtain ⟨s,hs⟩:∃ s:Nat,s=m-8*(k+1):=⟨_,rfl⟩
   have P:max ((q:Int)+1-8) 0=(s:Int):=by omega
   have N:s<q+1:=by omega
   have O:q+1-s≤8:=by omega
   have HS:Hid (s=m-8*(k+1)):=hs;clear hs;obtain ⟨b,off,rfl,_⟩:=d.out 0 (by omega);have h:=o.out.part N M;have hG:=Dr (some ⟨b,off+s,none⟩) (q+1-s) (B-s) _ wr (y.row (fun b' hb hp=>by cases hb;exact F b rfl (by omega)) h) ((hd.drop s).take _) O;have hw:bev ((bs.drop s).take (q+1-s))=g k:=by
    rw [← hg.out,← ll hd k (by have:=hN.out;omega),hN.out,← HS.out,show m-8*k=q+1 by omega]
   rw [hw] at hG;have G:=(y.cell (p:=⟨Bs,0,none⟩) hS).trans D;have A:a.length<L:=by
    have:=congrArg List.length c.out;rw [List.length_map,List.length_range] at this;omega
   obtain ⟨fn,tmps,assign,body,hy,hR⟩:=hY a ⟨k,w⟩ wr C A;dsimp only at hy;clear hw h d hq
   gi_wp2_with fail
   refine ⟨trivial,?_⟩;refine (callsIn_wide.2 hG).mono ?_;rintro e w' ⟨rfl,rfl⟩
   gi_wp2
   refine hR.mono ?_;rintro e W3 (⟨rfl,E,H⟩ | ⟨rfl,t⟩)
   ·gi_wp2
    go_roundw
    case rel=>exact ⟨k+1,s,⟨w,HS.out⟩,by have:=HS.out;omega,rfl,by go_num,⟨a ++ [⟨k,w⟩],by unfold Hid;rw [List.map_append,c.out,List.range_succ];rfl,E⟩,y.trans H⟩
    case measure=>simp [intOf];omega
   ·gi_wp2
    refine bodyPost_ret (results_none rfl _ _ _) rfl ?_;exact ⟨⟨_,rfl⟩,.inr ⟨_,trivial,t⟩⟩

theorem Bg (ao:Option Addr) (b a:Nat) (w:World) :
  Calls Tryz.prog 113 #[.slice ao b a] w fun e w'=>e=.returned (.func (.func 170) #[] #[.pointer (some ⟨w.heap.size,0,none⟩)])∧w'=w.alloc (.cells #[.slice ao b a] 27):=by
 go_enter Tryz.func113,Tryz.ntmps113;go_wp2;go_ret;exact ⟨rfl,rfl⟩

theorem vD (n:Nat) (hn:1≤n) (Bs L:Nat) (g:Nat→Nat) (v:Value) (bs:List Nat) (hd:Digs bs 256) (hL:(bs.length+7)/8=L) (hg:∀ j,dig (bev bs) j=g j) (S:Nat→Prop) (hS:S Bs) (a:∀ b,v.ownBlock=some b→0<L→S b)
  (w:World) (d:∀ k,S k→k<w.heap.size) (c:w.cell? ⟨Bs,0,none⟩=some v) (hr:Row .u8 w v bs) :
  SeqStopsK Fence.wide n Tryz.prog 170 #[.pointer (some ⟨Bs,0,none⟩)] (fun x:Fin L=>#[Value.int .i64 (x.val:Nat),Value.int .u64 (g x.val:Nat)]) (KeepB S) (fun ys=>ys.map Fin.val=List.range L) (fun _=>True) L w:=fun l J Jx W hW _ _ hY h0=>by
 have hk:KeepB S w W:=fun k hk=>hW.block k (d k hk)
 exact DH n hn l Bs L g v bs hd hL hg S hS a J Jx hY W ((hk.cell (p:=⟨Bs,0,none⟩) hS).trans c) (hk.row (fun b hb hp=>a b hb (by omega)) hr) h0

attribute [local go_sem] Oper.semAt_some

theorem sE {bs:List Nat} {k:Nat} (hk:k≤bs.length) (hz:∀ i,i<k→bs.getD i 0=0):bev (bs.drop k)=bev bs:=by
 have h:bev (bs.take k)=0:=by
  have a:∀ d ∈ bs.take k,d=0:=by
   intro d hd;obtain ⟨i,hi,rfl⟩:=List.mem_iff_getElem.1 hd;have b:i<k:=by rw [List.length_take] at hi;omega
   have:=hz i b;rw [List.getD_eq_getElem?_getD,List.getElem?_eq_getElem (by omega)] at this;simpa using this
  have:∀ l:List Nat,(∀ d ∈ l,d=0)→bev l=0:=by
   intro l
   induction l with
   | nil=>intro _;rfl
   | cons x m ih=>
    intro h;have e:=el [x] m;rw [List.singleton_append] at e;rw [e,ih (fun d hd=>h d (by simp [hd])),show bev [x]=x by simp [bev],h x (by simp),Nat.zero_mul]
  exact this _ a
 have e:=el (bs.take k) (bs.drop k);rw [List.take_append_drop,h,Nat.zero_mul,Nat.zero_add] at e;exact e.symm

theorem jJ {bs:List Nat} (hd:Digs bs 256) (a:bs.length=0∨bs.getD 0 0≠0) (m:Nat):ah (bev bs)≤m↔bs.length≤8*m:=by
 rw [aA];have hp:(18446744073709551616:Nat)^m=256^(8*m):=by rw [Nat.pow_mul]
 rw [hp];constructor
 ·intro h;rcases a with h0 | h0
  ·omega
  ·cases bs with
   | nil=>simp
   | cons x t=>
    have hx:x≠0:=by simpa using h0
    have e:=el [x] t;rw [List.singleton_append,show bev [x]=x by simp [bev]] at e;have h1:1*256^t.length≤x*256^t.length:=Nat.mul_le_mul_right _ (by omega);have h2:(256:Nat)^t.length<256^(8*m):=by omega
    have:=(Nat.pow_lt_pow_iff_right (by omega:1<256)).1 h2;simp only [List.length_cons];omega
 ·intro h;exact Nat.lt_of_lt_of_le (mq hd) (Nat.pow_le_pow_right (by omega) h)

def Put (g:Nat→Nat) (L n:Nat) (pre:List (Fin L)) (zs:List Nat):Prop:=zs.length=n∧∀ j,zs.getD j 0=if j ∈ pre.map Fin.val then g j else 0

theorem Put.step {g:Nat→Nat} {L n:Nat} {a:List (Fin L)} {zs:List Nat} (h:Put g L n a zs) (x:Fin L) (hx:x.val<n):Put g L n (a ++ [x]) (zs.set x.val (g x.val)):=by
 refine ⟨by rw [List.length_set];exact h.1,fun j=>?_⟩;rw [List.getD_eq_getElem?_getD,List.getElem?_set,List.map_append];by_cases e:x.val=j
 ·subst e;simp [h.1,hx]
 ·rw [if_neg e,← List.getD_eq_getElem?_getD,h.2 j];have:¬ j=x.val:=fun h=>e h.symm
  simp [this]

theorem Put.all {g:Nat→Nat} {L n V:Nat} {a:List (Fin L)} {zs:List Nat} (h:Put g L n a zs) (hp:a.map Fin.val=List.range L) (hg:∀ j,dig V j=g j) (hV:ah V≤L):zs=digs V n:=by
 apply List.ext_getElem
 ·rw [h.1,af]
 ·intro i h1 h2;have e:=h.2 i;rw [hp,List.getD_eq_getElem?_getD,List.getElem?_eq_getElem h1,Option.getD_some] at e;have e2:=ep 18446744073709551616 V n i (by rw [← h.1];exact h1);rw [List.getD_eq_getElem?_getD,List.getElem?_eq_getElem h2,Option.getD_some] at e2;rw [e,e2];by_cases hi:i<L
  ·rw [if_pos (by simpa using hi),hg]
  ·rw [if_neg (by simpa using hi)];unfold dig;rw [Nat.div_eq_of_lt ((aA V i).1 (by omega)),Nat.zero_mod]

attribute [local go_sem] Oper.semAt_some

theorem Ds (v:Value) (bs:List Nat) (n:Int) (w:World) (h:Row .u8 w v bs) (hd:Digs bs 256) :
  Calls Tryz.prog 63 #[v,.int .i64 n] w fun r w'=>∃ v',r=.returned (.tuple #[v',.int .i64 (bh (bev bs) n)])∧OwnN .u64 24 w' w.heap.size v' (bI (bev bs) n).length (bI (bev bs) n)∧Kept ae w w':=by
 obtain ⟨i0,aj,al,am,an⟩:=info_parts Tryz.info24;have hE:=qD n w;have hT:=Ce v bs w h;refine (callsIn_wide (n:=9)).1 ?_;refine callsIn_of_wp_marks Tryz.func63 rfl trivial ?_ rfl;simp only [Tryz.ntmps63,List.size_toArray,List.length_cons,List.length_nil,Nat.reduceAdd,Nat.reduceSub,Array.replicate_succ,Array.replicate_zero,List.push_toArray,List.append_toArray,List.nil_append,List.cons_append];refine wpIn_wide.2 ?_;obtain ⟨RC,O⟩:∃ RC,RC=bh (bev bs) n:=⟨_,rfl⟩
 obtain ⟨RL,P⟩:∃ RL,RL=bI (bev bs) n:=⟨_,rfl⟩
 rw [← O,← P];have HC:Hid (RC=bh (bev bs) n):=O;have HL:Hid (RL=bI (bev bs) n):=P;clear O P;by_cases h1:300<n
 ·obtain ⟨e1,e2⟩:=oF (V:=bev bs) h1;rw [e1] at HC;rw [e2] at HL;rw [if_pos h1] at hE;clear e1 e2 hT;go_wp2_with fail;refine hE.mono ?_;rintro e w' ⟨rfl,rfl⟩;go_wp2;exact ⟨_,results_tmp2 rfl _ _ _,_,by rw [HC.out];rfl,by rw [HL.out];exact World.ownsRow_nil _ _ _ _,ag _ _⟩
 ·rw [if_neg h1] at hE;by_cases h2:n<0
  ·obtain ⟨e1,e2⟩:=ib (V:=bev bs) h1 (.inl h2);rw [e1] at HC;rw [e2] at HL;rw [if_pos h2] at hE;clear e1 e2 hT;go_wp2_with fail;refine hE.mono ?_;rintro e w' ⟨rfl,rfl⟩;go_wp2;exact ⟨_,results_tmp2 rfl _ _ _,_,by rw [HC.out];rfl,by rw [HL.out];exact World.ownsRow_nil _ _ _ _,ag _ _⟩
  ·rw [if_neg h2] at hE;obtain ⟨m,rfl⟩:=Int.eq_ofNat_of_zero_le (show 0≤n by omega);go_wp2_with fail;refine hE.mono ?_;rintro e w' ⟨rfl,rfl⟩;go_wp2_with fail;refine hT.mono ?_;rintro e w' ⟨v',rfl,k,hr,hk,hz,T,ak,rfl⟩;have E:=sE hk hz;have Q:=hd.drop k;have o:(bs.drop k).length=0∨(bs.drop k).getD 0 0≠0:=by
    rcases T with e | e
    ·left;rw [List.length_drop];omega
    ·right;rw [List.getD_eq_getElem?_getD,List.getElem?_drop,← List.getD_eq_getElem?_getD];exact e
   have a:=jJ Q o m;have X:=(jJ Q o (((bs.drop k).length+7)/8)).2 (by omega);rw [← E] at HC HL;clear hT hE hz T o E hd h hk;generalize bs.drop k=cs at *;clear ak;obtain ⟨ao,q,i,rfl,N,g1,g2,g3,g4⟩:=hr.open;rw [N.out] at a;have h8:wrap64 (8*(m:Int))=8*m:=by simp [wrap64];omega
   by_cases h3:q≤8*m
   ·obtain ⟨e1,e2⟩:=mR (V:=bev cs) (n:=m) (by omega) (a.2 h3);rw [e1] at HC;rw [e2] at HL;have ab:¬ (q:Int) > 8*(m:Int):=by omega
    have HW:Hid (ah (bev cs)≤(cs.length+7)/8):=X;have aq:(cs.length+7)/8≤m:=by have:=N.out;omega
    clear e1 e2 a X;have M:Hid (Row .u8 w' (.slice ao q i) cs):=hr;clear hr;go_wp2_with (at_make;refine wpList_make_full _ rfl _ _ 23 rfl w'.heap.size 24 i0 _ 1 Tryz.underlying23 aj al am _ _ _ _ m rfl rfl rfl rfl (by rw [an];omega) (by unfold maxLen;omega) (leR _) ?_;intro w1 I S;rw [aM] at I;have k1:=aK S);have ai:=lt_of_block (dG I);have Z:Hid _:=I;clear I S;have hD:=Bg ao q i (w1.alloc (.cells #[.slice (some ⟨w'.heap.size,0,none⟩) m m] 23));refine hD.mono ?_;rintro e w2 ⟨rfl,rfl⟩;clear hD;have bX:=Boxed.new w1 23 (.slice (some ⟨w'.heap.size,0,none⟩) m m)
    have bN:=Boxed.new (w1.alloc (.cells #[.slice (some ⟨w'.heap.size,0,none⟩) m m] 23)) 27 (.slice ao q i);rw [World.size_alloc] at bN;have kA:=(k1.alloc (.cells #[.slice (some ⟨w'.heap.size,0,none⟩) m m] 23)).alloc (.cells #[.slice ao q i] 27);have ac:=kA.below (leR _) (fun _ f=>f.elim);have y:=M.out.grew kA;have t:∀ b,(Value.slice ao q i).ownBlock=some b→0<(cs.length+7)/8→b<w'.heap.size:=by
     intro b hb hp;obtain ⟨b',off,rfl,hc⟩:=g4 0 (by have:=N.out;omega);cases hb
     exact World.block_lt_of_cell? w' _ hc
    clear g4;obtain ⟨g,hg⟩:∃ g:Nat→Nat,∀ j,dig (bev cs) j=g j:=⟨_,fun _=>rfl⟩
    have HG:Hid (∀ j,dig (bev cs) j=g j):=hg;go_wp2_with fail;refine (wpIn_wide (n:=9)).1 ?_;refine wpIn_rangeFunc_ownG (F:=Fence.wide) (n:=9) rfl (by omega) (gf:=170) (lb:=#[.pointer (some ⟨w1.heap.size+1,0,none⟩)]) rfl trivial (enters_of Tryz.func170 (by kernel_rfl) rfl)
     (vD 8 (by omega) (w1.heap.size+1) ((cs.length+7)/8) g (.slice ao q i) cs Q rfl hg (fun k=>k=w1.heap.size+1∨((Value.slice ao q i).ownBlock=some k∧0<(cs.length+7)/8)) (.inl rfl) (fun b hb hp=>.inr ⟨hb,hp⟩) _ ?hsw bN.cell y) KeepB.trans (KeepB.put ?hsw2) (Below.refl _ _) (fun _=>rfl)
     (fun J W=>((∃ zs:List Nat,W.ownsRow w'.heap.size 24 1 (.slice (some ⟨w'.heap.size,0,none⟩) m m) m (zs.map fun z=>.int .u64 (z:Nat))∧Put g ((cs.length+7)/8) m J zs)∧Boxed W w1.heap.size 23 (.slice (some ⟨w'.heap.size,0,none⟩) m m))∧Below w'.heap.size w' W)
     (fun _ _ _=>False)
     (OwnFrom.and (Own.from (fun s A B ar hs hg hr=>⟨by obtain ⟨zs,h1,h2⟩:=hs.1;exact ⟨zs,kH h1 hg hr,h2⟩,oY hs.2 hg hr⟩) _) (ownFrom_below (leR _) (by simp;omega)))
     (fun _ _ _ _ _ hs _ _=>hs)
     ⟨⟨⟨List.replicate m 0,World.ownsRow.alloc (World.ownsRow.alloc Z.out _) _,by simp,fun j=>by rw [List.getD_eq_getElem?_getD,List.getElem?_replicate];split <;> simp⟩,bX.alloc _⟩,ac⟩
     ?act ?assign ?body ?done ?stop
    case hsw=>
     rintro k (rfl | ⟨hk,hp⟩)
     ·simp
     ·have:=t k hk hp;simp;omega
    case hsw2=>
     rintro k (rfl | ⟨hk,hp⟩)
     ·simp
     ·have:=t k hk hp;simp;omega
    case assign=>
     intro l x W K hK
     gi_wp2
     exact hK
    case body=>
     rintro l J x W ⟨⟨⟨zs,G,d⟩,H⟩,hB⟩ _;have hx:=x.isLt;have R:x.val<m:=by omega
     have hc:W.cell? ⟨w'.heap.size,x.val,none⟩=some (.int .u64 (zs.getD x.val 0:Nat)):=by
      rw [World.ownsRow.cellAt G x.val (by omega),List.getElem?_map,List.getElem?_eq_getElem (by rw [d.1];exact R),List.getD_eq_getElem?_getD,List.getElem?_eq_getElem (by rw [d.1];exact R)];rfl
     have hf:=World.ownsRow.frozenAt G x.val;have U:=(World.ownsRow.stored G x.val (.int .u64 (g x.val:Nat))).1;have ad:=H.cell;have L:Hid (Put g ((cs.length+7)/8) m (J ++ [x]) (zs.set x.val (g x.val))):=d.step x R;have aa:Hid (World.ownsRow (W.setCell ⟨w'.heap.size,x.val,none⟩ (.int .u64 (g x.val:Nat))) w'.heap.size 24 1 (.slice (some ⟨w'.heap.size,0,none⟩) m m) m ((zs.map fun z=>.int .u64 (z:Nat)).set x.val (.int .u64 (g x.val:Nat)))):=U;generalize zs.getD x.val 0=old at *;clear U d hg y
     gi_wp2
     refine ⟨(KeepsOthers.setCell _ _ _).from _,?_,⟨⟨zs.set x.val (g x.val),by rw [List.map_set];exact aa.out,L.out⟩,dj H (show w1.heap.size≠w'.heap.size by omega) _⟩,hB.setCell (p:=⟨w'.heap.size,x.val,none⟩) (leR _) _⟩;rintro k (rfl | ⟨hk,hp⟩)
     ·exact Below.heap_setCell W _ _ _ (show w1.heap.size+1≠w'.heap.size by omega)
     ·have:=t k hk hp;exact Below.heap_setCell W _ _ _ (show k≠w'.heap.size by omega)
    case done=>
     rintro D ys W hD Y ⟨⟨⟨zs,G,d⟩,H⟩,hB⟩ hK;have ap:=d.all Y HG.out HW.out;subst ap;have ad:=H.cell;clear d hg y Y;go_wp2;refine ⟨by simp,.inl ⟨_,_,rfl,run_takeDeferred hK,?_⟩⟩;have C:=hB.trans (belowK_b (w:=w') (leR _) W D _ (.deferred none) (by simp at hD;omega) hK rfl rfl);refine ⟨_,results_tmp2 rfl _ _ _,_,by rw [HC.out];rfl,?_,⟨C.os,C.tape,C.output,C.size,fun k hk _=>C.block k hk⟩⟩;rw [HL.out];rw [af];exact kH G (grownBy_putObj' _ D (.deferred none)) (fun r e=>by cases e;exact ⟨_,hK,rfl⟩)
    case stop=>
     rintro D c J W _ _ h _;exact h.elim
   ·obtain ⟨e1,e2⟩:=ib (V:=bev cs) (n:=(m:Int)) (by omega) (.inr (by simp;omega));rw [e1] at HC;rw [e2] at HL;have ab:(q:Int) > 8*(m:Int):=by omega
    clear e1 e2 a g4 hr;go_wp2;exact ⟨_,results_tmp2 rfl _ _ _,_,by rw [HC.out];rfl,by rw [HL.out];exact World.ownsRow_nil _ _ _ _,ag _ _⟩

theorem AB (v:Value) (bs:List Nat) (n:Int) (w:World) (h:Row .u8 w v bs) (hd:Digs bs 256) :
  Calls Tryz.prog 63 #[v,.int .i64 n] w fun r w'=>∃ v',r=.returned (.tuple #[v',.int .i64 (bh (bev bs) n)])∧Row .u64 w' v' (bI (bev bs) n)∧(∀ b,v'.ownBlock=some b→w.heap.size≤b)∧Kept ae w w':=by
 refine (Ds v bs n w h hd).mono ?_;rintro e w' ⟨v',he,h1,h2⟩;exact ⟨v',he,Row.of_own h1,fun b hb=>(World.ownsRow.lt h1 b hb).1,h2⟩

attribute [local go_sem] Oper.semAt_some

theorem sG {x:Nat} {r:List Nat} (hr:Digs r 256) {t s:Nat} (hs:s<8) (ht:t+s=8*(r.length+1)):bev (x%2^(8-s) :: r)=bev (x :: r)%2^t:=by
 have e:∀ y,bev (y :: r)=y*256^r.length+bev r:=fun y=>by
  have:=jx [y] r;simpa [bev] using this
 have hp:2^t=256^r.length*2^(8-s):=by
  rw [show (256:Nat)=2^8 from rfl,← Nat.pow_mul,← Nat.pow_add]
  congr 1
  omega
 have hl:=mu hr;have a:0<256^r.length:=Nat.pow_pos (by omega);rw [e,e,hp,Nat.mod_mul,Nat.mul_comm x,Nat.mul_add_mod,ar hl,Nat.mul_add_div a,Nat.div_eq_of_lt hl,Nat.add_zero,Nat.mul_comm (x%_)];omega

theorem sy {x s:Nat} (hs:s<8):x &&& (255/2^s)=x%2^(8-s):=by
 have e:255/2^s=2^(8-s)-1:=by
  obtain rfl | rfl | rfl | rfl | rfl | rfl | rfl | rfl:s=0∨s=1∨s=2∨s=3∨s=4∨s=5∨s=6∨s=7:=by omega
  all_goals rfl
 rw [e,Nat.and_two_pow_sub_one_eq_mod]

def lc (t z:Nat) (bs:List Nat) (k:Nat):Nat:=bev ((bs.drop (k*z)).take z)%2^t

def DrwX (p:Option Addr) (B t z L:Nat) (bs:List Nat) (N:Nat) (pre:List (Nat × Value)) (x:Nat × Value) (A:World):Prop:=
 x.1=pre.length+1∧(pre.length+1)*z≤bs.length∧(Row .u64 A x.2 (digs (lc t z bs pre.length) L)∧∀ b,x.2.ownBlock=some b→N≤b)∧Lsc A p B (bs.drop ((pre.length+1)*z))

def CZ (p:Option Addr) (B z:Nat) (bs:List Nat) (s:List (Nat × Value)) (A:World):Prop:=s.length*z≤bs.length∧bs.length<(s.length+1)*z∧Lsc A p B []

theorem DrwX.put {p:Option Addr} {B t z L l N:Nat} {bs:List Nat} {a:List (Nat × Value)} {x:Nat × Value} {A:World} {o:Obj} (o':Obj) (h:DrwX p B t z L bs N a x A) (hl:A.heap[l]? = some o) (ho:o.isCells=false):DrwX p B t z L bs N a x (A.putObj l o'):=
 ⟨h.1,h.2.1,⟨mU o' h.2.2.1.1 hl ho,h.2.2.1.2⟩,h.2.2.2.put o' hl ho⟩

theorem Bi (p:Option Addr) (t n:Nat) (w:World) (ht:t≤1000000) :
  Calls Tryz.prog 131 #[.pointer p,.int .i64 (t:Int),.int .i64 (n:Int)] w fun e w'=>e=.returned (.func (.func 186) #[] #[.pointer (some ⟨w.heap.size,0,none⟩),.pointer (some ⟨w.heap.size+3,0,none⟩),.pointer (some ⟨w.heap.size+1,0,none⟩),.pointer (some ⟨w.heap.size+2,0,none⟩)]) ∧
   Boxed w' w.heap.size 39 (.pointer p)∧Boxed w' (w.heap.size+1) 3 (.int .i64 (t:Int))∧Boxed w' (w.heap.size+2) 3 (.int .i64 (n:Int))∧Boxed w' (w.heap.size+3) 3 (.int .i64 ((t+7)/8:Nat))∧Kept ae w w'∧w'.heap.size=w.heap.size+4:=by
 obtain ⟨z,hz⟩:∃ z,z=(t+7)/8:=⟨_,rfl⟩
 rw [← hz];have g1:((t:Int)+8-1)/8=(z:Int):=by omega
 have g2:((t:Int)+8-1).tdiv 8=(z:Int):=by rw [Int.tdiv_eq_ediv_of_nonneg (by omega)];exact g1
 have b0:=(((Boxed.new w 39 (.pointer p)).alloc (.cells #[.int .i64 (t:Int)] 3)).alloc (.cells #[.int .i64 (n:Int)] 3)).alloc (.cells #[.int .i64 (z:Int)] 3);have b1:=((Boxed.new (w.alloc (.cells #[.pointer p] 39)) 3 (.int .i64 (t:Int))).alloc (.cells #[.int .i64 (n:Int)] 3)).alloc (.cells #[.int .i64 (z:Int)] 3);have b2:=(Boxed.new ((w.alloc (.cells #[.pointer p] 39)).alloc (.cells #[.int .i64 (t:Int)] 3)) 3 (.int .i64 (n:Int))).alloc (.cells #[.int .i64 (z:Int)] 3);have b3:=Boxed.new (((w.alloc (.cells #[.pointer p] 39)).alloc (.cells #[.int .i64 (t:Int)] 3)).alloc (.cells #[.int .i64 (n:Int)] 3)) 3 (.int .i64 (z:Int));simp only [World.size_alloc] at b1 b2 b3
 have c1:((w.alloc (.cells #[.pointer p] 39)).alloc (.cells #[.int .i64 (t:Int)] 3)).cell? ⟨w.heap.size+1,0,none⟩=some (.int .i64 (t:Int)):=by
  have:=(Boxed.new (w.alloc (.cells #[.pointer p] 39)) 3 (.int .i64 (t:Int))).cell
  rwa [World.size_alloc] at this
 have f:=(((Boxed.new (w.alloc (.cells #[.pointer p] 39)) 3 (.int .i64 (t:Int))).alloc (.cells #[.int .i64 (n:Int)] 3)).cell)
 rw [World.size_alloc] at f;have a:=aa b0;have b:=aa b1;have c:=aa b2;have d:=aa b3;have c3:=b3.cell;have f3:=b3.frozen;clear hz b0 b1 b2 b3;go_enter Tryz.func131,Tryz.ntmps131;go_wp2_with fail;go_ret;exact ⟨rfl,a.out,b.out,c.out,d.out,((((ag ae w).alloc _).alloc _).alloc _).alloc _,by simp⟩

structure BtwD (W wr:World) (p:Option Addr) (B z k bp bz bt bn t L:Nat) (bs:List Nat):Prop where
 few:k*z≤bs.length
 scr:Lsc wr p B (bs.drop (k*z))
 pb:Boxed wr bp 39 (.pointer p)
 zb:Boxed wr bz 3 (.int .i64 (z:Nat))
 tb:Boxed wr bt 3 (.int .i64 (t:Nat))
 nb:Boxed wr bn 3 (.int .i64 (L:Nat))
 size:W.heap.size≤wr.heap.size

theorem BtwD.kept {S:Nat→Prop} {W wr w':World} {p:Option Addr} {B z k bp bz bt bn t L:Nat} {bs:List Nat} (b:BtwD W wr p B z k bp bz bt bn t L bs) (kk:Kept S wr w') (hB:∀ x,x<B→¬ S x) (h1:¬ S bp) (h2:¬ S bz) (h3:¬ S bt) (h4:¬ S bn):BtwD W w' p B z k bp bz bt bn t L bs:=
 ⟨b.few,b.scr.kept kk hB,cf b.pb kk h1,cf b.zb kk h2,cf b.tb kk h3,cf b.nb kk h4,Nat.le_trans b.size kk.size⟩

theorem BtwD.next {S:Nat→Prop} {W wr w':World} {p:Option Addr} {B z k bp bz bt bn t L:Nat} {bs:List Nat} (b:BtwD W wr p B z k bp bz bt bn t L bs) (kk:Kept S wr w') (hf:(k+1)*z≤bs.length) (hs:Lsc w' p B (bs.drop ((k+1)*z))) (h1:¬ S bp) (h2:¬ S bz) (h3:¬ S bt) (h4:¬ S bn):BtwD W w' p B z (k+1) bp bz bt bn t L bs:=
 ⟨hf,hs,cf b.pb kk h1,cf b.zb kk h2,cf b.tb kk h3,cf b.nb kk h4,Nat.le_trans b.size kk.size⟩

theorem yV (n:Nat) (hn:1≤n) (p:Option Addr) (B t z s L bp bz bt bn:Nat) (bs:List Nat) (w:World) (Sb:Nat→Prop) (hz:1≤z) (al:t+s=8*z) (aj:s<8) (hL:L≤300) (aH:t≤64*L)
  (I:Lsc w p B bs) (hd:Digs bs 256) (hp:Boxed w bp 39 (.pointer p)) (U:Boxed w bz 3 (.int .i64 (z:Nat))) (S:Boxed w bt 3 (.int .i64 (t:Nat))) (P:Boxed w bn 3 (.int .i64 (L:Nat)))
  (hB:B≤w.heap.size) (lp:B≤bp) (lz:B≤bz) (lt:B≤bt) (ln:B≤bn) (hSb:∀ b,Sb b→B≤b∧b<w.heap.size) (sp:¬ Sb bp) (sz:¬ Sb bz) (st:¬ Sb bt) (sn:¬ Sb bn) :
  Bo n Tryz.prog 186 #[.pointer (some ⟨bp,0,none⟩),.pointer (some ⟨bz,0,none⟩),.pointer (some ⟨bt,0,none⟩),.pointer (some ⟨bn,0,none⟩)] (fun x:Nat × Value=>#[.int .i64 (x.1:Nat),x.2]) (DrwX p B t z L bs w.heap.size) Sb (ofP p) (CZ p B z bs) w:=by
 rintro l J Jx W o ai ak hJ hY h0;have ap:=hp.lt;have ar:=U.lt;have aq:=S.lt;have ao:=P.lt;have H0:Hid (BtwD W W p B z 0 bp bz bt bn t L bs):=⟨by omega,by rw [Nat.zero_mul];exact I.grew o,fX hp o,fX U o,fX S o,fX P o,leR _⟩
 have aN:=I.len;have HD:=aa hd;have V:=aa h0;have G:Hid (∀ x,ofP p x→x<B):=fun x hx=>(I.inP hx).1
 have c:Hid (B≤w.heap.size∧B≤bp∧B≤bz∧B≤bt∧B≤bn∧bp<w.heap.size∧bz<w.heap.size∧bt<w.heap.size∧bn<w.heap.size∧l=w.heap.size+1∧W.heap.size=w.heap.size+2):=⟨hB,lp,lz,lt,ln,ap,ar,aq,ao,ai,ak⟩
 have A:Hid (t+s=8*z∧t≤64*L∧1≤z):=⟨al,aH,hz⟩
 have gs:(8:Int)*(z:Int)-(t:Int)=(s:Int):=by omega
 obtain ⟨y,hy⟩:∃ y,y=255/2^s:=⟨_,rfl⟩
 have gy:(255:Int)/2^s=(y:Int):=by rw [hy];simp
 have aI:y<256:=by rw [hy];exact Nat.lt_of_le_of_lt (Nat.div_le_self _ _) (by omega)
 have HY:=aa hy;have aL:(0:Int)≤(s:Int):=by omega
 have U:z≤2401:=by omega
 clear I hd hp S P o h0 hB lp lz lt ln ap ar aq ao ai ak hy;refine callsIn_of_wp Tryz.func186 rfl trivial ?_ rfl;simp only [Tryz.ntmps186,List.size_toArray,List.length_cons,List.length_nil,Nat.reduceAdd,Nat.reduceSub,Array.replicate_succ,Array.replicate_zero,List.push_toArray,List.append_toArray,List.nil_append,List.cons_append];refine wpIn_wide.2 ?_;go_wp2_with fail;refine (wpIn_wide (n:=n)).1 ?_
 gi_loopw [6] (fun iv wr=>∃ (k:Nat) (m:List (Nat × Value)),iv=.int .i64 ((k+1:Nat):Int)∧Hid (m.length=k)∧Hid (J m wr)∧Hid (BtwD W wr p B z k bp bz bt bn t L bs)) (fun iv _=>1000002-(intOf iv).toNat)
 case atStart=>exact ⟨0,[],rfl,rfl,V.out,H0.out⟩
 case round=>
  clear V H0;obtain ⟨k,m,rfl,HP,HJ,HB⟩:=hrel;obtain ⟨j,hj⟩:∃ j,j=k+1:=⟨_,rfl⟩
  rw [← hj];have Z:=aa hj;have aR:k≤1000000:=by
   have h1:=HB.out.few;have h2:k*1≤k*z:=Nat.mul_le_mul_left _ A.out.2.2;omega
  have aQ:j≤1000001:=by omega
  have gj:IntKind.i64.wrap ((j:Int)+1)=(j:Int)+1:=by rw [IntKind.wrap_i64];omega
  clear hj;have J1:=CU p B (bs.drop (k*z)) z wr HB.out.scr;have cp:=HB.out.pb.cell;have cz:=HB.out.zb.cell;by_cases hlen:(bs.drop (k*z)).length<z
  ·have t1:du (bs.drop (k*z)) (z:Int)=150:=by unfold du;rw [if_neg (by omega),if_pos (by omega)]
   have t2:eK (bs.drop (k*z)) (z:Int)=[]:=by unfold eK;rw [if_neg (by omega)];exact List.drop_of_length_le (by show _≤((z:Int)).toNat;omega)
   rw [t1,t2] at J1;have aw:Hid (bs.length<(k+1)*z):=by unfold Hid;rw [List.length_drop] at hlen;rw [Nat.succ_mul];have:=HB.out.few;omega
   clear t1 t2 hlen
   gi_wp2_with fail
   refine ⟨trivial,?_⟩;refine (callsIn_wide.2 J1).mono ?_;rintro e w3 ⟨u,rfl,hO,h3,k3⟩;have F:=aa (hJ _ _ _ HJ.out (k3.mono fun _ _ e=>.inl e));obtain ⟨xo,xc,rfl⟩:=aZ hO;have ax:=aa h3;clear J1 hO h3 k3
   gi_wp2_with fail
   refine bodyPost_ret (results_none rfl _ _ _) rfl ?_;exact ⟨⟨_,rfl⟩,.inl ⟨m,⟨by rw [HP.out];exact HB.out.few,by rw [HP.out];exact aw.out,ax.out⟩,F.out⟩⟩
  ·have t1:du (bs.drop (k*z)) (z:Int)=0:=by unfold du;rw [if_neg (by omega),if_neg (by omega)]
   have D:(k+1)*z≤bs.length:=by rw [List.length_drop] at hlen;rw [Nat.succ_mul];have:=HB.out.few;omega
   have t2:eK (bs.drop (k*z)) (z:Int)=bs.drop ((k+1)*z):=by unfold eK;rw [if_neg (by omega),List.drop_drop,Nat.succ_mul];rfl
   have t3:ek (bs.drop (k*z)) (z:Int)=(bs.drop (k*z)).take z:=by unfold ek;rw [t1];rfl
   rw [t1,t2,t3] at J1;obtain ⟨x0,tl,E⟩:∃ x0 tl,(bs.drop (k*z)).take z=x0 :: tl:=by
    cases hc:(bs.drop (k*z)).take z with
    | nil=>
     have e1:=congrArg List.length hc;rw [List.length_take] at e1;have e2:([]:List Nat).length=0:=rfl;omega
    | cons a b=>exact ⟨a,b,rfl⟩
   have H:Digs (x0 :: tl) 256:=by rw [← E];exact (HD.out.drop _).take _
   have T:tl.length+1=z:=by
    have e1:=congrArg List.length E;rw [List.length_take,List.length_cons] at e1;omega
   rw [E] at J1;have am:x0<256:=H.head;have e6:=u8_and_nat x0 y am aI;obtain ⟨q,hq⟩:∃ q,q=x0 &&& y:=⟨_,rfl⟩
   rw [← hq] at e6;have R:q=x0%2^(8-s):=by rw [hq,HY.out];exact sy aj
   have aG:q<256:=by rw [R];exact Nat.lt_of_le_of_lt (Nat.mod_le _ _) am
   have HV:Hid (bev (q :: tl)=lc t z bs k):=by unfold Hid lc;rw [E,R];exact sG H.tail aj (by rw [T];exact al)
   have au:Hid (Digs (q :: tl) 256):=fun d hd=>by
    rcases List.mem_cons.1 hd with rfl | hd
    ·exact aG
    ·exact H.tail d hd
   have aK:Hid ((q :: tl).length=z):=by unfold Hid;rw [List.length_cons];exact T
   have v:=aa D;clear t1 t2 t3 hlen hq R E H D
   gi_wp2_with fail
   refine ⟨trivial,?_⟩;refine (callsIn_wide.2 J1).mono ?_;rintro e w3 ⟨u,rfl,hO,h3,k3⟩;have F:=aa (hJ _ _ _ HJ.out (k3.mono fun _ _ e=>.inl e));have B3:=aa (HB.out.next k3 v.out h3 (fun e=>by have:=G.out _ e;have:=c.out;omega) (fun e=>by have:=G.out _ e;have:=c.out;omega) (fun e=>by have:=G.out _ e;have:=c.out;omega) (fun e=>by have:=G.out _ e;have:=c.out;omega));have C:w3.ownsRow wr.heap.size 5 1 u z ((x0 :: tl).map fun a:Nat=>Value.int .u8 (a:Int)):=by
    have:=hO;unfold OwnB OwnN at this;rw [List.length_cons,T] at this;exact this
   obtain ⟨g,i,rfl⟩:∃ g i,u=.slice (some ⟨g,0,none⟩) z i:=by
    rcases C.2 with ⟨_,e⟩ | ⟨g,i,_,e,_⟩
    ·omega
    ·exact ⟨g,i,e⟩
   have aC:w3.cell? ⟨g,0,none⟩=some (.int .u8 (x0:Nat)):=by
    obtain ⟨_,_,_,e,_,_,_,_,Q⟩:=hO.row.open;cases e
    obtain ⟨b',aJ,e,hc⟩:=Q 0 (by omega);cases e
    exact hc
   have aD:=C.frozenAt 0;obtain ⟨ae,aE⟩:=C.stored 0 (.int .u8 (q:Int));have aF:=C.lt g rfl;have k4:Kept (fun x=>wr.heap.size≤x) w3 (w3.setCell ⟨g,0,none⟩ (.int .u8 (q:Int))):=(ag _ _).setCell _ (fun _=>aF.1) _;have ac:Hid (Row .u8 (w3.setCell ⟨g,0,none⟩ (.int .u8 (q:Int))) (.slice (some ⟨g,0,none⟩) z i) (q :: tl)):=(OwnB.of (n:=z) (zs:=q :: tl) ae).row;have aB:=B3.out.zb.cell;have az:=B3.out.tb.cell;have aP:g≠bz:=by have:=c.out;have:=HB.out.size;omega
   have aO:g≠bt:=by have:=c.out;have:=HB.out.size;omega
   have aM:(0:Int)<(z:Int):=by omega
   have ab:=aa k4;clear J1 hO C ae aE h3 k3 k4 cp cz
   gi_wp2_with fail
   gi_region
   have k4:Kept (fun x=>wr.heap.size≤x) w3 (w3.setCell ⟨g,0,none⟩ (.int .u8 (q:Int))).drew:=ab.out.drew;have r4:Row .u8 (w3.setCell ⟨g,0,none⟩ (.int .u8 (q:Int))).drew (.slice (some ⟨g,0,none⟩) z i) (q :: tl):=ac.out.grew ((ag _ _).drew);generalize (w3.setCell ⟨g,0,none⟩ (.int .u8 (q:Int))).drew=w4 at *;have h:∀ x,x<w.heap.size→¬ wr.heap.size≤x:=fun x hx=>by have:=c.out;have:=HB.out.size;omega
   have B4:=aa (B3.out.kept k4 (fun x hx=>h x (by have:=c.out;omega)) (h _ (by have:=c.out;omega)) (h _ (by have:=c.out;omega)) (h _ (by have:=c.out;omega)) (h _ (by have:=c.out;omega)));have X:=aa (hJ _ _ _ F.out (k4.mono fun x _ (e:wr.heap.size≤x)=>.inr (by have:=HB.out.size;omega)));have O:ah (lc t z bs k)≤L:=by
    rw [aA];refine Nat.lt_of_lt_of_le (Nat.mod_lt _ (Nat.pow_pos (by omega))) ?_;rw [show (18446744073709551616:Nat)=2^64 from rfl,← Nat.pow_mul];exact Nat.pow_le_pow_right (by omega) A.out.2.1
   have N:=AB (.slice (some ⟨g,0,none⟩) z i) (q :: tl) (L:Int) w4 r4 au.out;rw [HV.out,(mR hL O).1,(mR hL O).2] at N;have ay:=B4.out.nb.cell;clear k4 r4 ab ac O aC aD aB az F B3 h e6
   gi_wp2_with fail
   refine ⟨trivial,?_⟩;refine (callsIn_wide.2 N).mono ?_;rintro e w5 ⟨v5,rfl,r5,f5,k5⟩;have af:∀ b,v5.ownBlock=some b→w.heap.size≤b:=fun b hb=>by have h1:=f5 b hb;have h2:=B4.out.size;have h3:=c.out;omega
   have B5:=aa (B4.out.kept k5 (fun _ _ f=>f) (fun f=>f) (fun f=>f) (fun f=>f) (fun f=>f));have Y:=aa (hJ _ _ _ X.out k5.any);have an:DrwX p B t z L bs w.heap.size m (j,v5) w5:=⟨by rw [HP.out];exact Z.out,by rw [HP.out];exact v.out,⟨by rw [HP.out];exact r5,af⟩,by rw [HP.out];exact B5.out.scr⟩
   obtain ⟨fn,tmps,assign,body,hy,hR⟩:=hY m (j,v5) w5 Y.out an;obtain ⟨xo,xn,xc,rfl,_⟩:=r5.open;clear N r5 f5 af k5 ay an B4 X
   gi_wp2_with fail
   refine hR.mono ?_;rintro e w6 (⟨rfl,ad,k6⟩ | ⟨rfl,M⟩)
   ·have r:∀ x,x<w.heap.size→¬ Sb x→¬ (Sb x∨x=l∨x+1=l):=fun x hx hs=>by
     have:=c.out;rintro (e | e | e)
     ·exact hs e
     ·omega
     ·omega
    have B6:=aa (B5.out.kept k6 (fun x hx=>r x (by have:=c.out;omega) (fun e=>by have:=(hSb x e).1;omega)) (r _ (by have:=c.out;omega) sp) (r _ (by have:=c.out;omega) sz) (r _ (by have:=c.out;omega) st) (r _ (by have:=c.out;omega) sn));have av:=aa ad;clear hR hy ad k6 B5 Y r
    gi_wp2_with fail
    go_roundw
    case rel=>exact ⟨k+1,m ++ [(j,Value.slice xo xn xc)],by rw [← Z.out];first | rfl | (rw [gj];rfl),by unfold Hid;rw [List.length_append,HP.out];rfl,av,B6⟩
    case measure=>simp [intOf];omega
   ·gi_wp2_with fail
    refine bodyPost_ret (results_none rfl _ _ _) rfl ?_;exact ⟨⟨_,rfl⟩,.inr ⟨_,M⟩⟩

end Go.Proofs.YtkaojflnghfmcaaGreatDoor
