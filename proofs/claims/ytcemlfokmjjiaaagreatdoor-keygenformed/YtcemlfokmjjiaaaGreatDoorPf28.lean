/- Put together of: Pri6 Kgn1 Kgn2 LimN L5B LimO Kex1. -/
import Derived.Test.YtcemlfokmjjiaaaGreatDoorPf27

namespace Go.Proofs.YtcemlfokmjjiaaaGreatDoor
set_option maxRecDepth 100000
set_option maxHeartbeats 4000000
open Go.RowKit Go.Shelf

theorem qz (bN bE bR bS bP bM:Nat) (n r:Int) (ee:Nat) (w:World) (c:n<16∨4096<n∨ee<3∨ee%2=0∨r<1∨100<r)
  (b0:w.cell? ⟨bN,0,none⟩=some (.int .i64 n)) (b1:w.cell? ⟨bE,0,none⟩=some (.int .u64 (ee:Int))) (b2:w.cell? ⟨bR,0,none⟩=some (.int .i64 r)) :
  Calls Tryz.prog 37 #[.pointer (some ⟨bN,0,none⟩),.pointer (some ⟨bE,0,none⟩),.pointer (some ⟨bR,0,none⟩),.pointer (some ⟨bS,0,none⟩),.pointer (some ⟨bP,0,none⟩),.pointer (some ⟨bM,0,none⟩)] w fun e w'=>e=.panicked [refusal 1]∧w'=w:=by
 have b:=eZ 1 w;have d:=fW 1 w;by_cases h1:16≤n∧n≤4096
 ·have J0:=vF n true (by symm;exact aT h1) w;have a:ee<3∨ee%2=0∨r<1∨100<r:=by omega
  clear c h1;by_cases h2:ee<3∨ee%2=0
  ·clear a;refine (callsIn_wide (n:=9)).1 ?_;refine dV Tryz.func37 rfl ?_;simp only [Tryz.ntmps37,List.size_toArray,List.length_cons,List.length_nil,Nat.reduceAdd,Nat.reduceSub,Array.replicate_succ,Array.replicate_zero,List.push_toArray,List.append_toArray,List.nil_append,List.cons_append];refine ew (n:=9) fun K hK=>?_
   refine wpIn_wide.2 ?_;go_wp2_with fail;refine J0.mono ?_;rintro e w1 ⟨rfl,rfl⟩;go_wp2_with fail;refine b.mono ?_;rintro e w2 ⟨rfl,rfl⟩;go_wp2_with fail;clear J0 b;refine ew (n:=9) fun K hK=>?_
   refine wpIn_wide.2 ?_;clear hK;rcases Nat.lt_or_ge ee 3 with h3 | h3
   ·have g3:(ee:Int)<3:=by omega
    clear h2;go_wp2_with fail;refine d.mono ?_;rintro e w3 ⟨rfl,rfl⟩;exact ⟨rfl,rfl⟩
   ·have g3:¬ (ee:Int)<3:=by omega
    have g4:(ee:Int)%2=0:=by omega
    have f:(ee:Int).tmod 2=0:=by rw [Int.tmod_eq_emod_of_nonneg (by omega)];omega
    clear h2 h3;go_wp2_with fail;refine d.mono ?_;rintro e w3 ⟨rfl,rfl⟩;exact ⟨rfl,rfl⟩
  ·have g3:¬ (ee:Int)<3:=by omega
   have g4:¬ (ee:Int)%2=0:=by omega
   have f:¬ (ee:Int).tmod 2=0:=by rw [Int.tmod_eq_emod_of_nonneg (by omega)];omega
   have h5:r<1∨100<r:=by omega
   have d3:decide ((ee:Int)<3)=false:=aC g3;have d4:((ee:Int)%2 == 0)=false:=by simp;omega
   clear h2 a;refine (callsIn_wide (n:=9)).1 ?_;refine dV Tryz.func37 rfl ?_;simp only [Tryz.ntmps37,List.size_toArray,List.length_cons,List.length_nil,Nat.reduceAdd,Nat.reduceSub,Array.replicate_succ,Array.replicate_zero,List.push_toArray,List.append_toArray,List.nil_append,List.cons_append];refine ew (n:=9) fun K hK=>?_
   refine wpIn_wide.2 ?_;go_wp2_with fail;refine J0.mono ?_;rintro e w1 ⟨rfl,rfl⟩;go_wp2_with fail;refine b.mono ?_;rintro e w2 ⟨rfl,rfl⟩;go_wp2_with fail;clear J0;refine ew (n:=9) fun K hK=>?_
   refine wpIn_wide.2 ?_;go_wp2_with fail;refine b.mono ?_;rintro e w3 ⟨rfl,rfl⟩;go_wp2_with fail;clear b g3 g4 f d3 d4;refine ew (n:=9) fun K hK=>?_
   refine wpIn_wide.2 ?_;clear hK;by_cases h6:r<1
   ·clear h5;go_wp2_with fail;refine d.mono ?_;rintro e w4 ⟨rfl,rfl⟩;exact ⟨rfl,rfl⟩
   ·have h7:r > 100:=by omega
    have g:100<r:=by omega
    clear h5;go_wp2_with fail;refine d.mono ?_;rintro e w4 ⟨rfl,rfl⟩;exact ⟨rfl,rfl⟩
 ·have J0:=vF n false (by symm;exact aC h1) w;clear c h1 b;refine (callsIn_wide (n:=9)).1 ?_;refine dV Tryz.func37 rfl ?_;simp only [Tryz.ntmps37,List.size_toArray,List.length_cons,List.length_nil,Nat.reduceAdd,Nat.reduceSub,Array.replicate_succ,Array.replicate_zero,List.push_toArray,List.append_toArray,List.nil_append,List.cons_append];refine ew (n:=9) fun K hK=>?_
  refine wpIn_wide.2 ?_;clear hK;go_wp2_with fail;refine J0.mono ?_;rintro e w1 ⟨rfl,rfl⟩;go_wp2_with fail;refine d.mono ?_;rintro e w2 ⟨rfl,rfl⟩;exact ⟨rfl,rfl⟩

def jM (n r:Int) (ee:Nat):Prop:=n<16∨4096<n∨ee<3∨ee%2=0∨r<1∨100<r

def pW (n r:Int) (ee:Nat) (bs P:List Nat) (K E:Nat) (R:List Nat):Prop:=(jM n r ee∧P=[]∧K=0∧E=1∧R=bs)∨(¬ jM n r ee∧DrawR n.toNat ee r.toNat 100000 bs 1 (P,K,E,R))

theorem BX (p:Option Addr) (B:Nat) (n r:Int) (ee:Nat) (bs:List Nat) (he:ee<18446744073709551616) (w:World) (hs:Lsc w p B bs) (hB:B≤w.heap.size) (hd:Digs bs 256) :
  Calls Tryz.prog 23 #[.pointer p,.int .i64 n,.int .u64 (ee:Int),.int .i64 r] w fun e w'=>∃ v K E,e=.returned (.tuple #[v,.int .i64 ((K:Nat):Int),.int .i64 ((E:Nat):Int)])∧∃ P R,pW n r ee bs P K E R∧(Row .u64 w' v P∧∀ b,v.ownBlock=some b→w.heap.size≤b)∧Lsc w' p B R∧Kept (ofP p) w w':=by
 have M:=eR;have A:∀ args w,(callFunc 37 args).run Tryz.prog w=.ok (.enter 37 args) w:=fun _ _=>by simp [go_sem]
 obtain ⟨W,hW⟩:∃ W,W=(((((w.alloc (.cells #[.pointer p] 26)).alloc (.cells #[.int .i64 n] 3)).alloc (.cells #[.int .u64 (ee:Int)] 23)).alloc (.cells #[.int .i64 r] 3)).alloc (.cells #[.slice none 0 0] 32)).alloc (.cells #[.int .i64 0] 3):=⟨_,rfl⟩
 obtain ⟨k0,x0,x1,x2,x3,x4,x5,m⟩:=tg w (.pointer p) (.int .i64 n) (.int .u64 (ee:Int)) (.int .i64 r) (.slice none 0 0) (.int .i64 0) 26 3 23 3 32 3;rw [← hW] at k0 x0 x1 x2 x3 x4 x5 m;have k1:=k0.alloc (.cells #[.int .i64 0] 33);have xe:=Box.new W (.int .i64 0) 33;have i:(W.alloc (.cells #[.int .i64 0] 33)).heap.size=W.heap.size+1:=by simp
 have j:∀ b,B≤b→¬ ofP p b:=fun b hb e=>by have:=(hs.inP e).1;omega
 have s:=uA 37 #[.pointer (some ⟨w.heap.size+1,0,none⟩),.pointer (some ⟨w.heap.size+1+1,0,none⟩),.pointer (some ⟨w.heap.size+1+1+1,0,none⟩),.pointer (some ⟨w.heap.size,0,none⟩),.pointer (some ⟨w.heap.size+1+1+1+1,0,none⟩),.pointer (some ⟨w.heap.size+1+1+1+1+1,0,none⟩)] W
  (fun c W'=>∃ v P K R E,c=((E:Nat):Int)∧pW n r ee bs P K E R∧(Row .u64 W' v P∧∀ b,v.ownBlock=some b→W.heap.size<b)∧Lsc W' p B R∧(Box W' (w.heap.size+1+1+1+1) v 32∧Box W' (w.heap.size+1+1+1+1+1) (.int .i64 ((K:Nat):Int)) 3)∧Kept (ofP p) w W') A (by
  by_cases hbad:jM n r ee
  ·refine (qz _ _ _ _ _ _ n r ee _ hbad (x1.alloc _).cell (x2.alloc _).cell (x3.alloc _).cell).mono ?_;rintro e w' ⟨rfl,rfl⟩;exact ⟨xe,.inr ⟨1,rfl,.slice none 0 0,[],0,bs,1,rfl,.inl ⟨hbad,rfl,rfl,rfl,rfl⟩,⟨Row.nil _ _,fun b hb=>by cases hb⟩,hs.grew k1,⟨x4.alloc _,x5.alloc _⟩,k1.any⟩⟩
  ·have L:¬ (n<16∨4096<n∨ee<3∨ee%2=0∨r<1∨100<r):=hbad;obtain ⟨n',rfl⟩:∃ n':Nat,n=(n':Int):=⟨n.toNat,by omega⟩
   obtain ⟨r',rfl⟩:∃ r':Nat,r=(r':Int):=⟨r.toNat,by omega⟩
   refine (AT p B (w.heap.size+1) (w.heap.size+1+1) (w.heap.size+1+1+1) w.heap.size (w.heap.size+1+1+1+1) (w.heap.size+1+1+1+1+1) n' ee r' bs _ (by omega) (by omega) (by omega) (by omega) he (by omega) (by omega) (hs.grew k1) hd (by omega) (by omega) (by omega) (by omega) (by omega) (by omega) (by omega) (x1.alloc _) (x2.alloc _) (x3.alloc _) (x0.alloc _) (x4.alloc _) (x5.alloc _)).mono ?_;rintro e w' (⟨rfl,v,P,K,R,h1,⟨h2,h3⟩,h4,⟨h5,h6⟩,h7⟩ | ⟨ch,rfl,⟨E,R,rfl,hE,h1,h2⟩,h3⟩)
   ·rw [i] at h3;refine ⟨xe.kept h7 (fun e=>?_),.inl ⟨rfl,v,P,K,R,0,rfl,.inr ⟨hbad,h1⟩,⟨h2,fun b hb=>by have:=h3 b hb;omega⟩,h4,⟨h5,h6⟩,?_⟩⟩
    ·rcases e with e | e | e
     ·exact j _ (by omega) e
     ·omega
     ·omega
    ·exact (k1.any.next h7 (fun x hx e=>by
      rcases e with e | e | e
      ·exact e
      ·omega
      ·omega))
   ·exact ⟨xe.kept h3 (j _ (by omega)),.inr ⟨_,rfl,.slice none 0 0,[],0,R,E,rfl,.inr ⟨hbad,h1⟩,⟨Row.nil _ _,fun b hb=>by cases hb⟩,h2,⟨(x4.alloc (.cells #[.int .i64 0] 33)).kept h3 (j _ (by omega)),(x5.alloc (.cells #[.int .i64 0] 33)).kept h3 (j _ (by omega))⟩,k1.any.trans h3⟩⟩)
 have HW:=aa hW;have I:=aa m;have HB:=aa hB;clear hd hs hB he hW k0 k1 x0 x1 x2 x3 x4 x5 xe A m i j;go_enter Tryz.func23,Tryz.ntmps23;go_wp2_with (rw [← HW.out]);refine s.mono ?_;rintro e w' ⟨c,w1,rfl,⟨⟨v,P,K,R,E,rfl,d,⟨g,a⟩,y,⟨hP,hM⟩,k2⟩,q⟩,rfl⟩;have o:Box w1 W.heap.size (.int .i64 0) 33:=q;have H:W.heap.size=w.heap.size+1+1+1+1+1+1:=I.out;have k4:=k2.next (ar w1 W.heap.size (.int .i64 (E:Int))) (fun x hx e=>by omega)
 have f:=g.kept' (ar w1 W.heap.size (.int .i64 (E:Int))) (fun _ x hx e=>by have:=a x hx;have e':x=W.heap.size:=e;omega);have h:=y.box (b:=W.heap.size) (by have:=HB.out;omega) (.int .i64 (E:Int));have k:=hP.other ⟨W.heap.size,0,none⟩ (by show w.heap.size+1+1+1+1≠W.heap.size;omega) (.int .i64 (E:Int));have l:=hM.other ⟨W.heap.size,0,none⟩ (by show w.heap.size+1+1+1+1+1≠W.heap.size;omega) (.int .i64 (E:Int));generalize w1.setCell ⟨W.heap.size,0,none⟩ (.int .i64 (E:Int))=w2 at *;obtain ⟨vo,vn,vc,rfl,_⟩:=g.open;have c1:=k.cell;have f1:=k.free;have c2:=l.cell;have f2:=l.free;have C:=k.set (.slice vo vn vc)
 have t:=l.other ⟨w.heap.size+1+1+1+1,0,none⟩ (by show w.heap.size+1+1+1+1+1≠w.heap.size+1+1+1+1;omega) (.slice vo vn vc);have z:=C.other ⟨w.heap.size+1+1+1+1+1,0,none⟩ (by show w.heap.size+1+1+1+1≠w.heap.size+1+1+1+1+1;omega) (.int .i64 (K:Int));have D:=t.set (.int .i64 (K:Int));have c3:=z.cell;have c4:=D.cell;have J:=aa ((h.box (b:=w.heap.size+1+1+1+1) (by have:=HB.out;omega) (.slice vo vn vc)).box (b:=w.heap.size+1+1+1+1+1) (by have:=HB.out;omega) (.int .i64 (K:Int)));have HK:=aa ((k4.next (ar w2 (w.heap.size+1+1+1+1) (.slice vo vn vc)) (fun x hx e=>by omega)).next (ar _ (w.heap.size+1+1+1+1+1) (.int .i64 (K:Int))) (fun x hx e=>by omega))
 have HR:=aa ((f.kept' (ar w2 (w.heap.size+1+1+1+1) (.slice vo vn vc)) (fun _ x hx e=>by have:=a x hx;have e':x=w.heap.size+1+1+1+1:=e;omega)).kept' (ar _ (w.heap.size+1+1+1+1+1) (.int .i64 (K:Int))) (fun _ x hx e=>by have:=a x hx;have e':x=w.heap.size+1+1+1+1+1:=e;omega));have G:Hid (∀ b,(Value.slice vo vn vc).ownBlock=some b→w.heap.size≤b):=fun b hb=>by have:=a b hb;omega
 have F:=aa d;clear s g f a y h hP hM k l C t z D k2 k4 q o H d;go_wp2_with fail;go_region
 all_goals
  go_wp2;exact bodyPost_ret (v:=.tuple #[.slice vo vn vc,.int .i64 (K:Int),.int .i64 (E:Int)]) (by simp [results,Tryz.results23,go_sem,c3,c4]) rfl ⟨_,K,E,rfl,P,R,F.out,⟨HR.out.grew (ai _ _).drew,G.out⟩,J.out.grew (ai _ _).drew,HK.out.trans (ai af _).drew.any⟩

open Go.RowKit

theorem zL (u v:Value) (a b:List Nat) (w:World) (hu:Row .u64 w u a) (hv:Row .u64 w v b) :
  Calls Tryz.prog 24 #[u,v] w fun r w'=>r=.returned (.bool (decide (a=b)))∧∃ n,w'=w.drewN n:=by
 obtain ⟨ao,n,ac,rfl,hN,h1,h2,_,hA⟩:=hu.open;obtain ⟨bo,m,bc,rfl,hM,p,o,_,hB⟩:=hv.open;clear hu hv;by_cases hl:n=m
 ·subst hl;go_enter Tryz.func24,Tryz.ntmps24;go_wp2_with fail;go_loopw [5,13] (fun _ i wr=>∃ k:Nat,k≤n∧i=.int .i64 k∧Hid (a.take k=b.take k)∧∃ m,wr=w.drewN m) (fun _ i _=>n-(intOf i).toNat)
  case atStart=>exact ⟨0,Nat.zero_le _,rfl,rfl,0,rfl⟩
  case round=>
   obtain ⟨k,hk,rfl,ht,m,rfl⟩:=hrel;by_cases hlt:k<n
   ·obtain ⟨ga,oa,rfl,ca⟩:=hA k hlt;obtain ⟨gb,ob,rfl,cb⟩:=hB k hlt;have f:Hid (a.getD k 0=b.getD k 0→a.take (k+1)=b.take (k+1)):=fun h=>iK (by have:=hN.out;omega) (by have:=hM.out;omega) ht.out h
    have d:Hid (a.getD k 0≠b.getD k 0→decide (a=b)=false):=fun h=>by
     simp only [decide_eq_false_iff_not];intro e;subst e;exact h rfl
    clear hA hB ht;generalize a.getD k 0=x at *;generalize b.getD k 0=y at *;have l:(0:Int)≤(k:Int):=Int.natCast_nonneg _;have c:(k:Int)<(n:Int):=by omega
    by_cases he:x=y
    ·subst he;have hq:((x:Int) == (x:Int))=true:=by simp
     go_wp2_with fail;go_quiet (fail);go_wp2;go_roundw
     case rel=>exact ⟨k+1,by omega,by go_num,f.out (by first | rfl | trivial),_,rfl⟩
     case measure=>simp [intOf];omega
    ·have hq:((x:Int) == (y:Int))=false:=by simp;omega
     have j:((x:Int) != (y:Int))=true:=by simp;omega
     have hr:Hid (decide (a=b)=false):=d.out he;go_wp2_with fail;go_quiet (fail);go_wp2;go_ret;rw [hr.out];exact ⟨rfl,_,World.drewN_drewN _ _ _⟩
   ·have hr:Hid (decide (a=b)=true):=by
     have:=ht.out;have e1:=hN.out;have e2:=hM.out;rw [List.take_of_length_le (by omega),List.take_of_length_le (by omega)] at this;unfold Hid;simpa using this
    clear hA hB ht;have c:¬ (k:Int)<(n:Int):=by omega
    go_wp2;go_ret;rw [hr.out];exact ⟨rfl,_,rfl⟩
 ·have hr:decide (a=b)=false:=by
   simp only [decide_eq_false_iff_not];intro e;subst e;exact hl (hN.out.symm.trans hM.out)
  rw [hr];have g:¬ (n:Int)=(m:Int):=by omega
  clear hA hB hr;go_enter Tryz.func24,Tryz.ntmps24;go_wp2;go_ret;exact ⟨rfl,0,rfl⟩

theorem xH (n r:Int) (e:Nat) (h:¬ cV n r e) (w:World) :
  Calls Tryz.prog 21 #[.int .i64 n,.int .u64 (e:Nat),.int .i64 r] w fun q w'=>q=.returned (.bool true)∧w'=w:=by
 unfold cV at h;have g1:n%128=0:=by omega
 have a:n.tmod 128=0:=by rw [Int.tmod_eq_emod_of_nonneg (by omega)];omega
 have g2:n≥32:=by omega
 have f:(32:Int)≤n:=by omega
 have g3:n≤8192:=by omega
 have g4:(e:Int)≥3:=by omega
 have d:(3:Int)≤(e:Int):=by omega
 have g5:(e:Int)<4294967296:=by omega
 have g6:(e:Int)%2=1:=by omega
 have b:(e:Int).tmod 2=1:=by rw [Int.tmod_eq_emod_of_nonneg (by omega)];omega
 have g7:r≥1:=by omega
 have c:(1:Int)≤r:=by omega
 have g8:r≤100:=by omega
 clear h;go_enter Tryz.func21,Tryz.ntmps21;go_wp2_with fail;go_ret;exact ⟨rfl,rfl⟩

theorem AX (n r:Int) (e:Nat) (h:cV n r e) (w:World) :
  Calls Tryz.prog 21 #[.int .i64 n,.int .u64 (e:Nat),.int .i64 r] w fun q w'=>q=.returned (.bool false)∧w'=w:=by
 unfold cV at h;by_cases h1:n.tmod 128=0
 ·have b:n%128=0:=Int.emod_eq_zero_of_dvd (Int.dvd_of_tmod_eq_zero h1);by_cases h2:n≥32
  ·have d:(32:Int)≤n:=by omega
   by_cases h3:n≤8192
   ·by_cases h4:(e:Int)≥3
    ·have a:(3:Int)≤(e:Int):=by omega
     by_cases h5:(e:Int)<4294967296
     ·by_cases h6:(e:Int)%2=1
      ·have c:(e:Int).tmod 2=1:=by rw [Int.tmod_eq_emod_of_nonneg (by omega)];omega
       by_cases h7:r≥1
       ·have f:(1:Int)≤r:=by omega
        have h8:¬ r≤100:=by omega
        clear h;go_enter Tryz.func21,Tryz.ntmps21;go_wp2_with fail;go_ret;exact ⟨rfl,rfl⟩
       ·have f:¬ (1:Int)≤r:=by omega
        clear h;go_enter Tryz.func21,Tryz.ntmps21;go_wp2_with fail;go_ret;exact ⟨rfl,rfl⟩
      ·have c:¬ (e:Int).tmod 2=1:=by rw [Int.tmod_eq_emod_of_nonneg (by omega)];omega
       clear h;go_enter Tryz.func21,Tryz.ntmps21;go_wp2_with fail;go_ret;exact ⟨rfl,rfl⟩
     ·clear h;go_enter Tryz.func21,Tryz.ntmps21;go_wp2_with fail;go_ret;exact ⟨rfl,rfl⟩
    ·have a:¬ (3:Int)≤(e:Int):=by omega
     clear h;go_enter Tryz.func21,Tryz.ntmps21;go_wp2_with fail;go_ret;exact ⟨rfl,rfl⟩
   ·clear h;go_enter Tryz.func21,Tryz.ntmps21;go_wp2_with fail;go_ret;exact ⟨rfl,rfl⟩
  ·have d:¬ (32:Int)≤n:=by omega
   clear h;go_enter Tryz.func21,Tryz.ntmps21;go_wp2_with fail;go_ret;exact ⟨rfl,rfl⟩
 ·have b:¬ n%128=0:=fun h=>h1 (Int.tmod_eq_zero_of_dvd (Int.dvd_of_emod_eq_zero h))
  clear h;go_enter Tryz.func21,Tryz.ntmps21;go_wp2_with fail;go_ret;exact ⟨rfl,rfl⟩

structure PBox (w:World) (b:Nat) (p:Option Addr) (n r e:Nat):Prop where
 s:Box w b (.pointer p) 26
 n:Box w (b+1) (.int .i64 (n:Nat)) 3
 e:Box w (b+1+1) (.int .u64 (e:Nat)) 23
 r:Box w (b+1+1+1) (.int .i64 (r:Nat)) 3

theorem PBox.kept {S:Nat→Prop} {w w':World} {b n r e:Nat} {p:Option Addr} (h:PBox w b p n r e) (k:Kept S w w') (hs:∀ x,S x→x<b):PBox w' b p n r e:=
 ⟨h.s.kept k (fun f=>by have:=hs _ f;omega),h.n.kept k (fun f=>by have:=hs _ f;omega),h.e.kept k (fun f=>by have:=hs _ f;omega),h.r.kept k (fun f=>by have:=hs _ f;omega)⟩

theorem A3 (p:Option Addr) (b B n r e d:Nat) (bs:List Nat) (hd:d=n/2) (hn:32≤n) (t:n≤8192) (z:3≤e) (y:e%2≠0) (he:e<4294967296) (o:1≤r) (A:r≤100) (w:World) (hb:PBox w b p n r e) (hs:Lsc w p B bs) (hB:B≤w.heap.size) (l:Digs bs 256) :
  Calls Tryz.prog 22 #[.pointer (some ⟨b,0,none⟩),.pointer (some ⟨b+1,0,none⟩),.pointer (some ⟨b+1+1,0,none⟩),.pointer (some ⟨b+1+1+1,0,none⟩)] w fun q w'=>∃ v E,q=.returned (.tuple #[v,.int .i64 ((E:Nat):Int)])∧∃ P K R,DrawR d e r 100000 bs 1 (P,K,E,R)∧(Row .u64 w' v P∧∀ x,v.ownBlock=some x→w.heap.size≤x)∧Lsc w' p B R∧Kept (ofP p) w w':=by
 have F:(n:Int).tdiv 2=(d:Int):=by rw [Int.tdiv_eq_ediv_of_nonneg (by omega)];omega
 have C:(n:Int)/2=(d:Int):=by omega
 have D:(d:Int)≤4096:=by omega
 have hw:wrap64 (d:Int)=(d:Int):=by unfold wrap64;omega
 have J:=BX p B (d:Int) (r:Int) e bs (by omega) w hs hB l;have c0:=hb.s.cell;have c1:=hb.n.cell;have c2:=hb.e.cell;have c3:=hb.r.cell;have HB:Hid (¬ jM (d:Int) (r:Int) e):=by unfold Hid jM;omega
 clear hb hs hB l hd hn t z y he o A;go_enter Tryz.func22,Tryz.ntmps22;go_wp2_with fail;refine J.mono ?_;rintro q w' ⟨v,K,E,rfl,P,R,a,⟨c,f⟩,j,k⟩;obtain ⟨vo,vn,vc,rfl,_⟩:=c.open;have hX:DrawR d e r 100000 bs 1 (P,K,E,R):=by
  rcases a with ⟨h,_⟩ | ⟨_,h⟩
  ·exact absurd h HB.out
  ·rw [Int.toNat_natCast,Int.toNat_natCast] at h;exact h
 have HX:=aa hX;have g:=aa c;have i:=aa f;have m:=aa j;have HK:=aa k;clear hX J c f j k a;go_wp2_with fail;exact bodyPost_ret (v:=.tuple #[.slice vo vn vc,.int .i64 (E:Int)]) (by simp [results,Tryz.results22,go_sem]) rfl ⟨_,E,rfl,P,K,R,HX.out,⟨g.out,i.out⟩,m.out,HK.out⟩

theorem DrawR.rest {n e r:Nat}:∀ {f:Nat} {bs:List Nat} {k:Nat} {P:List Nat} {K E:Nat} {R:List Nat},DrawR n e r f bs k (P,K,E,R)→∃ m,R=bs.drop m
 | 0,bs,_,_,_,_,R,h=>by
  have:=congrArg (fun o=>o.2.2.2) h;exact ⟨0,this⟩
 | f+1,bs,k,P,K,E,R,h=>by
  rcases h with ⟨_,h2⟩ | ⟨h1,_,h3⟩ | ⟨h1,_,is,ls,E',rest,h3,h4⟩
  ·have:R=_:=congrArg (fun o=>o.2.2.2) h2;exact ⟨bs.length,by rw [this,List.drop_length]⟩
  ·obtain ⟨m,hm⟩:=DrawR.rest h3;exact ⟨_,by rw [hm,List.drop_drop]⟩
  ·obtain ⟨m,hm⟩:=gH (cC bs n) (r:Int) (bs.drop ((n+7)/8));rw [h3] at hm;have a:rest=(bs.drop ((n+7)/8)).drop m:=hm;rcases h4 with ⟨a1,a2⟩ | ⟨_,_,a3⟩ | ⟨_,_,a3⟩
   ·have e1:R=rest:=congrArg (fun o=>o.2.2.2) a2;exact ⟨_,by rw [e1,a,List.drop_drop]⟩
   ·have e1:R=rest:=congrArg (fun o=>o.2.2.2) a3;exact ⟨_,by rw [e1,a,List.drop_drop]⟩
   ·obtain ⟨j,hj⟩:=DrawR.rest a3;exact ⟨_,by rw [hj,a,List.drop_drop,List.drop_drop]⟩

theorem vh (p:Option Addr) (n r:Int) (e:Nat) (w:World) (a:cV n r e) :
  Calls Tryz.prog 9 #[.pointer p,.int .i64 n,.int .u64 (e:Nat),.int .i64 r] w fun q w'=>q=.returned (.tuple #[.slice none 0 0,.slice none 0 0,.int .i64 1])∧Kept af w w':=by
 obtain ⟨W,hW⟩:∃ W,W=(((w.alloc (.cells #[.pointer p] 26)).alloc (.cells #[.int .i64 n] 3)).alloc (.cells #[.int .u64 (e:Nat)] 23)).alloc (.cells #[.int .i64 r] 3):=⟨_,rfl⟩
 obtain ⟨k0,x0,x1,x2,x3,b⟩:=jI w (.pointer p) (.int .i64 n) (.int .u64 (e:Nat)) (.int .i64 r) 26 3 23 3;rw [← hW] at k0 x0 x1 x2 x3 b;have J:=AX n r e a W;have c1:=x1.cell;have c2:=x2.cell;have c3:=x3.cell;have HW:=aa hW;have HK:=aa k0;clear a k0 x0 x1 x2 x3 b hW;go_enter Tryz.func9,Tryz.ntmps9;go_wp2_with (rw [← HW.out]);refine J.mono ?_;rintro q w1 ⟨rfl,rfl⟩;clear J;go_wp2_with fail;exact bodyPost_ret (v:=.tuple #[.slice none 0 0,.slice none 0 0,.int .i64 1]) (by simp [results,Tryz.results9,go_sem]) rfl ⟨rfl,HK.out⟩

def ka (p:Option Addr) (w wr:World) (b B d n e r:Nat) (u:Value) (P R1:List Nat) (f:Nat) (Q:List Nat) (E:Nat) (R:List Nat) (v:Value):Prop:=
 R.length<f∧(∀ o,((E≠0∧o=([],[],E,R))∨(E=0∧P≠Q∧o=(P,Q,0,R))∨(E=0∧P=Q∧SecR d e r P f R o))→SecR d e r P (R1.length+1) R1 o) ∧
 Digs R 256∧Lsc wr p B R∧Row .u64 wr u P∧Row .u64 wr v Q∧PBox wr b p n r e∧Kept (ofP p) w wr

theorem PairR.last {n e r d:Nat} {bs P R1:List Nat} {K:Nat} (hd:d=n/2) (h:DrawR d e r 100000 bs 1 (P,K,0,R1)) {o:List Nat × List Nat × Nat × List Nat} (h2:SecR d e r P (R1.length+1) R1 o):PairR n e r bs o:=by
 subst hd;exact ⟨P,K,0,R1,h,.inr ⟨rfl,h2⟩⟩

theorem rf (p:Option Addr) (B n e r:Nat) (bs:List Nat) (l:¬ cV (n:Int) (r:Int) e) (w:World) (hs:Lsc w p B bs) (hB:B≤w.heap.size) (I:Digs bs 256) :
  Calls Tryz.prog 9 #[.pointer p,.int .i64 (n:Nat),.int .u64 (e:Nat),.int .i64 (r:Nat)] w fun q w'=>∃ u v P Q E R,q=.returned (.tuple #[u,v,.int .i64 ((E:Nat):Int)])∧PairR n e r bs (P,Q,E,R)∧(Row .u64 w' u P∧Row .u64 w' v Q)∧Lsc w' p B R∧Kept (ofP p) w w':=by
 obtain ⟨W,hW⟩:∃ W,W=(((w.alloc (.cells #[.pointer p] 26)).alloc (.cells #[.int .i64 (n:Nat)] 3)).alloc (.cells #[.int .u64 (e:Nat)] 23)).alloc (.cells #[.int .i64 (r:Nat)] 3):=⟨_,rfl⟩
 obtain ⟨k0,x0,x1,x2,x3,ag⟩:=jI w (.pointer p) (.int .i64 (n:Nat)) (.int .u64 (e:Nat)) (.int .i64 (r:Nat)) 26 3 23 3;rw [← hW] at k0 x0 x1 x2 x3 ag;have aM:=eR;have aN:∀ args w,(callFunc 22 args).run Tryz.prog w=.ok (.enter 22 args) w:=fun _ _=>by simp [go_sem]
 have JM:=xH (n:Int) (r:Int) e l W;obtain ⟨d,hd⟩:∃ d,d=n/2:=⟨_,rfl⟩
 have HD:=aa hd;have aw:∀ x,ofP p x→x<B:=fun x hx=>(hs.inP hx).1
 have am:Hid (∀ x,ofP p x→x<w.heap.size):=fun x hx=>by have:=aw x hx;omega
 unfold cV at l;have JD:=aa fun (cs:List Nat) (W':World) (hb:PBox W' w.heap.size p n r e) (hS:Lsc W' p B cs) (hBW:B≤W'.heap.size) (hdc:Digs cs 256)=>A3 p w.heap.size B n r e d cs hd (by omega) (by omega) (by omega) (by omega) (by omega) (by omega) (by omega) W' hb hS hBW hdc
 have D:Hid (16≤d):=by unfold Hid;omega
 have H:PBox W w.heap.size p n r e:=⟨x0,x1,x2,x3⟩
 have au:=hs.grew k0;have J0:=JD.out bs W H au (by omega) I;have aI:=aa H;have aH:=aa I;have av:=aa hB;have c1:=x1.cell;have c2:=x2.cell;have c3:=x3.cell;have HW:=aa hW;have aG:=aa k0;have ax:=aa ag;clear l k0 x0 x1 x2 x3 ag hW hs au hB I H hd aw;go_enter Tryz.func9,Tryz.ntmps9;go_wp2_with (rw [← HW.out]);refine JM.mono ?_;rintro q w0 ⟨rfl,rfl⟩;clear JM;go_wp2_with fail;refine J0.mono ?_;rintro q w1 ⟨u,E1,rfl,P,K1,R1,N,⟨k,L⟩,Z,k1⟩;obtain ⟨uo,un,uc,rfl,_⟩:=k.open;have ap:=aa (aG.out.any.trans k1);have G:=aa (aI.out.kept k1 (fun x hx=>am.out x hx));have C:=aa N;have j:=aa k;have A:=aa Z
 have aK:=k1.size;clear J0 N k L Z k1 c1 c2 c3;by_cases hE1:E1=0
 ·subst hE1;have X:Hid (Digs R1 256):=by
   obtain ⟨m,hm⟩:=C.out.rest;unfold Hid;rw [hm];exact aH.out.drop _
  have J1:=JD.out R1 w1 G.out A.out (by have:=av.out;have:=ax.out;omega) X.out;go_wp2_with fail;refine J1.mono ?_;rintro q w2 ⟨v,E2,rfl,Q,K2,R2,g,⟨b,T⟩,F,k2⟩;obtain ⟨vo,vn,vc,rfl,_⟩:=b.open;have aO:Hid (w.heap.size+1+1+1+1≤w1.heap.size):=by have:=ax.out;unfold Hid;omega
  have az:Hid (ka p w w2 w.heap.size B d n e r (.slice uo un uc) P R1 R1.length Q E2 R2 (.slice vo vn vc)∨ka p w w2 w.heap.size B d n e r (.slice uo un uc) P R1 (R1.length+1) Q E2 R2 (.slice vo vn vc)):=by
   have i:=j.out.kept' k2 (fun al=>A.out.apart j.out al);have O:=ap.out.trans k2;have V:=G.out.kept k2 (fun x hx=>am.out x hx);obtain ⟨m2,aA⟩:=g.rest;have ab:Digs R2 256:=by rw [aA];exact X.out.drop _
   by_cases hE2:E2=0
   ·subst hE2;exact .inl ⟨g.less D.out,fun o ho=>⟨Q,K2,0,R2,g,ho⟩,ab,F,i,b,V,O⟩
   ·refine .inr ⟨?_,fun o ho=>⟨Q,K2,E2,R2,g,?_⟩,ab,F,i,b,V,O⟩
    ·rw [aA,List.length_drop];omega
    ·rcases ho with ho | ⟨h,_⟩ | ⟨h,_⟩
     ·exact .inl ho
     ·exact absurd h hE2
     ·exact absurd h hE2
  clear J1 g b T F k2;go_wp2_with fail;go_loopw [13,14] (fun ev qv wr=>∃ (f E:Nat) (Q R:List Nat) (qo:Option Addr) (qn qc:Nat),ev=.int .i64 ((E:Nat):Int)∧qv=.slice qo qn qc∧Hid (ka p w wr w.heap.size B d n e r (.slice uo un uc) P R1 f Q E R (.slice qo qn qc))) (fun ev _ wr=>if intOf ev=0 then eJ p wr+1 else 0)
  case atStart=>
   rcases az.out with h | h
   ·exact ⟨_,_,_,_,_,_,_,rfl,rfl,h⟩
   ·exact ⟨_,_,_,_,_,_,_,rfl,rfl,h⟩
  case round=>
   clear az A j ap G aK;obtain ⟨f,E,Q,R,qo,qn,qc,rfl,rfl,aB⟩:=hrel;obtain ⟨hf,hC,I,aD,ay,aF,H,hk⟩:=aB.out;have HF:=aa hf;have HC:=aa hC;have Y:=aa I;have z:=aa aD;have ak:=aa ay;have ar:=aa aF;have aj:=aa H;have ah:=aa hk;clear hf hC I aD ay aF H hk aB;by_cases hE:E=0
   ·subst hE;have J2:=zL _ _ P Q wr ak.out ar.out;by_cases hPQ:P=Q
    ·subst hPQ;rw [aT rfl] at J2;obtain ⟨f,rfl⟩:∃ f',f=f'+1:=⟨f-1,by have:=HF.out;omega⟩
     have aJ:Hid (eJ p wr=R.length):=z.out.left;go_wp2_with fail;refine J2.mono ?_;rintro q w3 ⟨rfl,n3,rfl⟩;have k3:Kept af wr (wr.drewN n3):=(ai _ _).drewN n3;have t:=aa (z.out.grew k3);have s:=aa (ak.out.grew k3);have J:=aa (aj.out.kept k3 (fun _ f=>f.elim));have ad:=aa (ah.out.drewN n3);have J3:=JD.out R (wr.drewN n3) J.out t.out (by have:=av.out;have:=ad.out.size;omega) Y.out;clear J2 k3;go_wp2_with fail;refine J3.mono ?_;rintro q w4 ⟨v4,E4,rfl,Q4,K4,R4,c,⟨a,U⟩,y,k4⟩;obtain ⟨ao,an,ac,rfl,_⟩:=a.open
     have aq:Hid (ka p w w4 w.heap.size B d n e r (.slice uo un uc) P R1 f Q4 E4 R4 (.slice ao an ac)∨(E4≠0∧ka p w w4 w.heap.size B d n e r (.slice uo un uc) P R1 (f+1) Q4 E4 R4 (.slice ao an ac))):=by
      have i:=s.out.kept' k4 (fun al=>t.out.apart s.out al);have O:=ad.out.trans k4;have S:=J.out.kept k4 (fun x hx=>am.out x hx);obtain ⟨m4,aE⟩:=c.rest;have M:Digs R4 256:=by rw [aE];exact Y.out.drop _
      by_cases hE4:E4=0
      ·subst hE4;have:=c.less D.out;exact .inl ⟨by have:=HF.out;omega,fun o ho=>HC.out o (.inr (.inr ⟨by first | rfl | trivial,by first | rfl | trivial,Q4,K4,0,R4,c,ho⟩)),M,y,i,a,S,O⟩
      ·refine .inr ⟨hE4,?_,fun o ho=>HC.out o (.inr (.inr ⟨by first | rfl | trivial,by first | rfl | trivial,Q4,K4,E4,R4,c,?_⟩)),M,y,i,a,S,O⟩
       ·rw [aE,List.length_drop];have:=HF.out;omega
       ·rcases ho with ho | ⟨h,_⟩ | ⟨h,_⟩
        ·exact .inl ho
        ·exact absurd h hE4
        ·exact absurd h hE4
     have aL:Hid ((if intOf (Value.int .i64 ((E4:Nat):Int))=0 then eJ p w4+1 else 0)<(if intOf (Value.int .i64 ((0:Nat):Int))=0 then eJ p wr+1 else 0)):=by
      unfold Hid;simp only [intOf];by_cases hE4:E4=0
      ·subst hE4;have:=c.less D.out;rw [y.left,aJ.out];simp;omega
      ·have h0:¬ ((E4:Nat):Int)=0:=by omega
       simp only [h0,if_false];simp
     clear J3 c a U y k4;go_wp2_with fail;go_roundw
     case rel=>
      rcases aq.out with h | ⟨_,h⟩
      ·exact ⟨_,_,_,_,_,_,_,rfl,rfl,h⟩
      ·exact ⟨_,_,_,_,_,_,_,rfl,rfl,h⟩
     case measure=>exact aL.out
    ·rw [aC hPQ] at J2;have HO:Hid (PairR n e r bs (P,Q,0,R)):=PairR.last HD.out C.out (HC.out _ (.inr (.inl ⟨rfl,hPQ,rfl⟩)));go_wp2_with fail;refine J2.mono ?_;rintro q w3 ⟨rfl,n3,rfl⟩;have k3:Kept af wr (wr.drewN n3):=(ai _ _).drewN n3;have t:=aa (z.out.grew k3);have s:=aa (ak.out.grew k3);have ae:=aa (ar.out.grew k3);have ad:=aa (ah.out.drewN n3);clear J2 k3;go_wp2_with fail;exact bodyPost_ret (v:=.tuple #[.slice uo un uc,.slice qo qn qc,.int .i64 0]) (by simp [results,Tryz.results9,go_sem]) rfl ⟨_,_,P,Q,0,R,rfl,HO.out,⟨s.out,ae.out⟩,t.out,ad.out⟩
   ·have g9:¬ (E:Int)=0:=by omega
    have HO:Hid (PairR n e r bs ([],[],E,R)):=PairR.last HD.out C.out (HC.out _ (.inl ⟨hE,rfl⟩));clear hE;go_wp2_with fail;exact bodyPost_ret (v:=.tuple #[.slice none 0 0,.slice none 0 0,.int .i64 (E:Nat)]) (by simp [results,Tryz.results9,go_sem]) rfl ⟨_,_,[],[],E,R,rfl,HO.out,⟨Row.nil _ _,Row.nil _ _⟩,z.out,ah.out⟩
 ·have g9:¬ (E1:Int)=0:=by omega
  have HO:Hid (PairR n e r bs ([],[],E1,R1)):=⟨P,K1,E1,R1,by rw [← HD.out];exact C.out,.inl ⟨hE1,rfl⟩⟩
  clear hE1;go_wp2_with fail;exact bodyPost_ret (v:=.tuple #[.slice none 0 0,.slice none 0 0,.int .i64 (E1:Nat)]) (by simp [results,Tryz.results9,go_sem]) rfl ⟨_,_,[],[],E1,R1,rfl,HO.out,⟨Row.nil _ _,Row.nil _ _⟩,A.out,ap.out⟩

theorem yd {w:World} {base n:Nat} {v:Value} {zs:List Nat} (h:OwnN .u64 23 w base v n zs) (hl:zs.length=n):Row .u64 w v zs:=
 Row.of_own (base:=base) (e:=23) (by rw [hl];exact h)

theorem uH (ao bo:Option Addr) (L M cap a:Nat) (xs ys:List Nat) (w:World) (hu:Row .u64 w (.slice ao L cap) xs) (hv:Row .u64 w (.slice bo M a) ys) (b:Digs xs) (c:Digs ys) :
  Calls Tryz.prog 50 #[.pointer none,.slice ao L cap,.slice bo M a] w fun e w'=>∃ v',e=.returned v'∧Row .u64 w' v' (fF (val xs) (val ys) L M)∧Kept af w w':=by
 refine (Cy none ao bo L M cap a xs ys w (TrRoom.none w 300 (by omega)) (RowT.none hu) (RowT.none hv) b c).mono ?_;rintro e w' ⟨v',rfl,hr,_,o',hd⟩;exact ⟨v',rfl,hr,hd.none.2⟩

theorem Bf (u v:Value) (xs ys:List Nat) (w:World) (hu:Row .u64 w u xs) (hv:Row .u64 w v ys) (b:Digs xs) (a:Digs ys) (hL:xs.length≤100000000) (hM:ys.length≤100000000) :
  Calls Tryz.prog 78 #[.pointer none,u,v] w fun e w'=>∃ v',e=.returned (.tuple #[v',.int .u64 (bi (decide (val xs<val ys)):Nat)])∧Row .u64 w' v' (digs (cS (val xs) (val ys) (max xs.length ys.length)) (max xs.length ys.length))∧Kept af w w':=by
 refine (pd none u v xs ys w (TrRoom.none w 1 (by omega)) (RowT.none hu) (RowT.none hv) b a hL hM).mono ?_;rintro e w' ⟨v',rfl,ho,o',hd⟩;exact ⟨v',rfl,yd ho (ag _ _ _),hd.none.2⟩

theorem oK (p:Addr) (w:World) :
  CallsD Tryz.prog 90 #[.pointer (some p)] .returning w fun e u' w'=>e=.returned (.tuple #[])∧u'=.returning∧w'=w:=by
 refine callsD_of_wpS Tryz.func90 rfl fun c₀ cs hu=>?_
 apply wpS_seq;apply wpS_region;simp [wpOpsS,go_sem,recoverD,hu,Tryz.ntmps90,Exit.thenS];apply wpS_seq;apply wpS_seq;apply wpS_region;simp [wpOpsS,go_sem,Exit.thenS];refine wpS_cond (t:=true) (by simp [Act.eval,Array.replicate]) ?_;simp only [if_true];refine wpS_of_wp (wp_ret ?_);cases c₀
 simp_all [bodyPostS,results,Tryz.results90,Exit.thenS]

theorem zS (p:Addr) (x n:Int) (a:List PanicEntry) (w:World) (hc:w.cell? p=some (.int .i64 x)) (hz:w.frozen? p=false) :
  CallsD Tryz.prog 90 #[.pointer (some p)] (.panicking (refusal n :: a)) w fun e u' w'=>
   e=.returned (.tuple #[])∧u'=.panicking ({ refusal n with recovered:=true } :: a)∧w'=w.setCell p (.int .i64 n):=by
 refine callsD_of_wpS Tryz.func90 rfl fun c₀ cs hu=>?_
 apply wpS_seq;apply wpS_region;simp [wpOpsS,go_sem,recoverD,hu,Tryz.ntmps90,Exit.thenS];apply wpS_seq;apply wpS_seq;apply wpS_region;simp [wpOpsS,go_sem,Exit.thenS];refine wpS_cond (t:=false) (by simp [Act.eval,Array.replicate]) ?_;simp only [Bool.false_eq_true,if_false];refine wpS_of_wp (wp_skip ?_);simp only [Exit.thenS];refine wpS_of_wp ?_;have c:∀ w:World,(Instr.typeAssert (.iface 33 (.int .i64 n)) 20 33 true).run Tryz.prog w=.ok (.tuple #[.int .i64 n,.bool true]) w:=fun w=>by kernel_rfl
 have b:∀ (x:Bool) (w:World),(Op.unary .not (.bool x)).run Tryz.prog w=.ok (.bool (!x)) w:=fun _ _=>rfl
 have e:(#[Value.pointer (some p)] ++ ((((Array.replicate 15 undef).setIfInBounds 3 (Value.iface 33 (Value.int IntKind.i64 n))).setIfInBounds 0 (Value.iface 33 (Value.int IntKind.i64 n))).setIfInBounds 4 (Value.iface 33 (Value.int IntKind.i64 n))).setIfInBounds 5 (Value.bool false):Array Value)=#[.pointer (some p),.iface 33 (.int .i64 n),undef,undef,.iface 33 (.int .i64 n),.iface 33 (.int .i64 n),.bool false,undef,undef,undef,undef,undef,undef,undef,undef,undef]:=rfl;rw [e];clear e;go_wp2;simp [bodyPostS,results,Tryz.results90]

theorem iF (f:Nat) (cap:Array Value) (w:World) (Q:Int→World→Prop) (he:∀ args w,(callFunc f args).run Tryz.prog w=.ok (.enter f args) w)
  (h:Calls Tryz.prog f cap (w.alloc (.cells #[.int .i64 0] 33)) fun e w'=>w'.heap[w.heap.size]? = some (.cells #[.int .i64 0] 33 (0,0)) ∧
   ((e=.returned (.tuple #[])∧Q 0 w')∨∃ n,e=.panicked [refusal n]∧Q n w')) :
  Calls Tryz.prog 46 #[.func (.func f) #[] cap] w fun e w'=>∃ n w1,e=.returned (.int .i64 n)∧(Q n w1∧w1.heap[w.heap.size]? = some (.cells #[.int .i64 0] 33 (0,0)))∧w'=w1.setCell ⟨w.heap.size,0,none⟩ (.int .i64 n):=by
 have c:=eR;go_enter_defers Tryz.func46,Tryz.ntmps46
 go_wp2_with fail;refine h.mono ?_;rintro e w1 ⟨hb,(⟨rfl,hq⟩ | ⟨n,rfl,hq⟩)⟩
 ·have hc:w1.cell? ⟨w.heap.size,0,none⟩=some (.int .i64 0):=by simp [World.cell?,hb]
  have hz:w1.frozen? ⟨w.heap.size,0,none⟩=false:=by simp [World.frozen?,hb]
  clear h;go_wp2_with fail;refine leaves_cons (f:=90) (args:=#[.pointer (some ⟨w.heap.size,0,none⟩)]) (by simp) (by simp [go_sem]) ?_;refine (oK ⟨w.heap.size,0,none⟩ _).mono ?_;rintro e u' b ⟨rfl,rfl,rfl⟩;have a:(w1.setCell ⟨w.heap.size,0,none⟩ (.int .i64 0)).cell? ⟨w.heap.size,0,none⟩=some (.int .i64 0):=World.cell?_setCell_same' _ _ _ (by rw [hc];rfl);simp [Leaves,settle,results,Tryz.results46,go_sem,a];exact ⟨_,⟨hq,hb⟩,rfl⟩
 ·have hc:w1.cell? ⟨w.heap.size,0,none⟩=some (.int .i64 0):=by simp [World.cell?,hb]
  have hz:w1.frozen? ⟨w.heap.size,0,none⟩=false:=by simp [World.frozen?,hb]
  clear h;refine leaves_cons (f:=90) (args:=#[.pointer (some ⟨w.heap.size,0,none⟩)]) (by simp) (by simp [go_sem]) ?_;refine (zS ⟨w.heap.size,0,none⟩ 0 n [] _ hc hz).mono ?_;rintro e u' b ⟨rfl,rfl,rfl⟩;have a:(w1.setCell ⟨w.heap.size,0,none⟩ (.int .i64 n)).cell? ⟨w.heap.size,0,none⟩=some (.int .i64 n):=World.cell?_setCell_same' _ _ _ (by rw [hc];rfl);simp [Leaves,settle,results,Tryz.results46,go_sem,a];exact ⟨_,⟨hq,hb⟩,rfl⟩

theorem bd (n:Int) (w:World):Calls Tryz.prog 51 #[.bool false,.int .i64 n] w fun e w'=>e=.returned (.tuple #[])∧w'=w:=by
 go_enter Tryz.func51,Tryz.ntmps51;go_wp2;go_end0
 exact ⟨rfl,rfl⟩

theorem cf (n:Int) (w:World):Calls Tryz.prog 51 #[.bool true,.int .i64 n] w fun e w'=>e=.panicked [refusal n]∧w'=w:=by
 go_enter Tryz.func51,Tryz.ntmps51;go_wp2;exact ⟨rfl,rfl,rfl⟩

theorem ix (ao:Option Addr) (n cap:Nat) (w:World):Calls Tryz.prog 55 #[.slice ao n cap,.int .i64 0] w fun e w'=>e=.returned (.slice ao n cap)∧w'=w:=by
 have hR:=bd 0 w;go_enter Tryz.func55,Tryz.ntmps55;go_wp2_with fail;refine hR.mono ?_;rintro e w' ⟨rfl,rfl⟩;go_wp2;go_ret;exact ⟨rfl,rfl⟩

theorem dL (x:Nat):val [x]=x:=by simp [val]

theorem jn {x:Nat} (hx:x<18446744073709551616):digs x 1=[x]:=fL x 0 hx

theorem sx {V n:Nat} (h:V<18446744073709551616^n) (hn:n≤300):aU V (n:Int)=0∧bj V (n:Int)=digs V n:=by
 have hw:=(am V n).2 h;have e:aU V (n:Int)=0:=by
  unfold aU;rw [if_neg (by omega),if_neg (by omega)]
 exact ⟨e,by unfold bj;rw [if_pos e];rfl⟩

theorem dJ (V:Nat):aj V=(au V+63)/64:=by
 unfold aj au;by_cases h:V=0
 ·rw [if_pos h,if_pos h]
 ·rw [if_neg h,if_neg h];omega

theorem iw (n s q:Nat) (hq:q=(n+s-1)/s) (hn:n≤1000000000000) (a:0<s) (hs:s≤64) (w:World) :
  Calls Tryz.prog 94 #[.int .i64 (n:Int),.int .i64 (s:Int)] w fun e w'=>e=.returned (.int .i64 (q:Int))∧w'=w:=by
 have g1:((n:Int)+(s:Int)-1)/(s:Int)=(q:Int):=by
  rw [hq];have e:(n:Int)+(s:Int)-1=((n+s-1:Nat):Int):=by omega
  rw [e];rfl
 have g2:((n:Int)+(s:Int)-1).tdiv (s:Int)=(q:Int):=by rw [Int.tdiv_eq_ediv_of_nonneg (by omega)];exact g1
 have g3:¬ (s:Int)=0:=by omega
 have g4:((s:Int) == 0)=false:=by simpa using g3
 have b:q≤1000000000100:=by rw [hq];exact Nat.le_trans (Nat.div_le_self _ _) (by omega)
 clear hq;go_enter Tryz.func94,Tryz.ntmps94;go_wp2_with fail;go_ret;first | exact ⟨rfl,rfl⟩ | exact ⟨by simp_all,rfl⟩

theorem ol (ao:Option Addr) (L cap:Nat) (xs:List Nat) (w:World) (hu:Row .u64 w (.slice ao L cap) xs) (hd:Digs xs) :
  Calls Tryz.prog 93 #[.slice ao L cap] w fun e w'=>e=.returned (.bool (decide (val xs%2=1)))∧w'=w:=by
 have J:=Ah _ xs 0 w hu hd (by omega);have hb:nj (val xs) 0=val xs%2:=by
  have:=fg (val xs) 0;rw [Nat.pow_zero,Nat.div_one] at this;exact this
 rw [hb] at J;obtain ⟨V,hV⟩:∃ V,V=val xs:=⟨_,rfl⟩
 rw [← hV] at J ⊢;clear hu hd hb hV;have h2:V%2=0∨V%2=1:=by omega
 rcases h2 with h2 | h2
 ·rw [h2] at J ⊢;go_enter Tryz.func93,Tryz.ntmps93;go_wp2_with fail;refine J.mono ?_;rintro e w' ⟨rfl,rfl⟩;go_wp2;go_ret;exact ⟨rfl,rfl⟩
 ·rw [h2] at J ⊢;go_enter Tryz.func93,Tryz.ntmps93;go_wp2_with fail;refine J.mono ?_;rintro e w' ⟨rfl,rfl⟩;go_wp2;go_ret;exact ⟨rfl,rfl⟩

theorem kQ (x:Nat) (hx:x<18446744073709551616) (w:World) :
  Calls Tryz.prog 79 #[.int .u64 (x:Nat),.int .i64 1] w fun r w'=>∃ zo zc,r=.returned (.slice zo 1 zc)∧Row .u64 w' (.slice zo 1 zc) [x]∧Kept af w w':=by
 refine (ll x hx 1 w).mono ?_;rintro e w' ⟨v',rfl,hr,k⟩;rw [show dg 1=1 from rfl,jn hx] at hr;obtain ⟨zo,zn,zc,rfl,hl,_,_,_,_⟩:=hr.open;obtain rfl:1=zn:=hl.out;exact ⟨_,_,rfl,hr,k⟩

theorem jg (ao:Option Addr) (L cap:Nat) (xs:List Nat) (y:Nat) (hy:y<18446744073709551616) (R:Bool) (hR:R=decide (val xs<y)) (w:World) (hu:Row .u64 w (.slice ao L cap) xs) (hd:Digs xs) :
  Calls Tryz.prog 92 #[.slice ao L cap,.int .u64 (y:Nat)] w fun e w'=>e=.returned (.bool R)∧Kept af w w':=by
 have JW:=kQ y hy w;have JC:Hid (∀ W u,Kept af w W→Row .u64 W u [y]→Calls Tryz.prog 116 #[.slice ao L cap,u] W fun e w'=>e=.returned (.int .i64 (aK (val xs) y))∧Kept af w w'):=fun W u k hr=>by
  have h:=gJ _ _ xs [y] W (hu.grew k) hr hd (Digs.one hy);rw [dL] at h;refine h.mono ?_;rintro e w' ⟨rfl,k'⟩;exact ⟨rfl,k.trans k'⟩
 obtain ⟨V,hV⟩:∃ V,V=val xs:=⟨_,rfl⟩
 rw [← hV] at JC hR;clear hu hd hV;have h3:V<y∨V=y∨y<V:=by omega
 rcases h3 with h3 | h3 | h3
 ·rw [cj h3] at JC;obtain rfl:R=true:=by rw [hR];exact aT h3
  clear hR h3;go_enter Tryz.func92,Tryz.ntmps92;go_wp2_with fail;refine JW.mono ?_;rintro e w1 ⟨zo,zc,rfl,hr,k⟩;have J:=JC.out _ _ k hr;clear JW;go_wp2_with fail;refine J.mono ?_;rintro e w2 ⟨rfl,k2⟩;have HK:=aa k2;clear J k2 k;go_wp2;go_ret;exact ⟨rfl,HK.out⟩
 ·rw [eC h3] at JC;obtain rfl:R=false:=by rw [hR];exact aC (by omega)
  clear hR h3;go_enter Tryz.func92,Tryz.ntmps92;go_wp2_with fail;refine JW.mono ?_;rintro e w1 ⟨zo,zc,rfl,hr,k⟩;have J:=JC.out _ _ k hr;clear JW;go_wp2_with fail;refine J.mono ?_;rintro e w2 ⟨rfl,k2⟩;have HK:=aa k2;clear J k2 k;go_wp2;go_ret;exact ⟨rfl,HK.out⟩
 ·rw [eu h3] at JC;obtain rfl:R=false:=by rw [hR];exact aC (by omega)
  clear hR h3;go_enter Tryz.func92,Tryz.ntmps92;go_wp2_with fail;refine JW.mono ?_;rintro e w1 ⟨zo,zc,rfl,hr,k⟩;have J:=JC.out _ _ k hr;clear JW;go_wp2_with fail;refine J.mono ?_;rintro e w2 ⟨rfl,k2⟩;have HK:=aa k2;clear J k2 k;go_wp2;go_ret;exact ⟨rfl,HK.out⟩

theorem xw (ao:Option Addr) (L cap:Nat) (xs:List Nat) (X n:Nat) (hX:X=val xs) (hn:n≤300) (hf:X<18446744073709551616^n) (w:World) (hu:Row .u64 w (.slice ao L cap) xs) (hd:Digs xs) :
  Calls Tryz.prog 57 #[.slice ao L cap,.int .i64 (n:Nat)] w fun e w'=>∃ vo vc,e=.returned (.slice vo n vc)∧Row .u64 w' (.slice vo n vc) (digs X n)∧Fresh w (.slice vo n vc)∧Kept af w w':=by
 have J:=nF _ xs (n:Nat) w hu hd;rw [← hX] at J;obtain ⟨e1,e2⟩:=sx hf hn;rw [e1,e2] at J;clear hu hd e1 e2 hX hf;go_enter Tryz.func57,Tryz.ntmps57;go_wp2_with fail;refine J.mono ?_;rintro e w1 ⟨v,rfl,hr,a,k1⟩;obtain ⟨vo,vn,vc,rfl,hl,_,_,_,_⟩:=hr.open;obtain rfl:n=vn:=by rw [← hl.out,ag]
 have HR:=aa hr;have HN:=aa a;have HK:=aa k1;have JS:=ix vo n vc w1;clear J hr a k1 hl;go_wp2_with fail;refine JS.mono ?_;rintro e w2 ⟨rfl,rfl⟩;clear JS;go_wp2;go_ret;exact ⟨_,_,rfl,HR.out,HN.out,HK.out⟩

theorem li (ao:Option Addr) (L cap:Nat) (xs:List Nat) (X n:Nat) (hX:X=val xs) (hn:n=aj X) (c:n≤300) (w:World) (hu:Row .u64 w (.slice ao L cap) xs) (hd:Digs xs) (hL:xs.length≤1000) :
  Calls Tryz.prog 49 #[.slice ao L cap] w fun e w'=>∃ vo vc,e=.returned (.slice vo n vc)∧Row .u64 w' (.slice vo n vc) (digs X n)∧Fresh w (.slice vo n vc)∧Kept af w w':=by
 have JB:=dG _ xs w hu hd (by omega);rw [← hX] at JB;have d:au X≤64*xs.length:=(aA _ _).2 (by rw [Nat.pow_mul,hX];exact aq (by omega) hd);have JP:=iw (au X) 64 n (by rw [hn,dJ];rfl) (by omega) (by omega) (by omega) w;have JF:=xw ao L cap xs X n hX c ((am X n).1 (by omega)) w hu hd;obtain ⟨b,hb⟩:∃ b,b=au X:=⟨_,rfl⟩
 rw [← hb] at JB JP;clear hu hd d hb hX hn hL c;go_enter Tryz.func49,Tryz.ntmps49;go_wp2_with fail;refine JB.mono ?_;rintro e w1 ⟨rfl,rfl⟩;clear JB;go_wp2_with fail;refine JP.mono ?_;rintro e w1 ⟨rfl,rfl⟩;clear JP;go_wp2_with fail;refine JF.mono ?_;rintro e w1 ⟨vo,vc,rfl,hr,a,k1⟩;have HR:=aa hr;have HN:=aa a;have HK:=aa k1;clear JF hr a k1;go_wp2;go_ret;exact ⟨_,_,rfl,HR.out,HN.out,HK.out⟩

theorem qj (ao:Option Addr) (L cap:Nat) (xs:List Nat) (X:Nat) (hX:X=val xs) (h1:1≤X) (a:xs.length=L) (g:L≤300) (w:World) (hu:Row .u64 w (.slice ao L cap) xs) (hd:Digs xs) :
  Calls Tryz.prog 59 #[.slice ao L cap] w fun e w'=>∃ vo vc,e=.returned (.slice vo L vc)∧Row .u64 w' (.slice vo L vc) (digs (X-1) L)∧Kept af w w':=by
 have i:1≤L:=by
  rcases Nat.eq_zero_or_pos L with h | h
  ·rw [h] at a;rw [List.length_eq_zero_iff.1 a] at hX;have:val []=0:=rfl;omega
  ·exact h
 have JW:=kQ 1 (by omega) w;have JS:Hid (∀ W u,Kept af w W→Row .u64 W u [1]→Calls Tryz.prog 78 #[.pointer none,.slice ao L cap,u] W fun e w'=>∃ vo vc c,e=.returned (.tuple #[.slice vo L vc,.int .u64 (c:Nat)])∧Row .u64 w' (.slice vo L vc) (digs (X-1) L)∧Kept af w w'):=fun W u k hr=>by
  have f:X<18446744073709551616^L:=by rw [hX,← a];exact aq (by omega) hd
  have h:=Bf _ _ xs [1] W (hu.grew k) hr hd (Digs.one (by omega)) (by omega) (by show 1≤_;omega);rw [dL,← hX,a,show max L [1].length=L by show max L 1=L;omega] at h;have es:cS X 1 L=X-1:=by
   unfold cS;rw [if_neg (by omega)]
  rw [es] at h;refine h.mono ?_;rintro e w' ⟨v',rfl,b,k'⟩;obtain ⟨vo,vn,vc,rfl,hl,_,_,_,_⟩:=b.open;obtain rfl:L=vn:=by rw [← hl.out,ag]
  exact ⟨_,_,_,rfl,b,k.trans k'⟩
 clear hu hd hX h1 a;go_enter Tryz.func59,Tryz.ntmps59;go_wp2_with fail;refine JW.mono ?_;rintro e w1 ⟨zo,zc,rfl,hr,k⟩;have J:=JS.out _ _ k hr;clear JW;go_wp2_with fail;refine J.mono ?_;rintro e w2 ⟨vo,vc,c,rfl,d,k2⟩;have HR:=aa d;have HK:=aa k2;clear J d k2 k hr;go_wp2;go_ret;exact ⟨_,_,rfl,HR.out,HK.out⟩

theorem BT (ao bo:Option Addr) (L M cap b:Nat) (xs ys:List Nat) (X Y:Nat) (hX:X=val xs) (hY:Y=val ys) (k:0<Y) (hL:L≤300) (hM:M≤300) (w:World) (hu:Row .u64 w (.slice ao L cap) xs) (hv:Row .u64 w (.slice bo M b) ys) (g:Digs xs) (f:Digs ys) :
  Calls Tryz.prog 104 #[.slice ao L cap,.slice bo M b] w fun e w'=>∃ vo vc,e=.returned (.slice vo L vc)∧Row .u64 w' (.slice vo L vc) (digs (X/Y) L)∧Kept af w w':=by
 have hE:iz (val ys) L M=0:=(eE (X:=X) ⟨hL,hM⟩ (by rw [← hY];omega)).1;have hQ:kF X (val ys) L M=digs (X/val ys) L:=(eE (X:=X) ⟨hL,hM⟩ (by rw [← hY];omega)).2.1;have hR:kD X (val ys) L M=digs (X%val ys) M:=(eE (X:=X) ⟨hL,hM⟩ (by rw [← hY];omega)).2.2;have J:=ph ao bo L M cap b xs ys 0 hE.symm w hu hv g f;rw [← hX,hQ,hR,← hY] at J;clear hu hv g f hE hQ hR hX hY;go_enter Tryz.func104,Tryz.ntmps104;go_wp2_with fail;refine J.mono ?_;rintro e w1 ⟨v1,v2,rfl,h1,h2,k1⟩;obtain ⟨qo,qn,qc,rfl,h,_,_,_,_⟩:=h1.open;obtain rfl:L=qn:=by rw [← h.out,ag]
 obtain ⟨so,sn,sc,rfl,d,_,_,_,_⟩:=h2.open;obtain rfl:M=sn:=by rw [← d.out,ag]
 have i:=aa h1;have j:=aa h2;have HK:=aa k1;have JS:=fun a n c=>ix a n c w1
 clear J h1 h2 k1 h d;go_wp2_with fail;refine (JS _ _ _).mono ?_;rintro e w2 ⟨rfl,rfl⟩;clear JS;go_wp2;go_ret;exact ⟨_,_,rfl,i.out,HK.out⟩

theorem qq (ao bo:Option Addr) (L M cap b:Nat) (xs ys:List Nat) (X Y:Nat) (hX:X=val xs) (hY:Y=val ys) (k:0<Y) (hL:L≤300) (hM:M≤300) (w:World) (hu:Row .u64 w (.slice ao L cap) xs) (hv:Row .u64 w (.slice bo M b) ys) (g:Digs xs) (f:Digs ys) :
  Calls Tryz.prog 58 #[.slice ao L cap,.slice bo M b] w fun e w'=>∃ vo vc,e=.returned (.slice vo M vc)∧Row .u64 w' (.slice vo M vc) (digs (X%Y) M)∧Kept af w w':=by
 have hE:iz (val ys) L M=0:=(eE (X:=X) ⟨hL,hM⟩ (by rw [← hY];omega)).1;have hQ:kF X (val ys) L M=digs (X/val ys) L:=(eE (X:=X) ⟨hL,hM⟩ (by rw [← hY];omega)).2.1;have hR:kD X (val ys) L M=digs (X%val ys) M:=(eE (X:=X) ⟨hL,hM⟩ (by rw [← hY];omega)).2.2;have J:=ph ao bo L M cap b xs ys 0 hE.symm w hu hv g f;rw [← hX,hQ,hR,← hY] at J;clear hu hv g f hE hQ hR hX hY;go_enter Tryz.func58,Tryz.ntmps58;go_wp2_with fail;refine J.mono ?_;rintro e w1 ⟨v1,v2,rfl,h1,h2,k1⟩;obtain ⟨qo,qn,qc,rfl,h,_,_,_,_⟩:=h1.open;obtain rfl:L=qn:=by rw [← h.out,ag]
 obtain ⟨so,sn,sc,rfl,d,_,_,_,_⟩:=h2.open;obtain rfl:M=sn:=by rw [← d.out,ag]
 have j:=aa h1;have i:=aa h2;have HK:=aa k1;have JS:=fun a n c=>ix a n c w1
 clear J h1 h2 k1 h d;go_wp2_with fail;refine (JS _ _ _).mono ?_;rintro e w2 ⟨rfl,rfl⟩;clear JS;go_wp2;go_ret;exact ⟨_,_,rfl,i.out,HK.out⟩

end Go.Proofs.YtcemlfokmjjiaaaGreatDoor
