/- Put together of: Pow3 LimP Pow2 Pow4. -/
import Derived.Test.YtpkmoamgpjcdeaaGreatDoorBY10

namespace Go.Proofs.YtpkmoamgpjcdeaaGreatDoor
open _root_.Go.Proofs.Tryz
set_option maxRecDepth 100000
set_option maxHeartbeats 4000000
open Go.RowKit
variable {M N P V bP k n:Nat} {W W0 w w':World} {m:List Ev} {o1 oc:Tr} {qv:Value}

theorem IT (n:Nat) (hn:n<18446744073709551616) (w:World) :
  ClZ 264 #[.int .u64 1,.int .u64 (n:Nat)] w fun e w'=>e=.returned (.tuple #[.int .u64 0,.int .u64 (n:Nat)])/\w'=w:=by
 have h:=sy 1 (n:Int) (by omega) (by omega) (by omega) (by omega) w;rw [show (1:Int)*(n:Int)/18446744073709551616=0 by omega,show (1:Int)*(n:Int)%18446744073709551616=(n:Int) by omega] at h;delta ClZ;go_in;go_wp2_with fail;refine h.mono ?_;rintro e w' ⟨rfl,rfl⟩;go_wp2;go_ret2;exact ⟨rfl,rfl⟩

def lW (M k n:Nat):LN:=List.replicate k M ++ List.replicate (n-k) 0

theorem AR (h:k<=n):(lW M k n).length=n:=by
 unfold lW;rw [bk,bw,bw];omega

theorem sj {c:Nat} (h:k+c<=n) (f:Nat->Value):splice ((lW M k n).map f) k ((List.replicate c M).map f)=(lW M (k+c) n).map f:=by
 unfold lW splice;simp only [dR,List.map_replicate];rw [List.take_left' (by simp),List.drop_append];simp only [bw,List.drop_replicate];rw [show k-(k+c)=0 by omega,show n-k-(k+c-k)=n-(k+c) by omega,fg,bZ,<- dX,nD]

theorem yh {w2:World} {g n M:Nat} {t:TypeId} (hn:0<n) (h:w2.heap[g]? = some (.cells (splice ((List.replicate n 0).map fun z:Nat=>Value.int .u64 (z:Int)) 0 ([M].map fun z:Nat=>Value.int .u64 (z:Int))).toArray t (0,0))) :
  w2.heap[g]? = some (.cells ((lW M 1 n).map fun z:Nat=>Value.int .u64 (z:Int)).toArray t (0,0)):=by
 have:=sj (M:=M) (k:=0) (c:=1) (n:=n) (by omega) (fun z:Nat=>Value.int .u64 (z:Int));rw [dU] at this;rw [<- this];exact h

theorem EN {j:Nat} (hj:j<k) (f:Nat->Value):((lW M k n).map f)[j]? = some (f M):=by
 unfold lW;rw [dR,im (by simpa using hj),bV,eF,ai hj];rfl

theorem FF (b M n:Nat) (w:World) (hx:w.cell? ⟨b,0,none⟩=some (.int .u64 (M:Nat))) (x:0<n) (hn:n<=1000) :
  ClZ 256 #[.slice (some ⟨b,0,none⟩) 1 1,.int .i64 (n:Nat)] w fun e w'=>e=.returned (.slice (some ⟨w.heap.size,0,none⟩) n n)/\OwnN .u64 24 w' w.heap.size (.slice (some ⟨w.heap.size,0,none⟩) n n) n (List.replicate n M)/\Kept af w w':=by
 obtain ⟨i0,g,y,i,A⟩:=info_parts Tryz.info24;have hB:=IT n (by omega) w;have g0:¬ (n:Int)<0:=by omega
 have g3:decide ((9223372036854775807:Int)<(n:Int))=false:=cI (by omega);have g1:IntKind.u64.wrap (n:Int)=(n:Int):=eC
 have g2:IntKind.i64.wrap (n:Int)=(n:Int):=jN
 have HX:HzD (∀ W,Kept af w W->∀ j u,([M].map fun z:Nat=>Value.int .u64 (z:Int))[j]? = some u->W.cell? ((⟨b,0,none⟩:Addr).add j)=some u):=fun W k j u hj=>by
  cases j with
  | zero=>
   rw [jP,List.getElem?_cons_zero] at hj;cases hj
   exact k.cellN hx
  | succ j=>simp at hj
 clear hx;delta ClZ;go_in;go_wp2_with fail;refine hB.mono ?_;rintro e w' ⟨rfl,rfl⟩;clear hB;have HO:HzD (∀ c:Nat,∀ u ∈ (List.replicate c M).map (fun z:Nat=>Value.int .u64 (z:Int)),u.oneCell'=true):=fun c=>jE .u64 _
 go_wp2_with (at_make;refine wpList_make_full _ rfl _ _ 23 rfl w'.heap.size 24 i0 _ 1 underlying23 g y i _ _ _ _ n rfl rfl rfl rfl (by rw [A];omega) (by unfold maxLen;omega) (leR _) ?_;intro w1 h q;rw [bD] at h;have k1:=bf q;obtain ⟨w2,d,o,k2⟩:=ew (P:=prog) 23 23 3 24 w'.heap.size 0 n n (some ⟨w'.heap.size,0,none⟩) (some ⟨b,0,none⟩) 1 1 _ 24 ([M].map fun z:Nat=>Value.int .u64 (z:Int)) underlying23 (by rw [g];simp [i]) (iy h) (by show 1=min 1 n;omega) (fun _=>⟨rfl,_,rfl,HX.o _ k1⟩) (by simp;omega) (jE .u64 [M]);have l:=aa (yh x o);have m:=aa (fH k1 k2 (leR _));clear o h q k1 k2)
 go_loopw [8] (fun kv wr=>∃ k:Nat,0<k/\k<=n/\kv=.int .i64 (k:Int)/\HzD (wr.heap[w'.heap.size]? = some (.cells ((lW M k n).map fun z:Nat=>Value.int .u64 (z:Int)).toArray 24 (0,0)))/\HzD (Kept af w' wr)) (fun kv _=>n-(intOf kv).toNat)
 case atStart=>exact ⟨1,by omega,by omega,rfl,l.o,m.o⟩
 case round=>
  obtain ⟨k,B,v,rfl,HB,HK⟩:=hrel;clear l m;by_cases hk:k<n
  ·have e1:(k:Int)<(n:Int):=by omega
   have e2:(0:Int)<=(k:Int):=by omega
   have e3:(k:Int)<=(n:Int):=by omega
   obtain ⟨c,hc⟩:=aj (min k (n-k))
   have a:((List.replicate c M).map fun z:Nat=>Value.int .u64 (z:Int)).length=c:=by rw [cJ,bw]
   obtain ⟨w3,d,f,k3⟩:=ew (P:=prog) (w:=wr.drew) 23 23 3 24 w'.heap.size k (n-k) (n-k) (some ⟨w'.heap.size,k,none⟩) (some ⟨w'.heap.size,0,none⟩) k n ((lW M k n).map fun z:Nat=>Value.int .u64 (z:Int)) 24 ((List.replicate c M).map fun z:Nat=>Value.int .u64 (z:Int)) underlying23 (by rw [g];simp [i]) HB.o (by rw [a,hc]) (fun _=>⟨rfl,_,rfl,fun j u hj=>by
    have t:j<c:=by
     have:=(nB.1 hj).1
     rwa [a] at this
    rw [bV,eF,ai t] at hj;rw [show (⟨w'.heap.size,0,none⟩:Addr).add j=⟨w'.heap.size,j,none⟩ by unfold Addr.add;split <;> simp_all,cell_of_row wr.drew w'.heap.size j _ _ _ HB.o,List.getElem?_toArray,EN (by omega)];exact hj⟩) (by rw [a,cJ,AR v];omega) (HO.o c)
   rw [a] at d;rw [sj (by omega)] at f;have r:=aa f;have s:HzD (Kept af w' w3):=fH HK.o.drew k3 (leR _);have p:HzD (0<c/\k+c<=n):=⟨by omega,by omega⟩
   have e4:IntKind.i64.wrap ((k:Int)+(c:Int))=(k:Int)+(c:Int):=jN
   clear a f k3 hc HB HK;go_wp2_with fail;go_region
   go_wp2_with fail;go_roundw
   case rel=>exact ⟨k+c,by omega,p.o.2,by simp,r.o,s.o⟩
   case measure=>have:=p.o;simp [intOf];omega
  ·have e1:¬ (k:Int)<(n:Int):=by omega
   obtain rfl:k=n:=by omega
   go_wp2_with fail;go_ret;refine ⟨rfl,dZ ?_ (by simp) (by unfold maxLen;omega) (leR _),HK.o⟩;have:=HB.o;unfold lW at this
   rwa [cj,fg,dY] at this

theorem ji {o:Tr} {v:Value} {zs:LN} (hF:Fresh W v) (ht:TrIn W o) (hr:Row .u64 w' v zs):RowT w' o v zs:=
 ⟨hr,fun _ b hb f=>by have h1:=hF b hb;have h2:=ht.foot b f;omega⟩

theorem FW (n:Nat):val (List.replicate n 18446744073709551615)+1=18446744073709551616^n:=by
 induction n with
 | zero=>rfl
 | succ n ih=>
  rw [j9,val,aG];omega

theorem DR (a:0<n) (hn:n<=130) (hV:V+1=18446744073709551616^n):eS V=0/\am V=n:=by
 have h1:am V<=n:=(aC V n).2 (by omega);have h2:¬ am V<=n-1:=fun h=>by
  have h3:=(aC V (n-1)).1 h;have h4:18446744073709551616^(n-1)*18446744073709551616=18446744073709551616^n:=by rw [<- aG,show (n-1).succ=n by omega]
  omega
 have hw:am V=n:=by omega
 have h5:18446744073709551616^n=2*(9223372036854775808*18446744073709551616^(n-1)):=by
  have h4:18446744073709551616^(n-1)*18446744073709551616=18446744073709551616^n:=by rw [<- aG,show (n-1).succ=n by omega]
  omega
 refine ⟨?_,hw⟩;unfold eS;rw [aK,aK,aK]

theorem GD (ao bo eo:OA) (n l a b L c:Nat) (K:Int) (R:Bool) (hR:R=decide ((0<n/\n<=130)/\L<=300)) (w:World) :
  ClZ 240 #[.agg #[.slice ao n a,.int .u64 K,.slice bo l b],.slice eo L c] w fun e w'=>e=.returned (.bool R)/\Kept af w w':=by
 have k0:Kept af w (w.alloc (.cells #[.slice ao n a,.int .u64 K,.slice bo l b] 71)):=(ah af w).alloc _;by_cases h1:0<n
 ·by_cases h2:n<=130
  ·by_cases h3:L<=300
   ·obtain rfl:R=true:=by rw [hR];exact dV ⟨⟨h1,h2⟩,h3⟩
    have d:(0:Int)<(n:Int):=by omega
    have f:(n:Int)<=130:=by omega
    have g:(L:Int)<=300:=by omega
    clear hR;delta ClZ;go_in;go_wp2;go_ret;exact ⟨by simp,k0⟩
   ·obtain rfl:R=false:=by rw [hR];exact cI (fun h=>h3 h.2)
    have d:(0:Int)<(n:Int):=by omega
    have f:(n:Int)<=130:=by omega
    have g:¬ (L:Int)<=300:=by omega
    clear hR;delta ClZ;go_in;go_wp2;go_ret;exact ⟨by simp,k0⟩
  ·obtain rfl:R=false:=by rw [hR];exact cI (fun h=>h2 h.1.2)
   have d:(0:Int)<(n:Int):=by omega
   have f:¬ (n:Int)<=130:=by omega
   clear hR;delta ClZ;go_in;go_wp2;go_ret;exact ⟨rfl,k0⟩
 ·obtain rfl:R=false:=by rw [hR];exact cI (fun h=>h1 h.1.1)
  obtain rfl:n=0:=by omega
  clear hR;delta ClZ;go_in;go_wp2;go_ret;exact ⟨rfl,k0⟩

theorem IA (n:Nat) (M:0<n) (hn:n<=130) (w:World) :
  ClZ 242 #[.int .i64 (n:Nat)] w fun e w'=>∃ (ao bo xo:OA) (mc rc xc K:Nat),e=.returned (.tuple #[.agg (mzA ao n mc K bo n rc),.slice xo n xc])/\∃ ms rs:LN,(Row .u64 w' (.slice ao n mc) ms/\Row .u64 w' (.slice bo n rc) rs)/\(Digs ms/\Digs rs/\K<18446744073709551616/\okMod ms K rs)/\(Row .u64 w' (.slice xo n xc) (List.replicate n 0)/\U64s w' (.slice xo n xc))/\(Fresh w (.slice ao n mc)/\Fresh w (.slice bo n rc)/\Fresh w (.slice xo n xc))/\Kept af w w':=by
 obtain ⟨i0,X,Z,ab,ad⟩:=info_parts Tryz.info24;obtain ⟨W,hW⟩:=aj ((w.alloc (.cells #[.slice none 0 0,.int .u64 0,.slice none 0 0] 71)).alloc (.cells #[.int .u64 18446744073709551615] 24))
 have k0:Kept af w W:=by rw [hW];exact ((ah af w).alloc _).alloc _
 have F:W.heap.size=w.heap.size+1+1:=by rw [hW];simp
 have L:W.heap[w.heap.size]? = some (.cells #[.slice none 0 0,.int .u64 0,.slice none 0 0] 71 (0,0)):=by rw [hW];exact aw (heap_alloc_new _ _)
 have J:W.cell? ⟨w.heap.size+1,0,none⟩=some (.int .u64 ((18446744073709551615:Nat):Int)):=by
  rw [hW];have:=Box.new (w.alloc (.cells #[.slice none 0 0,.int .u64 0,.slice none 0 0] 71)) (.int .u64 18446744073709551615) 24;rw [World.size_alloc] at this;exact this.cell
 have q:=FF (w.heap.size+1) 18446744073709551615 n W J M (by omega);obtain ⟨V,hV⟩:=aj (val (List.replicate n 18446744073709551615))
 have D:=FW n;rw [<- hV] at D;obtain ⟨hE,G⟩:=DR M hn D;have l:HzD (∀ W' g,Row .u64 W' (.slice (some ⟨g,0,none⟩) n n) (List.replicate n 18446744073709551615)->ClZ 32 #[.slice (some ⟨g,0,none⟩) n n] W' fun e w'=>∃ (ao bo:OA) (mc rc K:Nat),e=.returned (.tuple #[.agg (mzA ao n mc K bo n rc),.int .i64 0])/\(Row .u64 w' (.slice ao n mc) (jF V)/\Row .u64 w' (.slice bo n rc) (j4 V))/\rM V K/\(Fresh W' (.slice ao n mc)/\Fresh W' (.slice bo n rc))/\Kept af W' w'):=fun W' g hr=>by
  refine (pU (some ⟨g,0,none⟩) n n _ V 0 hV hE.symm W' hr (fun d hd=>by rw [(ff.1 hd).2];omega)).mono ?_;rintro e w' ⟨a,K,b,rfl,h1,h2,h3,⟨h4,h5⟩,h6⟩;obtain ⟨_,s2,s3,_⟩:=me hE h3;obtain ⟨ao,an,ac,rfl,hl,_⟩:=h1.open;obtain ⟨bo,bn,bc,rfl,Y,_⟩:=h2.open;obtain rfl:an=n:=by rw [<- hl.o,s2,G]
  obtain rfl:bn=an:=by rw [<- Y.o,s3,G]
  exact ⟨ao,bo,ac,bc,K,rfl,⟨h1,h2⟩,h3,⟨h4,h5⟩,h6⟩
 have T:HzD (∀ K,rM V K->Digs (jF V)/\Digs (j4 V)/\K<18446744073709551616/\okMod (jF V) K (j4 V)):=fun K h=>by
  obtain ⟨s1,_,_,_,s5,s6⟩:=me hE h;exact ⟨s5,s6,h.1,s1⟩
 have HW:=aa hW;have B:=aa k0;have HO:=aa L;clear hW k0 L J hV D hE G F;delta ClZ;go_in;go_wp2_with (rw [<- HW.o]);refine q.mono ?_;rintro e w1 ⟨rfl,N,k1⟩;have hS:=l.o w1 _ (dz N (by simp));clear q N;go_wp2_with fail;refine hS.mono ?_;rintro e w2 ⟨ao,bo,mc,rc,K,rfl,t,I,⟨fa,fb⟩,k2⟩;obtain ⟨W3,y⟩:=aj (w2.alloc (.cells (mzA ao n mc K bo n rc) 71))
 have k3:Kept af w2 W3:=by rw [y];exact (ah af w2).alloc _
 have E:W3.heap[w2.heap.size]? = some (.cells (mzA ao n mc K bo n rc) 71 (0,0)):=by rw [y];exact heap_alloc_new _ _
 have c:W3.heap[w.heap.size]? = some (.cells #[.slice none 0 0,.int .u64 0,.slice none 0 0] 71 (0,0)):=(((k1.trans k2).trans k3).block _ (lt_of_block HO.o) (fun f=>f)).trans HO.o;have p:=mG W3;obtain ⟨CL,C⟩:=aj (madeCells #[Value.int .u64 0] n)
 have ai:∀ W,(Instr.makeSlice 23 (.int .i64 (n:Int)) (.int .i64 (n:Int))).run prog W=.ok (.slice (some ⟨W.heap.size,0,none⟩) n n) (W.alloc (.cells CL 24)):=fun W=>by rw [C];exact run_make_row (P:=prog) _ _ i0 _ underlying23 X Z ab rfl _ _ n (by rw [ad];omega) (by omega) W
 have j:=aa t;have S:=aa I;have HF:HzD (Fresh W (.slice ao n mc)/\Fresh W (.slice bo n rc)):=⟨fa.b k1,fb.b k1⟩
 have R:=aa ((k1.trans k2).trans k3);have i:=aa k3;have U:=aa y;have O:=aa C;obtain ⟨c0,c1,c2⟩:=ax E;obtain ⟨q0,q1,q2⟩:=ax c;obtain ⟨f0,f1,f2⟩:=kC c;obtain ⟨c3,c4,c5⟩:=ax (aw (o:=.cells CL 24) E);obtain ⟨q3,q4,q5⟩:=ax (aw (o:=.cells CL 24) c);obtain ⟨f3,f4,f5⟩:=kC (aw (o:=.cells CL 24) c);have H:=aa c;clear hS t I fa fb k1 k2 k3 y E c C l;go_wp2_with (rw [<- U.o]);refine p.mono ?_;rintro e W4 ⟨rfl,rfl⟩;clear p;go_wp2_with fail;have m:CL=((List.replicate n 0).map fun z:Nat=>Value.int .u64 (z:Int)).toArray:=by
  have h:=bD .u64 n;rw [bI] at h;rw [<- h,O.o];simp [Value.cells]
 have ae:w.heap.size<W4.heap.size:=lt_of_block H.o;have ag:w.heap.size<W.heap.size:=lt_of_block HO.o;have A:HzD (∀ w':World,w'.heap[W4.heap.size]? = some (.cells CL 24 (0,0))->Row .u64 w' (.slice ao n mc) (jF V)->Row .u64 w' (.slice bo n rc) (j4 V)->Kept af w w'->∃ ms rs:LN,(Row .u64 w' (.slice ao n mc) ms/\Row .u64 w' (.slice bo n rc) rs)/\(Digs ms/\Digs rs/\K<18446744073709551616/\okMod ms K rs)/\(Row .u64 w' (.slice (some ⟨W4.heap.size,0,none⟩) n n) (List.replicate n 0)/\U64s w' (.slice (some ⟨W4.heap.size,0,none⟩) n n))/\(Fresh w (.slice ao n mc)/\Fresh w (.slice bo n rc)/\Fresh w (.slice (some ⟨W4.heap.size,0,none⟩) n n))/\Kept af w w'):=fun w' hb r1 r2 k=>by
  rw [m] at hb;have s:OwnN .u64 24 w' W4.heap.size (.slice (some ⟨W4.heap.size,0,none⟩) n n) n (List.replicate n 0):=dZ hb (by simp) (by unfold maxLen;omega) (leR _);refine ⟨_,_,⟨r1,r2⟩,T.o K S.o,⟨dz s (by simp),U64s.own s⟩,⟨HF.o.1.b B.o,HF.o.2.b B.o,fun x hx=>?_⟩,k⟩;have e':W4.heap.size=x:=by simpa [Value.ownBlock] using hx
  omega
 clear m;go_region
 ·have kp:=mO W4 w.heap.size (.slice ao n mc) (.int .u64 (K:Int)) (.slice bo n rc);have F:((((W4).setCell ⟨w.heap.size,0,none⟩ (.slice ao n mc)).setCell ⟨w.heap.size,1,none⟩ (.int .u64 (K:Int))).setCell ⟨w.heap.size,2,none⟩ (.slice bo n rc)).heap.size=W4.heap.size:=by simp
  have hP:=aw (o:=.cells CL 24) (tE H.o (.slice ao n mc) (.int .u64 (K:Int)) (.slice bo n rc));have r:=heap_alloc_new ((((W4).setCell ⟨w.heap.size,0,none⟩ (.slice ao n mc)).setCell ⟨w.heap.size,1,none⟩ (.int .u64 (K:Int))).setCell ⟨w.heap.size,2,none⟩ (.slice bo n rc)) (.cells CL 24);rw [F] at r;have kB:Kept af ((((W4).setCell ⟨w.heap.size,0,none⟩ (.slice ao n mc)).setCell ⟨w.heap.size,1,none⟩ (.int .u64 (K:Int))).setCell ⟨w.heap.size,2,none⟩ (.slice bo n rc)) (((((W4).setCell ⟨w.heap.size,0,none⟩ (.slice ao n mc)).setCell ⟨w.heap.size,1,none⟩ (.int .u64 (K:Int))).setCell ⟨w.heap.size,2,none⟩ (.slice bo n rc)).alloc (.cells CL 24)):=(ah af _).alloc _
  have Q:=aa (A.o _ (dj r) ((((j.o.1.g i.o).kept kp (fun x hx e=>by have:=HF.o.1 x hx;omega)).g kB).g (ah af _).drew) ((((j.o.2.g i.o).kept kp (fun x hx e=>by have:=HF.o.2 x hx;omega)).g kB).g (ah af _).drew) ((((B.o.trans R.o).next kp (fun x hx e=>by omega)).trans kB).drew));obtain ⟨d0,d1,d2⟩:=ax hP;go_wp2_with fail;exact bodyPost_ret (v:=.tuple #[.agg (mzA ao n mc K bo n rc),.slice (some ⟨W4.heap.size,0,none⟩) n n]) (by simp [results,results242,go_sem,d0,d1,d2]) rfl ⟨_,_,_,_,_,_,_,rfl,Q.o⟩

structure Left8 (a w w':World) (o o':Tr) (bX bO rm:Nat) (ov:Value) (AT:TypeId) (m:List Ev):Prop where
 did:Did a o m w' o'
 len:m.length<=3000+rm
 err:Box w' bX (.int .i64 0) 35
 o:Box w' bO ov AT
 size:w.heap.size<=w'.heap.size

theorem lT {a:World} {o o':Tr} {m1:List Ev} (h:Did a o m w o1) (d:Did w o1 m1 w' o'):Did a o (m ++ m1) w' o':=h.trans d

theorem nY:(if n<=130 then List.replicate 1 (1,(n:Int),0) ++ de n else []).length<=2000:=by
 by_cases h:n<=130
 ·rw [ai h];exact (ix h).2.1
 ·rw [ar h];simp

theorem Ec (o:Tr) (ao bo xo eo:OA) (n l K g i N1 xc L q f:Nat) (B:Array Value) (ms rs xs:LN) (bT bM bA bE bF bO bX E rm:Nat) (dE:List Ev) (G:Nat->Nat->World->Value->Prop) (a w:World) (a5:dE.length<=rm)
  (ht:TrRoom a o (4000+rm)) (ka:Kept af a w) (hm:RowT a o (.slice ao n g) ms) (hr:RowT a o (.slice bo l i) rs) (hx:RowT a o (.slice xo N1 xc) xs) (Z:Digs ms) (ab:Digs rs) (U:Digs xs) (hK:K<18446744073709551616) (ak:n<=300) (aL:a.heap.size<=bM/\a.heap.size<=bO) (a3:bM≠bX/\bO≠bX/\bM≠bO)
  (hT:Box w bT (aP o) 57) (hM:w.heap[bM]? = some (.cells (mzA ao n g K bo l i) 71 (0,0))) (hA:Box w bA (.slice xo N1 xc) 23) (hB:Box w bE (.slice eo L q) 23) (hF:Box w bF (.func (.func f) #[] B) 206) (hO:Box w bO (.slice none 0 0) 23) (hX:Box w bX (.int .i64 0) 35)
  (hf:∀ args w,(callFunc f args).run prog w=.ok (.enter f args) w)
  (S:∀ W m o' r s R l' K' t y Q P aq X,Did a o m W o'->TrRoom W o' rm->Mod8 W o' r s n l' K' t y P aq->MonAt W (.slice R n Q) n (val P) X->Fresh w (.slice R n Q)->Kept (fun b=>b=bM\/dr o b) w W->L<=300->ClZ f (#[.agg (mzA r n t K' s l' y),.slice R n Q] ++ B) W fun e w'=>∃ zo zn zc,e=.returned (.slice zo zn zc)/\G (val P) X w' (.slice zo zn zc)/\∃ o2,Did W o' dE w' o2)
  (hG:∀ V X W W' v,G V X W v->Kept (fun b=>b<w.heap.size) W W'->G V X W' v)
  (hE:E=0↔okMod ms K rs/\(N1=n/\val xs<val ms)) (ad:E<=1) :
  ClZ 239 #[.pointer (some ⟨bT,0,none⟩),.pointer (some ⟨bM,0,none⟩),.pointer (some ⟨bA,0,none⟩),.pointer (some ⟨bE,0,none⟩),.pointer (some ⟨bF,0,none⟩),.pointer (some ⟨bO,0,none⟩)] w fun e w'=>
   (E=0/\L<=300/\e=.returned (.tuple #[])/\∃ zo zn zc o',Left8 a w w' o o' bX bO rm (.slice zo zn zc) 23 (jM n ++ dE)/\G (val ms) (val xs) w' (.slice zo zn zc)) \/
   (∃ c:Nat,((E=1/\c=1)\/(E=0/\300<L/\c=2))/\e=.panicked [refusal (c:Nat)]/\∃ m o',Left8 a w w' o o' bX bO rm (.slice none 0 0) 23 m):=by
 obtain ⟨po,N⟩:=aM o;have J:=(ht.g ka).1;have h0:Did a o [] w o:=Did.of_kept ka ht.1;have JC:HzD (∀ W m o',Did w o m W o'->W.cell? ⟨bT,0,none⟩=some (.pointer po)/\W.cell? ⟨bA,0,none⟩=some (.slice xo N1 xc)/\W.cell? ⟨bE,0,none⟩=some (.slice eo L q)/\W.cell? ⟨bF,0,none⟩=some (.func (.func f) #[] B)):=fun W m o' d=>by
  rw [<- N];exact ⟨(hT.did d J).cell,(hA.did d J).cell,(hB.did d J).cell,(hF.did d J).cell⟩
 have JM:HzD (∀ W m o',Did w o m W o'->W.heap[bM]? = some (.cells (mzA ao n g K bo l i) 71 (0,0))):=fun W m o' d=>(d.kept.block _ (lt_of_block hM) (aH hM J)).trans hM
 have JO:HzD (∀ W m o',Did w o m W o'->Box W bO (.slice none 0 0) 23/\Box W bX (.int .i64 0) 35):=fun W m o' d=>⟨hO.did d J,hX.did d J⟩
 have aR:HzD (∀ W3 {W4:World},Kept (fun b=>b=bM) W3 W4->∀ {m:List Ev} o',Did w o m W3 o'->W4.cell? ⟨bF,0,none⟩=some (.func (.func f) #[] B)):=fun W3 W4 k m o' d=>((hF.did d J).kept k (fun e=>by
  have h1:w.heap[bF]? = _:=hF;rw [e,hM] at h1;simp at h1)).cell
 have a1:=lt_of_block hM;have a2:=hO.lt;have HT:=aa ht;obtain ⟨c0,c1,c2,c3⟩:=JC.o _ _ _ (Did.of_kept (ah af w) J);obtain ⟨p0,p1,p2⟩:=ax hM;have aY:E=0\/E=1:=by omega
 rcases aY with rfl | rfl
 ·obtain ⟨ay,rfl,hlt⟩:=hE.1 rfl;have ae:Mod8 a o ao bo N1 l K g i ms rs:=⟨hm,hr,Z,ab,hK,ay⟩
  obtain ⟨⟨f0,f1⟩,f2,f3,f4,f5⟩:=ae.a;have C:=IV o ao bo xo N1 l K g i xc ms rs xs w ((ht.g ka).l (by omega)) (ae.g ka) (hx.g ka) U hlt;rw [N] at C;have HL:=fun W=>GD ao bo eo N1 l g i L q (K:Int) (decide ((0<N1/\N1<=130)/\L<=300)) rfl W
  have aU:=aa ae;have am:=aa f1;by_cases hL3:L<=300
  ·have aw:HzD (∀ W,ClZ 240 #[.agg (mzA ao N1 g K bo l i),.slice eo L q] W fun e w'=>e=.returned (.bool true)/\Kept af W w'):=fun W=>by
    have:=HL W
    rwa [dV (show (0<N1/\N1<=130)/\L<=300 from ⟨⟨f0,f1⟩,hL3⟩)] at this
   have au:=aa S;have aT:=aa hG;clear ht hm hr hx Z ab U hK ak hT hM hA hB hF hO hX S hG hE ad ay hlt ae f0 f1 f2 f3 f4 f5 HL N;delta ClZ;go_in;go_wp2_with fail;refine C.mono ?_;rintro e w1 ⟨zo,zc,rfl,an,ap,o1,d1⟩;obtain ⟨q0,q1,q2,q3⟩:=JC.o _ _ _ d1;obtain ⟨r0,r1,r2⟩:=ax (JM.o _ _ _ d1);have M:=aa d1;have aN:=aa an;have aQ:=aa ap;clear C c0 c1 c2 c3 p0 p1 p2 d1 an ap;go_wp2_with fail;refine (aw.o w1).mono ?_;rintro e w2 ⟨rfl,k2⟩;have j:=aa (M.o.g k2);obtain ⟨q0,q1,q2,q3⟩:=JC.o _ _ _ j.o;obtain ⟨r0,r1,r2⟩:=ax (JM.o _ _ _ j.o)
   have F:TrRoom w2 o1 rm:=j.o.room ((HT.o.g ka).l (by have:=(ix am.o).2.1;omega));have ac:=au.o w2 _ o1 ao bo zo l K g i zc ms rs _ (lT h0 j.o) F ((aU.o.g ka).did j.o) (aN.o.g k2) aQ.o (j.o.kept.mono (fun _ _ f=>.inr f)) hL3;clear k2 F;go_wp2_with fail;refine ac.mono ?_;rintro e w3 ⟨vo,vn,vc,rfl,aE,o3,d3⟩;have aj:=mG w3;have z:=aa (j.o.trans d3);have aS:=aa aE;obtain ⟨A,H⟩:=JO.o _ _ _ z.o;have x0:=A.cell;have x1:=A.free;have aB:=aa A;have aW:=aa H;clear ac aE d3 q0 q1 q2 q3 r0 r1 r2 A H;go_wp2_with fail;refine aj.mono ?_;rintro e w4 ⟨rfl,rfl⟩;clear aj
   go_wp2_with fail;go_end0
   have kb:=aF w4 bO (.slice vo vn vc);have az:TrIn w4 o3:=(z.o.room (k:=0) ((HT.o.g ka).l (by rw [bk];have:=(ix am.o).2.1;omega))).1;refine .inl ⟨by first | rfl | trivial,hL3,rfl,vo,vn,vc,o3,⟨?_,?_,aW.o.kept kb (by omega),aB.o.set _,?_⟩,aT.o _ _ _ _ _ aS.o (kb.mono (fun b _ e=>by omega))⟩
   ·exact (lT h0 z.o).wroteNew kb aL.2 (aB.o.apart az)
   ·rw [bk];have:=(ix am.o).2.1;omega
   ·have:=z.o.size;simpa using this
  ·have av:HzD (∀ W,ClZ 240 #[.agg (mzA ao N1 g K bo l i),.slice eo L q] W fun e w'=>e=.returned (.bool false)/\Kept af W w'):=fun W=>by
    have:=HL W
    rwa [cI (show ¬ ((0<N1/\N1<=130)/\L<=300) from fun h=>hL3 h.2)] at this
   clear ht hm hr hx Z ab U hK ak hT hM hA hB hF hO hX S hG hE ad ay hlt ae f0 f1 f2 f3 f4 f5 HL N;delta ClZ;go_in;go_wp2_with fail;refine C.mono ?_;rintro e w1 ⟨zo,zc,rfl,an,ap,o1,d1⟩;obtain ⟨q0,q1,q2,q3⟩:=JC.o _ _ _ d1;obtain ⟨r0,r1,r2⟩:=ax (JM.o _ _ _ d1);have M:=aa d1;clear C c0 c1 c2 c3 p0 p1 p2 d1 an ap;go_wp2_with fail;refine (av.o w1).mono ?_;rintro e w2 ⟨rfl,k2⟩;have j:=aa (M.o.g k2);have aJ:=mG w2;clear k2 q0 q1 q2 q3 r0 r1 r2;go_wp2_with fail;refine aJ.mono ?_;rintro e w3 ⟨rfl,rfl⟩;have a0:=nn 2 (by omega) w3;clear aJ;go_wp2_with fail;refine a0.mono ?_;rintro e w4 ⟨rfl,rfl⟩
   obtain ⟨A,H⟩:=JO.o _ _ _ j.o;exact ⟨rfl,.inr ⟨2,.inr ⟨by first | rfl | trivial,by omega,rfl⟩,rfl,_,o1,⟨lT h0 j.o,by have:=(ix am.o).2.1;rw [bk];simp;omega,H,A,j.o.size⟩⟩⟩
 ·have C:=qR o ao bo xo n l K g i N1 xc 1 ms rs xs w ((ht.g ka).l (by omega)) (hm.g ka) (hr.g ka) (hx.g ka) Z ab U hK ak hE ad;rw [N] at C;have HL:=fun W=>GD ao bo eo n l g i L q (K:Int) (decide ((0<n/\n<=130)/\L<=300)) rfl W
  by_cases hL3:(0<n/\n<=130)/\L<=300
  ·have aw:HzD (∀ W,ClZ 240 #[.agg (mzA ao n g K bo l i),.slice eo L q] W fun e w'=>e=.returned (.bool true)/\Kept af W w'):=fun W=>by
    have:=HL W
    rwa [dV hL3] at this
   have au:=aa S;clear ht hm hr hx Z ab U hK ak hT hM hA hB hF hO hX S hG hE ad HL N;delta ClZ;go_in;go_wp2_with fail;refine C.mono ?_;rintro e w1 ⟨v1,rfl,⟨Y,I,_⟩,_,o1,d1⟩;obtain ⟨zo,zn,zc,rfl,_,_,_,_,_⟩:=I.open;obtain ⟨q0,q1,q2,q3⟩:=JC.o _ _ _ d1;obtain ⟨r0,r1,r2⟩:=ax (JM.o _ _ _ d1);have M:=aa d1;clear C c0 c1 c2 c3 p0 p1 p2 d1 I;go_wp2_with fail;refine (aw.o w1).mono ?_;rintro e w2 ⟨rfl,k2⟩;have j:=aa (M.o.g k2);obtain ⟨q0,q1,q2,q3⟩:=JC.o _ _ _ j.o;obtain ⟨r0,r1,r2⟩:=ax (JM.o _ _ _ j.o);have aK:=IA n hL3.1.1 hL3.1.2 w2;clear k2;go_wp2_with fail;refine aK.mono ?_
   rintro e w3 ⟨r,s,R,t,y,Q,K',rfl,P,aq,⟨s1,s2⟩,⟨s3,s4,s5,s6⟩,⟨s7,s8⟩,⟨s9,aA,ar⟩,k3⟩;have z:=aa (j.o.g k3);have al:TrIn w3 o1:=(z.o.room (k:=0) ((HT.o.g ka).l (by have:=nY (n:=n);omega))).1;have ag:=JM.o _ _ _ z.o;obtain ⟨q0,q1,q2,q3⟩:=JC.o _ _ _ z.o;obtain ⟨r0,r1,r2⟩:=ax ag;obtain ⟨g0,g1,g2⟩:=kC ag;have kp:=mO w3 bM (.slice r n t) (.int .u64 (K':Int)) (.slice s n y);have ai:=tE ag (.slice r n t) (.int .u64 (K':Int)) (.slice s n y);have aZ:bM<w2.heap.size:=by have:=j.o.size;omega
   obtain ⟨t0,t1,t2⟩:=ax ai;have d4:=(lT h0 z.o).wroteNew kp aL.1 (aH ag al);have O:TrIn w2 o1:=(j.o.room (k:=0) ((HT.o.g ka).l (by have:=nY (n:=n);omega))).1;have p:TrRoom ((((w3.setCell ⟨bM,0,none⟩ (.slice r n t)).setCell ⟨bM,1,none⟩ (.int .u64 (K':Int))).setCell ⟨bM,2,none⟩ (.slice s n y))) o1 rm:=d4.room (HT.o.l (by have:=nY (n:=n);simp only [bZ];omega));have D:∀ v:Value,Fresh w2 v->∀ b,v.ownBlock=some b->¬ b=bM:=fun v hF b hb e=>by have:=hF b hb;omega
   have aG:Mod8 ((((w3.setCell ⟨bM,0,none⟩ (.slice r n t)).setCell ⟨bM,1,none⟩ (.int .u64 (K':Int))).setCell ⟨bM,2,none⟩ (.slice s n y))) o1 r s n n K' t y P aq:=⟨ji s9 O (s1.kept kp (D _ s9)),ji aA O (s2.kept kp (D _ aA)),s3,s4,s5,s6⟩
   have aC:MonAt ((((w3.setCell ⟨bM,0,none⟩ (.slice r n t)).setCell ⟨bM,1,none⟩ (.int .u64 (K':Int))).setCell ⟨bM,2,none⟩ (.slice s n y))) (.slice R n Q) n (val P) 0:=⟨by rw [CN,oK];exact s7.kept kp (D _ ar),s8.kept kp (D _ ar)⟩
   have k4:=(z.o.kept.mono (T:=fun b=>b=bM\/dr o b) (fun _ _ f=>.inr f)).next kp (fun x _ e=>.inl e)
   have aD:Fresh w (.slice R n Q):=fun b hb=>aI j.o.size (ar b hb)
   have ac:=au.o _ _ o1 r s R n K' t y Q P aq 0 d4 p aG aC aD k4 hL3.2;have aX:HzD (∀ W m o',Did ((((w3.setCell ⟨bM,0,none⟩ (.slice r n t)).setCell ⟨bM,1,none⟩ (.int .u64 (K':Int))).setCell ⟨bM,2,none⟩ (.slice s n y))) o1 m W o'->Box W bO (.slice none 0 0) 23/\Box W bX (.int .i64 0) 35):=fun W m o' d=>by
    obtain ⟨A,H⟩:=JO.o _ _ _ z.o;exact ⟨(A.kept kp (by omega)).did d p.1,(H.kept kp (by omega)).did d p.1⟩
   have a4:((((w3.setCell ⟨bM,0,none⟩ (.slice r n t)).setCell ⟨bM,1,none⟩ (.int .u64 (K':Int))).setCell ⟨bM,2,none⟩ (.slice s n y))).cell? ⟨bF,0,none⟩=some (.func (.func f) #[] B):=aR.o _ kp _ z.o;have aO:=aa d4;have aV:HzD (w.heap.size<=((((w3.setCell ⟨bM,0,none⟩ (.slice r n t)).setCell ⟨bM,1,none⟩ (.int .u64 (K':Int))).setCell ⟨bM,2,none⟩ (.slice s n y))).heap.size):=k4.size;clear aK s1 s2 s3 s4 s5 s6 s7 s8 s9 aA ar k3 kp ag ai d4 p aG aC k4 aD D O al;go_wp2_with fail;generalize ((((w3.setCell ⟨bM,0,none⟩ (.slice r n t)).setCell ⟨bM,1,none⟩ (.int .u64 (K':Int))).setCell ⟨bM,2,none⟩ (.slice s n y)))=w4 at *;refine ac.mono ?_
   rintro e w5 ⟨vo,vn,vc,rfl,_,o5,d5⟩;have I:=nn 1 (by omega) w5;clear ac;go_wp2_with fail;refine I.mono ?_;rintro e w6 ⟨rfl,rfl⟩;obtain ⟨A,H⟩:=aX.o _ _ _ d5;exact ⟨rfl,.inr ⟨1,.inl ⟨by first | rfl | trivial,rfl⟩,rfl,_,o5,⟨aO.o.trans d5,by have:=nY (n:=n);simp only [bZ,bk] at this ⊢;omega,H,A,aI aV.o d5.size⟩⟩⟩
  ·have av:HzD (∀ W,ClZ 240 #[.agg (mzA ao n g K bo l i),.slice eo L q] W fun e w'=>e=.returned (.bool false)/\Kept af W w'):=fun W=>by
    have:=HL W
    rwa [cI hL3] at this
   clear ht hm hr hx Z ab U hK ak hT hM hA hB hF hO hX S hG hE ad HL N;delta ClZ;go_in;go_wp2_with fail;refine C.mono ?_;rintro e w1 ⟨v1,rfl,⟨Y,I,_⟩,_,o1,d1⟩;obtain ⟨zo,zn,zc,rfl,_,_,_,_,_⟩:=I.open;obtain ⟨q0,q1,q2,q3⟩:=JC.o _ _ _ d1;obtain ⟨r0,r1,r2⟩:=ax (JM.o _ _ _ d1);have M:=aa d1;clear C c0 c1 c2 c3 p0 p1 p2 d1 I;go_wp2_with fail;refine (av.o w1).mono ?_;rintro e w2 ⟨rfl,k2⟩;have j:=aa (M.o.g k2);have I:=nn 1 (by omega) w2;clear k2 q0 q1 q2 q3 r0 r1 r2;go_wp2_with fail;refine I.mono ?_;rintro e w3 ⟨rfl,rfl⟩;obtain ⟨A,H⟩:=JO.o _ _ _ j.o
   exact ⟨rfl,.inr ⟨1,.inl ⟨by first | rfl | trivial,rfl⟩,rfl,_,o1,⟨lT h0 j.o,by have:=nY (n:=n);simp only [bZ];omega,H,A,j.o.size⟩⟩⟩

theorem Slots.did {o o':Tr} {ao:OA} {A:Nat->OA} {L C:Nat->Nat} (h:Slots w ao n A L C) (d:Did w o m w' o') (c:∀ a,ao=some a->¬ dr o a.block):Slots w' ao n A L C:=by
 intro i hi;obtain ⟨b,off,rfl,hc⟩:=h i hi;exact ⟨b,off,rfl,(World.cell?_of_block (a:=⟨b,off+i,none⟩) (d.kept.block b (World.block_lt_of_cell? w _ hc) (c _ rfl))).trans hc⟩

theorem FI (V U n q:Nat) (h:q<n):(digs V q ++ (digs U n).drop q).set q (dig V q)=digs V (q+1) ++ (digs U n).drop (q+1):=by
 rw [ir _ _ (by rw [ag];omega),ag,cj,eE (show q<(digs U n).length by rw [ag];exact h),digs,lsZ,dX];rfl

theorem CK {base g q U:Nat} {t:TypeId} (h:OwnN .u64 t w base (.slice (some ⟨g,0,none⟩) n n) n (digs V q ++ (digs U n).drop q)) (hq:q<n):w.cell? ⟨g,q,none⟩=some (.int .u64 (dig U q:Nat)):=by
 rw [World.ownsRow.cellAt h q (by omega),bV,io (by rw [ag];omega),ag,cj,fd,aV,<- jg 18446744073709551616 U n q hq,aA,aS (show q<(digs U n).length by rw [ag];exact hq)];rfl

def iB (X:Nat->Nat) (i p:Nat):Nat:=if i<p then X i else 0

theorem Di (X:Nat->Nat) (i p q:Nat):bits .or .u64 (dig (iB X i p) q:Nat) (bits .and .u64 (dig (X p) q:Nat) (msk (eqw (p:Int) (i:Int))))=(dig (iB X i (p+1)) q:Nat):=by
 have hx:∀ Y,dig Y q<18446744073709551616:=fun Y=>bu
 unfold eqw;by_cases h:p=i
 ·subst h;rw [ai rfl,show (1:Int)=((1:Nat):Int) from rfl,pN _ 1 (hx _)];unfold iB;rw [aK,cf,show dig 0 q=0 by simp [dig],u64_or_nat 0 _ (by omega) (by have:=hx (X p);omega)];simp
 ·rw [aK,show (0:Int)=((0:Nat):Int) from rfl,pN _ 0 (hx _)];have e:iB X i (p+1)=iB X i p:=by
   unfold iB;by_cases hi:i<p
   ·rw [cf,ai hi]
   ·rw [aK,ar hi]
  rw [e,show dig (X p) q*(0%2)=0 by simp,u64_or_nat _ 0 (hx _) (by omega)];simp

theorem Jo (o:Tr) (ao:OA) (m Y:Nat) (A:Nat->OA) (L C:Nat->Nat) (l:Nat->LN) (i:Nat) (hi:i<18446744073709551616) (w:World) (ht:TrRoom w o m) (hs:Slots w ao m A L C) (ad:0<m->∀ a,ao=some a->¬ dr o a.block) (hr:∀ p,p<m->RowT w o (.slice (A p) (L p) (C p)) (l p)) (hd:∀ p,p<m->Digs (l p)) (hL:∀ p,p<m->L p<=100000000) (hm:m<=100000000) :
  ClZ 245 #[aP o,.slice ao m Y,.int .u64 (i:Nat)] w fun e w'=>∃ v',e=.returned v' /\
   OwnN .u64 24 w' w.heap.size v' (gM L m) (digs (iB (fun p=>val (l p)) i m) (gM L m))/\∃ o',Did w o (List.replicate m (1,(gM L m:Nat),0)) w' o':=by
 obtain ⟨i0,ay,aB,aC,aD⟩:=info_parts Tryz.info24;have hC:=zM ao m Y A L C w (by omega) hs;have aJ:gM L m<=100000000:=vj L _ m hL;obtain ⟨X,hX⟩:=aj (fun p=>val (l p):Nat->Nat)
 rw [<- hX];have hF:HzD (∀ o' W g p,p<m->TrIn W o'->RowT W o' (.slice (A p) (L p) (C p)) (l p)->W.heap[g]? = some (.cells #[.int .i64 (gM L m:Nat)] 3 (0,0))->ClZ 180 #[.slice (A p) (L p) (C p),.pointer (some ⟨g,0,none⟩)] W fun e w'=>∃ v',e=.returned v'/\RowT w' o' v' (digs (X p) (gM L m))/\Kept af W w'/\(v'=.slice (A p) (L p) (C p)\/∀ b,v'.ownBlock=some b->W.heap.size<=b)):=fun o' W g p hp t r hg=>by
  rw [hX];refine Gr o' _ (l p) (gM L m) g W t r (hd p hp) ?_ (by omega) hg;obtain ⟨_,_,_,e,h,_⟩:=r.1.open;simp only [Value.slice.injEq] at e;have h1:=h.o;have h2:=uV L m p hp;omega
 have N:HzD (∀ p,p<m->(l p).length=L p):=fun p hp=>by
  obtain ⟨_,_,_,e,h,_⟩:=(hr p hp).1.open;simp only [Value.slice.injEq] at e;have h1:=h.o;omega
 have HT:=aa ht;have HS:=aa hs;have aq:=aa ad;have HR:=aa hr;obtain ⟨tp,U⟩:=aj (aP o)
 rw [<- U];have av:=aa U;clear ht hs ad hr hd hL U hX;generalize gM L m=n at *;delta ClZ;go_in;go_wp2_with fail;refine hC.mono ?_;rintro e w1 ⟨rfl,M⟩;have c:w1.heap[w.heap.size]? = some (.cells #[.int .i64 (n:Nat)] 3 (0,0)):=by rw [M];exact heap_alloc_new _ _
 have k1:Kept af w w1:=by rw [M];exact (ah af w).alloc _
 have am:w1.heap.size=w.heap.size+1:=by rw [M];simp
 obtain ⟨g,hg⟩:=aj w.heap.size
 rw [<- hg] at c ⊢;have HG:HzD (g=w.heap.size/\w1.heap.size=w.heap.size+1):=⟨hg,am⟩
 clear hC M am hg;go_wp2_with (at_make;refine wpList_make_full _ rfl _ _ 23 rfl w1.heap.size 24 i0 _ 1 underlying23 ay aB aC _ _ _ _ n rfl rfl rfl rfl (by rw [aD];omega) (by unfold maxLen;omega) (leR _) ?_;intro w5 I ak);rw [bD] at I;have k5:=bf ak;have B:=(k5.block g (lt_of_block c) (fun f=>f)).trans c;have j:OwnN .u64 24 w5 w.heap.size (.slice (some ⟨w1.heap.size,0,none⟩) n n) n (digs (iB X i 0) n):=by
  have e:digs (iB X i 0) n=List.replicate n 0:=by
   have:=iN (ys:=[]) (V:=0) (m:=n) (Digs.nil _) rfl (aQ _);simpa [iB] using this
  rw [e];exact dg I (fun b hb=>aI k1.size (I.lt b hb).1)
 have d5:Did w o (List.replicate 0 (1,(n:Int),0)) w5 o:=Did.of_kept (k1.trans k5) HT.o.1;obtain ⟨h,hh⟩:=aj w1.heap.size
 rw [<- hh] at j ⊢;have HH:HzD (h=g+1/\w.heap.size<=h):=by have:=HG.o;unfold HzD;omega
 clear ak I k5 k1 c hh;go_loopw [23] (fun ii wr=>∃ (p:Nat) (o':Tr),p<=m/\ii=.int .i64 (p:Int)/\HzD (Did w o (List.replicate p (1,(n:Int),0)) wr o')/\HzD (wr.heap[g]? = some (.cells #[.int .i64 (n:Nat)] 3 (0,0)))/\HzD (OwnN .u64 24 wr w.heap.size (.slice (some ⟨h,0,none⟩) n n) n (digs (iB X i p) n))) (fun ii _=>m-(intOf ii).toNat)
 case atStart=>exact ⟨0,o,aQ _,rfl,d5,B,j⟩
 case round=>
  clear d5 B j;obtain ⟨p,o1,hp,rfl,v,c,H⟩:=hrel;by_cases hpm:p<m
  ·have g1:(p:Int)<(m:Int):=by omega
   have J:TrRoom wr o1 (m-p):=v.o.room (by rw [bw,show p+(m-p)=m by omega];exact HT.o);have hS:=gh o1 n wr J.1;rw [v.o.ptr,<- av.o] at hS;go_wp2_with fail;refine hS.mono ?_;rintro e w2 ⟨rfl,o2,dd⟩;have d2:HzD (Did w o (List.replicate (p+1) (1,(n:Int),0)) w2 o2):=by
    have:=v.o.trans dd;rw [iq];exact this
   have T:TrIn w2 o2:=(d2.o.room (k:=m-(p+1)) (by rw [bw,show p+1+(m-(p+1))=m by omega];exact HT.o)).1;have F:=(dd.kept.block g (lt_of_block c.o) (aH c.o J.1)).trans c.o;have Q:=dd.kept.own H.o (fq H.o J.1);have al:=(HR.o p hpm).did d2.o;obtain ⟨bb,off,rfl,s⟩:=(HS.o.did d2.o (aq.o (by omega))) p hpm;have Z:=hF.o o2 w2 g p hpm T al F;have d:=N.o p hpm;have D:HzD (n≠0->L p=n->∀ b,(Value.slice (A p) (L p) (C p)).ownBlock=some b->b<w.heap.size):=fun h0 h1 b hb=>(HR.o p hpm).1.lt (fun e=>by rw [e] at d;simp at d;omega) b hb
   clear hS dd J v c H al d;generalize A p=a0 at *;generalize L p=l0 at *;generalize C p=c0 at *;go_wp2_with fail;refine Z.mono ?_;rintro e w3 ⟨v1,rfl,S,k3,hnew⟩;have az:HzD (n≠0->∀ b,v1.ownBlock=some b->b≠h):=by
    intro h0 b hb e;subst e;have ab:=HH.o;rcases hnew with rfl | hnew
    ·obtain ⟨_,_,_,e,hl,_⟩:=S.1.open;simp only [Value.slice.injEq] at e;have h1:=hl.o;rw [ag] at h1;have:=D.o h0 (by omega) b hb;omega
    ·have h1:=hnew b hb;have h2:=(Q.lt b rfl).2;omega
   have R:=k3.own Q (fun _ _ f=>f);have ae:=aa ((k3.block g (lt_of_block F) (fun f=>f)).trans F);have d3:=aa (d2.o.g k3);have aA:=aa (T.g k3);obtain ⟨a1,n1,c1,rfl,ac,_,_,_,P⟩:=S.1.open;obtain rfl:n1=n:=by rw [<- ac.o,ag]
   have hE:=fun W=>Iz (p:Int) (i:Int) (by omega) (by omega) (by omega) (by omega) W
   have E:0<=eqw (p:Int) (i:Int)/\eqw (p:Int) (i:Int)<=1:=by
    unfold eqw;by_cases h:(p:Int)=(i:Int)
    ·rw [ai h];omega
    ·rw [ar h];omega
   have hK:=fun W=>sL (eqw (p:Int) (i:Int)) E.1 (by omega) W
   have O:HzD (∀ q,bits .or .u64 (dig (iB X i p) q:Nat) (bits .and .u64 (dig (X p) q:Nat) (msk (eqw (p:Int) (i:Int))))=(dig (iB X i (p+1)) q:Nat)):=fun q=>Di X i p q
   clear Z hnew D F T d2 Q k3 s S ac E;generalize eqw (p:Int) (i:Int)=eq at *;generalize msk eq=mk at *;go_wp2_with fail;refine (hE _).mono ?_;rintro e ap ⟨rfl,rfl⟩;go_wp2_with fail;refine (hK _).mono ?_;rintro e ap ⟨rfl,rfl⟩;clear hE hK;generalize iB X i p=V at *;have ax:HzD (¬ dr o2 h):=fq R aA.o h rfl;go_wp2_with fail;go_loopw [41] (fun jj wr=>∃ (q:Nat),q<=n1/\jj=.int .i64 (q:Int)/\OwnN .u64 24 wr w.heap.size (.slice (some ⟨h,0,none⟩) n1 n1) n1 (digs (iB X i (p+1)) q ++ (digs V n1).drop q)/\Kept (fun b=>b=h) ap wr) (fun jj _=>n1-(intOf jj).toNat)
   case atStart=>exact ⟨0,aQ _,rfl,by rw [digs,bZ,il];exact R,ah _ _⟩
   case round=>
    clear R;obtain ⟨q,hq,rfl,ho,G⟩:=hrel;by_cases hqn:q<n1
    ·have g2:(q:Int)<(n1:Int):=by omega
     have g0:(0:Int)<=(q:Int):=cN _;obtain ⟨b1,aE,rfl,aG⟩:=fi ((P q hqn).kept G (fun a ha=>az.o (by omega) _ (by rw [ha];rfl))) hqn;have aF:=CK ho hqn;have hf:=World.ownsRow.frozenAt ho q;have an:=fun u=>(World.ownsRow.stored ho q u).1
     have aK:=O.o q;have au:HzD (OwnN .u64 24 (wr.setCell ⟨h,q,none⟩ (.int .u64 (dig (iB X i (p+1)) q:Nat))) w.heap.size (.slice (some ⟨h,0,none⟩) n1 n1) n1 (digs (iB X i (p+1)) (q+1) ++ (digs V n1).drop (q+1))):=by
      have:=an (.int .u64 (dig (iB X i (p+1)) q:Nat));unfold HzD OwnN;rw [<- FI _ _ n1 q hqn,cG];exact this
     clear an P O;generalize dig (X p) q=x at *;generalize dig V q=y at *;generalize dig (iB X i (p+1)) q=z at *;go_wp2_with fail;go_region
     all_goals
      go_wp2_with fail;go_roundw
      case rel=>exact ⟨q+1,by omega,by go_num,au.o,(G.setCell _ (fun _=>rfl) _).drew⟩
      case measure=>simp [intOf];omega
    ·have g2:¬ (q:Int)<(n1:Int):=by omega
     have e:q=n1:=by omega
     subst e;rw [nA (by rw [ag];exact leR _),dY] at ho;have ab:=HH.o;have d4:HzD (Did w o (List.replicate (p+1) (1,(q:Int),0)) wr o2):=d3.o.wroteNew G ab.2 ax.o;have aw:HzD (wr.heap[g]? = some (.cells #[.int .i64 (q:Nat)] 3 (0,0))):=(G.block g (lt_of_block ae.o) (by omega)).trans ae.o;clear P O;go_wp2_with fail;go_roundw
     case rel=>exact ⟨p+1,o2,by omega,by go_num,d4,aw,ho⟩
     case measure=>simp [intOf];omega
  ·have g1:¬ (p:Int)<(m:Int):=by omega
   have e:p=m:=by omega
   subst e;go_wp2_with fail;go_ret;exact ⟨_,rfl,H.o,o1,v.o⟩

open Go.RowKit Go.Shelf

attribute [local go_sem] Oper.semAt_some

theorem Da (q x y:Nat) (h1:x%2^q=0) (h2:y<2^q) (h3:x+y<18446744073709551616):bits .or .u64 (x:Int) (y:Int)=((x+y:Nat):Int):=by
 have hx:x<18446744073709551616:=by omega
 have hy:y<18446744073709551616:=by omega
 rw [u64_or_nat _ _ hx hy]
 congr 1
 obtain ⟨k,rfl⟩:∃ k,x=2^q*k:=⟨x/2^q,(Nat.mul_div_cancel' (fE h1)).symm⟩
 exact (lr h2 k).symm

theorem LI (y:Nat) (hy:y<18446744073709551616) (w:World) :
  ClZ 258 #[.int .u64 (y:Nat),.int .i64 4] w fun e w'=>e=.returned (.int .u64 (oY y:Nat))/\w'=w:=by
 have ho:=Da 4 (y*16%18446744073709551616) (y/1152921504606846976) (by omega) (by omega) (by omega);have hr:((oY y:Nat):Int)=((y*16%18446744073709551616+y/1152921504606846976:Nat):Int):=rfl;rw [<- hr] at ho;rw [show ((y*16%18446744073709551616:Nat):Int)=IntKind.u64.wrap ((y:Int)*16) by rw [IntKind.wrap_u64];simp,show ((y/1152921504606846976:Nat):Int)=(y:Int)/1152921504606846976 by simp] at ho;clear hr;have a:bits .and .u64 4 63=4:=by decide +kernel
 generalize oY y=z at *;delta ClZ;go_in;go_wp2_with fail;go_ret;exact ⟨rfl,rfl⟩

theorem IP (y:Nat) (hy:y<18446744073709551616):bits .and .u64 (y:Int) 15=((y%16:Nat):Int):=by
 have h:=u64_and_nat y 15 hy (by omega);rw [show (15:Int)=((15:Nat):Int) from rfl,h]
 congr 1
 exact Nat.and_two_pow_sub_one_eq_mod y 4

theorem Mj (n:Nat) (hn:1<=n) (l Bs L N:Nat) (g:Nat->Nat) (v:Value) (ys:LN) (hd:Digs ys) (hL:HzD (ys.length=L)) (hN:HzD (16*L=N)) (hb:L<=1000000) (hg:HzD (∀ j,xG ys L j=g j)) (S:Nat->Prop) (hS:S Bs) (O:∀ b,v.ownBlock=some b->0<L->S b)
  (J Jx:List (Fin N)->World->Prop)
  (hY:∀ a (x:Fin N) W,J a W->a.length<N->YieldAt Fence.wide (n-1) prog l #[.int .u64 (g x.val:Nat)] W fun e W'=>
   (e=.returned (.bool true)/\J (a ++ [x]) W'/\KeepB S W W')\/(e=.returned (.bool false)/\Jx (a ++ [x]) W'))
  (W:World) (H:W.cell? ⟨Bs,0,none⟩=some v) (hr:Row .u64 W v ys) (h0:J [] W) :
  CallsIn Fence.wide n prog 257 #[.func (.yield l) #[] #[],.pointer (some ⟨Bs,0,none⟩)] W fun e W'=>(∃ v,e=.returned v) /\
   ((∃ zs,zs.map Fin.val=List.range N/\J zs W')\/(∃ a,True/\Jx a W')):=by
 obtain ⟨ao,m,R,rfl,o,c1,c2,c3,t⟩:=hr.open;obtain rfl:m=L:=by rw [<- o.o];exact hL.o
 have f:HzD (∀ i,i<m->NumAt .u64 W ao ys i):=t;have B:HzD (∀ (y:Nat) (w:World),y<18446744073709551616->ClZ 258 #[.int .u64 (y:Nat),.int .i64 4] w fun e w'=>e=.returned (.int .u64 (oY y:Nat))/\w'=w):=fun y w hy=>LI y hy w
 have HD:HzD (∀ i,ys.getD i 0<18446744073709551616):=fun i=>hd.getD (by omega) i
 clear t hr hL o hd;refine callsIn_of_wp func257 rfl trivial ?_ rfl;simp only [ntmps257,iW,dh,fB,Nat.reduceAdd,Nat.reduceSub,iS,iT,iV,iU,bZ,fJ]
 gi_wp2
 gi_loopw [7] (fun i wr=>∃ k:Nat,k<=m/\i=.int .i64 (k:Int)/\(∃ a:List (Fin N),HzD (a.map Fin.val=List.range (16*k))/\J a wr)/\KeepB S W wr)
  (fun i _=>m-(intOf i).toNat)
 case atStart=>exact ⟨0,aQ _,rfl,⟨[],by simp [HzD],h0⟩,KeepB.refl _ _⟩
 case round=>
  obtain ⟨k,hk,rfl,⟨a,A,F⟩,D⟩:=hrel;by_cases hkm:k<m
  ·have gk:(k:Int)<(m:Int):=by omega
   obtain ⟨i,hi⟩:=aj (m-1-k:Nat)
   have gi:(m:Int)-1-(k:Int)=(i:Int):=by omega
   have T:(0:Int)<=(i:Int):=by omega
   have U:(i:Int)<(m:Int):=by omega
   have HI:HzD (i=m-1-k):=hi;clear hi;obtain ⟨b,off,rfl,hc⟩:=f.o i (by have:=HI.o;omega);have V:wr.cell? ⟨b,off+i,none⟩=some (.int .u64 (ys.getD i 0:Nat)):=(D.cell (p:=⟨b,off+i,none⟩) (O b rfl (by omega))).trans hc;have P:=(D.cell (p:=⟨Bs,0,none⟩) hS).trans H;have HY:HzD (ys.getD i 0<18446744073709551616):=HD.o i;have HG:HzD (∀ q,q<16->oA (ys.getD i 0) (q+1)%16=g (16*k+q)):=fun q hq=>by
    rw [<- hg.o];unfold xG;rw [show (16*k+q)/16=k by omega,show (16*k+q)%16=q by omega,HI.o]
   generalize ys.getD i 0=y at *;clear hc f
   gi_wp2
   gi_loopw [4,18] (fun wv q G=>∃ r:Nat,r<=16/\q=.int .i64 (r:Int)/\wv=.int .u64 ((oA y r:Nat):Int)/\(∃ a:List (Fin N),HzD (a.map Fin.val=List.range (16*k+r))/\J a G)/\KeepB S W G)
    (fun _ q _=>16-(intOf q).toNat)
   case atStart=>exact ⟨0,aQ _,rfl,rfl,⟨a,A,F⟩,D⟩
   case round=>
    obtain ⟨r,hr,rfl,rfl,⟨d,c,E⟩,h⟩:=hrel;by_cases hr16:r<16
    ·have gr:(r:Int)<16:=by omega
     have hx:16*k+r<N:=by have:=hN.o;omega
     have s:d.length<N:=by
      have:=congrArg List.length c.o;rw [cJ,mn] at this;omega
     have M:=B.o (oA y r) wr (tM HY.o r);have hz:=IP (oY (oA y r)) (Ai (tM HY.o r));have e1:oY (oA y r)%16=g (16*k+r):=HG.o r hr16;rw [e1] at hz;obtain ⟨fn,tmps,assign,body,hy,hR⟩:=hY d ⟨16*k+r,hx⟩ wr E s;dsimp only at hy;have HZ:HzD (oY (oA y r)=oA y (r+1)):=rfl;clear e1;generalize oY (oA y r)=z at *
     gi_wp2_with fail
     refine ⟨trivial,?_⟩;refine (callsIn_wide.2 M).mono ?_;rintro e w' ⟨rfl,rfl⟩
     gi_wp2
     refine hR.mono ?_;rintro e W3 (⟨rfl,I,Q⟩ | ⟨rfl,C⟩)
     ·gi_wp2
      go_roundw
      case rel=>exact ⟨r+1,hr16,by go_num,by rw [HZ.o],⟨d ++ [⟨16*k+r,hx⟩],by unfold HzD;rw [dR,c.o,<- iX,kZ];rfl,I⟩,h.trans Q⟩
      case measure=>simp [intOf];omega
     ·gi_wp2
      refine bodyPost_ret (results_none rfl _ _ _) rfl ?_;exact ⟨⟨_,rfl⟩,.inr ⟨_,trivial,C⟩⟩
    ·obtain rfl:r=16:=by omega
     gi_wp2
     go_roundw
     case rel=>exact ⟨k+1,hkm,by go_num,⟨d,by unfold HzD;rw [c.o];congr 1,E⟩,h⟩
     case measure=>simp [intOf];omega
  ·obtain rfl:k=m:=by omega
   gi_wp2
   go_end0
   exact ⟨⟨_,rfl⟩,.inl ⟨a,by rw [A.o,hN.o],F⟩⟩

theorem IB (ao:OA) (b a:Nat) (w:World) :
  ClZ 243 #[.slice ao b a] w fun e w'=>e=.returned (.func (.func 257) #[] #[.pointer (some ⟨w.heap.size,0,none⟩)])/\w'=w.alloc (.cells #[.slice ao b a] 23):=by
 delta ClZ;go_in;go_wp2;go_ret;exact ⟨rfl,rfl⟩

theorem Ei (n:Nat) (hn:1<=n) (Bs L N:Nat) (g:Nat->Nat) (v:Value) (ys:LN) (hd:Digs ys) (hL:ys.length=L) (hN:16*L=N) (hb:L<=1000000) (hg:∀ j,xG ys L j=g j) (S:Nat->Prop) (hS:S Bs) (a:∀ b,v.ownBlock=some b->0<L->S b)
  (w:World) (d:∀ k,S k->k<w.heap.size) (c:w.cell? ⟨Bs,0,none⟩=some v) (hr:Row .u64 w v ys) :
  SeqStopsK Fence.wide n prog 257 #[.pointer (some ⟨Bs,0,none⟩)] (fun x:Fin N=>#[Value.int .u64 (g x.val:Nat)]) (KeepB S) (fun zs=>zs.map Fin.val=List.range N) (fun _=>True) N w:=fun l J Jx W hW _ _ hY h0=>by
 have hk:KeepB S w W:=fun k hk=>hW.block k (d k hk)
 exact Mj n hn l Bs L N g v ys hd hL hN hb hg S hS a J Jx hY W ((hk.cell (p:=⟨Bs,0,none⟩) hS).trans c) (hk.row (fun b hb hp=>a b hb (by omega)) hr) h0

theorem qI {o:Tr} (ht:TrIn w o) {b:Nat} (hb:dr o b):∃ c ty f,w.heap[b]? = some (.cells c ty f):=by
 cases o with
 | none=>exact hb.elim
 | some x=>
  obtain ⟨p,g,l⟩:=x;obtain ⟨⟨u,s,hp,hg,hr,_⟩,_⟩:=ht;rcases hb with rfl | hb
  ·exact ⟨_,_,_,hp⟩
  ·rcases hr.2 with ⟨rfl,_⟩ | ⟨g2,cap2,cur2,rfl,_,hgg2,_⟩
   ·rw [<- hg] at hb;cases hb
   ·rw [<- hg] at hb;have e:g2=b:=by simpa [Value.ownBlock] using hb
    subst e;exact ⟨_,_,_,hgg2⟩

structure RSt (W0 W w:World) (o o1 oc:Tr) (bP n V P:Nat) (qv:Value) (m:List Ev):Prop where
 box:Box w bP qv 23
 num:MonAt w qv n V P
 did:Did W0 o m w oc
 kept:Kept (fun b=>b=bP\/dr o1 b) W w
 foot:∀ b,b<W.heap.size->dr oc b->dr o1 b

theorem RSt.step {o od:Tr} {mm:List Ev} (h:RSt W0 W w o o1 oc bP n V P qv m) (ht:TrIn w oc) (d:Did w oc mm w' od):RSt W0 W w' o o1 od bP n V P qv (m ++ mm):=
 ⟨h.box.did d ht,h.num.did d ht,h.did.trans d,h.kept.next d.kept (fun x hx f=>.inr (h.foot x hx f)),fun b hb f=>h.foot b hb (d.foot (bi hb h.kept.size) f)⟩

theorem RSt.put {o:Tr} {Q:Nat} {zv:Value} (h:RSt W0 W w o o1 oc bP n V P qv m) (ht:TrIn w oc) (hz:MonAt w zv n V Q) (hb:W0.heap.size<=bP):RSt W0 W (w.setCell ⟨bP,0,none⟩ zv) o o1 oc bP n V Q zv m:=by
 have kb:=aF w bP zv;have c:∀ b,zv.ownBlock=some b->¬ b=bP:=fun b e f=>by
  subst f;obtain ⟨cs,fr,hg⟩:=hz.2 b e;have a:w.heap[b]? = _:=h.box;rw [a] at hg;simp only [iI,Obj.cells.injEq] at hg;exact absurd hg.2.1 (by decide)
 exact ⟨h.box.set zv,hz.kept kb c,h.did.wroteNew kb hb (h.box.apart ht),h.kept.next kb (fun x _ e=>.inl e),h.foot⟩

theorem RSt.drew {o:Tr} (h:RSt W0 W w o o1 oc bP n V P qv m):RSt W0 W w.drew o o1 oc bP n V P qv m:=
 ⟨h.box,h.num.g (ah af w).drew,h.did.g (ah af w).drew,h.kept.drew,h.foot⟩

def ko (n:Nat):List Ev:=List.replicate 16 (1,(n:Int),0)

def rF (n:Nat):List Ev:=(List.replicate 4 (gC n)).flatten ++ (ko n ++ gC n)

theorem zj (h:n<=130):(rF n).length<=11000:=by
 obtain ⟨h1,_,_⟩:=ix h;have h2:=lY h1 4;unfold rF ko;rw [bk,bk,bw];omega

theorem pp (n:Nat):∀ k,gM (fun _=>n) (k+1)=n
 | 0=>by simp [gM]
 | k+1=>by
  have:=pp n k;rw [gM,this];simp

theorem Ld (o:Tr) (g c n V X i:Nat) (A:Nat->OA) (C:Nat->Nat) (w0 w:World) (xv:Value) (ht:TrRoom w o 2000) (hV:0<V) (b:V<18446744073709551616^n) (hn:n<=130) (hT:Tab8 w0 w xv (.slice (some ⟨g,0,none⟩) 16 c) n 16 A C V X) (hi:i<16) :
  ClZ 245 #[aP o,.slice (some ⟨g,0,none⟩) 16 c,.int .u64 (i:Nat)] w fun e w'=>∃ zo zc,e=.returned (.slice zo n zc)/\MonAt w' (.slice zo n zc) n V (X^i)/\Fresh w (.slice zo n zc)/\∃ o',Did w o (ko n) w' o':=by
 have f:gM (fun _=>n) 16=n:=pp n 15;refine (Jo o (some ⟨g,0,none⟩) 16 c A (fun _=>n) C (fun j=>digs (mon n V (X^j)) n) i (by omega) w (ht.l (by omega)) (fun j hj=>⟨g,0,rfl,by rw [dU];exact hT.at hj⟩) (fun _ a e=>by cases e;exact nd hT.1 ht.1 g rfl) (fun p hp=>(hT.2 p hp).1.2.rowT (hT.2 p hp).1.1 ht.1) (fun p hp=>ak (by omega) _ _) (fun _ _=>by omega) (by omega)).mono ?_;rintro e w' ⟨v',rfl,ho,o',d⟩;rw [f] at ho d;have hp:iB (fun p=>val (digs (mon n V (X^p)) n)) i 16=mon n V (X^i):=by
  unfold iB;rw [ai hi];exact lH hV b
 rw [hp] at ho;have hA:MonAt w' v' n V (X^i):=⟨dz ho (ag _ _ _),U64s.own ho⟩
 obtain ⟨zo,zc,rfl⟩:=hA.s;exact ⟨zo,zc,rfl,hA,Fresh.own ho (leR _),o',d⟩

attribute [local go_sem] Oper.semAt_some

def jq (n L k:Nat):List Ev:=(1,(L:Int),0) :: (List.replicate k (rF n)).flatten

theorem xp (n L k:Nat):jq n L (k+1)=jq n L k ++ rF n:=by
 unfold jq;rw [iq,List.flatten_append,fJ];simp

theorem lK (h:n<=130) (L k:Nat):(jq n L k).length<=1+k*11000:=by
 have:=lY (zj h) k;unfold jq;rw [dh];omega

def nt {N:Nat} (g:Nat->Nat) (pre:List (Fin N)):Nat:=zk (pre.map fun x=>g x.val)

theorem Bz (g:Nat->Nat) (a:List (Fin N)) (x:Fin N):nt g (a ++ [x])=16*nt g a+g x.val:=by
 unfold nt;rw [dR,jP,kY,sN]

theorem Ej {g:Nat->Nat} {ys:List (Fin N)} (h:ys.map Fin.val=List.range N):nt g ys=zk ((List.range N).map g):=by
 unfold nt;rw [<- h,List.map_map];rfl

def Btw (W0:World) (o:Tr) (bP n V X L:Nat) (ev:Value) {N:Nat} (g:Nat->Nat) (pre:List (Fin N)) (W:World):Prop:=
 ∃ (o1:Tr) (qo:OA) (qc:Nat),Box W bP (.slice qo n qc) 23/\MonAt W (.slice qo n qc) n V (X^nt g pre)/\Did W0 o (jq n L pre.length) W o1/\Box W (bP+1) ev 23

theorem Btw.turn {o:Tr} {X L B:Nat} {ev:Value} {g:Nat->Nat} {a:List (Fin N)} {W':World} (h:Btw W0 o bP n V X L ev g a W) (t:Turn B W W') (hB:W0.heap.size<=B):Btw W0 o bP n V X L ev g a W':=by
 obtain ⟨o1,qo,qc,h1,h2,h3,h4⟩:=h;exact ⟨o1,qo,qc,t.cells h1,⟨t.row h2.1,t.u64s h2.2⟩,t.did h3 hB,t.cells h4⟩

def Ge (bT:Nat) (po ao bo:OA) (n l0 K mcap rcap gT cT:Nat) (W:World):Prop:=
 W.cell? ⟨bT,0,none⟩=some (.pointer po)/\W.cell? ⟨bT+1,0,none⟩=some (.slice ao n mcap)/\W.cell? ⟨bT+1,1,none⟩=some (.int .u64 (K:Nat))/\W.cell? ⟨bT+1,2,none⟩=some (.slice bo l0 rcap)/\W.cell? ⟨bT+1+1,0,none⟩=some (.slice (some ⟨gT,0,none⟩) 16 cT)

theorem F7 (o:Tr) (ao bo eo:OA) (n l0 K z E gT cT L y X:Nat) (A:Nat->OA) (C:Nat->Nat) (ms rs ys:LN) (xv:Value) (wT w:World) (ht:TrRoom w o 60000000) (hM:Mod8 w o ao bo n l0 K z E ms rs) (hT:Tab8 wT w xv (.slice (some ⟨gT,0,none⟩) 16 cT) n 16 A C (val ms) X)
  (he:RowT w o (.slice eo L y) ys) (a7:Digs ys) (hL:L<=300) :
  ClZ 214 #[aP o,.agg (mzA ao n z K bo l0 E),.slice (some ⟨gT,0,none⟩) 16 cT,.slice eo L y] w fun e w'=>∃ zo zc,e=.returned (.slice zo n zc)/\(Row .u64 w' (.slice zo n zc) (digs (X^val ys%val ms) n)/\U64s w' (.slice zo n zc))/\Fresh w (.slice zo n zc)/\∃ o',Did w o (jq n L (16*L) ++ mZ n) w' o':=by
 have aK:∀ args w,(callFunc 245 args).run prog w=.ok (.enter 245 args) w:=fun _ _=>by simp [go_sem]
 have aJ:∀ args w,(callFunc 105 args).run prog w=.ok (.enter 105 args) w:=fun _ _=>by simp [go_sem]
 have aI:∀ args w,(callFunc 244 args).run prog w=.ok (.enter 244 args) w:=fun _ _=>by simp [go_sem]
 obtain ⟨⟨f0,f1⟩,f2,f3,f4,f5⟩:=hM.a;obtain ⟨po,ay⟩:=aM o;obtain ⟨V,hV⟩:=aj (val ms)
 rw [<- hV] at f3 f4 f5 hT ⊢;obtain ⟨W0,an⟩:=aj (((w.alloc (.cells #[.pointer po] 57)).alloc (.cells (mzA ao n z K bo l0 E) 71)).alloc (.cells #[.slice (some ⟨gT,0,none⟩) 16 cT] 27))
 have k0:Kept af w W0:=by rw [an];exact (((ah af w).alloc _).alloc _).alloc _
 have bn:W0.heap.size=w.heap.size+1+1+1:=by rw [an];simp
 have a4:Box W0 w.heap.size (.pointer po) 57:=by rw [an];exact ((Box.new w _ _).alloc _).alloc _
 have aO:W0.heap[w.heap.size+1]? = some (.cells (mzA ao n z K bo l0 E) 71 (0,0)):=by
  rw [an];refine aw ?_;have:=heap_alloc_new (w.alloc (.cells #[.pointer po] 57)) (.cells (mzA ao n z K bo l0 E) 71)
  rwa [show (w.alloc (.cells #[.pointer po] 57)).heap.size=w.heap.size+1 by simp] at this
 have a3:Box W0 (w.heap.size+1+1) (.slice (some ⟨gT,0,none⟩) 16 cT) 27:=by
  rw [an];have:=Box.new ((w.alloc (.cells #[.pointer po] 57)).alloc (.cells (mzA ao n z K bo l0 E) 71)) (.slice (some ⟨gT,0,none⟩) 16 cT) 27
  rwa [show ((w.alloc (.cells #[.pointer po] 57)).alloc (.cells (mzA ao n z K bo l0 E) 71)).heap.size=w.heap.size+1+1 by simp] at this
 have T:=aa (ht.g k0);have JC:HzD (∀ W m o',Did W0 o m W o'->Ge w.heap.size po ao bo n l0 K z E gT cT W):=fun W m o' d=>by
  obtain ⟨q0,q1,q2⟩:=ax ((d.kept.block _ (lt_of_block aO) (aH aO T.o.1)).trans aO);exact ⟨(a4.did d T.o.1).cell,q0,q1,q2,(a3.did d T.o.1).cell⟩
 have al:HzD (∀ W m o' yo yc zo zc P Q,Did W0 o m W o'->TrRoom W o' 2000->MonAt W (.slice yo n yc) n V P->MonAt W (.slice zo n zc) n V Q->ClZ 105 #[.pointer po,.agg (mzA ao n z K bo l0 E),.slice yo n yc,.slice zo n zc] W fun e w'=>∃ ro rc,e=.returned (.tuple #[.slice ro n rc,.int .i64 0])/\MonAt w' (.slice ro n rc) n V (P*Q)/\Fresh W (.slice ro n rc)/\∃ o2,Did W o' (gC n) w' o2):=fun W m o' yo yc zo zc P Q d hr hA hB=>by
  rw [hV] at hA hB;have:=Jy o' ao bo yo zo n l0 K z E yc zc P Q ms rs W hr ((hM.g k0).did d) hA hB;rw [d.ptr,ay,<- hV] at this;exact this
 have aB:HzD (∀ W m o' i,Did W0 o m W o'->TrRoom W o' 2000->i<16->ClZ 245 #[.pointer po,.slice (some ⟨gT,0,none⟩) 16 cT,.int .u64 (i:Nat)] W fun e w'=>∃ ro rc,e=.returned (.slice ro n rc)/\MonAt w' (.slice ro n rc) n V (X^i)/\Fresh W (.slice ro n rc)/\∃ o2,Did W o' (ko n) w' o2):=fun W m o' i d hr hi=>by
  have:=Ld o' gT cT n V X i A C wT W xv hr (by omega) f5 f1 ((hT.g k0).did d T.o.1) hi;rw [d.ptr,ay] at this;exact this
 have aT:HzD (∀ W m o' yo yc P,Did W0 o m W o'->TrRoom W o' 2000->MonAt W (.slice yo n yc) n V P->ClZ 69 #[.pointer po,.agg (mzA ao n z K bo l0 E),.slice yo n yc] W fun e w'=>∃ zo zc,e=.returned (.tuple #[.slice zo n zc,.int .i64 0])/\(Row .u64 w' (.slice zo n zc) (digs (P%V) n)/\U64s w' (.slice zo n zc))/\Fresh W (.slice zo n zc)/\∃ o2,Did W o' (mZ n) w' o2):=fun W m o' yo yc P d hr hA=>by
  rw [hV] at hA;have:=LX o' ao bo yo n l0 K z E yc P ms rs W hr ((hM.g k0).did d) hA;rw [d.ptr,ay,<- hV] at this;exact this
 have ab:HzD (ClZ 116 #[.pointer po,.int .i64 (L:Int)] W0 fun r w'=>r=.returned (.tuple #[])/\∃ o',Did W0 o [(1,(L:Int),0)] w' o'):=by
  have:=gh o (L:Int) W0 T.o.1;rw [ay] at this;exact this
 have aU:HzD (∀ W m o',Did W0 o m W o'->Tab8 wT W xv (.slice (some ⟨gT,0,none⟩) 16 cT) n 16 A C V X):=fun W m o' d=>(hT.g k0).did d T.o.1
 have aC:HzD (∀ W m o',Did W0 o m W o'->RowT W o' (.slice eo L y) ys):=fun W m o' d=>(he.g k0).did d
 obtain ⟨_,_,_,e1,Y,_⟩:=he.1.open;cases e1
 have ai:=aa Y;have ak:HzD (∀ b,(Value.slice eo L y).ownBlock=some b->0<L->b<w.heap.size):=fun b hb hp=>he.1.lt (by intro e;rw [e] at Y;have:=Y.o;simp at this;omega) b hb
 have bg:=aa an;have aq:=aa k0;have ag:=aa f1;obtain ⟨c0,c1,c2,c3,c4⟩:=JC.o _ _ _ (Did.of_kept (ah af W0) T.o.1);have hS:=ab.o;rw [ay];clear an k0 bn a4 aO a3 ht hM hT he Y ay hV f2 f3 ab;refine (callsIn_wide (n:=9)).1 ?_;refine callsIn_of_wp_marks func214 rfl trivial ?_ rfl;simp only [ntmps214,iW,dh,fB,Nat.reduceAdd,Nat.reduceSub,iS,iT,iV,iU,bZ,fJ];refine wpIn_wide.2 ?_;go_wp2_with fail;rw [<- bg.o];refine hS.mono ?_;rintro e W1 ⟨rfl,o1,d1⟩;obtain ⟨q0,q1,q2,q3,q4⟩:=JC.o _ _ _ d1
 have N:=aU.o _ _ _ d1;have bl:=N.at (j:=0) (by omega);clear hS c0 c1 c2 c3 c4;go_wp2_with fail;have a5:=IB eo L y (W1.alloc (.cells #[.slice (A 0) n (C 0)] 23));refine a5.mono ?_;rintro e W3 ⟨rfl,rfl⟩;have kP:Kept af W1 (W1.alloc (.cells #[.slice (A 0) n (C 0)] 23)):=(ah af W1).alloc _;have kE:=kP.alloc (.cells #[.slice eo L y] 23);have a2:=(Box.new W1 (.slice (A 0) n (C 0)) 23).alloc (.cells #[.slice eo L y] 23);have aV:=Box.new (W1.alloc (.cells #[.slice (A 0) n (C 0)] 23)) (.slice eo L y) 23;have bm:((W1.alloc (.cells #[.slice (A 0) n (C 0)] 23)).alloc (.cells #[.slice eo L y] 23)).heap.size=W1.heap.size+2:=by simp
 rw [World.size_alloc] at aV;have d3:=d1.g kE;have aZ:=(aC.o _ _ _ d3).1;have ae:=(N.2 0 (by omega)).1.g kE;obtain ⟨g,hg⟩:∃ g:Nat->Nat,∀ j,xG ys L j=g j:=⟨_,fun _=>rfl⟩
 have HG:=aa hg;have aY:W0.heap.size<=W1.heap.size:=d1.size;have bb:=aa d3;have a9:=aa a2;have bf:=aa ae;clear a5 q0 q1 q2 q3 q4 N bl kP a2 ae d3 d1;go_wp2_with fail;generalize (W1.alloc (.cells #[.slice (A 0) n (C 0)] 23)).alloc (.cells #[.slice eo L y] 23)=W3 at *;refine (wpIn_wide (n:=9)).1 ?_;refine wpIn_rangeFunc_ownG (F:=Fence.wide) (n:=9) rfl (by omega) (gf:=257) (lb:=#[.pointer (some ⟨W1.heap.size+1,0,none⟩)]) rfl trivial (enters_of func257 (by kernel_rfl) rfl)
  (Ei 8 (by omega) (W1.heap.size+1) L (16*L) g (.slice eo L y) ys a7 ai.o.o rfl (by omega) hg (fun k=>k=W1.heap.size+1\/((Value.slice eo L y).ownBlock=some k/\0<L)) (.inl rfl) (fun b hb hp=>.inr ⟨hb,hp⟩) _ ?hsw aV.cell aZ) KeepB.trans (KeepB.put ?hsw2) (Below.refl _ _) (fun _=>rfl)
  (Btw W0 o W1.heap.size n V X L (.slice eo L y) g) (fun _ _ _=>False)
  (om (fun s A B hs t=>hs.turn t (by rw [bm];omega))) (fun _ _ _ _ _ hs _ _=>hs)
  ⟨o1,A 0,C 0,a9.o,by have:=bf.o;exact this,by unfold jq;exact bb.o,aV⟩
  ?act ?assign ?body ?done ?stop
 case hsw=>
  rintro k (rfl | ⟨hk,hp⟩)
  ·omega
  ·have:=ak.o k hk hp;have:=aq.o.size;omega
 case hsw2=>
  rintro k (rfl | ⟨hk,hp⟩)
  ·omega
  ·have:=ak.o k hk hp;have:=aq.o.size;omega
 case assign=>
  intro l x W K hK
  gi_wp2
  exact hK
 case body=>
  rintro l H x W ⟨oc,qo,qc,av,O,hd,a6⟩ hlt;have p:TrRoom W oc 20000:=hd.room (T.o.l (by have:=lK ag.o L H.length;omega));have R0:HzD (RSt W0 W W o oc oc W1.heap.size n V (X^(nt g H*2^0)) (.slice qo n qc) (jq n L H.length ++ (List.replicate 0 (gC n)).flatten)):=by
   rw [cP,bI,fg,List.flatten_nil,dY];exact ⟨av,O,hd,ah _ _,fun _ _ f=>f⟩
  have Z:=aa p;have HD:=aa hd;have HX:HzD (g x.val<16):=by rw [<- HG.o];exact IC _ _ _
  have ba:=aa av;have aS:=aa a6;clear p av O hd a6
  gi_wp2_with fail
  gi_loopw [21] (fun q wr=>∃ (r:Nat) (od:Tr) (ro:OA) (rc:Nat),r<=4/\q=.int .i64 (r:Int)/\HzD (RSt W0 W wr o oc od W1.heap.size n V (X^(nt g H*2^r)) (.slice ro n rc) (jq n L H.length ++ (List.replicate r (gC n)).flatten))) (fun q _=>4-(intOf q).toNat)
  case atStart=>exact ⟨0,oc,qo,qc,by omega,rfl,R0.o⟩
  case round=>
   obtain ⟨r,od,ro,rc,hr,rfl,R⟩:=hrel;have p:TrRoom wr od 6000:=R.o.did.room (T.o.l (by
    have h1:=lK ag.o L H.length;have h2:=lY (ix ag.o).1 r;rw [bk];omega))
   obtain ⟨q0,q1,q2,q3,q4⟩:=JC.o _ _ _ R.o.did;have qP:=R.o.box.cell;have fP:=R.o.box.free;have aA:=aa p;by_cases hr4:r<4
   ·have gr:(r:Int)<4:=by omega
    have aD:=al.o wr _ od ro rc ro rc _ _ R.o.did (p.l (by omega)) R.o.num R.o.num;clear p
    gi_wp2_with fail
    refine ⟨trivial,?_⟩;refine (CallsIn.inRound l (callsIn_wide.2 aD)).mono ?_;rintro e w7 ⟨so,sc,rfl,ar,aX,o7,d7⟩;have R7:=aa (R.o.step aA.o.1 d7);have aN:TrIn w7 o7:=(d7.room (k:=0) (aA.o.l (by have:=(ix ag.o).1;omega))).1;have R8:=aa (R7.o.put aN ar aY);have bt:=R7.o.box.cell;have bs:=R7.o.box.free;have aF:=sM so n sc w7;clear aD ar aX d7 aN q0 q1 q2 q3 q4 qP fP
    gi_wp2_with fail
    refine ⟨trivial,?_⟩;refine (CallsIn.inRound l (callsIn_wide.2 aF)).mono ?_;rintro e w8 ⟨rfl,rfl⟩;clear aF
    gi_wp2_with fail
    go_roundw
    case rel=>
     refine ⟨r+1,o7,so,sc,by omega,by go_num,?_⟩;have:=R8.o;rw [<- aL,show nt g H*2^r+nt g H*2^r=nt g H*2^(r+1) by rw [aG,<- bd,Nat.mul_two],dX,show (List.replicate r (gC n)).flatten ++ gC n=(List.replicate (r+1) (gC n)).flatten by rw [iq,List.flatten_append];simp] at this;exact this
    case measure=>simp [intOf];omega
   ·obtain rfl:r=4:=by omega
    gi_wp2_with fail
    -- REGION 9 BEGINS
    have R9:=R.o.drew;have J:HzD (TrRoom wr.drew od 6000):=aA.o.g (ah af wr).drew;have au:=JC.o _ _ _ R9.did;have ac:=aB.o wr.drew _ od (g x.val) R9.did (J.o.l (by omega)) HX.o;have br:=R9.box.cell;have az:HzD (∀ (wE:World) (oE:Tr) (tq:OA) (tc:Nat),RSt W0 W wE o oc oE W1.heap.size n V (X^(nt g H*2^4)*X^g x.val) (.slice tq n tc) (jq n L H.length ++ (List.replicate 4 (gC n)).flatten ++ ko n ++ gC n)->KeepsFrom W3.heap.size W wE/\KeepB (fun k=>k=W1.heap.size+1\/((Value.slice eo L y).ownBlock=some k/\0<L)) W wE/\Btw W0 o W1.heap.size n V X L (.slice eo L y) g (H ++ [x]) wE):=fun wE oE tq tc RE=>by
     have a8:Box wE (W1.heap.size+1) (.slice eo L y) 23:=aS.o.kept RE.kept (by
      rintro (h | h)
      ·omega
      ·exact aS.o.apart Z.o.1 (by decide) (by decide) h)
     refine ⟨l8 RE.kept (fun b hb _=>?_),?_,oE,tq,tc,RE.box,?_,?_,a8⟩
     ·rcases hb with rfl | hb
      ·exact ⟨_,_,_,ba.o⟩
      ·exact qI Z.o.1 hb
     ·rintro k (rfl | ⟨hk,hp⟩)
      ·exact (show wE.heap[_]? = _ from a8).trans (show W.heap[_]? = _ from aS.o).symm
      ·have h1:=ak.o k hk hp;have h2:=aq.o.size;have h3:=HD.o.size;have h4:=(aC.o _ _ _ HD.o).2 (by intro e;have:=ai.o.o;rw [e] at this;simp at this;omega) k hk;refine RE.kept.block k (by omega) ?_;rintro (h | h)
       ·omega
       ·exact h4 h
     ·have:=RE.num;rw [<- aL,show nt g H*2^4+g x.val=nt g (H ++ [x]) by rw [Bz];omega] at this;exact this
     ·have:=RE.did;rw [dX,dX,show (List.replicate 4 (gC n)).flatten ++ (ko n ++ gC n)=rF n from rfl,<- xp] at this;rw [bk];exact this
    clear p q0 q1 q2 q3 q4 qP fP;refine tK (S:=Ge w.heap.size po ao bo n l0 K z E gT cT) (by kernel_rfl) (by kernel_rfl) (by rintro ⟨a,w,h⟩;exact h) ?_;refine wpAnyH_take (i:=0) (v:=.pointer po) rfl (by kernel_rfl) (by kernel_rfl) (by kernel_rfl) (fun _ _ _ h=>h) (Or.inl ⟨by rfl,fun w9 I=>?_⟩) au ?_
    ·obtain ⟨s0,s1,s2,s3,s4⟩:=I;go_simp
    simp only [Act.put,fL,fK,lsA,lsZ,lsS];refine wpAnyH_take (i:=1) (v:=.agg (mzA ao n z K bo l0 E)) rfl (by kernel_rfl) (by kernel_rfl) (by kernel_rfl) (fun _ _ _ h=>h) (Or.inl ⟨by rfl,fun w9 I=>?_⟩) au ?_
    ·obtain ⟨s0,s1,s2,s3,s4⟩:=I;go_simp
    simp only [Act.put,fL,gD,fK,lsA,lsZ,lsS];refine wpAnyH_take (i:=3) (v:=.pointer po) rfl (by kernel_rfl) (by kernel_rfl) (by kernel_rfl) (fun _ _ _ h=>h) (Or.inl ⟨by rfl,fun w9 I=>?_⟩) au ?_
    ·obtain ⟨s0,s1,s2,s3,s4⟩:=I;go_simp
    simp only [Act.put,fL,gD,fK,lsA,lsZ,lsS];refine wpAnyH_take (i:=4) (v:=.slice (some ⟨gT,0,none⟩) 16 cT) rfl (by kernel_rfl) (by kernel_rfl) (by kernel_rfl) (fun _ _ _ h=>h) (Or.inl ⟨by rfl,fun w9 I=>?_⟩) au ?_
    ·obtain ⟨s0,s1,s2,s3,s4⟩:=I;go_simp
    simp only [Act.put,fL,gD,fK,lsA,lsZ,lsS];refine wpAnyH_take (i:=5) (v:=.int .u64 (g x.val:Nat)) rfl (by kernel_rfl) (by kernel_rfl) (by kernel_rfl) (fun _ _ _ h=>h) (Or.inl ⟨by rfl,fun w9 I=>?_⟩) au ?_
    ·go_simp
    simp only [Act.put,fL,gD,fK,lsA,lsZ,lsS];refine wpAnyH_ready (rs:=[2,6]) (by kernel_rfl) (by simp) ?_;refine AllReadyH.cons rfl (fun K hK=>?_) (AllReadyH.cons rfl (fun K hK=>?_) AllReadyH.nil)
    ·go_simp
     refine hK.out _ _ au (fun _=>?_);refine wpAnyH_ready (rs:=[6]) (by kernel_rfl) (by simp) ?_;refine AllReadyH.cons rfl (fun K hK=>?_) AllReadyH.nil;refine iP 245 _ _ _ (by rfl) (by rfl) (by rfl) aK ac ?_;rintro e w7 ⟨so,sc,rfl,ar,aX,o7,d7⟩;have R7:=R9.step J.o.1 d7;have G:TrRoom w7 o7 4000:=d7.room (J.o.l (by unfold ko;simp));have aQ:=JC.o _ _ _ R7.did;have M:=al.o w7 _ o7 ro rc so sc _ _ R7.did (G.l (by omega)) R7.num ar;refine ⟨_,rfl,?_⟩;refine hK.out _ _ aQ (fun _=>?_);simp only [Act.put,fL,gD,fK,lsA,lsZ,lsS];refine wpAnyH_ready (rs:=[7]) (by kernel_rfl) (by simp) ?_
     refine AllReadyH.cons rfl (fun K hK=>?_) AllReadyH.nil;refine iP 105 _ _ _ (by rfl) (by rfl) (by rfl) aJ M ?_;rintro e w8 ⟨tq,tc,rfl,aW,bj,o8,d8⟩;have R8:=R7.step G.1 d8;have ap:TrIn w8 o8:=(d8.room (k:=0) (G.l (by have:=(ix ag.o).1;omega))).1;have U:=JC.o _ _ _ R8.did;have bh:=R8.box.cell;have bi:=R8.box.free;refine ⟨_,rfl,?_⟩;refine hK.out _ _ U (fun _=>?_);simp only [Act.put,fL,gD,fK,lsA,lsZ,lsS];refine wpAnyH_take (i:=8) (v:=.slice tq n tc) rfl (by kernel_rfl) (by kernel_rfl) (by kernel_rfl) (fun _ _ _ h=>h) (Or.inl ⟨by rfl,fun w9 I=>?_⟩) U ?_
     ·go_simp
     simp only [Act.put,fL,gD,fK,lsA,lsZ,lsS];refine wpAnyH_take (i:=9) (v:=.int .i64 0) rfl (by kernel_rfl) (by kernel_rfl) (by kernel_rfl) (fun _ _ _ h=>h) (Or.inl ⟨by rfl,fun w9 I=>?_⟩) U ?_
     ·go_simp
     simp only [Act.put,fL,gD,fK,lsA,lsZ,lsS];refine wpAnyH_ready (rs:=[10]) (by kernel_rfl) (by simp) ?_;refine AllReadyH.cons rfl (fun K hK=>?_) AllReadyH.nil;refine iP 244 _ _ _ (by rfl) (by rfl) (by rfl) aI (sM tq n tc w8) ?_;rintro e bp ⟨rfl,rfl⟩;refine ⟨_,rfl,?_⟩;refine hK.out _ _ U (fun _=>?_);simp only [Act.put,fL,gD,fK,lsA,lsZ,lsS];refine wpAnyH_ready (rs:=[11]) (by kernel_rfl) (by simp) ?_;refine AllReadyH.cons rfl (fun K hK=>?_) AllReadyH.nil;go_simp
     have RE:=R8.put ap aW aY;refine hK.out _ _ (JC.o _ _ _ RE.did) (fun _=>?_);refine wpAnyH_done (by kernel_rfl) ?_ _;exact az.o _ _ _ _ RE
    ·refine iP 245 _ _ _ (by rfl) (by rfl) (by rfl) aK ac ?_;rintro e w7 ⟨so,sc,rfl,ar,aX,o7,d7⟩;have R7:=R9.step J.o.1 d7;have G:TrRoom w7 o7 4000:=d7.room (J.o.l (by unfold ko;simp));have aQ:=JC.o _ _ _ R7.did;have bq:=R7.box.cell;have M:=al.o w7 _ o7 ro rc so sc _ _ R7.did (G.l (by omega)) R7.num ar;refine ⟨_,rfl,?_⟩;refine hK.out _ _ aQ (fun _=>?_);simp only [Act.put,fL,gD,fK,lsA,lsZ,lsS];refine wpAnyH_ready (rs:=[2]) (by kernel_rfl) (by simp) ?_;refine AllReadyH.cons rfl (fun K hK=>?_) AllReadyH.nil;go_simp
     refine hK.out _ _ aQ (fun _=>?_);refine wpAnyH_ready (rs:=[7]) (by kernel_rfl) (by simp) ?_;refine AllReadyH.cons rfl (fun K hK=>?_) AllReadyH.nil;refine iP 105 _ _ _ (by rfl) (by rfl) (by rfl) aJ M ?_;rintro e w8 ⟨tq,tc,rfl,aW,bj,o8,d8⟩;have R8:=R7.step G.1 d8;have ap:TrIn w8 o8:=(d8.room (k:=0) (G.l (by have:=(ix ag.o).1;omega))).1;have U:=JC.o _ _ _ R8.did;have bh:=R8.box.cell;have bi:=R8.box.free;refine ⟨_,rfl,?_⟩;refine hK.out _ _ U (fun _=>?_);simp only [Act.put,fL,gD,fK,lsA,lsZ,lsS]
     refine wpAnyH_take (i:=8) (v:=.slice tq n tc) rfl (by kernel_rfl) (by kernel_rfl) (by kernel_rfl) (fun _ _ _ h=>h) (Or.inl ⟨by rfl,fun w9 I=>?_⟩) U ?_
     ·go_simp
     simp only [Act.put,fL,gD,fK,lsA,lsZ,lsS];refine wpAnyH_take (i:=9) (v:=.int .i64 0) rfl (by kernel_rfl) (by kernel_rfl) (by kernel_rfl) (fun _ _ _ h=>h) (Or.inl ⟨by rfl,fun w9 I=>?_⟩) U ?_
     ·go_simp
     simp only [Act.put,fL,gD,fK,lsA,lsZ,lsS];refine wpAnyH_ready (rs:=[10]) (by kernel_rfl) (by simp) ?_;refine AllReadyH.cons rfl (fun K hK=>?_) AllReadyH.nil;refine iP 244 _ _ _ (by rfl) (by rfl) (by rfl) aI (sM tq n tc w8) ?_;rintro e bp ⟨rfl,rfl⟩;refine ⟨_,rfl,?_⟩;refine hK.out _ _ U (fun _=>?_);simp only [Act.put,fL,gD,fK,lsA,lsZ,lsS];refine wpAnyH_ready (rs:=[11]) (by kernel_rfl) (by simp) ?_;refine AllReadyH.cons rfl (fun K hK=>?_) AllReadyH.nil;go_simp
     have RE:=R8.put ap aW aY;refine hK.out _ _ (JC.o _ _ _ RE.did) (fun _=>?_);refine wpAnyH_done (by kernel_rfl) ?_ _;exact az.o _ _ _ _ RE
    -- REGION 9 ENDS
 case done=>
  rintro D zs W hD aR ⟨oc,qo,qc,av,O,hd,_⟩ hK;obtain ⟨q0,q1,q2,q3,q4⟩:=JC.o _ _ _ hd;have p:TrRoom W oc 3000:=hd.room (T.o.l (by
   have h1:=lK ag.o L zs.length;have h2:=congrArg List.length aR;rw [cJ,mn] at h2;omega))
  have qP:=av.cell;have am:=aT.o W _ oc qo qc _ hd (p.l (by omega)) O;have hE:nt g zs=val ys:=by
   rw [Ej aR,<- Ga a7 ai.o.o]
   congr 1
   exact List.map_congr_left (fun j _=>(HG.o j).symm)
  have ad:zs.length=16*L:=by
   have h2:=congrArg List.length aR
   rwa [cJ,mn] at h2
  rw [hE] at am;rw [ad] at hd;have HD:=aa hd;have aA:=aa p;clear hE ad aR hd p O av hg;go_wp2_with fail;refine am.mono ?_;rintro e W4 ⟨zo,zc,rfl,aE,hF,o4,d4⟩;have aF:=sM zo n zc W4;have a1:=aa aE;have be:=aa hF;have a0:HzD (W4.heap[D]? = some (.deferred (some []))):=(d4.kept.block D (mf.1 hK).1 (fun f=>by
   obtain ⟨c,ty,fr,h⟩:=qI aA.o.1 f;rw [hK] at h;cases h)).trans hK
  have bc:=aa (HD.o.trans d4);clear am aE hF d4 hK q0 q1 q2 q3 q4 qP;go_wp2_with fail;refine aF.mono ?_;rintro e W5 ⟨rfl,rfl⟩;clear aF;go_wp2_with fail;refine ⟨by simp,.inl ⟨_,_,rfl,run_takeDeferred a0.o,?_⟩⟩;have tt:=xy (B:=W3.heap.size) hD a0.o rfl (.deferred none);exact ⟨_,results_tmp rfl _ _ _,zo,zc,rfl,⟨tt.row a1.o.1,tt.u64s a1.o.2⟩,fun b hb=>by have h1:=be.o b hb;have h2:=HD.o.size;have h3:=aq.o.size;omega,o4,tt.did (Did.b aq.o bc.o) (by have h2:=kE.size;have h3:=aq.o.size;omega)⟩
 case stop=>
  rintro D c H W _ _ h _;exact h.elim

theorem FY (o:Tr) (ao bo xo eo:OA) (n l K a i N1 xc L j f:Nat) (p:Array Value) (ms rs xs:LN) (E rm:Nat) (dE:List Ev) (G:Nat->Nat->Nat->World->Value->Prop) (w:World) (ar:dE.length<=rm)
  (ht:TrRoom w o (4000+rm)) (hm:RowT w o (.slice ao n a) ms) (hr:RowT w o (.slice bo l i) rs) (hx:RowT w o (.slice xo N1 xc) xs) (ai:Digs ms) (al:Digs rs) (ag:Digs xs) (hK:K<18446744073709551616) (ak:n<=300)
  (hf:∀ args w,(callFunc f args).run prog w=.ok (.enter f args) w)
  (ae:∀ wc,Kept af w wc->∀ W m o' H I C l' K' J N B z P X,Did w o m W o'->TrRoom W o' rm->Mod8 W o' H I n l' K' J N z P->MonAt W (.slice C n B) n (val z) X->Fresh wc (.slice C n B)->wc.heap.size<=W.heap.size->L<=300->ClZ f (#[.agg (mzA H n J K' I l' N),.slice C n B] ++ p) W fun e w'=>∃ zo zn zc,e=.returned (.slice zo zn zc)/\G wc.heap.size (val z) X w' (.slice zo zn zc)/\∃ o2,Did W o' dE w' o2)
  (hG:∀ b0 V X W W' v,G b0 V X W v->Kept (fun b=>b<b0) W W'->G b0 V X W' v)
  (hE:E=0↔okMod ms K rs/\(N1=n/\val xs<val ms)) (U:E<=1) :
  ClZ 212 #[aP o,.agg (mzA ao n a K bo l i),.slice xo N1 xc,.slice eo L j,.func (.func f) #[] p] w fun e w'=>∃ (zo:OA) (zn zc c:Nat),e=.returned (.tuple #[.slice zo zn zc,.int .i64 (c:Int)]) /\
   ((E=0/\L<=300/\c=0/\(∃ b0,w.heap.size<=b0/\G b0 (val ms) (val xs) w' (.slice zo zn zc))/\∃ o',Did w o (jM n ++ dE) w' o') \/
   (((E=1/\c=1)\/(E=0/\300<L/\c=2))/\Value.slice zo zn zc=.slice none 0 0/\∃ m o',Did w o m w' o')):=by
 have he:∀ args w,(callFunc 239 args).run prog w=.ok (.enter 239 args) w:=fun _ _=>by simp [go_sem]
 obtain ⟨po,O⟩:=aM o;obtain ⟨W,hW⟩:=aj ((((((w.alloc (.cells #[.pointer po] 57)).alloc (.cells (mzA ao n a K bo l i) 71)).alloc (.cells #[.slice xo N1 xc] 23)).alloc (.cells #[.slice eo L j] 23)).alloc (.cells #[.func (.func f) #[] p] 206)).alloc (.cells #[.slice none 0 0] 23))
 have k0:Kept af w W:=by rw [hW];exact ((((((ah af w).alloc _).alloc _).alloc _).alloc _).alloc _).alloc _
 have am:W.heap.size=w.heap.size+1+1+1+1+1+1:=by rw [hW];simp
 have ac:Box W w.heap.size (.pointer po) 57:=by rw [hW];exact (((((Box.new w _ _).alloc _).alloc _).alloc _).alloc _).alloc _
 have Z:W.heap[w.heap.size+1]? = some (.cells (mzA ao n a K bo l i) 71 (0,0)):=by
  rw [hW];refine aw (aw (aw (aw ?_)));have:=heap_alloc_new (w.alloc (.cells #[.pointer po] 57)) (.cells (mzA ao n a K bo l i) 71)
  rwa [show (w.alloc (.cells #[.pointer po] 57)).heap.size=w.heap.size+1 by simp] at this
 have R:Box W (w.heap.size+1+1) (.slice xo N1 xc) 23:=by
  rw [hW];refine Box.alloc (Box.alloc (Box.alloc ?_ _) _) _;have:=Box.new ((w.alloc (.cells #[.pointer po] 57)).alloc (.cells (mzA ao n a K bo l i) 71)) (.slice xo N1 xc) 23
  rwa [show ((w.alloc (.cells #[.pointer po] 57)).alloc (.cells (mzA ao n a K bo l i) 71)).heap.size=w.heap.size+1+1 by simp] at this
 have T:Box W (w.heap.size+1+1+1) (.slice eo L j) 23:=by
  rw [hW];refine Box.alloc (Box.alloc ?_ _) _;have:=Box.new (((w.alloc (.cells #[.pointer po] 57)).alloc (.cells (mzA ao n a K bo l i) 71)).alloc (.cells #[.slice xo N1 xc] 23)) (.slice eo L j) 23
  rwa [show (((w.alloc (.cells #[.pointer po] 57)).alloc (.cells (mzA ao n a K bo l i) 71)).alloc (.cells #[.slice xo N1 xc] 23)).heap.size=w.heap.size+1+1+1 by simp] at this
 have Y:Box W (w.heap.size+1+1+1+1) (.func (.func f) #[] p) 206:=by
  rw [hW];refine Box.alloc ?_ _;have:=Box.new ((((w.alloc (.cells #[.pointer po] 57)).alloc (.cells (mzA ao n a K bo l i) 71)).alloc (.cells #[.slice xo N1 xc] 23)).alloc (.cells #[.slice eo L j] 23)) (.func (.func f) #[] p) 206
  rwa [show ((((w.alloc (.cells #[.pointer po] 57)).alloc (.cells (mzA ao n a K bo l i) 71)).alloc (.cells #[.slice xo N1 xc] 23)).alloc (.cells #[.slice eo L j] 23)).heap.size=w.heap.size+1+1+1+1 by simp] at this
 have ab:Box W (w.heap.size+1+1+1+1+1) (.slice none 0 0) 23:=by
  rw [hW];refine ?_;have:=Box.new (((((w.alloc (.cells #[.pointer po] 57)).alloc (.cells (mzA ao n a K bo l i) 71)).alloc (.cells #[.slice xo N1 xc] 23)).alloc (.cells #[.slice eo L j] 23)).alloc (.cells #[.func (.func f) #[] p] 206)) (.slice none 0 0) 23
  rwa [show (((((w.alloc (.cells #[.pointer po] 57)).alloc (.cells (mzA ao n a K bo l i) 71)).alloc (.cells #[.slice xo N1 xc] 23)).alloc (.cells #[.slice eo L j] 23)).alloc (.cells #[.func (.func f) #[] p] 206)).heap.size=w.heap.size+1+1+1+1+1 by simp] at this
 have k1:=k0.alloc (.cells #[.int .i64 0] 35);have xe:=Box.new W (.int .i64 0) 35;have t:(W.alloc (.cells #[.int .i64 0] 35)).heap.size=W.heap.size+1:=by simp
 have h1:=Ec o ao bo xo eo n l K a i N1 xc L j f p ms rs xs w.heap.size (w.heap.size+1) (w.heap.size+1+1) (w.heap.size+1+1+1) (w.heap.size+1+1+1+1) (w.heap.size+1+1+1+1+1) W.heap.size E rm dE (G (W.heap.size+1)) w _ ar ht k1 hm hr hx ai al ag hK ak ⟨by omega,by omega⟩ ⟨by omega,by omega,by omega⟩ (by rw [O];exact ac.alloc _) (aw Z) (R.alloc _) (T.alloc _) (Y.alloc _) (ab.alloc _) xe hf
  (fun W' m o' H I C l' K' J N B z P X d r M A F k hL=>by
   have:=ae _ k1 W' m o' H I C l' K' J N B z P X d r M A F k.size hL
   rwa [t] at this)
  (fun V X W1 W2 v g k=>hG _ V X W1 W2 v g (by rwa [t] at k)) hE U
 have S:=Ed 239 #[.pointer (some ⟨w.heap.size,0,none⟩),.pointer (some ⟨w.heap.size+1,0,none⟩),.pointer (some ⟨w.heap.size+1+1,0,none⟩),.pointer (some ⟨w.heap.size+1+1+1,0,none⟩),.pointer (some ⟨w.heap.size+1+1+1+1,0,none⟩),.pointer (some ⟨w.heap.size+1+1+1+1+1,0,none⟩)] W
  (fun c W'=>∃ (zo:OA) (zn zc k:Nat) (m:List Ev) (o':Tr),c=(k:Int)/\Left8 w (W.alloc (.cells #[.int .i64 0] 35)) W' o o' W.heap.size (w.heap.size+1+1+1+1+1) rm (.slice zo zn zc) 23 m/\((E=0/\L<=300/\k=0/\m=jM n ++ dE/\G (W.heap.size+1) (val ms) (val xs) W' (.slice zo zn zc))\/(((E=1/\k=1)\/(E=0/\300<L/\k=2))/\Value.slice zo zn zc=.slice none 0 0))) he (h1.mono (by
  rintro e w' (⟨e0,hL,rfl,zo,zn,zc,o',hl,hg⟩ | ⟨c,hc,rfl,m,o',hl⟩)
  ·exact ⟨hl.err,.inl ⟨rfl,zo,zn,zc,0,_,o',rfl,hl,.inl ⟨e0,hL,rfl,rfl,hg⟩⟩⟩
  ·exact ⟨hl.err,.inr ⟨_,rfl,none,0,0,c,m,o',rfl,hl,.inr ⟨hc,rfl⟩⟩⟩))
 have HW:=aa hW;have D:=aa am;have HT:=aa ht;have Q:=aa hG;rw [O];clear h1 hm hr hx ai al ag hK ak ae hE U hW k0 k1 Z ab R T Y ac xe he am t ht O hf hG;delta ClZ;go_in;go_wp2_with (rw [<- HW.o]);refine S.mono ?_;rintro e w' ⟨c,w1,rfl,⟨⟨zo,zn,zc,k,m,o1,rfl,hl,s⟩,ad⟩,rfl⟩;have y:Box w1 W.heap.size (.int .i64 0) 35:=ad;have k3:=aF w1 W.heap.size (.int .i64 (k:Int));have aq:w.heap.size+1+1+1+1+1≠W.heap.size:=by have:=D.o;omega
 have an:TrIn w1 o1:=(hl.did.room (k:=0) (HT.o.l (by have:=hl.len;omega))).1;have x:=hl.o.other ⟨W.heap.size,0,none⟩ aq (.int .i64 (k:Int));have d3:=hl.did.wroteNew k3 (by have:=D.o;omega) (y.apart an);have ap:TrIn (w1.setCell ⟨W.heap.size,0,none⟩ (.int .i64 (k:Int))) o1:=(d3.room (k:=0) (HT.o.l (by have:=hl.len;omega))).1;have q:=s.imp (fun h=>(⟨h.1,h.2.1,h.2.2.1,h.2.2.2.1,Q.o _ _ _ _ _ _ h.2.2.2.2 (k3.mono (fun b _ e=>by omega))⟩:E=0/\L<=300/\k=0/\m=jM n ++ dE/\G (W.heap.size+1) (val ms) (val xs) (w1.setCell ⟨W.heap.size,0,none⟩ (.int .i64 (k:Int))) (.slice zo zn zc))) id
 generalize w1.setCell ⟨W.heap.size,0,none⟩ (.int .i64 (k:Int))=w2 at *;have c0:=x.cell;have f0:=x.free;have c1:=(x.set (.slice zo zn zc)).cell;have k4:=aF w2 (w.heap.size+1+1+1+1+1) (.slice zo zn zc);have HD:=aa (d3.wroteNew k4 (by omega) (x.apart ap));have HC:=aa (q.imp (fun h=>(⟨h.1,h.2.1,h.2.2.1,h.2.2.2.1,Q.o _ _ _ _ _ _ h.2.2.2.2 (k4.mono (fun b _ e=>by have:=D.o;omega))⟩:E=0/\L<=300/\k=0/\m=jM n ++ dE/\G (W.heap.size+1) (val ms) (val xs) (w2.setCell ⟨w.heap.size+1+1+1+1+1,0,none⟩ (.slice zo zn zc)) (.slice zo zn zc))) id);clear S hl s q ad y k3 d3 an ap x k4;go_wp2_with fail
 refine bodyPost_ret (v:=.tuple #[.slice zo zn zc,.int .i64 (k:Int)]) (by simp [results,results212,go_sem,c1]) rfl ⟨zo,zn,zc,k,rfl,?_⟩;rcases HC.o with ⟨h1,h2,h3,h4,h5⟩ | ⟨h1,h2⟩
 ·refine .inl ⟨h1,h2,h3,⟨_,?_,h5⟩,o1,?_⟩
  ·have:=D.o;omega
  ·rw [<- h4];exact HD.o
 ·exact .inr ⟨h1,h2,m,o1,HD.o⟩

def oM (n L:Nat):List Ev:=j5 n 14 ++ (jq n L (16*L) ++ mZ n)

theorem qE {L:Nat} (h:n<=130) (hL:L<=300):(oM n L).length<=60000000:=by
 have h1:=j6 h 14;have h2:=lK h L (16*L);have h3:=(ix h).2.2;unfold oM;rw [bk,bk];omega

theorem LA (o:Tr) (ao bo xo eo:OA) (n l K a f xc L h X bT bE:Nat) (ms rs ys:LN) (w:World) (ht:TrRoom w o 61000000) (hM:Mod8 w o ao bo n l K a f ms rs) (hx:MonAt w (.slice xo n xc) n (val ms) X)
  (he:RowT w o (.slice eo L h) ys) (y:Digs ys) (hL:L<=300) (hT:Box w bT (aP o) 57) (hB:Box w bE (.slice eo L h) 23) :
  ClZ 213 #[.agg (mzA ao n a K bo l f),.slice xo n xc,.pointer (some ⟨bT,0,none⟩),.pointer (some ⟨bE,0,none⟩)] w fun e w'=>∃ zo zc,e=.returned (.slice zo n zc)/\(Row .u64 w' (.slice zo n zc) (digs (X^val ys%val ms) n)/\U64s w' (.slice zo n zc))/\Fresh w (.slice zo n zc)/\∃ o',Did w o (oM n L) w' o':=by
 obtain ⟨⟨f0,f1⟩,f2,f3,f4,f5⟩:=hM.a;obtain ⟨po,p⟩:=aM o;obtain ⟨V,hV⟩:=aj (val ms)
 obtain ⟨RL,r⟩:=aj (digs (X^val ys%val ms) n)
 rw [<- r];obtain ⟨W,hW⟩:=aj (w.alloc (.cells (mzA ao n a K bo l f) 71))
 have k0:Kept af w W:=by rw [hW];exact (ah af w).alloc _
 have q:W.heap[w.heap.size]? = some (.cells (mzA ao n a K bo l f) 71 (0,0)):=by rw [hW];exact heap_alloc_new _ _
 have j:=(ht.g k0).1;have JC:HzD (∀ W' m o',Did W o m W' o'->W'.cell? ⟨bT,0,none⟩=some (.pointer po)/\W'.cell? ⟨bE,0,none⟩=some (.slice eo L h)/\W'.cell? ⟨w.heap.size,0,none⟩=some (.slice ao n a)/\W'.cell? ⟨w.heap.size,1,none⟩=some (.int .u64 (K:Nat))/\W'.cell? ⟨w.heap.size,2,none⟩=some (.slice bo l f)):=fun W' m o' d=>by
  rw [<- p];exact ⟨((hT.g k0).did d j).cell,((hB.g k0).did d j).cell,ax ((d.kept.block _ (lt_of_block q) (aH q j)).trans q)⟩
 have JP:HzD (∀ W',Kept af W W'->ClZ 215 #[.pointer po,.agg (mzA ao n a K bo l f),.slice xo n xc] W' fun e w'=>∃ g c,e=.returned (.slice (some ⟨g,0,none⟩) 16 c)/\(∃ A C,Tab8 W' w' (.slice xo n xc) (.slice (some ⟨g,0,none⟩) 16 c) n 16 A C (val ms) X)/\∃ o',Did W o (j5 n 14) w' o'):=fun W' k=>by
  have:=FZ o ao bo xo n l K a f xc X ms rs W' ((ht.g (k0.trans k)).l (by omega)) (hM.g (k0.trans k)) (hx.g (k0.trans k));rw [p] at this;refine this.mono ?_;rintro e w' ⟨g,c,rfl,hA,o',d⟩;exact ⟨g,c,rfl,hA,o',Did.b k d⟩
 have JR:HzD (∀ wT W' o' g c A C,Did W o (j5 n 14) W' o'->Tab8 wT W' (.slice xo n xc) (.slice (some ⟨g,0,none⟩) 16 c) n 16 A C (val ms) X->ClZ 214 #[.pointer po,.agg (mzA ao n a K bo l f),.slice (some ⟨g,0,none⟩) 16 c,.slice eo L h] W' fun e w'=>∃ zo zc,e=.returned (.slice zo n zc)/\(Row .u64 w' (.slice zo n zc) RL/\U64s w' (.slice zo n zc))/\Fresh W' (.slice zo n zc)/\∃ o2,Did W' o' (jq n L (16*L) ++ mZ n) w' o2):=fun wT W' o' g c A C d s=>by
  have:=F7 o' ao bo eo n l K a f g c L h X A C ms rs ys (.slice xo n xc) wT W' (d.room ((ht.g k0).l (by have:=j6 f1 14;omega))) ((hM.g k0).did d) s ((he.g k0).did d) y hL;rw [d.ptr,p,<- r] at this;exact this
 obtain ⟨c0,c1,c2,c3,c4⟩:=JC.o _ _ _ (Did.of_kept (ah af W) j);have HW:=aa hW;have t:=aa k0;clear ht hM hx he y hT hB p hV r hW k0 q j f0 f2 f3 f4 f5;delta ClZ;go_in;go_wp2_with (rw [<- HW.o]);go_region_held3 (fun w'=>w'.cell? ⟨bT,0,none⟩=some (.pointer po)/\w'.cell? ⟨bE,0,none⟩=some (.slice eo L h)/\w'.cell? ⟨w.heap.size,0,none⟩=some (.slice ao n a)/\w'.cell? ⟨w.heap.size,1,none⟩=some (.int .u64 (K:Int))/\w'.cell? ⟨w.heap.size,2,none⟩=some (.slice bo l f))
  (((try dsimp only);(repeat' apply And.intro) <;> first | (go_keep;done) | assumption))
  (first
  | (go_at_call 215;refine (JP.o _ ?_).mono ?_;(exact (ah _ _).drew);rintro e w2 ⟨g2,E,rfl,⟨A2,C2,i⟩,o2,d2⟩;obtain ⟨q0,q1,q3,q4,q5⟩:=JC.o _ _ _ d2)
  | (go_at_call 214;refine (JR.o _ _ o2 g2 E A2 C2 d2 i).mono ?_;rintro e w4 ⟨zo,zc,rfl,x,v,o4,d4⟩;obtain ⟨t0,t1,t3,t4,t5⟩:=JC.o _ _ _ (d2.trans d4)))
 all_goals
  have z:=aa (Did.b t.o (d2.trans d4));have B:HzD (Fresh w (.slice zo n zc)):=fun b hb=>by have h1:=v b hb;have h2:=d2.size;have h3:=t.o.size;omega
  have D:=aa x;clear v x d2 d4 i c0 c1 c2 c3 c4 q0 q1 q3 q4 q5 t0 t1 t3 t4 t5;go_wp2_with fail;go_ret;exact ⟨_,_,rfl,D.o,B.o,o4,z.o⟩

def GG (R:Nat->Nat->LN) (n b0 V X:Nat) (W:World) (v:Value):Prop:=(∃ zo zc,v=.slice zo n zc)/\Row .u64 W v (R V X)/\U64s W v/\∀ b,v.ownBlock=some b->b0<=b

theorem Mg (o:Tr) (ao bo xo eo:OA) (n l K a f N1 xc L i:Nat) (ms rs xs ys:LN) (E:Nat) (w:World)
  (ht:TrRoom w o 70000000) (hm:RowT w o (.slice ao n a) ms) (hr:RowT w o (.slice bo l f) rs) (hx:RowT w o (.slice xo N1 xc) xs) (hy:RowT w o (.slice eo L i) ys) (s:Digs ms) (x:Digs rs) (D:Digs xs) (G:Digs ys) (hK:K<18446744073709551616) (H:n<=300)
  (hE:E=0↔okMod ms K rs/\(N1=n/\val xs<val ms)) (B:E<=1) :
  ClZ 163 #[aP o,.agg (mzA ao n a K bo l f),.slice xo N1 xc,.slice eo L i] w fun e w'=>∃ (zo:OA) (zn zc c:Nat),e=.returned (.tuple #[.slice zo zn zc,.int .i64 (c:Int)]) /\
   ((E=0/\L<=300/\c=0/\(Row .u64 w' (.slice zo zn zc) (digs (val xs^val ys%val ms) n)/\U64s w' (.slice zo zn zc))/\∃ o',Did w o (jM n ++ oM n L) w' o') \/
   (((E=1/\c=1)\/(E=0/\300<L/\c=2))/\Value.slice zo zn zc=.slice none 0 0/\∃ m o',Did w o m w' o')):=by
 have he:∀ args w,(callFunc 213 args).run prog w=.ok (.enter 213 args) w:=fun _ _=>by simp [go_sem]
 obtain ⟨po,t⟩:=aM o;obtain ⟨W,hW⟩:=aj (((w.alloc (.cells #[.pointer po] 57)).alloc (.cells (mzA ao n a K bo l f) 71)).alloc (.cells #[.slice eo L i] 23))
 have k0:Kept af w W:=by rw [hW];exact (((ah af w).alloc _).alloc _).alloc _
 have q:Box W w.heap.size (.pointer po) 57:=by rw [hW];exact ((Box.new w _ _).alloc _).alloc _
 have C:W.heap[w.heap.size+1]? = some (.cells (mzA ao n a K bo l f) 71 (0,0)):=by
  rw [hW];refine aw ?_;have:=heap_alloc_new (w.alloc (.cells #[.pointer po] 57)) (.cells (mzA ao n a K bo l f) 71)
  rwa [show (w.alloc (.cells #[.pointer po] 57)).heap.size=w.heap.size+1 by simp] at this
 have p:Box W (w.heap.size+1+1) (.slice eo L i) 23:=by
  rw [hW];have:=Box.new ((w.alloc (.cells #[.pointer po] 57)).alloc (.cells (mzA ao n a K bo l f) 71)) (.slice eo L i) 23
  rwa [show ((w.alloc (.cells #[.pointer po] 57)).alloc (.cells (mzA ao n a K bo l f) 71)).heap.size=w.heap.size+1+1 by simp] at this
 have y:=(ht.g k0).1;have j:=FY o ao bo xo eo n l K a f N1 xc L i 213 #[.pointer (some ⟨w.heap.size,0,none⟩),.pointer (some ⟨w.heap.size+1+1,0,none⟩)] ms rs xs E 61000000 (if n<=130/\L<=300 then oM n L else []) (GG (fun V X=>digs (X^val ys%V) n) n) W (by
   by_cases h:n<=130/\L<=300
   ·rw [ai h];have:=qE h.1 h.2;omega
   ·rw [ar h];simp)
  ((ht.g k0).l (by omega)) (hm.g k0) (hr.g k0) (hx.g k0) s x D hK H he
  (fun wc kc W' m o' I J T l' K' O Q S P R X d r M A F N hL=>by
   have hn:=M.a.1.2;rw [ai ⟨hn,hL⟩];refine (LA o' I J T eo n l' K' O Q S L i X w.heap.size (w.heap.size+1+1) P R ys W' r M A ((hy.g k0).did d) G hL (by rw [d.ptr,t];exact q.did d y) (p.did d y)).mono ?_;rintro e w' ⟨zo,zc,rfl,h1,h2,h3⟩;exact ⟨zo,n,zc,rfl,⟨⟨zo,zc,rfl⟩,h1.1,h1.2,fun b hb=>aI N (h2 b hb)⟩,h3⟩)
  (fun b0 V X W1 W2 v g k=>⟨g.1,g.2.1.kept k (fun b hb e=>by have:=g.2.2.2 b hb;omega),g.2.2.1.kept k (fun b hb e=>by have:=g.2.2.2 b hb;omega),g.2.2.2⟩) hE B
 have HN:HzD (E=0->n<=130):=fun h=>by
  obtain ⟨h1,_⟩:=hE.1 h;exact (Mod8.a (⟨hm,hr,s,x,hK,h1⟩:Mod8 w o ao bo n l K a f ms rs)).1.2
 have HW:=aa hW;have z:=aa k0;have c0:=q.cell;have c1:=p.cell;obtain ⟨c2,c3,c4⟩:=ax C;rw [t] at j ⊢;clear ht hm hr hx hy s x D G hK H hE B t k0 q C p hW he y;delta ClZ;go_in;go_wp2_with fail;rw [<- HW.o];refine j.mono ?_;rintro e w1 ⟨zo,zn,zc,c,rfl,h1⟩;have H1:=aa h1;clear j h1 c0 c1 c2 c3 c4;go_wp2_with fail;go_ret2;refine ⟨zo,zn,zc,c,rfl,?_⟩;rcases H1.o with ⟨e0,hL,rfl,⟨b0,_,hA⟩,o',d⟩ | ⟨h2,h3,m,o',d⟩
 ·rw [ai ⟨HN.o e0,hL⟩] at d;exact .inl ⟨e0,hL,rfl,⟨hA.2.1,hA.2.2.1⟩,o',Did.b z.o d⟩
 ·exact .inr ⟨h2,h3,m,o',Did.b z.o d⟩

end Go.Proofs.YtpkmoamgpjcdeaaGreatDoor
