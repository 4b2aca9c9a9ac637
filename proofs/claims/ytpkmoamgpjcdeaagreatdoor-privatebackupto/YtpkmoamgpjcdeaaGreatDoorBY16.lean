/- Put together of: Kex3 Prw6 WKeyNum Law22c Ivn9 Kex4 Kex5. -/
import Derived.Test.YtpkmoamgpjcdeaaGreatDoorBY15

namespace Go.Proofs.YtpkmoamgpjcdeaaGreatDoor
open _root_.Go.Proofs.Tryz
set_option maxRecDepth 100000
set_option maxHeartbeats 4000000
open Go.RowKit
variable {E e n:Nat} {RL bs c cs ds fs ns ps qs rest:LN} {at_:Int} {w:World}

def AttE (E:Nat) (e:Ending):Prop:=(E=0/\e=.returned (.tuple #[]))\/(E≠0/\e=.panicked [refusal (E:Nat)])

theorem AttE.ok:AttE 0 (.returned (.tuple #[])):=.inl ⟨rfl,rfl⟩

theorem AttE.no (h:E≠0):AttE E (.panicked [refusal (E:Nat)]):=.inr ⟨h,rfl⟩

theorem G8 (bN bE:Nat) (ao:OA) (L c:Nat) (xs:LN) (hL:L<=1000) (hA:aN (val xs)<32\/8192<aN (val xs)) (w:World) (hu:Row .u64 w (.slice ao L c) xs) (hd:Digs xs) (b0:w.cell? ⟨bN,0,none⟩=some (.slice ao L c)) :
  ClZ 197 #[.pointer (some ⟨bN,0,none⟩),.pointer (some ⟨bE,0,none⟩)] w fun e w'=>AttE 190 e/\Kept af w w':=by
 obtain ⟨_,_,_,e1,hl,-,-,-,-⟩:=hu.open;cases e1
 have hR:=dJ 190;have hY:=eJ 190;have JB:=iO _ xs w hu hd (by rw [hl.o];omega);have f:aN (val xs)<=64*xs.length:=(bh _ _).2 (by rw [aW];exact aE (by omega) hd);rw [hl.o] at f;have a:HzD (Kept af w w):=ah _ _;generalize aN (val xs)=b at *;clear hu hd hl;by_cases h1:b<32
 ·have g1:(b:Int)<32:=by omega
  have d1:decide ((b:Int)<32)=true:=dV g1;clear hA h1 hR;delta ClZ;go_in;go_wp2_with fail;refine JB.mono ?_;rintro e w1 ⟨rfl,rfl⟩;clear JB;go_wp2_with fail;try rw [d1]
  refine (hY _).mono ?_;rintro e w1 ⟨rfl,rfl⟩;exact ⟨rfl,.no (by decide),a.o⟩
 ·have g1:¬ (b:Int)<32:=by omega
  have d1:decide ((b:Int)<32)=false:=cI g1;have g2:(b:Int) > 8192:=by omega
  have d:(8192:Int)<(b:Int):=by omega
  have d2:decide ((8192:Int)<(b:Int))=true:=dV d;clear hA h1 hR;delta ClZ;go_in;go_wp2_with fail;refine JB.mono ?_;rintro e w1 ⟨rfl,rfl⟩;clear JB;go_wp2_with fail;try rw [d2]
  refine (hY _).mono ?_;rintro e w1 ⟨rfl,rfl⟩;exact ⟨rfl,.no (by decide),a.o⟩

theorem G9 (bN bE:Nat) (ao:OA) (L a:Nat) (xs:LN) (hL:L<=1000) (hA:32<=aN (val xs)/\aN (val xs)<=8192) (hW:L≠am (val xs)) (w:World) (hu:Row .u64 w (.slice ao L a) xs) (hd:Digs xs) (b0:w.cell? ⟨bN,0,none⟩=some (.slice ao L a)) :
  ClZ 197 #[.pointer (some ⟨bN,0,none⟩),.pointer (some ⟨bE,0,none⟩)] w fun e w'=>AttE 190 e/\Kept af w w':=by
 obtain ⟨_,_,_,e1,hl,-,-,-,-⟩:=hu.open;cases e1
 have hR:=dJ 190;have hY:=eJ 190;have JB:=iO _ xs w hu hd (by rw [hl.o];omega);have f:aN (val xs)<=64*xs.length:=(bh _ _).2 (by rw [aW];exact aE (by omega) hd);rw [hl.o] at f;have g:HzD (Kept af w w):=ah _ _;generalize val xs=X at *;obtain ⟨z,hz⟩:=aj ((aN X+64-1)/64)
 have j:z=am X:=by rw [hz,ik];rfl
 have c:=fun W=>lZ (aN X) 64 z hz (by omega) (by omega) (by omega) W
 obtain ⟨b,hb⟩:=aj (aN X)
 rw [<- hb] at c JB hA;have g1:¬ (b:Int)<32:=by omega
 have d1:decide ((b:Int)<32)=false:=cI g1;have g2:¬ (b:Int) > 8192:=by omega
 have d:¬ (8192:Int)<(b:Int):=by omega
 have d2:decide ((8192:Int)<(b:Int))=false:=cI d;have i:¬ (L:Int)=(z:Int):=by omega
 clear hu hd hl hb hz j hW f hA;delta ClZ;go_in;go_wp2_with fail;refine JB.mono ?_;rintro e w1 ⟨rfl,rfl⟩;clear JB;go_wp2_with fail;try rw [d2]
 refine (hR _).mono ?_;rintro e w1 ⟨rfl,rfl⟩;clear g1 d1 g2 d d2;go_wp2_with fail;refine wp_region_held_drew (S:=fun w'=>w'.cell? ⟨bN,0,none⟩=some (.slice ao L a)) (by kernel_rfl) b0 (fun hS=>?_);refine aO 0 (some 12) (.slice ao L a) hS ?_ (y:=dL fun w h=>by simp [execOp,go_sem,h]);refine aO 1 (some 13) (.int .i64 (L:Int)) hS ?_;refine aO 2 (some 14) (.int .i64 (b:Int)) hS ?_;simp only [aU];refine cD 3 (some 15) 92 [.int .i64 (b:Int),.int .i64 64] (c _) ?_;rintro e w4 ⟨rfl,rfl⟩;refine .inl ⟨_,rfl,hS,?_⟩;refine aO 4 (some 16) (.bool true) hS ?_ (y:=dL fun w h=>by simp [execOp,go_sem,i]);refine aO 5 (some 17) (.bool true) hS ?_
 refine aO 6 (some 18) (undef) hS ?_ (y:=.inr ⟨by rfl,rfl⟩);refine GB 7 (some 19) hS ?_;refine aO 8 (some 20) (undef) hS ?_ (y:=.inr ⟨by rfl,rfl⟩);refine aO 9 (some 21) (.bool true) hS ?_;simp only [aU];refine cD 10 (some 22) 90 [.bool true,.int .i64 190] (hY _) ?_;rintro e w6 ⟨rfl,rfl⟩;exact .inr ⟨_,rfl,rfl,.no (by decide),g.o.drew⟩

theorem Ha (bN bE:Nat) (ao:OA) (L a:Nat) (xs:LN) (hL:L<=1000) (hA:32<=aN (val xs)/\aN (val xs)<=8192) (hW:L=am (val xs)) (hO:val xs%2=0) (w:World) (hu:Row .u64 w (.slice ao L a) xs) (hd:Digs xs) (b0:w.cell? ⟨bN,0,none⟩=some (.slice ao L a)) :
  ClZ 197 #[.pointer (some ⟨bN,0,none⟩),.pointer (some ⟨bE,0,none⟩)] w fun e w'=>AttE 190 e/\Kept af w w':=by
 obtain ⟨_,_,_,e1,hl,-,-,-,-⟩:=hu.open;cases e1
 have hR:=dJ 190;have hY:=eJ 190;have JB:=iO _ xs w hu hd (by rw [hl.o];omega);have g:aN (val xs)<=64*xs.length:=(bh _ _).2 (by rw [aW];exact aE (by omega) hd);rw [hl.o] at g;have c:HzD (Kept af w w):=ah _ _;have JO:HzD (∀ W,Kept af w W->ClZ 196 #[.slice ao L a] W fun e w'=>e=.returned (.bool false)/\w'=W):=fun W k=>by
  have h:=yp ao L a xs W (hu.g k) hd;rw [cI (by omega)] at h;exact h
 generalize val xs=X at *;obtain ⟨z,hz⟩:=aj ((aN X+64-1)/64)
 have j:z=am X:=by rw [hz,ik];rfl
 have d:=fun W=>lZ (aN X) 64 z hz (by omega) (by omega) (by omega) W
 obtain ⟨b,hb⟩:=aj (aN X)
 rw [<- hb] at d JB hA;have g1:¬ (b:Int)<32:=by omega
 have d1:decide ((b:Int)<32)=false:=cI g1;have g2:¬ (b:Int) > 8192:=by omega
 have f:¬ (8192:Int)<(b:Int):=by omega
 have d2:decide ((8192:Int)<(b:Int))=false:=cI f;have i:(L:Int)=(z:Int):=by omega
 clear hu hd hl hb hz j hW g hA hO;delta ClZ;go_in;go_wp2_with fail;refine JB.mono ?_;rintro e w1 ⟨rfl,rfl⟩;clear JB;go_wp2_with fail;try rw [d2]
 refine (hR _).mono ?_;rintro e w1 ⟨rfl,rfl⟩;clear g1 d1 g2 f d2;go_wp2_with fail;refine wp_region_held_drew (S:=fun w'=>w'.cell? ⟨bN,0,none⟩=some (.slice ao L a)) (by kernel_rfl) b0 (fun hS=>?_);refine aO 0 (some 12) (.slice ao L a) hS ?_ (y:=dL fun w h=>by simp [execOp,go_sem,h]);refine aO 1 (some 13) (.int .i64 (L:Int)) hS ?_;refine aO 2 (some 14) (.int .i64 (b:Int)) hS ?_;simp only [aU];refine cD 3 (some 15) 92 [.int .i64 (b:Int),.int .i64 64] (d _) ?_;rintro e w4 ⟨rfl,rfl⟩;refine .inl ⟨_,rfl,hS,?_⟩;refine aO 4 (some 16) (.bool false) hS ?_ (y:=dL fun w h=>by simp [execOp,go_sem,i])
 refine aO 5 (some 17) (.bool false) hS ?_;refine aO 6 (some 18) (.slice ao L a) hS ?_ (y:=dL fun w h=>by simp [execOp,go_sem,h]);simp only [aU];refine cD 7 (some 19) 196 [.slice ao L a] (JO.o _ c.o.drew) ?_;rintro e w5 ⟨rfl,rfl⟩;refine .inl ⟨_,rfl,hS,?_⟩;refine aO 8 (some 20) (.bool true) hS ?_;refine aO 9 (some 21) (.bool true) hS ?_;simp only [aU];refine cD 10 (some 22) 90 [.bool true,.int .i64 190] (hY _) ?_;rintro e w6 ⟨rfl,rfl⟩;exact .inr ⟨_,rfl,rfl,.no (by decide),c.o.drew⟩

theorem Hb (bN bE:Nat) (ao:OA) (L a:Nat) (xs:LN) (e:Nat) (hL:L<=1000) (hA:32<=aN (val xs)/\aN (val xs)<=8192) (hW:L=am (val xs)) (hO:val xs%2=1) (h3:e<3) (w:World) (hu:Row .u64 w (.slice ao L a) xs) (hd:Digs xs) (b0:w.cell? ⟨bN,0,none⟩=some (.slice ao L a)) (b1:w.cell? ⟨bE,0,none⟩=some (.int .u64 (e:Int))) :
  ClZ 197 #[.pointer (some ⟨bN,0,none⟩),.pointer (some ⟨bE,0,none⟩)] w fun e w'=>AttE 190 e/\Kept af w w':=by
 obtain ⟨_,_,_,e1,hl,-,-,-,-⟩:=hu.open;cases e1
 have hR:=dJ 190;have hY:=eJ 190;have JB:=iO _ xs w hu hd (by rw [hl.o];omega);have i:aN (val xs)<=64*xs.length:=(bh _ _).2 (by rw [aW];exact aE (by omega) hd);rw [hl.o] at i;have d:HzD (Kept af w w):=ah _ _;have JO:HzD (∀ W,Kept af w W->ClZ 196 #[.slice ao L a] W fun e w'=>e=.returned (.bool true)/\w'=W):=fun W k=>by
  have h:=yp ao L a xs W (hu.g k) hd;rw [dV (by omega)] at h;exact h
 generalize val xs=X at *;obtain ⟨z,hz⟩:=aj ((aN X+64-1)/64)
 have l:z=am X:=by rw [hz,ik];rfl
 have c:=fun W=>lZ (aN X) 64 z hz (by omega) (by omega) (by omega) W
 obtain ⟨b,hb⟩:=aj (aN X)
 rw [<- hb] at c JB hA;have g1:¬ (b:Int)<32:=by omega
 have d1:decide ((b:Int)<32)=false:=cI g1;have g2:¬ (b:Int) > 8192:=by omega
 have g:¬ (8192:Int)<(b:Int):=by omega
 have d2:decide ((8192:Int)<(b:Int))=false:=cI g;have j:(L:Int)=(z:Int):=by omega
 clear hu hd hl hb hz l hW i hA hO;delta ClZ;go_in;go_wp2_with fail;refine JB.mono ?_;rintro e w1 ⟨rfl,rfl⟩;clear JB;go_wp2_with fail;try rw [d2]
 refine (hR _).mono ?_;rintro e w1 ⟨rfl,rfl⟩;clear g1 d1 g2 g d2;go_wp2_with fail;refine wp_region_held_drew (S:=fun w'=>w'.cell? ⟨bN,0,none⟩=some (.slice ao L a)) (by kernel_rfl) b0 (fun hS=>?_);refine aO 0 (some 12) (.slice ao L a) hS ?_ (y:=dL fun w h=>by simp [execOp,go_sem,h]);refine aO 1 (some 13) (.int .i64 (L:Int)) hS ?_;refine aO 2 (some 14) (.int .i64 (b:Int)) hS ?_;simp only [aU];refine cD 3 (some 15) 92 [.int .i64 (b:Int),.int .i64 64] (c _) ?_;rintro e w4 ⟨rfl,rfl⟩;refine .inl ⟨_,rfl,hS,?_⟩;refine aO 4 (some 16) (.bool false) hS ?_ (y:=dL fun w h=>by simp [execOp,go_sem,j])
 refine aO 5 (some 17) (.bool false) hS ?_;refine aO 6 (some 18) (.slice ao L a) hS ?_ (y:=dL fun w h=>by simp [execOp,go_sem,h]);simp only [aU];refine cD 7 (some 19) 196 [.slice ao L a] (JO.o _ d.o.drew) ?_;rintro e w5 ⟨rfl,rfl⟩;refine .inl ⟨_,rfl,hS,?_⟩;refine aO 8 (some 20) (.bool false) hS ?_;refine aO 9 (some 21) (.bool false) hS ?_;simp only [aU];refine cD 10 (some 22) 90 [.bool false,.int .i64 190] (hR _) ?_;rintro e w6 ⟨rfl,rfl⟩;refine .inl ⟨_,rfl,hS,?_⟩;simp only [aU];refine wpAnyH_done (by kernel_rfl) ?_ _;have f:HzD (Kept af w1 w1.drew):=(ah af w1).drew
 have b2:w1.drew.cell? ⟨bE,0,none⟩=some (.int .u64 (e:Int)):=f.o.cellN b1;generalize w1.drew=W6 at *;clear b0 b1 j c JO hS d;have g3:(e:Int)<3:=by omega
 clear h3;go_wp2_with fail;refine (hY _).mono ?_;rintro e w7 ⟨rfl,rfl⟩;exact ⟨rfl,.no (by decide),f.o⟩

theorem Hc (bN bE:Nat) (ao:OA) (L a:Nat) (xs:LN) (e:Nat) (hL:L<=1000) (hA:32<=aN (val xs)/\aN (val xs)<=8192) (hW:L=am (val xs)) (hO:val xs%2=1) (h4:4294967296<=e) (w:World) (hu:Row .u64 w (.slice ao L a) xs) (hd:Digs xs) (b0:w.cell? ⟨bN,0,none⟩=some (.slice ao L a)) (b1:w.cell? ⟨bE,0,none⟩=some (.int .u64 (e:Int))) :
  ClZ 197 #[.pointer (some ⟨bN,0,none⟩),.pointer (some ⟨bE,0,none⟩)] w fun e w'=>AttE 190 e/\Kept af w w':=by
 obtain ⟨_,_,_,e1,hl,-,-,-,-⟩:=hu.open;cases e1
 have hR:=dJ 190;have hY:=eJ 190;have JB:=iO _ xs w hu hd (by rw [hl.o];omega);have i:aN (val xs)<=64*xs.length:=(bh _ _).2 (by rw [aW];exact aE (by omega) hd);rw [hl.o] at i;have d:HzD (Kept af w w):=ah _ _;have JO:HzD (∀ W,Kept af w W->ClZ 196 #[.slice ao L a] W fun e w'=>e=.returned (.bool true)/\w'=W):=fun W k=>by
  have h:=yp ao L a xs W (hu.g k) hd;rw [dV (by omega)] at h;exact h
 generalize val xs=X at *;obtain ⟨z,hz⟩:=aj ((aN X+64-1)/64)
 have l:z=am X:=by rw [hz,ik];rfl
 have c:=fun W=>lZ (aN X) 64 z hz (by omega) (by omega) (by omega) W
 obtain ⟨b,hb⟩:=aj (aN X)
 rw [<- hb] at c JB hA;have g1:¬ (b:Int)<32:=by omega
 have d1:decide ((b:Int)<32)=false:=cI g1;have g2:¬ (b:Int) > 8192:=by omega
 have g:¬ (8192:Int)<(b:Int):=by omega
 have d2:decide ((8192:Int)<(b:Int))=false:=cI g;have j:(L:Int)=(z:Int):=by omega
 clear hu hd hl hb hz l hW i hA hO;delta ClZ;go_in;go_wp2_with fail;refine JB.mono ?_;rintro e w1 ⟨rfl,rfl⟩;clear JB;go_wp2_with fail;try rw [d2]
 refine (hR _).mono ?_;rintro e w1 ⟨rfl,rfl⟩;clear g1 d1 g2 g d2;go_wp2_with fail;refine wp_region_held_drew (S:=fun w'=>w'.cell? ⟨bN,0,none⟩=some (.slice ao L a)) (by kernel_rfl) b0 (fun hS=>?_);refine aO 0 (some 12) (.slice ao L a) hS ?_ (y:=dL fun w h=>by simp [execOp,go_sem,h]);refine aO 1 (some 13) (.int .i64 (L:Int)) hS ?_;refine aO 2 (some 14) (.int .i64 (b:Int)) hS ?_;simp only [aU];refine cD 3 (some 15) 92 [.int .i64 (b:Int),.int .i64 64] (c _) ?_;rintro e w4 ⟨rfl,rfl⟩;refine .inl ⟨_,rfl,hS,?_⟩;refine aO 4 (some 16) (.bool false) hS ?_ (y:=dL fun w h=>by simp [execOp,go_sem,j])
 refine aO 5 (some 17) (.bool false) hS ?_;refine aO 6 (some 18) (.slice ao L a) hS ?_ (y:=dL fun w h=>by simp [execOp,go_sem,h]);simp only [aU];refine cD 7 (some 19) 196 [.slice ao L a] (JO.o _ d.o.drew) ?_;rintro e w5 ⟨rfl,rfl⟩;refine .inl ⟨_,rfl,hS,?_⟩;refine aO 8 (some 20) (.bool false) hS ?_;refine aO 9 (some 21) (.bool false) hS ?_;simp only [aU];refine cD 10 (some 22) 90 [.bool false,.int .i64 190] (hR _) ?_;rintro e w6 ⟨rfl,rfl⟩;refine .inl ⟨_,rfl,hS,?_⟩;simp only [aU];refine wpAnyH_done (by kernel_rfl) ?_ _;have f:HzD (Kept af w1 w1.drew):=(ah af w1).drew
 have b2:w1.drew.cell? ⟨bE,0,none⟩=some (.int .u64 (e:Int)):=f.o.cellN b1;generalize w1.drew=W6 at *;clear b0 b1 j c JO hS d;have g3:¬ (e:Int)<3:=by omega
 have g4:(e:Int)≥4294967296:=by omega
 have m:(4294967296:Int)<=(e:Int):=by omega
 clear h4;go_wp2_with fail;refine (hY _).mono ?_;rintro e w7 ⟨rfl,rfl⟩;exact ⟨rfl,.no (by decide),f.o⟩

theorem Hd (bN bE:Nat) (ao:OA) (L a:Nat) (xs:LN) (e:Nat) (hL:L<=1000) (hA:32<=aN (val xs)/\aN (val xs)<=8192) (hW:L=am (val xs)) (hO:val xs%2=1) (h3:3<=e) (h4:e<4294967296) (h5:e%2=0) (w:World) (hu:Row .u64 w (.slice ao L a) xs) (hd:Digs xs) (b0:w.cell? ⟨bN,0,none⟩=some (.slice ao L a)) (b1:w.cell? ⟨bE,0,none⟩=some (.int .u64 (e:Int))) :
  ClZ 197 #[.pointer (some ⟨bN,0,none⟩),.pointer (some ⟨bE,0,none⟩)] w fun e w'=>AttE 190 e/\Kept af w w':=by
 obtain ⟨_,_,_,e1,hl,-,-,-,-⟩:=hu.open;cases e1
 have hR:=dJ 190;have hY:=eJ 190;have JB:=iO _ xs w hu hd (by rw [hl.o];omega);have i:aN (val xs)<=64*xs.length:=(bh _ _).2 (by rw [aW];exact aE (by omega) hd);rw [hl.o] at i;have d:HzD (Kept af w w):=ah _ _;have JO:HzD (∀ W,Kept af w W->ClZ 196 #[.slice ao L a] W fun e w'=>e=.returned (.bool true)/\w'=W):=fun W k=>by
  have h:=yp ao L a xs W (hu.g k) hd;rw [dV (by omega)] at h;exact h
 generalize val xs=X at *;obtain ⟨z,hz⟩:=aj ((aN X+64-1)/64)
 have l:z=am X:=by rw [hz,ik];rfl
 have c:=fun W=>lZ (aN X) 64 z hz (by omega) (by omega) (by omega) W
 obtain ⟨b,hb⟩:=aj (aN X)
 rw [<- hb] at c JB hA;have g1:¬ (b:Int)<32:=by omega
 have d1:decide ((b:Int)<32)=false:=cI g1;have g2:¬ (b:Int) > 8192:=by omega
 have g:¬ (8192:Int)<(b:Int):=by omega
 have d2:decide ((8192:Int)<(b:Int))=false:=cI g;have j:(L:Int)=(z:Int):=by omega
 clear hu hd hl hb hz l hW i hA hO;delta ClZ;go_in;go_wp2_with fail;refine JB.mono ?_;rintro e w1 ⟨rfl,rfl⟩;clear JB;go_wp2_with fail;try rw [d2]
 refine (hR _).mono ?_;rintro e w1 ⟨rfl,rfl⟩;clear g1 d1 g2 g d2;go_wp2_with fail;refine wp_region_held_drew (S:=fun w'=>w'.cell? ⟨bN,0,none⟩=some (.slice ao L a)) (by kernel_rfl) b0 (fun hS=>?_);refine aO 0 (some 12) (.slice ao L a) hS ?_ (y:=dL fun w h=>by simp [execOp,go_sem,h]);refine aO 1 (some 13) (.int .i64 (L:Int)) hS ?_;refine aO 2 (some 14) (.int .i64 (b:Int)) hS ?_;simp only [aU];refine cD 3 (some 15) 92 [.int .i64 (b:Int),.int .i64 64] (c _) ?_;rintro e w4 ⟨rfl,rfl⟩;refine .inl ⟨_,rfl,hS,?_⟩;refine aO 4 (some 16) (.bool false) hS ?_ (y:=dL fun w h=>by simp [execOp,go_sem,j])
 refine aO 5 (some 17) (.bool false) hS ?_;refine aO 6 (some 18) (.slice ao L a) hS ?_ (y:=dL fun w h=>by simp [execOp,go_sem,h]);simp only [aU];refine cD 7 (some 19) 196 [.slice ao L a] (JO.o _ d.o.drew) ?_;rintro e w5 ⟨rfl,rfl⟩;refine .inl ⟨_,rfl,hS,?_⟩;refine aO 8 (some 20) (.bool false) hS ?_;refine aO 9 (some 21) (.bool false) hS ?_;simp only [aU];refine cD 10 (some 22) 90 [.bool false,.int .i64 190] (hR _) ?_;rintro e w6 ⟨rfl,rfl⟩;refine .inl ⟨_,rfl,hS,?_⟩;simp only [aU];refine wpAnyH_done (by kernel_rfl) ?_ _;have f:HzD (Kept af w1 w1.drew):=(ah af w1).drew
 have b2:w1.drew.cell? ⟨bE,0,none⟩=some (.int .u64 (e:Int)):=f.o.cellN b1;generalize w1.drew=W6 at *;clear b0 b1 j c JO hS d;have g3:¬ (e:Int)<3:=by omega
 have g4:¬ (e:Int)≥4294967296:=by omega
 have m:¬ (4294967296:Int)<=(e:Int):=by omega
 have g5:(e:Int)%2=0:=by omega
 have n:(e:Int).tmod 2=0:=by rw [jO (by omega)];omega
 clear h3 h4 h5;go_wp2_with fail;refine (hY _).mono ?_;rintro e w7 ⟨rfl,rfl⟩;exact ⟨rfl,.no (by decide),f.o⟩

theorem He (bN bE:Nat) (ao:OA) (L a:Nat) (xs:LN) (e:Nat) (hL:L<=1000) (hA:32<=aN (val xs)/\aN (val xs)<=8192) (hW:L=am (val xs)) (hO:val xs%2=1) (h3:3<=e) (h4:e<4294967296) (h5:e%2=1) (w:World) (hu:Row .u64 w (.slice ao L a) xs) (hd:Digs xs) (b0:w.cell? ⟨bN,0,none⟩=some (.slice ao L a)) (b1:w.cell? ⟨bE,0,none⟩=some (.int .u64 (e:Int))) :
  ClZ 197 #[.pointer (some ⟨bN,0,none⟩),.pointer (some ⟨bE,0,none⟩)] w fun e w'=>AttE 0 e/\Kept af w w':=by
 obtain ⟨_,_,_,e1,hl,-,-,-,-⟩:=hu.open;cases e1
 have hR:=dJ 190;have JB:=iO _ xs w hu hd (by rw [hl.o];omega);have i:aN (val xs)<=64*xs.length:=(bh _ _).2 (by rw [aW];exact aE (by omega) hd);rw [hl.o] at i;have d:HzD (Kept af w w):=ah _ _;have JO:HzD (∀ W,Kept af w W->ClZ 196 #[.slice ao L a] W fun e w'=>e=.returned (.bool true)/\w'=W):=fun W k=>by
  have h:=yp ao L a xs W (hu.g k) hd;rw [dV (by omega)] at h;exact h
 generalize val xs=X at *;obtain ⟨z,hz⟩:=aj ((aN X+64-1)/64)
 have l:z=am X:=by rw [hz,ik];rfl
 have c:=fun W=>lZ (aN X) 64 z hz (by omega) (by omega) (by omega) W
 obtain ⟨b,hb⟩:=aj (aN X)
 rw [<- hb] at c JB hA;have g1:¬ (b:Int)<32:=by omega
 have d1:decide ((b:Int)<32)=false:=cI g1;have g2:¬ (b:Int) > 8192:=by omega
 have g:¬ (8192:Int)<(b:Int):=by omega
 have d2:decide ((8192:Int)<(b:Int))=false:=cI g;have j:(L:Int)=(z:Int):=by omega
 clear hu hd hl hb hz l hW i hA hO;delta ClZ;go_in;go_wp2_with fail;refine JB.mono ?_;rintro e w1 ⟨rfl,rfl⟩;clear JB;go_wp2_with fail;try rw [d2]
 refine (hR _).mono ?_;rintro e w1 ⟨rfl,rfl⟩;clear g1 d1 g2 g d2;go_wp2_with fail;refine wp_region_held_drew (S:=fun w'=>w'.cell? ⟨bN,0,none⟩=some (.slice ao L a)) (by kernel_rfl) b0 (fun hS=>?_);refine aO 0 (some 12) (.slice ao L a) hS ?_ (y:=dL fun w h=>by simp [execOp,go_sem,h]);refine aO 1 (some 13) (.int .i64 (L:Int)) hS ?_;refine aO 2 (some 14) (.int .i64 (b:Int)) hS ?_;simp only [aU];refine cD 3 (some 15) 92 [.int .i64 (b:Int),.int .i64 64] (c _) ?_;rintro e w4 ⟨rfl,rfl⟩;refine .inl ⟨_,rfl,hS,?_⟩;refine aO 4 (some 16) (.bool false) hS ?_ (y:=dL fun w h=>by simp [execOp,go_sem,j])
 refine aO 5 (some 17) (.bool false) hS ?_;refine aO 6 (some 18) (.slice ao L a) hS ?_ (y:=dL fun w h=>by simp [execOp,go_sem,h]);simp only [aU];refine cD 7 (some 19) 196 [.slice ao L a] (JO.o _ d.o.drew) ?_;rintro e w5 ⟨rfl,rfl⟩;refine .inl ⟨_,rfl,hS,?_⟩;refine aO 8 (some 20) (.bool false) hS ?_;refine aO 9 (some 21) (.bool false) hS ?_;simp only [aU];refine cD 10 (some 22) 90 [.bool false,.int .i64 190] (hR _) ?_;rintro e w6 ⟨rfl,rfl⟩;refine .inl ⟨_,rfl,hS,?_⟩;simp only [aU];refine wpAnyH_done (by kernel_rfl) ?_ _;have f:HzD (Kept af w1 w1.drew):=(ah af w1).drew
 have b2:w1.drew.cell? ⟨bE,0,none⟩=some (.int .u64 (e:Int)):=f.o.cellN b1;generalize w1.drew=W6 at *;clear b0 b1 j c JO hS d;have g3:¬ (e:Int)<3:=by omega
 have g4:¬ (e:Int)≥4294967296:=by omega
 have m:¬ (4294967296:Int)<=(e:Int):=by omega
 have g5:¬ (e:Int)%2=0:=by omega
 have n:¬ (e:Int).tmod 2=0:=by rw [jO (by omega)];omega
 have d5:((e:Int)%2 == 0)=false:=by simp;omega
 clear h3 h4 h5;go_wp2_with fail;refine (hR _).mono ?_;rintro e w7 ⟨rfl,rfl⟩;go_wp2;go_end0
 exact ⟨.ok,f.o⟩

theorem E0 (ao:OA) (L b:Nat) (xs:LN) (e:Nat) (w:World) (hu:Row .u64 w (.slice ao L b) xs) (hd:Digs xs) (hL:L<=1000:=by omega) :
  ClZ 141 #[.slice ao L b,.int .u64 (e:Nat)] w fun r w'=>r=.returned (.int .i64 ((gU xs e:Nat):Int))/\Kept af w w':=by
 have d:∀ args w,(callFunc 197 args).run prog w=.ok (.enter 197 args) w:=fun _ _=>by simp [go_sem]
 obtain ⟨_,_,_,e1,hl,-,-,-,-⟩:=hu.open;cases e1
 have f:xs.length=L:=hl.o;obtain ⟨W,hW⟩:=aj ((w.alloc (.cells #[.slice ao L b] 23)).alloc (.cells #[.int .u64 (e:Nat)] 24))
 have k0:Kept af w W:=by rw [hW];exact ((ah af w).alloc _).alloc _
 have x0:W.heap[w.heap.size]? = some (.cells #[.slice ao L b] 23 (0,0)):=by rw [hW];exact aw (heap_alloc_new _ _)
 have x1:W.heap[w.heap.size+1]? = some (.cells #[.int .u64 (e:Nat)] 24 (0,0)):=by
  rw [hW];have:=heap_alloc_new (w.alloc (.cells #[.slice ao L b] 23)) (.cells #[.int .u64 (e:Nat)] 24)
  rwa [World.size_alloc] at this
 have kE:=(ah af W).alloc (.cells #[.int .i64 0] 35);have c0:(W.alloc (.cells #[.int .i64 0] 35)).cell? ⟨w.heap.size,0,none⟩=some (.slice ao L b):=kE.cellN ((cell_of_row W _ 0 _ _ _ x0).trans rfl);have c1:(W.alloc (.cells #[.int .i64 0] 35)).cell? ⟨w.heap.size+1,0,none⟩=some (.int .u64 (e:Int)):=kE.cellN ((cell_of_row W _ 0 _ _ _ x1).trans rfl);have c:=hu.g (k0.trans kE);have JA:ClZ 86 #[.func (.func 197) #[] #[.pointer (some ⟨w.heap.size,0,none⟩),.pointer (some ⟨w.heap.size+1,0,none⟩)]] W fun e' w'=>e'=.returned (.int .i64 ((gU xs e:Nat):Int))/\Kept af W w':=by
  refine sl _ _ W (gU xs e) d ?_;have a:=ot hd (by omega) e;rw [f] at a;by_cases hA:32<=aN (val xs)/\aN (val xs)<=8192
  ·by_cases hw:L=am (val xs)
   ·by_cases ho:val xs%2=1
    ·by_cases h3:3<=e
     ·by_cases h4:e<4294967296
      ·by_cases h5:e%2=1
       ·rw [a.2 ⟨hA,⟨hw,ho⟩,h3,h4,h5⟩];exact He _ _ ao L b xs e hL hA hw ho h3 h4 h5 _ c hd c0 c1
       ·rw [(lJ xs e).resolve_left (fun h=>by have:=a.1 h;omega)];exact Hd _ _ ao L b xs e hL hA hw ho h3 h4 (by omega) _ c hd c0 c1
      ·rw [(lJ xs e).resolve_left (fun h=>by have:=a.1 h;omega)];exact Hc _ _ ao L b xs e hL hA hw ho (by omega) _ c hd c0 c1
     ·rw [(lJ xs e).resolve_left (fun h=>by have:=a.1 h;omega)];exact Hb _ _ ao L b xs e hL hA hw ho (by omega) _ c hd c0 c1
    ·rw [(lJ xs e).resolve_left (fun h=>by have:=a.1 h;omega)];exact Ha _ (w.heap.size+1) ao L b xs hL hA hw (by omega) _ c hd c0
   ·rw [(lJ xs e).resolve_left (fun h=>by have:=a.1 h;omega)];exact G9 _ (w.heap.size+1) ao L b xs hL hA hw _ c hd c0
  ·rw [(lJ xs e).resolve_left (fun h=>by have:=a.1 h;omega)];exact G8 _ (w.heap.size+1) ao L b xs hL (by omega) _ c hd c0
 have HW:=aa hW;have g:=aa k0;generalize gU xs e=E at *;clear hu hd hL hl f hW k0 x0 x1 kE c0 c1 c d;delta ClZ;go_in;go_wp2_with (rw [<- HW.o]);refine JA.mono ?_;rintro r w1 ⟨rfl,k1⟩;have i:=aa (g.o.trans k1);clear JA k1;go_wp2;go_ret;exact ⟨rfl,i.o⟩

theorem jW {M:Nat} (h2:2<=M) (ho:M%2=1) (hn:am M<=130:=by omega):eS M=0:=by
 unfold eS;rw [aK,aK,aK]

theorem G7 (ao bo:OA) (L n g b:Nat) (xs ms:LN) (X M:Nat) (hX:X=val xs) (hM:M=val ms) (h2:2<=M) (ho:M%2=1) (hn:n=am M) (Q:n<=130) (hL:L<=300) (hg:Nat.gcd X M=1) (w:World) (hu:Row .u64 w (.slice ao L g) xs) (hv:Row .u64 w (.slice bo n b) ms) (t:Digs xs) (m:Digs ms) :
  ClZ 142 #[.slice ao L g,.slice bo n b] w fun e w'=>∃ vo vc T,e=.returned (.slice vo n vc)/\HzD (T<M/\X*T%M=1)/\Row .u64 w' (.slice vo n vc) (digs T n)/\Kept af w w':=by
 obtain ⟨_,_,_,e1,O,-,-,-,-⟩:=hv.open;cases e1
 have hE:=jW h2 ho;have J1:=CI bo n b ms M 0 hM hE.symm w hv m;have JR:HzD (∀ W,Kept af w W->ClZ 147 #[.slice ao L g,.slice bo n b] W fun e w'=>∃ vo vc,e=.returned (.slice vo n vc)/\Row .u64 w' (.slice vo n vc) (digs (X%M) n)/\Kept af W w'):=fun W k=>zK ao bo L n g b xs ms X M hX hM (by omega) hL (by omega) W (hu.g k) (hv.g k) t m
 have v:Nat.gcd (X%M) M=Nat.gcd X M:=by rw [ft X M,kj M X]
 have hlt:X%M<M:=bu;have c:X%M<18446744073709551616^n:=bH hlt ((aC M n).1 (by omega));have JI:HzD (∀ W (sa sb so:OA) (na nb ca cb sc K:Nat),rM M K->Row .u64 W (.slice sa na ca) (jF M)->Row .u64 W (.slice sb nb cb) (j4 M)->Row .u64 W (.slice so n sc) (digs (X%M) n)->ClZ 65 #[.pointer none,.agg (mzA sa na ca K sb nb cb),.slice so n sc] W fun e w'=>∃ vo vc T,e=.returned (.tuple #[.slice vo n vc,.int .u64 1,.int .i64 0])/\HzD (T<M/\X*T%M=1)/\Row .u64 w' (.slice vo n vc) (digs T n)/\Kept af W w'):=fun W sa sb so na nb ca cb sc K hK h1 h3 h4=>by
  obtain ⟨V,R,Y,d,S,U⟩:=me hE hK;obtain ⟨_,_,_,e1,N,-,-,-,-⟩:=h1.open;cases e1
  obtain rfl:n=na:=by rw [<- N.o,R,hn]
  refine (JJ sa sb so n nb K ca cb n sc (jF M) (j4 M) (digs (X%M) n) W h1 h3 h4 S U (ak (by omega) _ _) hK.1).mono ?_;rintro e w' ⟨v',F,E,rfl,T,RL,hr,k,J⟩;obtain ⟨c1,c2,c3,c4⟩:=J.o;rw [ay,aB c,d] at c1 c2;rcases c1 with ⟨rfl,_⟩ | ⟨_,hno⟩
  ·rw [ai rfl] at c4;subst c4;obtain ⟨vo,vn,vc,rfl,P,-,-,-,-⟩:=hr.open;obtain rfl:n=vn:=by rw [<- P.o,ag]
   have hI:=c2 rfl;obtain ⟨t1,t2,rfl⟩:=hI.1 (by rw [v];exact hg);exact ⟨_,_,T,rfl,⟨t1,by rw [cH,ep,<- cH] at t2;exact t2⟩,hr,k⟩
  ·exact absurd ⟨⟨by rw [d];exact hE,by rw [d],by rw [d];exact hK,by rw [d]⟩,rfl,hlt⟩ hno
 clear hu hv t m O hX hM h2 ho hL hg hE v hlt c Q hn;delta ClZ;go_in;go_wp2_with fail;refine J1.mono ?_;rintro e w1 ⟨va,K,vb,rfl,o,p,hK,k1⟩;obtain ⟨sa,na,ca,rfl,_,_,_,_,_⟩:=o.open;obtain ⟨sb,nb,cb,rfl,_,_,_,_,_⟩:=p.open;have J2:=Cv sa sb na ca K nb cb w1;have HA:=aa o;have HB:=aa p;have C:=aa hK;have q:=aa k1;unfold jZ;clear J1 o p hK k1;go_wp2_with fail;refine J2.mono ?_;rintro e w2 ⟨rfl,k2⟩;obtain ⟨W,hW⟩:=aj (w2.alloc (.cells (mzA sa na ca K sb nb cb) 71))
 have l:W.heap[w2.heap.size]? = some (.cells (mzA sa na ca K sb nb cb) 71 (0,0)):=by rw [hW];exact heap_alloc_new _ _
 have kW:Kept af w2 W:=by rw [hW];exact (ah af w2).alloc _
 have HC:HzD (∀ W',Kept af W W'->W'.cell? ⟨w2.heap.size,0,none⟩=some (.slice sa na ca)/\W'.cell? ⟨w2.heap.size,1,none⟩=some (.int .u64 (K:Nat))/\W'.cell? ⟨w2.heap.size,2,none⟩=some (.slice sb nb cb)):=fun W' k=>ax ((k.block _ (lt_of_block l) (fun f=>f)).trans l)
 have HW:=aa hW;have r:=aa ((q.o.trans k2).trans kW);have z:=aa (HA.o.g (k2.trans kW));have A:=aa (HB.o.g (k2.trans kW));clear J2 k2 kW l hW HA HB q;go_wp2_with (rw [<- HW.o]);have KD:Kept af W W.drew:=(ah af W).drew;obtain ⟨c0,c1,c2⟩:=HC.o _ (ah af W);have s:=JR.o _ (r.o.trans KD);go_region_held3 (fun w'=>w'.cell? ⟨w2.heap.size,0,none⟩=some (.slice sa na ca)/\w'.cell? ⟨w2.heap.size,1,none⟩=some (.int .u64 (K:Nat))/\w'.cell? ⟨w2.heap.size,2,none⟩=some (.slice sb nb cb))
  (((try dsimp only);(repeat' apply And.intro) <;> first | (go_keep;done) | assumption))
  (first
  | (go_at_call 65;refine (JI.o _ sa sb so na nb ca cb sc K C.o (z.o.g a) (A.o.g a) x).mono ?_;rintro e w4 ⟨vo,vc,T,rfl,hT,y,k4⟩;obtain ⟨h,i,j⟩:=HC.o _ (a.trans k4))
  | (go_at_call 147;refine s.mono ?_;rintro e w3 ⟨so,sc,rfl,x,k3⟩;have a:=KD.trans k3;obtain ⟨G,H,I⟩:=HC.o _ a))
 have D:=aa y;have B:=aa (r.o.trans (a.trans k4));clear s JR JI KD a k3 k4 x y HC c0 c1 c2 G H I h i j;have hR:=dJ 190 w4;have hS:=mY vo n vc w4;go_wp2_with fail;refine hR.mono ?_;rintro e w5 ⟨rfl,rfl⟩;clear hR;go_wp2_with fail;refine hS.mono ?_;rintro e w6 ⟨rfl,rfl⟩;clear hS;go_wp2;go_ret;exact ⟨_,_,T,rfl,hT,D.o,B.o⟩

theorem zI (ao bo:OA) (L n g b:Nat) (xs ms:LN) (X M:Nat) (hX:X=val xs) (hM:M=val ms) (h2:2<=M) (ho:M%2=1) (hn:n=am M) (P:n<=130) (hL:L<=300) (hg:Nat.gcd X M≠1) (w:World) (hu:Row .u64 w (.slice ao L g) xs) (hv:Row .u64 w (.slice bo n b) ms) (t:Digs xs) (m:Digs ms) :
  ClZ 142 #[.slice ao L g,.slice bo n b] w fun e w'=>e=.panicked [refusal 190]/\Kept af w w':=by
 obtain ⟨_,_,_,e1,N,-,-,-,-⟩:=hv.open;cases e1
 have hE:=jW h2 ho;have J1:=CI bo n b ms M 0 hM hE.symm w hv m;have JR:HzD (∀ W,Kept af w W->ClZ 147 #[.slice ao L g,.slice bo n b] W fun e w'=>∃ vo vc,e=.returned (.slice vo n vc)/\Row .u64 w' (.slice vo n vc) (digs (X%M) n)/\Kept af W w'):=fun W k=>zK ao bo L n g b xs ms X M hX hM (by omega) hL (by omega) W (hu.g k) (hv.g k) t m
 have v:Nat.gcd (X%M) M=Nat.gcd X M:=by rw [ft X M,kj M X]
 have hlt:X%M<M:=bu;have c:X%M<18446744073709551616^n:=bH hlt ((aC M n).1 (by omega));have JI:HzD (∀ W (sa sb so:OA) (na nb ca cb sc K:Nat),rM M K->Row .u64 W (.slice sa na ca) (jF M)->Row .u64 W (.slice sb nb cb) (j4 M)->Row .u64 W (.slice so n sc) (digs (X%M) n)->ClZ 65 #[.pointer none,.agg (mzA sa na ca K sb nb cb),.slice so n sc] W fun e w'=>∃ vo vc T,e=.returned (.tuple #[.slice vo n vc,.int .u64 0,.int .i64 0])/\HzD (True)/\Row .u64 w' (.slice vo n vc) (digs T n)/\Kept af W w'):=fun W sa sb so na nb ca cb sc K hK h1 h3 h4=>by
  obtain ⟨V,Q,Y,d,R,S⟩:=me hE hK;obtain ⟨_,_,_,e1,J,-,-,-,-⟩:=h1.open;cases e1
  obtain rfl:n=na:=by rw [<- J.o,Q,hn]
  refine (JJ sa sb so n nb K ca cb n sc (jF M) (j4 M) (digs (X%M) n) W h1 h3 h4 R S (ak (by omega) _ _) hK.1).mono ?_;rintro e w' ⟨v',F,E,rfl,T,RL,hr,k,I⟩;obtain ⟨c1,c2,c3,c4⟩:=I.o;rw [ay,aB c,d] at c1 c2;rcases c1 with ⟨rfl,_⟩ | ⟨_,hno⟩
  ·rw [ai rfl] at c4;subst c4;obtain ⟨vo,vn,vc,rfl,O,-,-,-,-⟩:=hr.open;obtain rfl:n=vn:=by rw [<- O.o,ag]
   have hI:=c2 rfl;obtain ⟨_,rfl⟩:=hI.2 (by rw [v];exact hg);exact ⟨_,_,_,rfl,trivial,hr,k⟩
  ·exact absurd ⟨⟨by rw [d];exact hE,by rw [d],by rw [d];exact hK,by rw [d]⟩,rfl,hlt⟩ hno
 clear hu hv t m N hX hM h2 ho hL hg hE v hlt c P hn;delta ClZ;go_in;go_wp2_with fail;refine J1.mono ?_;rintro e w1 ⟨va,K,vb,rfl,o,p,hK,k1⟩;obtain ⟨sa,na,ca,rfl,_,_,_,_,_⟩:=o.open;obtain ⟨sb,nb,cb,rfl,_,_,_,_,_⟩:=p.open;have J2:=Cv sa sb na ca K nb cb w1;have HA:=aa o;have HB:=aa p;have C:=aa hK;have q:=aa k1;unfold jZ;clear J1 o p hK k1;go_wp2_with fail;refine J2.mono ?_;rintro e w2 ⟨rfl,k2⟩;obtain ⟨W,hW⟩:=aj (w2.alloc (.cells (mzA sa na ca K sb nb cb) 71))
 have l:W.heap[w2.heap.size]? = some (.cells (mzA sa na ca K sb nb cb) 71 (0,0)):=by rw [hW];exact heap_alloc_new _ _
 have kW:Kept af w2 W:=by rw [hW];exact (ah af w2).alloc _
 have HC:HzD (∀ W',Kept af W W'->W'.cell? ⟨w2.heap.size,0,none⟩=some (.slice sa na ca)/\W'.cell? ⟨w2.heap.size,1,none⟩=some (.int .u64 (K:Nat))/\W'.cell? ⟨w2.heap.size,2,none⟩=some (.slice sb nb cb)):=fun W' k=>ax ((k.block _ (lt_of_block l) (fun f=>f)).trans l)
 have HW:=aa hW;have r:=aa ((q.o.trans k2).trans kW);have z:=aa (HA.o.g (k2.trans kW));have A:=aa (HB.o.g (k2.trans kW));clear J2 k2 kW l hW HA HB q;go_wp2_with (rw [<- HW.o]);have KD:Kept af W W.drew:=(ah af W).drew;obtain ⟨c0,c1,c2⟩:=HC.o _ (ah af W);have s:=JR.o _ (r.o.trans KD);go_region_held3 (fun w'=>w'.cell? ⟨w2.heap.size,0,none⟩=some (.slice sa na ca)/\w'.cell? ⟨w2.heap.size,1,none⟩=some (.int .u64 (K:Nat))/\w'.cell? ⟨w2.heap.size,2,none⟩=some (.slice sb nb cb))
  (((try dsimp only);(repeat' apply And.intro) <;> first | (go_keep;done) | assumption))
  (first
  | (go_at_call 65;refine (JI.o _ sa sb so na nb ca cb sc K C.o (z.o.g a) (A.o.g a) x).mono ?_;rintro e w4 ⟨vo,vc,T,rfl,hT,y,k4⟩;obtain ⟨h,i,j⟩:=HC.o _ (a.trans k4))
  | (go_at_call 147;refine s.mono ?_;rintro e w3 ⟨so,sc,rfl,x,k3⟩;have a:=KD.trans k3;obtain ⟨D,G,H⟩:=HC.o _ a))
 have U:=aa y;have B:=aa (r.o.trans (a.trans k4));clear s JR JI KD a k3 k4 x y HC c0 c1 c2 D G H h i j;have hY:=eJ 190 w4;go_wp2_with fail;refine hY.mono ?_;rintro e w5 ⟨rfl,rfl⟩;exact ⟨rfl,rfl,B.o⟩

theorem lL {k:IntKind} {w':World} {p:OA} {B:Nat} {xs:LN} {v:Value} (h:Lsc w p B bs) (hv:Row k w v xs) (kk:Kept (ofP p) w w') (hk:k≠.i64:=by decide):Row k w' v xs:=hv.kept' kk (fun hx=>h.apart hv hx hk)

theorem sv {w':World} {p:OA} {B:Nat} {o:Tr} {ao bo:OA} {K a b V:Nat} (h:Lsc w p B bs) (hM:Md w o ao bo n K a b V) (kk:Kept (ofP p) w w'):Md w' o ao bo n K a b V:=
 ⟨⟨⟨lL h hM.m8.hm.1 kk,hM.m8.hm.2⟩,⟨lL h hM.m8.hr.1 kk,hM.m8.hr.2⟩,hM.m8.hmd,hM.m8.hrd,hM.m8.hK,hM.m8.ok⟩,hM.ev⟩

theorem EB (ns:LN):nO ns↔ns.length<=300/\eS (val ns)=0:=by
 unfold nO;have h:=ik (val ns);constructor
 ·rintro ⟨h1,h2,h3,h4⟩;exact ⟨h1,jW h3 h4⟩
 ·rintro ⟨h1,h2⟩;obtain ⟨h3,h4,h5⟩:=eu h2;exact ⟨h1,by omega,h4,h5⟩

theorem Fw (p:OA) (B:Nat) (bs ns:LN) (ao:OA) (L v:Nat) (ma mb:OA) (n K mm mr N:Nat) (r1:LN) (r2 r3:Nat) (r4:LN) (w:World) (ac:nO ns) (T:mW ns (bs.length+1) bs 0=(r1,r2,r3,r4)) (h:Lsc w p B bs) (hB:B<=w.heap.size) (U:Digs bs 256) (aH:bs.length<=10000) (hu:Row .u64 w (.slice ao L v) ns) (Y:Digs ns) (hN:N=val ns) (hM:Md w none ma mb n K mm mr N) :
  ClZ 39 #[.pointer p,.slice ao L v,.agg (mzA ma n mm K mb n mr)] w fun e w'=>((r3=0/\∃ uo un uc,e=.returned (.tuple #[.slice uo un uc,.int .i64 (r2:Nat)])/\Row .u64 w' (.slice uo un uc) r1/\Fresh w (.slice uo un uc))\/(r3≠0/\e=.panicked [refusal (r3:Nat)]))/\Lsc w' p B r4/\Kept (ofP p) w w':=by
 obtain ⟨_,_,_,e1,hL,-,-,-,-⟩:=hu.open;cases e1
 obtain ⟨W,hW⟩:=aj (w.alloc (.cells (mzA ma n mm K mb n mr) 71))
 have k0:Kept af w W:=by rw [hW];exact (ah af w).alloc _
 have al:W.heap[w.heap.size]? = some (.cells (mzA ma n mm K mb n mr) 71 (0,0)):=by rw [hW];exact heap_alloc_new _ _
 have ab:=hM.a.2.1;have aG:ns.length<=300:=ac.1;have HS:=aa (h.g k0);have HU:=aa (hu.g k0);have aw:=aa (hM.g k0);have s:=aa k0;have az:=aa T;have an:=aa U;have P:=aa Y;have HN:=aa hN;have HB:=aa hB;have HW:=aa hW;have ae:=eZ 0;clear h hu hM hW k0 T U Y hL ac hN hB;delta ClZ;go_in;go_wp2_with (rw [<- HW.o]);go_loopw [8] (fun av wr=>∃ (cs:LN) (a f:Nat),av=.int .i64 (a:Int)/\cs.length<f/\cs.length+a<=1000000/\HzD (Digs cs 256)/\HzD (Lsc wr p B cs)/\HzD (Kept (ofP p) W wr)/\HzD (mW ns f cs a=(r1,r2,r3,r4))) (fun _ wr=>qO p wr)
 case atStart=>exact ⟨bs,0,bs.length+1,rfl,by omega,by omega,an.o,HS.o,ah _ _,az.o⟩
 case round=>
  obtain ⟨cs,a,f,rfl,aJ,aI,X,O,j,heq⟩:=hrel;obtain ⟨g,rfl⟩:∃ g,f=g+1:=⟨f-1,by omega⟩
  have F:=aa O.o.left;have b:=heq.o;unfold mW at b;have hr:Row .u64 wr (.slice ao L v) ns:=lL HS.o HU.o j.o;have I:Md wr none ma mb n K mm mr N:=sv HS.o aw.o j.o;have A:=(j.o.block _ (lt_of_block al) (fun f=>by have h1:=(HS.o.inP f).1;have h2:=HB.o;omega)).trans al;have o:=BD p B cs ns (.slice ao L v) wr O.o (by have h1:=j.o.size;have h2:=s.o.size;have h3:=HB.o;omega) X.o hr P.o (by omega);by_cases hE0:fG ns cs=0
  ·rw [aK] at b;rw [hE0] at o;have hlt:=BL hE0;have aL:=Ax hE0;have am:Digs (jK ns cs):=by unfold jK;rw [ai hE0];exact ak (by omega) _ _
   have aB:HzD (val (jK ns cs)<N):=by rw [HN.o];exact (zt P.o hE0).2
   have aC:HzD (Digs (jJ ns cs) 256):=by
    obtain ⟨m,hm⟩:=BM ns cs;unfold HzD;rw [hm];exact X.o.drop m
   rw [<- HN.o] at b;generalize lu ns cs=kk at *;generalize jK ns cs=x at *;generalize jJ ns cs=cs' at *;have ga:IntKind.i64.wrap ((a:Int)+(kk:Int))=((a+kk:Nat):Int):=jN
   have aA:=aa am;clear hE0 heq am;go_wp2_with fail;refine o.mono ?_;rintro e w5 ⟨u5,rfl,⟨r5,f5⟩,s5,k5⟩;have C:HzD (Kept (ofP p) W w5):=j.o.trans k5;have J:=(k5.block _ (lt_of_block A) (fun f=>by have h1:=(HS.o.inP f).1;have h2:=HB.o;omega)).trans A;have R:=aa (sv O.o I k5);have t:=aa s5;have ap:HzD (∀ x,u5.ownBlock=some x->w.heap.size<=x):=fun x hx=>by have h1:=f5 x hx;have h2:=j.o.size;have h3:=s.o.size;omega
   have G:=aa r5;obtain ⟨uo,un,uc,rfl,-⟩:=r5.open;clear o r5 f5 s5 k5 hr I A;go_wp2_with fail;refine (ae _).mono ?_;rintro e aM ⟨rfl,aD⟩;obtain rfl:=aD.symm;go_wp2_with fail;refine wp_region_held_drew (S:=fun w'=>w'.heap[w.heap.size]? = some (.cells (mzA ma n mm K mb n mr) 71 (0,0))) (by kernel_rfl) J (fun hS=>?_);refine mM (fun _ _ d _ _ h=>by cases d <;> exact h) fun Q1 c ad=>?_
   refine aT c 0 (some 30) (.agg (mzA ma n mm K mb n mr)) hS ?_ (y:=dL fun w h=>by simp [execOp,go_sem,(ax h).1,(ax h).2.1,(ax h).2.2]);refine aT c 1 (some 31) (.slice uo un uc) hS ?_;refine aT c 2 (some 32) (.pointer (some ⟨w.heap.size,0,none⟩)) hS ?_;refine aT c 3 (some 33) (.slice ma n mm) hS ?_ (y:=dL fun w h=>by simp [execOp,go_sem,(ax h).1]);refine aT c 4 (some 34) (.int .i64 (n:Int)) hS ?_;simp only [aU];have c6:=Aa _ x n w5.drew (G.o.g (ah af w5).drew) aA.o;refine cD 5 (some 35) 83 [.slice uo un uc,.int .i64 (n:Int)] (c6) ?_;rintro r w6 ⟨rfl,q,k6⟩
   have M:=au J ((ah af w5).drew.trans k6);have r6:=Row.of_own (base:=w5.drew.heap.size) (e:=24) (k:=.u64) (zs:=digs (val x) n) (by rw [ag];exact q);have c7:=L9 ma mb _ n K mm mr n (val x) N w6 (R.o.g ((ah af w5).drew.trans k6)) r6 aB.o;clear q r6;refine .inl ⟨_,rfl,M,?_⟩;simp only [aU];refine cD 6 (some 36) 65 [.pointer none,.agg (mzA ma n mm K mb n mr),.slice (some ⟨w5.drew.heap.size,0,none⟩) n n] (c7) ?_;rintro r w7 ⟨zo,zn,zc,is,rfl,z,k7⟩;have i:=au M k7;have D:HzD (Kept af w5 w7):=((ah af w5).drew.trans k6).trans k7;clear c6 c7 k6 k7;refine .inl ⟨_,rfl,i,?_⟩
   refine aT c 7 (some 29) (.tuple #[.slice zo zn zc,.int .u64 (is:Nat),.int .i64 0]) i ?_;refine aT c 8 (some 37) (.slice zo zn zc) i ?_;refine aT c 9 (some 38) (.int .u64 (is:Int)) i ?_;refine aT c 10 (some 39) (.int .i64 0) i ?_;refine aT c 11 (some 12) (.slice zo zn zc) i ?_;refine aT c 12 (some 13) (.int .u64 (is:Int)) i ?_;refine aT c 13 (some 14) (.int .i64 0) i ?_;simp only [aU];refine wpAnyH_done (by kernel_rfl) ?_ _;refine ad.out _ _ ?_;have Q:HzD (Kept (ofP p) W w7):=C.o.next D.o (fun _ _ f=>f.elim)
   have H:=aa (t.o.g D.o);have ay:=aa (G.o.g D.o);clear t G J M i hS c ad R;go_wp2_with fail;refine (ae _).mono ?_;rintro e w8 ⟨rfl,aF⟩;obtain rfl:=aF.symm;generalize val x=V at *;by_cases hg:Nat.gcd V N=1
   ·rw [ai hg] at b z;simp only [fN] at b;obtain ⟨e1,e2,e3,e4⟩:=b;have l:HzD (x=r1/\a+kk=r2/\0=r3/\cs'=r4):=⟨e1,e2,e3,e4⟩
    subst z;clear e1 e2 e3 e4;go_wp2_with fail;go_ret2;obtain ⟨q1,q2,q3,q4⟩:=l.o;exact ⟨.inl ⟨q3.symm,uo,un,uc,by rw [<- q2];first | rfl | (rw [<- ga];rfl),by rw [<- q1];exact ay.o,ap.o⟩,by rw [<- q4];exact H.o,s.o.any.trans Q.o⟩
   ·rw [ar hg] at b z;have l:=aa b;subst z;have Z:=H.o.left;have aq:=aa Z;clear b Z hg;go_wp2_with fail;go_roundw
    case rel=>exact ⟨cs',a+kk,g,by first | rfl | (rw [ga];rfl) | go_num,by omega,by omega,aC,H,Q,l⟩
    case measure=>
     show qO p w7<qO p wr
     rw [aq.o,F.o];exact hlt
  ·rw [ai hE0] at b;simp only [fN] at b;obtain ⟨e1,e2,e3,e4⟩:=b;have l:HzD (fG ns cs=r3/\jJ ns cs=r4):=⟨e3,e4⟩
   have g0:¬ ((fG ns cs:Nat):Int)=0:=by omega
   have gb:(((fG ns cs:Nat):Int) != 0)=true:=by simp;omega
   have hY:=ic ((fG ns cs:Nat):Int);clear e1 e2 e3 e4 heq hr I A;generalize fG ns cs=E at *;go_wp2_with fail;refine o.mono ?_;rintro e w5 ⟨u5,rfl,⟨r5,-⟩,s5,k5⟩;have t:=aa s5;have C:HzD (Kept (ofP p) W w5):=j.o.trans k5;obtain ⟨uo,un,uc,rfl,-⟩:=r5.open;clear o r5 s5 k5;go_wp2_with fail;try rw [gb]
   refine (hY _).mono ?_;rintro e w6 ⟨rfl,aE⟩;obtain rfl:=aE.symm;obtain ⟨q3,q4⟩:=l.o;exact ⟨rfl,.inr ⟨by omega,by rw [<- q3]⟩,by rw [<- q4];exact t.o,s.o.any.trans C.o⟩

def GF (bR bM:Nat) (p:OA) (B:Nat) (r1:LN) (r2 r3:Nat) (r4:LN) (w:World) (r:Ending) (w':World):Prop:=
 (r3=0/\r=.returned (.tuple #[])/\∃ v w1,Row .u64 w1 v r1/\Fresh w v/\Lsc w1 p B r4/\Kept (ofP p) w w1/\w'=(w1.setCell ⟨bR,0,none⟩ v).setCell ⟨bM,0,none⟩ (.int .i64 (r2:Nat)))\/(r3≠0/\r=.panicked [refusal (r3:Nat)]/\r1=[]/\r2=0/\Lsc w' p B r4/\Kept (ofP p) w w')

theorem uw:∀ {f:Nat} {bs:LN} {a:Nat} {r1:LN} {k e:Nat} {r4:LN},mW ns f bs a=(r1,k,e,r4)->e≠0->r1=[]/\k=0
 | 0,_,_,_,_,_,_,h,_=>by simp [mW] at h;exact ⟨h.1,h.2.1.symm⟩
 | f+1,bs,a,r1,k,e,r4,h,he=>by
  unfold mW at h
  split at h
  ·simp only [fN] at h;exact ⟨h.1.symm,h.2.1.symm⟩
  ·split at h
   ·simp only [fN] at h;exact absurd h.2.2.1.symm he
   ·exact uw h he

theorem H9 (p:OA) (B:Nat) (bs ns:LN) (ao:OA) (L l bN bS bR bM:Nat) (r1:LN) (r2 r3:Nat) (r4:LN) (w:World) (d:oI ns bs=(r1,r2,r3,r4)) (h:Lsc w p B bs) (hB:B<=w.heap.size) (G:B<=bR/\B<=bM) (o:Digs bs 256) (q:bs.length<=10000) (hu:Row .u64 w (.slice ao L l) ns) (j:Digs ns) (y:L<=1000)
  (xN:Box w bN (.slice ao L l) 23) (xS:Box w bS (.pointer p) 38) (xR:Box w bR (.slice none 0 0) 23) (xM:Box w bM (.int .i64 0) 3) (R:bR≠bM) (H:∀ x,ofP p x->x≠bN/\x≠bS/\x≠bR/\x≠bM) :
  ClZ 38 #[.pointer (some ⟨bN,0,none⟩),.pointer (some ⟨bS,0,none⟩),.pointer (some ⟨bR,0,none⟩),.pointer (some ⟨bM,0,none⟩)] w fun r w'=>GF bR bM p B r1 r2 r3 r4 w r w':=by
 obtain ⟨_,_,_,e1,hL,-,-,-,-⟩:=hu.open;cases e1
 obtain ⟨N,hN⟩:=aj (val ns)
 obtain ⟨E,hE⟩:=aj (eS N)
 have c:=EB ns;rw [<- hN,<- hE,hL.o] at c;have b0:=xN.cell;have hY:=ic 1;have z:=eZ 1;by_cases hE0:E=0
 ·have c1:=vT none ao L l ns N (am N) w trivial hu j (by omega) hN (by rw [<- hE];exact hE0) rfl;obtain ⟨n,hn⟩:=aj (am N)
  rw [<- hn] at c1;by_cases hL3:L<=300
  ·have C:=c.2 ⟨hL3,hE0⟩;have A:mW ns (bs.length+1) bs 0=(r1,r2,r3,r4):=by
    unfold oI at d;rw [ai C] at d;exact d
   have JD:=aa fun W (k:Kept af w W) ma mb K mm mr (hM:Md W none ma mb n K mm mr N)=>Fw p B bs ns ao L l ma mb n K mm mr N r1 r2 r3 r4 W C A (h.g k) (aI hB k.size) o q (hu.g k) j hN hM
   have s:HzD (r3≠0->r1=[]/\r2=0):=fun h=>uw A h
   have gL:¬ (L:Int) > 300:=by omega
   have Q:decide ((300:Int)<(L:Int))=false:=by simp;omega
   have v:=aa xN;have P:=aa xS;have O:=aa xR;have M:=aa xM;have T:=aa G;clear d h hu j o q hN hE c C A xN xS xR xM hL hE0 y hY hn hL3 G;delta ClZ;go_in;go_wp2_with fail;refine c1.mono ?_;rintro e w1 ⟨ma,mb,K,mm,mr,rfl,hM,-,k1⟩;obtain ⟨W2,i⟩:=aj (w1.alloc (.cells (mzA ma n mm K mb n mr) 71))
   have k2:Kept af w1 W2:=by rw [i];exact (ah af w1).alloc _
   have I:W2.heap[w1.heap.size]? = some (.cells (mzA ma n mm K mb n mr) 71 (0,0)):=by rw [i];exact heap_alloc_new _ _
   have K2:=k1.trans k2;obtain ⟨m0,m1,m2⟩:=ax I;have b2:=(v.o.g K2).cell;have s2:=(P.o.g K2).cell;have g:=aa K2;have J2:=JD.o W2 K2 ma mb K mm mr (hM.g k2);have t:=aa i;clear c1 k1 k2 K2 hM i I b0;go_wp2_with (rw [<- t.o]);refine (z _).mono ?_;rintro e w3 ⟨rfl,S⟩;obtain rfl:=S.symm;go_wp2_with fail;refine J2.mono ?_;rintro e w4 ⟨⟨h0,uo,un,uc,rfl,hr,hf⟩ | ⟨h0,rfl⟩,hs,k4⟩
   ·have kk:Kept (ofP p) w w4:=g.o.any.trans k4;have xr:=(O.o.g g.o).kept k4 (fun f=>(H _ f).2.2.1 rfl);have xm:=(M.o.g g.o).kept k4 (fun f=>(H _ f).2.2.2 rfl);have c3:=xr.cell;have f3:=xr.free;have D:=xm.other ⟨bR,0,none⟩ (fun e=>R e.symm) (.slice uo un uc);have c4:=D.cell;have f4:=D.free;have HF:=aa (hf.b g.o);have HR:=aa hr;have HS:=aa hs;have J:=aa kk;clear J2 hr hf hs k4 kk xr xm D m0 m1 m2 b2 s2;go_wp2_with fail;go_end0
    exact .inl ⟨h0,rfl,_,_,HR.o,HF.o,HS.o,J.o,rfl⟩
   ·obtain ⟨q1,q2⟩:=s.o h0;exact ⟨rfl,.inr ⟨h0,rfl,q1,q2,hs,g.o.any.trans k4⟩⟩
  ·have m:¬ nO ns:=fun h=>hL3 (c.1 h).1
   unfold oI at d;rw [ar m] at d;simp only [fN] at d;obtain ⟨rfl,rfl,rfl,rfl⟩:=d;have gL:(L:Int) > 300:=by omega
   have Q:decide ((300:Int)<(L:Int))=true:=by simp;omega
   have HS:=aa h;have v:=aa xN;clear h hu j o q hN hE c m xN xS xR xM hL hE0 y z hn hL3;delta ClZ;go_in;go_wp2_with fail;refine c1.mono ?_;rintro e w1 ⟨ma,mb,K,mm,mr,rfl,hM,-,k1⟩;obtain ⟨W2,i⟩:=aj (w1.alloc (.cells (mzA ma n mm K mb n mr) 71))
   have K2:Kept af w W2:=by rw [i];exact k1.alloc _
   have b2:=(v.o.g K2).cell;have g:=aa K2;have t:=aa i;clear c1 k1 K2 hM i b0;go_wp2_with (rw [<- t.o]);refine (hY _).mono ?_;rintro e w3 ⟨rfl,rfl⟩;exact ⟨rfl,.inr ⟨by decide,rfl,rfl,rfl,HS.o.g g.o,g.o.any⟩⟩
 ·have m:¬ nO ns:=fun h=>hE0 (c.1 h).2
  unfold oI at d;rw [ar m] at d;simp only [fN] at d;obtain ⟨rfl,rfl,rfl,rfl⟩:=d;have c1:=pU ao L l ns N E hN hE w hu j;have g0:¬ ((E:Nat):Int)=0:=by omega
  have gb:(((E:Nat):Int) != 0)=true:=by simp;omega
  have HS:=aa h;clear h hu j o q c m xN xS xR xM hL y z hN hE;delta ClZ;go_in;go_wp2_with fail;refine c1.mono ?_;rintro e w1 ⟨a,K,b,rfl,ra,rb,-,-,k1⟩;obtain ⟨za,zn,zc,rfl,-⟩:=ra.open;obtain ⟨zb,zm,zd,rfl,-⟩:=rb.open;unfold jZ;have F:=aa k1;clear c1 k1 ra rb b0;go_wp2_with fail;try rw [gb]
  refine (hY _).mono ?_;rintro e w3 ⟨rfl,rfl⟩;exact ⟨rfl,.inr ⟨by decide,rfl,rfl,rfl,HS.o.g (F.o.alloc _),(F.o.alloc _).any⟩⟩

theorem GU (P Q:Nat):eW P Q<=P*Q:=by
 unfold eW;exact er (aI (em _ _) (Nat.sub_le _ _)) (Nat.sub_le _ _)

theorem Am {l:LN} (h:l≠[]):∃ l' x,l=l' ++ [x]:=⟨l.dropLast,l.getLast h,(List.dropLast_concat_getLast h).symm⟩

theorem zu:∀ (n:Nat) (a b:LN),a.length=n->b.length=n->Digs a 256->Digs b 256->bev a=bev b->a=b
 | 0,a,b,ha,hb,_,_,_=>by rw [ml.1 ha,ml.1 hb]
 | n+1,a,b,ha,hb,da,db,h=>by
  obtain ⟨a',x,rfl⟩:=Am (l:=a) (fun e=>by rw [e] at ha;cases ha);obtain ⟨b',y,rfl⟩:=Am (l:=b) (fun e=>by rw [e] at hb;cases hb);rw [nN,nN] at h;have hx:x<256:=da x (by simp);have hy:y<256:=db y (by simp);rw [bk,List.length_singleton] at ha hb;have e1:x=y:=by omega
  have e2:=zu n a' b' (by omega) (by omega) (fun d hd=>da d (by simp [hd])) (fun d hd=>db d (by simp [hd])) (by omega);rw [e1,e2]

theorem Ex (hd:Digs cs 256):bes (bev cs) cs.length cs.length=cs:=
 zu cs.length _ _ (dt _ _ _) rfl (qf _ _ _) hd (qg (nM hd))

theorem pO {r1 r4:LN} {k e1:Nat} (h:oI ns bs=(r1,k,e1,r4)):e1=0\/e1=1\/e1=150:=by
 have hF:nO ns->∀ f bs a r1 k e1 r4,mW ns f bs a=(r1,k,e1,r4)->e1=0\/e1=150:=fun b f=>by
  induction f with
  | zero=>
   intro bs a r1 k e1 r4 h;simp only [mW,fN] at h;omega
  | succ f ih=>
   intro bs a r1 k e1 r4 h;unfold mW at h
   split at h
   ·next hb=>
    simp only [fN] at h;obtain ⟨_,_,rfl,_⟩:=h;unfold fG at hb ⊢;have h1:=b.1;have h2:=b.2.2.1;rw [aK,aK]
    split
    ·exact .inr rfl
    ·exact .inl rfl
   ·split at h
    ·simp only [fN] at h;omega
    ·exact ih _ _ _ _ _ _ h
 unfold oI at h
 split at h
 ·next b=>rcases hF b _ _ _ _ _ _ _ h with h | h <;> omega
 ·simp only [fN] at h;omega

theorem vR {a b:LN} (h:PrvL ns ds ps qs a b c e at_ fs cs bs E RL rest) (h0:E≠0) (h1:E≠220):RL=[]:=by
 rcases h with ⟨_,_,rfl,_⟩ | ⟨_,_,_,rfl,_⟩ | ⟨_,_,_,_,_,_,⟨_,_,rfl⟩ | ⟨_,_,_,_,_,_,⟨_,rfl,_⟩ | ⟨_,rfl,_⟩⟩⟩
 ·rfl
 ·rfl
 ·rfl
 ·exact absurd rfl h1
 ·exact absurd rfl h0

theorem IJ {a b:LN} (h:PrvL ns ds ps qs a b c e at_ fs cs bs 220 RL rest):RL=List.replicate cs.length 0:=by
 rcases h with ⟨_,h,_⟩ | ⟨_,_,h,_⟩ | ⟨_,_,_,_,_,hb,⟨_,h,_⟩ | ⟨_,_,_,_,_,_,⟨_,_,h⟩ | ⟨_,h,_⟩⟩⟩
 ·omega
 ·omega
 ·have:=pO hb;omega
 ·exact h
 ·omega

theorem yM {b d:LN} (h:PrvL ns ds ps qs b c d e at_ fs cs bs 0 RL rest):KeyGood ns ds ps qs b c d e/\(cs.length=fI (val ns)/\bev cs<val ns)/\∃ m,m<val ns/\m^e%val ns=bev cs/\RL=bes m cs.length cs.length:=by
 rcases h with ⟨_,h,_⟩ | ⟨_,_,h,_⟩ | ⟨hg,hn,_,_,e1,hb,⟨h1,h,_⟩ | ⟨_,T,hT,_,m,hm,⟨_,h,_⟩ | ⟨hck,_,hRL⟩⟩⟩
 ·omega
 ·omega
 ·exact absurd h.symm h1
 ·omega
 ·have a:cs.length=fI (val ns)/\bev cs<val ns:=by
   unfold iR at hn
   split at hn
   ·next h=>exact h
   ·omega
  exact ⟨hg,a,m,by rw [hm];exact Bc (by omega),hck,hRL⟩

theorem Fu {a b:LN} (h:PrvL ns ds ps qs a b c e at_ fs cs bs 0 RL rest) (hd:Digs cs 256):sU ns e RL=0/\BK ns e RL=cs:=by
 obtain ⟨hg,⟨h1,h2⟩,m,h3,h4,rfl⟩:=yM h;have hb:bev (bes m cs.length cs.length)=m:=qg (bH h3 (by rw [h1];exact DN _));have hE:sU ns e (bes m cs.length cs.length)=0:=GJ hg.a.2.2.2.1 (by rw [dt];exact h1) (by rw [hb];exact h3);refine ⟨hE,?_⟩;unfold BK;rw [ai hE,hb,h4,dt,Ex hd]

theorem uM {g i k:LN} (h:KeyGood ns ds ps qs g i k e):e*val ds%eW (val ps) (val qs)=1/\val g=val ds%(val ps-1)/\val i=val ds%(val qs-1)/\val qs*val k%val ps=1/\Nat.Coprime (val ps) (val qs)/\val ns=val ps*val qs/\3<=val ps/\3<=val qs:=by
 have hf:=h.a;obtain ⟨n,d,u,r,l,o,p,hn,m,s,t,b,c,f⟩:=h;have hg:=n.2.2.2.1;have hP:=hf.2.1;have hQ:=hf.2.2.1;generalize hPP:val ps=P at *;generalize hQQ:val qs=Q at *;have hw:=(Nat.le_max_left (am P) (am Q))
 have q:=(Nat.le_max_right (am P) (am Q))
 have j:∀ {X:Nat},X<=P->X<18446744073709551616^max (am P) (am Q):=fun h=>fF h ((aC P _).1 hw)
 have a:∀ {X:Nat},X<=Q->X<18446744073709551616^max (am P) (am Q):=fun h=>fF h ((aC Q _).1 q)
 have vd:val ds=d:=by
  rw [m,ay,aB];have h1:=GU P Q;have h2:cK P Q=digs (P*Q) (max (am (P*Q)) 1):=rfl;rw [h2,ag];have h3:=(aC (P*Q) (max (am (P*Q)) 1)).1 (Nat.le_max_left _ _);omega
 rw [vd];refine ⟨l,?_,?_,?_,hg,hf.1,hP.1,hQ.1⟩
 ·rw [b,ay,aB (j (by have:=aY d (show 0<P-1 by have:=hP.1;omega);omega))]
 ·rw [c,ay,aB (a (by have:=aY d (show 0<Q-1 by have:=hQ.1;omega);omega))]
 ·rw [f,ay,aB (j (eH o)),p]

theorem Dj {l:KL} (h:PrvL l.n l.d l.p l.q l.dp l.dq l.qi e at_ fs cs bs 0 RL rest) (hP:PrimeN (val l.p)) (hQ:PrimeN (val l.q)) {RP:LN} (hp:sR l e cs E RP):E=0/\RP=RL:=by
 obtain ⟨hg,a,m,h1,h2,rfl⟩:=yM h;obtain ⟨g1,_,_,_,g5,g6,g7,g8⟩:=uM hg;have hE:E=0:=by
  rcases hp.1 with ⟨_,hno⟩ | ⟨_,h⟩
  ·exact absurd hg hno
  ·rw [h];unfold iR;rw [ai a]
 refine ⟨hE,?_⟩;rw [hp.2,ai hE];rw [g6] at h1 h2 ⊢;rw [Bf hP hQ g7 g8 g5 g1 h1 h2]

theorem vO {l:KL} (b:¬ (1<=at_/\at_<=4)) (hP:PrimeN (val l.p)) (hQ:PrimeN (val l.q)):¬ PrvL l.n l.d l.p l.q l.dp l.dq l.qi e at_ fs cs bs 220 RL rest:=fun h=>by
 rcases h with ⟨_,h,_⟩ | ⟨_,_,h,_⟩ | ⟨hg,hn,r1,_,e1,hb,⟨_,h,_⟩ | ⟨_,T,hT,hT2,m,hm,⟨hck,_,_⟩ | ⟨_,h,_⟩⟩⟩
 ·omega
 ·omega
 ·have:=pO hb;omega
 ·obtain ⟨g1,g2,g3,g4,g5,g6,g7,g8⟩:=uM hg;have a:bev cs<val l.n:=by
   unfold iR at hn
   split at hn
   ·next h=>exact h.2
   ·omega
  refine hck ?_;rw [g6] at hT hT2 hm a ⊢;rw [hm,g2,g3,Be hP hQ g7 g8 g5 g1 g4 hT2 b];exact yI hP hQ g7 g8 g5 g1 a
 ·omega

theorem Dn {a b:LN} (h:PrvL ns ds ps qs a b c e at_ fs cs bs E RL rest) (hg:KeyGood ns ds ps qs a b c e):E=0\/E=1\/E=150\/E=220:=by
 rcases h with ⟨h,_⟩ | ⟨_,_,rfl,_⟩ | ⟨_,_,_,_,_,hb,⟨_,rfl,_⟩ | ⟨_,_,_,_,_,_,⟨_,rfl,_⟩ | ⟨_,rfl,_⟩⟩⟩
 ·exact absurd hg h
 ·omega
 ·have:=pO hb;omega
 ·omega
 ·omega

def Gx (w:World):Value->Nat
 | .slice (some a) n _=>val ((List.range n).map fun i=>cellN w ⟨a.block,a.off+i,none⟩)
 | _=>0

theorem Row.num {v:Value} (h1:Row .u64 w v ds):Gx w v=val ds:=by
 obtain ⟨ao,f,rfl,_,_,_,hc⟩:=h1;cases ao with
 | none=>
  have:ds=[]:=by
   rcases ds with _ | ⟨d,r⟩
   ·rfl
   ·obtain ⟨b,off,e,_⟩:=hc 0 (by simp);cases e
  subst this;rfl
 | some a=>
  show val ((List.range ds.length).map fun i=>cellN w ⟨a.block,a.off+i,none⟩)=_
  congr 1
  refine List.ext_getElem (by simp) (fun i h1 h2=>?_);obtain ⟨b,off,e,c⟩:=hc i h2;cases e
  rw [List.getElem_map,List.getElem_range];unfold cellN;rw [c,aA,aS h2];simp

theorem FV {xs:LN} {m:Nat} (hm:m<=xs.length) (h:val xs<18446744073709551616^m):val (xs.take m)=val xs:=by
 have e:=bg 18446744073709551616 xs m hm;rcases cE (val (xs.drop m)) with h0 | h0
 ·rw [h0] at e;omega
 ·have:=bG (18446744073709551616^m) h0;omega

theorem I5 (ao:OA) (n d:Nat) (xs:LN) (w:World) (h:Row .u64 w (.slice ao n d) xs) (hd:Digs xs) (hl:n<=300) :
  ClZ 233 #[.slice ao n d] w fun e w'=>∃ (i:OA) (m a:Nat) (ys:LN),e=.returned (.slice i m a)/\m<=n/\Row .u64 w (.slice i m a) ys/\Digs ys/\val ys=val xs/\w'=w:=by
 have hB:=iO _ xs w h hd (by obtain ⟨_,_,_,e,h',_⟩:=h.open;cases e;rw [h'.o];omega);obtain ⟨_,_,_,e1,hL,o,l,k,_⟩:=h.open;cases e1
 obtain ⟨m,hm⟩:=aj (am (val xs))
 have g:m<=n:=by
  rw [hm,<- hL.o];exact (aC _ _).2 (aE (by omega) hd)
 have f:=pq (val xs);rw [<- hm] at f;have j:aN (val xs)<=64*n:=by
  rw [bh,<- B64,<- hL.o];exact aE (by omega) hd
 have hv:val (xs.take m)=val xs:=FV (by rw [hL.o];exact g) ((aC _ _).1 (by omega));have c:=aa (h.cut (m:=m) (by rw [hL.o];exact g));have HD:=aa (hd.take m);have HV:=aa hv;obtain ⟨b,hb⟩:=aj (aN (val xs))
 rw [<- hb] at hB f j;have g1:((b:Int)+64-1)/64=(m:Int):=by omega
 have g2:(m:Int)<=(d:Int):=by omega
 have g0:(0:Int)<=(m:Int):=cN _;clear hv f hb h hd hL hm;delta ClZ;go_in;go_wp2_with fail;refine hB.mono ?_;rintro e w1 ⟨rfl,rfl⟩;clear hB;go_wp2_with fail;go_ret;exact ⟨_,_,_,_,rfl,g,c.o,HD.o,HV.o,rfl⟩

theorem Ck {A C:Nat} (hA:A<18446744073709551616^n) (hC:C<18446744073709551616^n):Nat.gcd A C<18446744073709551616^n:=by
 rcases cE A with h | h
 ·rw [h,Nat.gcd_zero_left];exact hC
 ·exact fF (Nat.gcd_le_left _ h) hA

theorem DE {V:Nat} (h:V<18446744073709551616^n) (hn:n<=300):ee V (n:Int)=0/\eP V (n:Int)=digs V n:=by
 have hw:=(aC V n).2 h;have e:ee V (n:Int)=0:=by
  unfold ee;rw [aK,aK]
 exact ⟨e,by unfold eP;rw [ai e];rfl⟩

theorem Cq (ao bo:OA) (L M d c:Nat) (xs ys:LN) (E:Nat) (hE:E=if pt L M=true then 0 else 2) (RL:LN) (g:RL=if E=0 then digs (Nat.gcd (val xs) (val ys)) (max L M) else []) (w:World) (hu:Row .u64 w (.slice ao L d) xs) (hv:Row .u64 w (.slice bo M c) ys) (k:Digs xs) (l:Digs ys) :
  ClZ 202 #[.slice ao L d,.slice bo M c] w fun e w'=>∃ v',e=.returned (.tuple #[v',.int .i64 (E:Nat)])/\Row .u64 w' v' RL/\Kept af w w':=by
 have lx:xs.length=L:=by obtain ⟨_,_,_,e,h,_⟩:=hu.open;cases e;exact h.o
 have ly:ys.length=M:=by obtain ⟨_,_,_,e,h,_⟩:=hv.open;cases e;exact h.o
 have V:max (L:Int) (M:Int)=((max L M:Nat):Int):=by omega
 by_cases hok:L<=300/\M<=300
 ·rw [ai (by unfold pt;exact dV hok)] at hE;subst hE;rw [ai rfl] at g;have hA:val xs<18446744073709551616^max L M:=bi (aE (by omega) k) (bj (by omega) (by omega));have hC:val ys<18446744073709551616^max L M:=bi (aE (by omega) l) (bj (by omega) (by omega));have hG:=Ck hA hC;have T:max L M<=300:=by omega
  obtain ⟨r1,r2⟩:=DE hG T;have g1:¬ ((max L M:Nat):Int) > 300:=by omega
  have HU:=aa hu;have HV:=aa hv;have HX:=aa k;have HY:=aa l;have y:=aa g;have t:=aa r1;have v:=aa r2;obtain ⟨G,q⟩:=aj (Nat.gcd (val xs) (val ys))
  rw [<- q] at t v y;have s:=aa q.symm;generalize max L M=N at *;clear hu hv k l g r1 r2 hG hA hC q lx ly;delta ClZ;go_in;go_wp2_with fail;go_loopw [0,1] (fun a b wr=>∃ (ao bo:OA) (L M d c:Nat) (xs ys:LN),a=.slice ao L d/\b=.slice bo M c/\L<=300/\M<=300/\HzD (Row .u64 wr (.slice ao L d) xs)/\HzD (Row .u64 wr (.slice bo M c) ys)/\HzD (Digs xs)/\HzD (Digs ys)/\HzD (Nat.gcd (val xs) (val ys)=G)/\HzD (Kept af w wr)) (fun _ b wr=>Gx wr b)
  case atStart=>exact ⟨ao,bo,L,M,d,c,xs,ys,rfl,rfl,hok.1,hok.2,HU.o,HV.o,HX.o,HY.o,s.o,ah _ _⟩
  case round=>
   clear HU HV HX HY s hok;obtain ⟨ao,bo,L,M,d,c,xs,ys,rfl,rfl,hL,hM,HU,HV,HX,HY,HG,HK⟩:=hrel;have ly:ys.length=M:=by obtain ⟨_,_,_,e,h,_⟩:=HV.o.open;cases e;exact h.o
   have hB:=iO _ ys wr HV.o HY.o (by rw [ly];omega);have f:=HV.o.num;by_cases h0:val ys=0
   ·have i:aN (val ys)=0:=by rw [h0];rfl
    rw [i] at hB;have p:=HG.o;rw [h0,Nat.gcd_zero_right] at p;have B:=Fm _ xs (N:Int) wr HU.o HX.o;rw [p,t.o,v.o] at B;have O:=aa HK.o;clear f i p h0 ly;go_wp2_with fail;refine hB.mono ?_;rintro e w1 ⟨rfl,rfl⟩;clear hB;go_wp2_with fail;refine B.mono ?_;rintro e w2 ⟨v2,rfl,j,k2⟩;go_wp2_with fail;go_ret2;refine ⟨_,by first | rfl | trivial,?_,O.o.trans k2⟩;rw [y.o];exact j
   ·obtain ⟨E,hE⟩:=aj (jY (val ys) L M)
    obtain ⟨e1,_,e3⟩:=iz (X:=val xs) (Y:=val ys) (L:=L) (M:=M) ⟨hL,hM⟩ h0;have hQ:=yH ao bo L M d c xs ys 0 e1.symm wr HU.o HV.o HX.o HY.o;rw [e3] at hQ;have U:0<aN (val ys):=by
     rcases cE (aN (val ys)) with h | h
     ·have:=(bh (val ys) 0).1 (by omega);rw [cP] at this;omega
     ·exact h
    obtain ⟨bl,i⟩:=aj (aN (val ys))
    rw [<- i] at hB U;have hlt:val xs%val ys<val ys:=bu;have Z:val ys<18446744073709551616^M:=by rw [<- ly];exact aE (by omega) HY.o
    have m:HzD (val (digs (val xs%val ys) M)=val xs%val ys):=by
     unfold HzD;rw [ay,dH]
    have I:HzD (Nat.gcd (val ys) (val xs%val ys)=G):=by
     unfold HzD;rw [<- HG.o,ft (val ys),<- kj,ft]
    have P:=aa hlt;have n:=aa f;clear hE e1 e3 i hlt Z h0 HG f ly;go_wp2_with fail;refine hB.mono ?_;rintro e w1 ⟨rfl,rfl⟩;clear hB;go_wp2_with fail;refine hQ.mono ?_;rintro e w2 ⟨v1,v2,rfl,W,j,k2⟩;obtain ⟨ro,rn,rc,rfl,F,_⟩:=j.open;have S:rn=M:=by rw [<- F.o,ag]
    subst S;have A:=I5 ro rn rc _ w2 j (ak (by omega) _ _) hM;clear hQ W F;go_wp2_with fail;refine A.mono ?_;rintro e w3 ⟨R,m',o,zs,rfl,ab,D,C,r,rfl⟩;rw [m.o] at r;have x:=aa D;have H:=aa C;have z:=aa r;have Q:=aa (HV.o.g k2);have J:=aa (HK.o.trans k2);clear A j D C r k2;go_wp2_with fail;go_roundw
    case rel=>exact ⟨bo,R,rn,m',c,o,ys,zs,rfl,rfl,hM,by omega,Q.o,x.o,HY.o,H.o,by unfold HzD;rw [z.o];exact I.o,J.o⟩
    case measure=>rw [x.o.num,z.o,n.o];exact P.o
 ·rw [ar (by unfold pt;simpa using hok)] at hE;subst hE;rw [aK] at g;subst g;have g1:((max L M:Nat):Int) > 300:=by omega
  clear hu hv k l lx ly;generalize max L M=N at *;delta ClZ;go_in;go_wp2;go_ret2;exact ⟨_,rfl,Row.nil _ _,ah _ _⟩

theorem EL {C T:Nat} (h2:2<=C) (h3:3<=e) (hT:T<e) (hi:C*T%e=1):(1+C*(e-T))/e<C/\e*((1+C*(e-T))/e)%C=1:=by
 have h0:1<=T:=by
  rcases cE T with h | h
  ·subst h;rw [df,iw] at hi;exact absurd hi (by decide)
  ·exact h
 have hs:C*(e-T)=C*e-C*T:=li ..;have c:C*T<=C*e:=bG _ (by omega);have b:=dD (C*T) e;rw [hi] at b;have hq:C*T/e<C:=by
  rw [cW (by omega)];exact my hT (by omega)
 have a:1+C*(e-T)=e*(C-C*T/e):=by
  rw [hs,li,aD e C];omega
 have hd:(1+C*(e-T))/e=C-C*T/e:=by rw [a,Nat.mul_div_cancel_left _ (by omega)]
 have hC:C*1<=C*T:=bG _ h0;rw [hd];refine ⟨?_,?_⟩
 ·have hp:0<C*T/e:=by
   rcases cE (C*T/e) with h | h
   ·rw [h] at b;omega
   ·exact h
  omega
 ·rw [<- a,eO,dH]

theorem oF (h0:e≠0) (he:e<18446744073709551616):am e=1:=by
 have h1:=(aC e 1).2 (by rw [i8];exact he);have h2:¬ am e<=0:=fun h=>by
  have:=(aC e 0).1 h;rw [cP] at this;omega
 omega

theorem EY (co:OA) (L a:Nat) (cs:LN) (C e:Nat) (hC:C=val cs) (h3:3<=e) (c:e%2=1) (b:e<18446744073709551616) (hL:L<=299) (hg:Nat.gcd C e≠1) (w:World) (hu:Row .u64 w (.slice co L a) cs) (hd:Digs cs) :
  ClZ 143 #[.int .u64 (e:Nat),.slice co L a] w fun r w'=>r=.panicked [refusal 190]/\Kept af w w':=by
 obtain ⟨_,_,_,e1,hl,-,-,-,-⟩:=hu.open;cases e1
 have d:am e=1:=oF (by omega) b;have JW:=sq e b w;have J1:HzD (∀ W zo zc,Kept af w W->Row .u64 W (.slice zo 1 zc) [e]->ClZ 142 #[.slice co L a,.slice zo 1 zc] W fun r w'=>r=.panicked [refusal 190]/\Kept af W w'):=fun W zo zc k hr=>zI co zo L 1 a zc cs [e] C e hC (iL e).symm (by omega) c d.symm (by omega) (by omega) hg W (hu.g k) hr hd (Digs.one b)
 clear hu hd hl hC h3 c b hL hg d;delta ClZ;go_in;go_wp2_with fail;refine JW.mono ?_;rintro r w1 ⟨zo,zc,rfl,hr,k1⟩;have J2:=J1.o w1 zo zc k1 hr;clear JW hr;go_wp2_with fail;refine J2.mono ?_;rintro r w2 ⟨rfl,k2⟩;exact ⟨rfl,rfl,k1.trans k2⟩

theorem Cu (bP bQ bO:Nat) (ao bo:OA) (L M c a:Nat) (xs ys:LN) (P Q:Nat) (hP:P=val xs) (hQ:Q=val ys) (d:P<2\/Q<2) (w:World) (hu:Row .u64 w (.slice ao L c) xs) (hv:Row .u64 w (.slice bo M a) ys) (f:Digs xs) (g:Digs ys) (b0:w.cell? ⟨bP,0,none⟩=some (.slice ao L c)) (b1:w.cell? ⟨bQ,0,none⟩=some (.slice bo M a)) :
  ClZ 201 #[.pointer (some ⟨bP,0,none⟩),.pointer (some ⟨bQ,0,none⟩),.pointer (some ⟨bO,0,none⟩)] w fun e w'=>e=.panicked [refusal 1]/\Kept af w w':=by
 have hY:=eJ 1;have JP:=oO ao L c xs 2 (by omega) (decide (P<2)) (by rw [hP]) w hu f;have JQ:HzD (∀ W,Kept af w W->ClZ 195 #[.slice bo M a,.int .u64 2] W fun e w'=>e=.returned (.bool (decide (Q<2)))/\Kept af W w'):=fun W k=>oO bo M a ys 2 (by omega) (decide (Q<2)) (by rw [hQ]) W (hv.g k) g
 clear hu hv f g hP hQ;by_cases h1:P<2
 ·rw [dV h1] at JP;clear d h1 JQ;delta ClZ;go_in;go_wp2_with fail;refine JP.mono ?_;rintro e w1 ⟨rfl,k1⟩;have b:=aa k1;clear JP k1;go_wp2_with fail;refine (hY _).mono ?_;rintro e w2 ⟨rfl,rfl⟩;exact ⟨rfl,rfl,b.o⟩
 ·rw [cI h1] at JP;rw [dV (d.resolve_left h1)] at JQ;clear d h1;delta ClZ;go_in;go_wp2_with fail;refine JP.mono ?_;rintro e w1 ⟨rfl,k1⟩;have b:=aa k1;have b2:=k1.cellN b1;have J2:=JQ.o _ k1;clear JP k1 b1 b0;go_wp2_with fail;refine J2.mono ?_;rintro e w2 ⟨rfl,k2⟩;have h:=aa (b.o.trans k2);clear J2 k2 b2;go_wp2_with fail;refine (hY _).mono ?_;rintro e w3 ⟨rfl,rfl⟩;exact ⟨rfl,rfl,h.o⟩

theorem qk {P Q L M:Nat} (hP:P<18446744073709551616^L) (hQ:Q<18446744073709551616^M) (a:2<=P:=by omega) (hQ2:2<=Q:=by omega):eW P Q<18446744073709551616^(L+M):=by
 unfold eW;rw [aL];have h1:(P-1)/Nat.gcd (P-1) (Q-1)<=P-1:=em _ _;exact mx (by omega) (by omega)

theorem Ja (bP bQ bO:Nat) (ao bo:OA) (L M d a:Nat) (xs ys:LN) (P Q C n:Nat) (hP:P=val xs) (hQ:Q=val ys) (Y:2<=P) (ab:2<=Q) (hC:C=eW P Q) (hn:n=am C) (hL:L<=130) (hM:M<=130) (w:World) (hu:Row .u64 w (.slice ao L d) xs) (hv:Row .u64 w (.slice bo M a) ys) (q:Digs xs) (r:Digs ys) (b0:w.cell? ⟨bP,0,none⟩=some (.slice ao L d)) (b1:w.cell? ⟨bQ,0,none⟩=some (.slice bo M a)) (b2:Box w bO (.slice none 0 0) 23) :
  ClZ 201 #[.pointer (some ⟨bP,0,none⟩),.pointer (some ⟨bQ,0,none⟩),.pointer (some ⟨bO,0,none⟩)] w fun e w'=>e=.returned (.tuple #[])/\∃ vo vc,Row .u64 w' (.slice vo n vc) (digs C n)/\Fresh w (.slice vo n vc)/\Box w' bO (.slice vo n vc) 23/\Kept (fun b=>b=bO) w w':=by
 obtain ⟨_,_,_,e1,D,-,-,-,-⟩:=hu.open;cases e1
 obtain ⟨_,_,_,e1,E,-,-,-,-⟩:=hv.open;cases e1
 have hR:=fun z=>dJ z
 have Z:P<18446744073709551616^L:=by rw [hP,<- D.o];exact aE (by omega) q
 have ac:Q<18446744073709551616^M:=by rw [hQ,<- E.o];exact aE (by omega) r
 have A:C<18446744073709551616^(L+M):=by rw [hC];exact qk Z ac Y ab
 have az:n<=L+M:=by rw [hn];exact (aC _ _).2 A
 have JP:=oO ao L d xs 2 (by omega) false (by symm;exact cI (by omega)) w hu q;have JQ:HzD (∀ W,Kept af w W->ClZ 195 #[.slice bo M a,.int .u64 2] W fun e w'=>e=.returned (.bool false)/\Kept af W w'):=fun W k=>oO bo M a ys 2 (by omega) false (by symm;exact cI (by omega)) W (hv.g k) r
 have JA:HzD (∀ W,Kept af w W->ClZ 148 #[.slice ao L d] W fun e w'=>∃ vo vc,e=.returned (.slice vo L vc)/\Row .u64 w' (.slice vo L vc) (digs (P-1) L)/\Kept af W w'):=fun W k=>zJ ao L d xs P hP (by omega) D.o (by omega) W (hu.g k) q
 have JB:HzD (∀ W,Kept af w W->ClZ 148 #[.slice bo M a] W fun e w'=>∃ vo vc,e=.returned (.slice vo M vc)/\Row .u64 w' (.slice vo M vc) (digs (Q-1) M)/\Kept af W w'):=fun W k=>zJ bo M a ys Q hQ (by omega) E.o (by omega) W (hv.g k) r
 have vA:val (digs (P-1) L)=P-1:=by rw [ay,dH]
 have vB:val (digs (Q-1) M)=Q-1:=by rw [ay,dH]
 obtain ⟨G,hG⟩:=aj (Nat.gcd (P-1) (Q-1))
 have V:0<G:=by rw [hG];exact Nat.gcd_pos_of_pos_left _ (by omega)
 have X:G<18446744073709551616^max L M:=by
  have h1:G<=P-1:=by rw [hG];exact Nat.gcd_le_left _ (by omega)
  have h2:18446744073709551616^L<=18446744073709551616^max L M:=bj (by omega) (by omega);omega
 have vG:val (digs G (max L M))=G:=by rw [ay,aB X]
 have JD:HzD (∀ W va vb ca cb,Row .u64 W (.slice va L ca) (digs (P-1) L)->Row .u64 W (.slice vb M cb) (digs (Q-1) M)->ClZ 202 #[.slice va L ca,.slice vb M cb] W fun e w'=>∃ vo vc,e=.returned (.tuple #[.slice vo (max L M) vc,.int .i64 0])/\Row .u64 w' (.slice vo (max L M) vc) (digs G (max L M))/\Kept af W w'):=fun W va vb ca cb h1 h2=>by
  refine (Cq va vb L M ca cb _ _ 0 (by rw [ai];unfold pt;simp;omega) _ (by rw [ai rfl]) W h1 h2 (ak (by omega) _ _) (ak (by omega) _ _)).mono ?_;rintro e w' ⟨v',rfl,hr,k⟩;rw [vA,vB,<- hG] at hr;obtain ⟨vo,vn,vc,rfl,hl,_,_,_,_⟩:=hr.open;obtain rfl:max L M=vn:=by rw [<- hl.o,ag]
  exact ⟨_,_,rfl,hr,k⟩
 have S:HzD (∀ W va ca vg cg,Row .u64 W (.slice va L ca) (digs (P-1) L)->Row .u64 W (.slice vg (max L M) cg) (digs G (max L M))->ClZ 200 #[.slice va L ca,.slice vg (max L M) cg] W fun e w'=>∃ vo vc,e=.returned (.slice vo L vc)/\Row .u64 w' (.slice vo L vc) (digs ((P-1)/G) L)/\Kept af W w'):=fun W va ca vg cg h1 h2=>Ji va vg L (max L M) ca cg _ _ (P-1) G vA.symm vG.symm V (by omega) (by omega) W h1 h2 (ak (by omega) _ _) (ak (by omega) _ _)
 have hq:(P-1)/G<18446744073709551616^L:=fF (em _ _) (by omega);have vQ:val (digs ((P-1)/G) L)=(P-1)/G:=by rw [ay,aB hq]
 have U:(P-1)/G*(Q-1)=C:=by rw [hC,eW,hG]
 have i:HzD (∀ W va ca vb cb,Row .u64 W (.slice va L ca) (digs ((P-1)/G) L)->Row .u64 W (.slice vb M cb) (digs (Q-1) M)->ClZ 110 #[.pointer none,.slice va L ca,.slice vb M cb] W fun e w'=>∃ vo vc,e=.returned (.slice vo (L+M) vc)/\Row .u64 w' (.slice vo (L+M) vc) (digs C (L+M))/\Kept af W w'):=fun W va ca vb cb h1 h2=>by
  refine (CO va vb L M ca cb _ _ W h1 h2 (ak (by omega) _ _) (ak (by omega) _ _)).mono ?_;rintro e w' ⟨v',rfl,hr,k⟩;rw [vQ,vB] at hr;unfold kD at hr;rw [cf,U] at hr;obtain ⟨vo,vn,vc,rfl,hl,_,_,_,_⟩:=hr.open;obtain rfl:L+M=vn:=by rw [<- hl.o,ag]
  exact ⟨_,_,rfl,hr,k⟩
 have JN:HzD (∀ W v c,Row .u64 W (.slice v (L+M) c) (digs C (L+M))->ClZ 140 #[.slice v (L+M) c] W fun e w'=>∃ vo vc,e=.returned (.slice vo n vc)/\Row .u64 w' (.slice vo n vc) (digs C n)/\Fresh W (.slice vo n vc)/\Kept af W w'):=fun W v c h=>sm v (L+M) c _ C n (by rw [ay,aB A]) hn (by omega) W h (ak (by omega) _ _) (by rw [ag];omega)
 have F:max (L:Int) (M:Int)=((max L M:Nat):Int):=by omega
 have g1:¬ ((max L M:Nat):Int) > 130:=by omega
 have T:¬ (130:Int)<((max L M:Nat):Int):=by omega
 have d1:decide ((130:Int)<((max L M:Nat):Int))=false:=cI T;have hS:=fun v n c W=>mY v n c W
 have I:=aa b2;have aA:max L M<=130:=by omega
 generalize max L M=m at *;clear hu hv q r hP hQ Y ab hC hn Z ac A az hG V X vA vB vG hq vQ U D E b2;delta ClZ;go_in;go_wp2_with fail;refine JP.mono ?_;rintro e w1 ⟨rfl,k1⟩;have J:=aa k1;have c0:=k1.cellN b0;have c1:=k1.cellN b1;have J2:=JQ.o _ k1;clear JP k1 b1 b0 JQ;go_wp2_with fail;refine J2.mono ?_;rintro e w2 ⟨rfl,k2⟩;have p:=aa (J.o.trans k2);have e0:=k2.cellN c0;have e1:=k2.cellN c1;clear J2 k2 c0 c1 J;go_wp2_with fail;refine (hR _ _).mono ?_;rintro e w3 ⟨rfl,rfl⟩;go_wp2_with fail;try rw [d1]
 refine (hR _ _).mono ?_;rintro e w3 ⟨rfl,rfl⟩;clear hR g1 T d1 F;have HC:HzD (∀ W,Kept af w3 W->W.cell? ⟨bP,0,none⟩=some (.slice ao L d)/\W.cell? ⟨bQ,0,none⟩=some (.slice bo M a)):=fun W k=>⟨k.cellN e0,k.cellN e1⟩
 go_wp2_with fail;have KD:Kept af w3 w3.drew:=(ah af w3).drew;have R:=JA.o _ (p.o.trans KD);go_region_held3 (fun w'=>w'.cell? ⟨bP,0,none⟩=some (.slice ao L d)/\w'.cell? ⟨bQ,0,none⟩=some (.slice bo M a))
  (((try dsimp only);(repeat' apply And.intro) <;> first | (go_keep;done) | assumption))
  (first
  | (go_at_call 148;refine (JB.o _ (p.o.trans j)).mono ?_;rintro e w5 ⟨vb,cb,rfl,ae,k5⟩;obtain ⟨x,y⟩:=HC.o _ (j.trans k5))
  | (go_at_call 148;refine R.mono ?_;rintro e w4 ⟨va,ca,rfl,ad,k4⟩;have j:=KD.trans k4;obtain ⟨aw,ax⟩:=HC.o _ j))
 have s:=aa (ad.g k5);have t:=aa ae;have ar:=aa (p.o.trans (j.trans k5));have J5:=JD.o w5 va vb ca cb s.o t.o;clear R JA JB KD j k4 k5 ad ae HC aw ax x y e0 e1 JD p;go_wp2_with fail;refine J5.mono ?_;rintro e w6 ⟨vg,cg,rfl,al,k6⟩;have J6:=hS vg m cg w6;have O:=aa al;have au:=aa (ar.o.trans k6);have f:=aa (s.o.g k6);have g:=aa (t.o.g k6);clear J5 al k6 s t;go_wp2_with fail;refine J6.mono ?_;rintro e w7 ⟨rfl,rfl⟩;have J7:=S.o w7 va ca vg cg f.o O.o;clear J6 hS;go_wp2_with fail;refine J7.mono ?_;rintro e w8 ⟨vq,cq,rfl,an,k8⟩;have J8:=i.o w8 vq cq vb cb an (g.o.g k8)
 have av:=aa (au.o.trans k8);clear J7 an k8 f g O S;go_wp2_with fail;refine J8.mono ?_;rintro e w9 ⟨vm,cm,rfl,ap,k9⟩;have J9:=JN.o w9 vm cm ap;have N:=aa (av.o.trans k9);clear J8 ap k9 i;go_wp2_with fail;refine J9.mono ?_;rintro e H ⟨vo,vc,rfl,o,l,aq⟩;have kk:=N.o.trans aq;have hx:=I.o.g kk;have cx:=hx.cell;have fx:=hx.free;have B:Fresh w (.slice vo n vc):=l.b N.o;have HR:=aa (o.kept (aF H bO (.slice vo n vc)) (fun b hb e=>by have h1:=B b hb;have h2:=I.o.lt;omega));have HX:=aa (hx.set (.slice vo n vc));have HF:=aa B
 have HK:HzD (Kept (fun b=>b=bO) w (H.setCell ⟨bO,0,none⟩ (.slice vo n vc))):=kk.any.trans (aF H bO _);clear J9 o l aq kk hx B JN;go_wp2_with fail;go_end0
 exact ⟨rfl,vo,vc,HR.o,HF.o,HX.o,HK.o⟩

theorem I9 (ao bo:OA) (L M d f:Nat) (xs ys:LN) (P Q E:Nat) (RL:LN) (hP:P=val xs) (hQ:Q=val ys) (hL:L<=130) (hM:M<=130) (hE:(E=0/\2<=P/\2<=Q)\/(E=1/\(P<2\/Q<2))) (g:RL=if E=0 then digs (eW P Q) (am (eW P Q)) else []) (w:World) (hu:Row .u64 w (.slice ao L d) xs) (hv:Row .u64 w (.slice bo M f) ys) (i:Digs xs) (j:Digs ys) :
  ClZ 145 #[.slice ao L d,.slice bo M f] w fun e w'=>∃ v',e=.returned (.tuple #[v',.int .i64 (E:Nat)])/\Row .u64 w' v' RL/\Fresh w v'/\Kept af w w':=by
 have a:=xW w (.slice ao L d) (.slice bo M f) (.slice none 0 0) 23 23 23;have he:∀ args w,(callFunc 201 args).run prog w=.ok (.enter 201 args) w:=fun _ _=>by simp [go_sem]
 obtain ⟨W,hW⟩:=aj (((w.alloc (.cells #[.slice ao L d] 23)).alloc (.cells #[.slice bo M f] 23)).alloc (.cells #[.slice none 0 0] 23))
 rw [<- hW] at a;obtain ⟨k0,x1,x2,x3,hs⟩:=a;have k1:=k0.alloc (.cells #[.int .i64 0] 35);have xe:Box (W.alloc (.cells #[.int .i64 0] 35)) W.heap.size (.int .i64 0) 35:=Box.new W (.int .i64 0) 35;have q:(W.alloc (.cells #[.int .i64 0] 35)).heap.size=W.heap.size+1:=by simp
 have l:ClZ 86 #[.func (.func 201) #[] #[.pointer (some ⟨w.heap.size,0,none⟩),.pointer (some ⟨w.heap.size+1,0,none⟩),.pointer (some ⟨w.heap.size+1+1,0,none⟩)]] W fun e w'=>∃ n w1,e=.returned (.int .i64 n)/\((n=(E:Nat)/\∃ vo vn vc,Row .u64 w1 (.slice vo vn vc) RL/\(∀ b,(Value.slice vo vn vc).ownBlock=some b->W.heap.size+1<=b)/\Box w1 (w.heap.size+1+1) (.slice vo vn vc) 23/\Kept af w w1)/\w1.heap[W.heap.size]? = some (.cells #[.int .i64 0] 35 (0,0)))/\w'=w1.setCell ⟨W.heap.size,0,none⟩ (.int .i64 n):=by
  rcases hE with ⟨rfl,h2,h3⟩ | ⟨rfl,hno⟩
  ·rw [ai rfl] at g;subst g;refine oe _ _ W (fun n W'=>n=((0:Nat):Int)/\∃ vo vn vc,Row .u64 W' (.slice vo vn vc) (digs (eW P Q) (am (eW P Q)))/\(∀ b,(Value.slice vo vn vc).ownBlock=some b->W.heap.size+1<=b)/\Box W' (w.heap.size+1+1) (.slice vo vn vc) 23/\Kept af w W') he ((Ja _ _ _ ao bo L M d f xs ys P Q _ _ hP hQ h2 h3 rfl rfl hL hM _ (hu.g k1) (hv.g k1) i j (x1.alloc _).cell (x2.alloc _).cell (x3.alloc _)).mono ?_);rintro e w' ⟨rfl,vo,vc,hr,hf,hb,hk⟩;refine ⟨xe.kept hk (by omega),.inl ⟨rfl,rfl,vo,_,vc,hr,fun b o=>?_,hb,k1.next hk (fun x hx e=>by omega)⟩⟩;have:=hf b o;omega
  ·rw [ar (by decide)] at g;subst g;refine oe _ _ W (fun n W'=>n=((1:Nat):Int)/\∃ vo vn vc,Row .u64 W' (.slice vo vn vc) []/\(∀ b,(Value.slice vo vn vc).ownBlock=some b->W.heap.size+1<=b)/\Box W' (w.heap.size+1+1) (.slice vo vn vc) 23/\Kept af w W') he ((Cu _ _ _ ao bo L M d f xs ys P Q hP hQ hno _ (hu.g k1) (hv.g k1) i j (x1.alloc _).cell (x2.alloc _).cell).mono ?_);rintro e w' ⟨rfl,hk⟩;exact ⟨xe.g hk,.inr ⟨_,rfl,rfl,none,0,0,Row.nil _ _,(fun b hb=>by cases hb),(x3.alloc _).g hk,k1.trans hk⟩⟩
 have HW:=aa hW;have h:=aa hs;clear hu hv i j hP hQ hL hM hE g k0 k1 x1 x2 x3 xe hs q hW he;delta ClZ;go_in;go_wp2_with (rw [<- HW.o]);refine l.mono ?_;rintro e w' ⟨n,w1,rfl,⟨⟨rfl,vo,vn,vc,hr,c,hb,hk⟩,p⟩,rfl⟩;have a:=hb.other ⟨W.heap.size,0,none⟩ (by show _≠W.heap.size;have:=h.o;omega) (.int .i64 (E:Nat));have c1:=a.cell;have f1:=a.free;have c3:=(a.set (.slice vo vn vc)).cell;have m:Kept (fun b=>b=W.heap.size\/b=w.heap.size+1+1) w1 (w1.setCell ⟨W.heap.size,0,none⟩ (.int .i64 (E:Nat))):=(aF w1 W.heap.size _).mono (fun _ _ e=>.inl e);have k:=m.next (aF _ (w.heap.size+1+1) (.slice vo vn vc)) (fun _ _ e=>.inr e)
 have HK:=aa (hk.next k (fun x hx e=>by have:=h.o;omega));have HR:=aa (hr.kept k (fun b hb e=>by have h1:=c b hb;have:=h.o;omega));have HF:HzD (Fresh w (.slice vo vn vc)):=fun b hb=>by have h1:=c b hb;have:=h.o;omega
 clear l hr c hb hk p a m k;generalize w1.setCell ⟨W.heap.size,0,none⟩ (.int .i64 (E:Nat))=W2 at *;go_wp2_with fail;refine bodyPost_ret (v:=.tuple #[.slice vo vn vc,.int .i64 (E:Nat)]) (by simp [results,results145,go_sem,c3]) rfl ?_;exact ⟨_,rfl,HR.o,HF.o,HK.o⟩

theorem LU (co:OA) (L g:Nat) (cs:LN) (C e:Nat) (hC:C=val cs) (h2:2<=C) (h3:3<=e) (z:e%2=1) (i:e<18446744073709551616) (hL:L<=299) (hg:Nat.gcd C e=1) (w:World) (hu:Row .u64 w (.slice co L g) cs) (hd:Digs cs) :
  ClZ 143 #[.int .u64 (e:Nat),.slice co L g] w fun r w'=>∃ vo vc d,r=.returned (.slice vo (L+1) vc)/\HzD (d<C/\e*d%C=1)/\Row .u64 w' (.slice vo (L+1) vc) (digs d (L+1))/\Kept af w w':=by
 obtain ⟨_,_,_,e1,hl,-,-,-,-⟩:=hu.open;cases e1
 have F:am e=1:=oF (by omega) i;have JW:=sq e i w;obtain ⟨i0,U,V,X,Y⟩:=info_parts Tryz.info24;have ah:1<=L:=by
  rcases cE L with h | h
  ·have h5:=hl.o;rw [h] at h5;rw [ml.1 h5] at hC;have:val []=0:=rfl;omega
  ·exact h
 have x:C<18446744073709551616^L:=by rw [hC,<- hl.o];exact aE (by omega) hd
 have J1:HzD (∀ W zo zc,Kept af w W->Row .u64 W (.slice zo 1 zc) [e]->ClZ 142 #[.slice co L g,.slice zo 1 zc] W fun r w'=>∃ vo vc T,r=.returned (.slice vo 1 vc)/\HzD (T<e/\C*T%e=1)/\Row .u64 w' (.slice vo 1 vc) (digs T 1)/\Kept af W w'):=fun W zo zc k hr=>G7 co zo L 1 g zc cs [e] C e hC (iL e).symm (by omega) z F.symm (by omega) (by omega) hg W (hu.g k) hr hd (Digs.one i)
 have JM:HzD (∀ W zo zc S,S<18446744073709551616->Kept af w W->Row .u64 W (.slice zo 1 zc) [1]->ClZ 199 #[.pointer none,.slice co L g,.int .u64 (S:Nat),.slice zo 1 zc] W fun r w'=>∃ vo vc,r=.returned (.tuple #[.slice vo L vc,.int .u64 (((1+C*S)/18446744073709551616^L:Nat):Int)])/\OwnN .u64 24 w' W.heap.size (.slice vo L vc) L (digs (1+C*S) L)/\Kept af W w'):=fun W zo zc S hS k hr=>by
  have hm:max L 1=L:=by omega
  have h:=Ba none co zo L 1 g zc cs [1] S hS ((1+C*S)/18446744073709551616^L) (by rw [iL,<- hC];unfold zR;rw [cf,hm]) W (TrRoom.none W 300 (by omega)) (RowT.none (hu.g k)) (RowT.none hr) hd (Digs.one (by omega));rw [iL,<- hC,hm] at h;refine h.mono ?_;rintro r w' ⟨v',rfl,_,ho,o',o⟩;have ho:=ho (by omega);obtain ⟨vo,vc,rfl⟩:=dK ho;exact ⟨vo,vc,rfl,ho,o.none.2⟩
 have JQ:HzD (∀ W S vo vc zo zc,S<e->Row .u64 W (.slice vo (L+1) vc) (digs (1+C*S) L ++ [(1+C*S)/18446744073709551616^L])->Row .u64 W (.slice zo 1 zc) [e]->ClZ 200 #[.slice vo (L+1) vc,.slice zo 1 zc] W fun r w'=>∃ qo qc,r=.returned (.slice qo (L+1) qc)/\Row .u64 w' (.slice qo (L+1) qc) (digs ((1+C*S)/e) (L+1))/\Kept af W w'):=fun W S vo vc zo zc hS h1 h4=>by
  have hlt:1+C*S<18446744073709551616^L*18446744073709551616:=by
   have a1:C*S+1<=C*e:=by
    have:=bG C (show S+1<=e by omega);rw [aJ,bI] at this;omega
   have a2:C*e<18446744073709551616^L*18446744073709551616:=mx x i;omega
  have hc:(1+C*S)/18446744073709551616^L<18446744073709551616:=Nat.div_lt_of_lt_mul hlt;refine Ji vo zo (L+1) 1 vc zc (digs (1+C*S) L ++ [(1+C*S)/18446744073709551616^L]) [e] (1+C*S) e ?_ (iL e).symm (by omega) (by omega) (by omega) W h1 h4 ((ak (by omega) _ _).append (Digs.one hc)) (Digs.one i);rw [dG,ay,ag,iY]
 have JE:=fun W=>sq e i W
 have J0:=fun W=>sq 1 (by omega) W
 have HN:HzD (∀ T,T<e->C*T%e=1->(1+C*(e-T))/e<C/\e*((1+C*(e-T))/e)%C=1):=fun T h h'=>EL h2 h3 h h'
 clear hu hd hl hC h2 z hg F x;delta ClZ;go_in;go_wp2_with fail;refine JW.mono ?_;rintro r w1 ⟨zo,zc,rfl,hr,k1⟩;have J2:=J1.o w1 zo zc k1 hr;clear JW hr J1;go_wp2_with fail;refine J2.mono ?_;rintro r w2 ⟨ae,tc,T,rfl,HT,p,k2⟩;have Q:=HT.o.1;rw [pj] at p;obtain ⟨_,_,_,e1,_,_,_,_,j⟩:=p.open;cases e1
 obtain ⟨b,off,rfl,c0⟩:=j 0 (by omega);have P:w2.cell? ⟨b,off,none⟩=some (.int .u64 (T:Nat)):=c0;obtain ⟨S,hS⟩:=aj (e-T)
 have v:HzD (S<e):=by
  unfold HzD;rcases cE T with h | h
  ·have h9:=HT.o.2;subst h;rw [df,iw] at h9;exact absurd h9 (by decide)
  ·omega
 have HF:HzD ((1+C*S)/e<C/\e*((1+C*S)/e)%C=1):=by rw [hS];exact HN.o T Q HT.o.2
 have H:=aa (k1.trans k2);have gs:IntKind.u64.wrap ((e:Int)-(T:Int))=(S:Int):=eC
 have hW:=J0 w2;have R:(T:Int)<=(e:Int):=by omega
 clear J2 p k1 k2 c0 j hS HN HT J0;go_wp2_with fail;refine hW.mono ?_;rintro r w3 ⟨yo,yc,rfl,B,k3⟩;have m:=aa (H.o.trans k3);have J3:=JM.o w3 yo yc S (by have:=v.o;omega) m.o B;clear hW k3 B P;go_wp2_with fail;refine J3.mono ?_;rintro r w4 ⟨vo,vc,rfl,A,k4⟩;have t:=aa (m.o.trans k4);have n:=aa A;have q:HzD (w.heap.size<=w3.heap.size):=m.o.size;have s:HzD (w3.heap.size<=w4.heap.size):=k4.size;obtain ⟨c,hc⟩:=aj ((1+C*S)/18446744073709551616^L)
 rw [<- hc];have G:=aa hc;have y:=fun W=>JE W
 clear J3 A k4 hc JM;go_wp2_with (at_builtin;refine wpList_append_own _ rfl _ _ 23 rfl w3.heap.size 24 i0 (.int .u64 0) 1 8 underlying23 U V X Y rfl (by decide) _ _ _ rfl (World.ownsRow.alloc n.o _) ⟨w4.heap.size,0,none⟩ 1 1 [.int .u64 (c:Nat)] rfl rfl (cell_one_new _ _ _) (by intro u hu;simp at hu;subst hu;rfl) (by unfold maxLen;omega) (by omega) (by have:=s.o;simp;omega) ?_);intro v5 w5 l f _;have a:OwnN .u64 24 w5 w3.heap.size v5 (L+1) (digs (1+C*S) L ++ [c]):=by
  unfold OwnN;rw [dR];exact l
 have I:HzD (Kept af w w5):=(t.o.alloc _).grown f (fun k hk hlt=>by have h1:=(n.o.lt k hk).1;have h2:=q.o;omega);obtain ⟨ab,Z,rfl⟩:=dK a;have N:=aa (dz a (by rw [bk,ag];rfl));have J5:=y w5;clear l a f n t q s y;go_wp2_with fail;refine J5.mono ?_;rintro r w6 ⟨ad,ac,rfl,D,k6⟩;have J6:=JQ.o w6 S ab Z ad ac v.o (by rw [<- G.o];exact N.o.g k6) D;have J:=aa (I.o.trans k6);clear J5 D k6;go_wp2_with fail;refine J6.mono ?_;rintro r w7 ⟨qo,qc,rfl,E,k7⟩;have O:=aa E;have M:=aa (J.o.trans k7);clear J6 E k7;go_wp2;go_ret
 exact ⟨_,_,_,rfl,HF.o,O.o,M.o⟩

end Go.Proofs.YtpkmoamgpjcdeaaGreatDoor
