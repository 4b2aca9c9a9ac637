/- Put together of: Kex3. -/
import Derived.Test.YtcemlfokmjjiaaaGreatDoorPf32

namespace Go.Proofs.YtcemlfokmjjiaaaGreatDoor
set_option maxRecDepth 100000
set_option maxHeartbeats 4000000
open Go.RowKit

def AttE (E:Nat) (e:Ending):Prop:=(E=0∧e=.returned (.tuple #[]))∨(E≠0∧e=.panicked [refusal (E:Nat)])

theorem AttE.ok:AttE 0 (.returned (.tuple #[])):=.inl ⟨rfl,rfl⟩

theorem AttE.no {E:Nat} (h:E≠0):AttE E (.panicked [refusal (E:Nat)]):=.inr ⟨h,rfl⟩

theorem zZ (bN bE:Nat) (ao:Option Addr) (L cap:Nat) (xs:List Nat) (hL:L≤1000) (hA:au (val xs)<32∨8192<au (val xs)) (w:World) (hu:Row .u64 w (.slice ao L cap) xs) (hd:Digs xs) (b0:w.cell? ⟨bN,0,none⟩=some (.slice ao L cap)) :
  Calls Tryz.prog 99 #[.pointer (some ⟨bN,0,none⟩),.pointer (some ⟨bE,0,none⟩)] w fun e w'=>AttE 190 e∧Kept af w w':=by
 obtain ⟨_,_,_,e1,hl,-,-,-,-⟩:=hu.open;cases e1
 have hR:=bd 190;have hY:=cf 190;have JB:=dG _ xs w hu hd (by rw [hl.out];omega);have c:au (val xs)≤64*xs.length:=(aA _ _).2 (by rw [Nat.pow_mul];exact aq (by omega) hd);rw [hl.out] at c;have a:Hid (Kept af w w):=ai _ _;generalize au (val xs)=b at *;clear hu hd hl;by_cases h1:b<32
 ·have g1:(b:Int)<32:=by omega
  have d1:decide ((b:Int)<32)=true:=aT g1;clear hA h1 hR;go_enter Tryz.func99,Tryz.ntmps99;go_wp2_with fail;refine JB.mono ?_;rintro e w1 ⟨rfl,rfl⟩;clear JB;go_wp2_with fail;try rw [d1]
  refine (hY _).mono ?_;rintro e w1 ⟨rfl,rfl⟩;exact ⟨rfl,.no (by decide),a.out⟩
 ·have g1:¬ (b:Int)<32:=by omega
  have d1:decide ((b:Int)<32)=false:=aC g1;have g2:(b:Int) > 8192:=by omega
  have d:(8192:Int)<(b:Int):=by omega
  have d2:decide ((8192:Int)<(b:Int))=true:=aT d;clear hA h1 hR;go_enter Tryz.func99,Tryz.ntmps99;go_wp2_with fail;refine JB.mono ?_;rintro e w1 ⟨rfl,rfl⟩;clear JB;go_wp2_with fail;try rw [d2]
  refine (hY _).mono ?_;rintro e w1 ⟨rfl,rfl⟩;exact ⟨rfl,.no (by decide),a.out⟩

theorem Aq (bN bE:Nat) (ao:Option Addr) (L cap:Nat) (xs:List Nat) (hL:L≤1000) (hA:32≤au (val xs)∧au (val xs)≤8192) (hW:L≠aj (val xs)) (w:World) (hu:Row .u64 w (.slice ao L cap) xs) (hd:Digs xs) (b0:w.cell? ⟨bN,0,none⟩=some (.slice ao L cap)) :
  Calls Tryz.prog 99 #[.pointer (some ⟨bN,0,none⟩),.pointer (some ⟨bE,0,none⟩)] w fun e w'=>AttE 190 e∧Kept af w w':=by
 obtain ⟨_,_,_,e1,hl,-,-,-,-⟩:=hu.open;cases e1
 have hR:=bd 190;have hY:=cf 190;have JB:=dG _ xs w hu hd (by rw [hl.out];omega);have a:au (val xs)≤64*xs.length:=(aA _ _).2 (by rw [Nat.pow_mul];exact aq (by omega) hd);rw [hl.out] at a;have i:Hid (Kept af w w):=ai _ _;generalize val xs=X at *;obtain ⟨z,hz⟩:∃ z,z=(au X+64-1)/64:=⟨_,rfl⟩
 have f:z=aj X:=by rw [hz,dJ];rfl
 have d:=fun W=>iw (au X) 64 z hz (by omega) (by omega) (by omega) W
 obtain ⟨b,hb⟩:∃ b,b=au X:=⟨_,rfl⟩
 rw [← hb] at d JB hA;have g1:¬ (b:Int)<32:=by omega
 have d1:decide ((b:Int)<32)=false:=aC g1;have g2:¬ (b:Int) > 8192:=by omega
 have c:¬ (8192:Int)<(b:Int):=by omega
 have d2:decide ((8192:Int)<(b:Int))=false:=aC c;have g:¬ (L:Int)=(z:Int):=by omega
 clear hu hd hl hb hz f hW a hA;go_enter Tryz.func99,Tryz.ntmps99;go_wp2_with fail;refine JB.mono ?_;rintro e w1 ⟨rfl,rfl⟩;clear JB;go_wp2_with fail;try rw [d2]
 refine (hR _).mono ?_;rintro e w1 ⟨rfl,rfl⟩;clear g1 d1 g2 c d2;go_wp2_with fail;refine wp_region_held_drew (S:=fun w'=>w'.cell? ⟨bN,0,none⟩=some (.slice ao L cap)) (by kernel_rfl) b0 (fun hS=>?_);refine aB 0 (some 12) (.slice ao L cap) (y:=.inl ⟨by rfl,fun w h=>by simp [execOp,go_sem,h]⟩) (s:=hS) (k:=?_);simp only [Act.put,lsA,lsS,lsZ];refine aB 1 (some 13) (.int .i64 (L:Int)) (y:=.inl ⟨by rfl,fun w h=>by simp [execOp,go_sem]⟩) (s:=hS) (k:=?_);simp only [Act.put,lsA,lsS,lsZ];refine aB 2 (some 14) (.int .i64 (b:Int)) (y:=.inl ⟨by rfl,fun w h=>by simp [execOp,go_sem]⟩) (s:=hS) (k:=?_);simp only [Act.put,lsA,lsS,lsZ]
 refine bk 3 (some 15) (by kernel_rfl) rfl rfl (by rfl) 94 _ _ [.int .i64 (b:Int),.int .i64 64] rfl rfl (fun _ _=>by simp [go_sem]) (d _) ?_;rintro e w4 ⟨rfl,rfl⟩;refine .inl ⟨_,rfl,hS,?_⟩;simp only [Act.put,lsA,lsS,lsZ];refine aB 4 (some 16) (.bool true) (y:=.inl ⟨by rfl,fun w h=>by simp [execOp,go_sem,g]⟩) (s:=hS) (k:=?_);simp only [Act.put,lsA,lsS,lsZ];refine aB 5 (some 17) (.bool true) (y:=.inl ⟨by rfl,fun w h=>by simp [execOp,go_sem]⟩) (s:=hS) (k:=?_);simp only [Act.put,lsA,lsS,lsZ];refine sS 6 (some 18) (undef) rfl rfl (by kernel_rfl) (by kernel_rfl) (by kernel_rfl) (fun _ _ _ h=>h) (.inr ⟨by rfl,rfl⟩) hS ?_;simp only [Act.put,lsA,lsS,lsZ]
 refine A6 7 (some 19) (s:=hS) (k:=?_);simp only [Act.put,lsA,lsS,lsZ];refine sS 8 (some 20) (undef) rfl rfl (by kernel_rfl) (by kernel_rfl) (by kernel_rfl) (fun _ _ _ h=>h) (.inr ⟨by rfl,rfl⟩) hS ?_;simp only [Act.put,lsA,lsS,lsZ];refine aB 9 (some 21) (.bool true) (y:=.inl ⟨by rfl,fun w h=>by simp [execOp,go_sem]⟩) (s:=hS) (k:=?_);simp only [Act.put,lsA,lsS,lsZ];refine bk 10 (some 22) (by kernel_rfl) rfl rfl (by rfl) 51 _ _ [.bool true,.int .i64 190] rfl rfl (fun _ _=>by simp [go_sem]) (hY _) ?_;rintro e w6 ⟨rfl,rfl⟩;exact .inr ⟨_,rfl,rfl,.no (by decide),i.out.drew⟩

theorem zI (bN bE:Nat) (ao:Option Addr) (L cap:Nat) (xs:List Nat) (hL:L≤1000) (hA:32≤au (val xs)∧au (val xs)≤8192) (hW:L=aj (val xs)) (hO:val xs%2=0) (w:World) (hu:Row .u64 w (.slice ao L cap) xs) (hd:Digs xs) (b0:w.cell? ⟨bN,0,none⟩=some (.slice ao L cap)) :
  Calls Tryz.prog 99 #[.pointer (some ⟨bN,0,none⟩),.pointer (some ⟨bE,0,none⟩)] w fun e w'=>AttE 190 e∧Kept af w w':=by
 obtain ⟨_,_,_,e1,hl,-,-,-,-⟩:=hu.open;cases e1
 have hR:=bd 190;have hY:=cf 190;have JB:=dG _ xs w hu hd (by rw [hl.out];omega);have a:au (val xs)≤64*xs.length:=(aA _ _).2 (by rw [Nat.pow_mul];exact aq (by omega) hd);rw [hl.out] at a;have d:Hid (Kept af w w):=ai _ _;have JO:Hid (∀ W,Kept af w W→Calls Tryz.prog 93 #[.slice ao L cap] W fun e w'=>e=.returned (.bool false)∧w'=W):=fun W k=>by
  have h:=ol ao L cap xs W (hu.grew k) hd;rw [aC (by omega)] at h;exact h
 generalize val xs=X at *;obtain ⟨z,hz⟩:∃ z,z=(au X+64-1)/64:=⟨_,rfl⟩
 have g:z=aj X:=by rw [hz,dJ];rfl
 have f:=fun W=>iw (au X) 64 z hz (by omega) (by omega) (by omega) W
 obtain ⟨b,hb⟩:∃ b,b=au X:=⟨_,rfl⟩
 rw [← hb] at f JB hA;have g1:¬ (b:Int)<32:=by omega
 have d1:decide ((b:Int)<32)=false:=aC g1;have g2:¬ (b:Int) > 8192:=by omega
 have c:¬ (8192:Int)<(b:Int):=by omega
 have d2:decide ((8192:Int)<(b:Int))=false:=aC c;have i:(L:Int)=(z:Int):=by omega
 clear hu hd hl hb hz g hW a hA hO;go_enter Tryz.func99,Tryz.ntmps99;go_wp2_with fail;refine JB.mono ?_;rintro e w1 ⟨rfl,rfl⟩;clear JB;go_wp2_with fail;try rw [d2]
 refine (hR _).mono ?_;rintro e w1 ⟨rfl,rfl⟩;clear g1 d1 g2 c d2;go_wp2_with fail;refine wp_region_held_drew (S:=fun w'=>w'.cell? ⟨bN,0,none⟩=some (.slice ao L cap)) (by kernel_rfl) b0 (fun hS=>?_);refine aB 0 (some 12) (.slice ao L cap) (y:=.inl ⟨by rfl,fun w h=>by simp [execOp,go_sem,h]⟩) (s:=hS) (k:=?_);simp only [Act.put,lsA,lsS,lsZ];refine aB 1 (some 13) (.int .i64 (L:Int)) (y:=.inl ⟨by rfl,fun w h=>by simp [execOp,go_sem]⟩) (s:=hS) (k:=?_);simp only [Act.put,lsA,lsS,lsZ];refine aB 2 (some 14) (.int .i64 (b:Int)) (y:=.inl ⟨by rfl,fun w h=>by simp [execOp,go_sem]⟩) (s:=hS) (k:=?_);simp only [Act.put,lsA,lsS,lsZ]
 refine bk 3 (some 15) (by kernel_rfl) rfl rfl (by rfl) 94 _ _ [.int .i64 (b:Int),.int .i64 64] rfl rfl (fun _ _=>by simp [go_sem]) (f _) ?_;rintro e w4 ⟨rfl,rfl⟩;refine .inl ⟨_,rfl,hS,?_⟩;simp only [Act.put,lsA,lsS,lsZ];refine aB 4 (some 16) (.bool false) (y:=.inl ⟨by rfl,fun w h=>by simp [execOp,go_sem,i]⟩) (s:=hS) (k:=?_);simp only [Act.put,lsA,lsS,lsZ];refine aB 5 (some 17) (.bool false) (y:=.inl ⟨by rfl,fun w h=>by simp [execOp,go_sem]⟩) (s:=hS) (k:=?_);simp only [Act.put,lsA,lsS,lsZ];refine aB 6 (some 18) (.slice ao L cap) (y:=.inl ⟨by rfl,fun w h=>by simp [execOp,go_sem,h]⟩) (s:=hS) (k:=?_);simp only [Act.put,lsA,lsS,lsZ]
 refine bk 7 (some 19) (by kernel_rfl) rfl rfl (by rfl) 93 _ _ [.slice ao L cap] rfl rfl (fun _ _=>by simp [go_sem]) (JO.out _ d.out.drew) ?_;rintro e w5 ⟨rfl,rfl⟩;refine .inl ⟨_,rfl,hS,?_⟩;simp only [Act.put,lsA,lsS,lsZ];refine aB 8 (some 20) (.bool true) (y:=.inl ⟨by rfl,fun w h=>by simp [execOp,go_sem]⟩) (s:=hS) (k:=?_);simp only [Act.put,lsA,lsS,lsZ];refine aB 9 (some 21) (.bool true) (y:=.inl ⟨by rfl,fun w h=>by simp [execOp,go_sem]⟩) (s:=hS) (k:=?_);simp only [Act.put,lsA,lsS,lsZ];refine bk 10 (some 22) (by kernel_rfl) rfl rfl (by rfl) 51 _ _ [.bool true,.int .i64 190] rfl rfl (fun _ _=>by simp [go_sem]) (hY _) ?_;rintro e w6 ⟨rfl,rfl⟩
 exact .inr ⟨_,rfl,rfl,.no (by decide),d.out.drew⟩

theorem At (bN bE:Nat) (ao:Option Addr) (L cap:Nat) (xs:List Nat) (e:Nat) (hL:L≤1000) (hA:32≤au (val xs)∧au (val xs)≤8192) (hW:L=aj (val xs)) (hO:val xs%2=1) (h3:e<3) (w:World) (hu:Row .u64 w (.slice ao L cap) xs) (hd:Digs xs) (b0:w.cell? ⟨bN,0,none⟩=some (.slice ao L cap)) (b1:w.cell? ⟨bE,0,none⟩=some (.int .u64 (e:Int))) :
  Calls Tryz.prog 99 #[.pointer (some ⟨bN,0,none⟩),.pointer (some ⟨bE,0,none⟩)] w fun e w'=>AttE 190 e∧Kept af w w':=by
 obtain ⟨_,_,_,e1,hl,-,-,-,-⟩:=hu.open;cases e1
 have hR:=bd 190;have hY:=cf 190;have JB:=dG _ xs w hu hd (by rw [hl.out];omega);have c:au (val xs)≤64*xs.length:=(aA _ _).2 (by rw [Nat.pow_mul];exact aq (by omega) hd);rw [hl.out] at c;have g:Hid (Kept af w w):=ai _ _;have JO:Hid (∀ W,Kept af w W→Calls Tryz.prog 93 #[.slice ao L cap] W fun e w'=>e=.returned (.bool true)∧w'=W):=fun W k=>by
  have h:=ol ao L cap xs W (hu.grew k) hd;rw [aT (by omega)] at h;exact h
 generalize val xs=X at *;obtain ⟨z,hz⟩:∃ z,z=(au X+64-1)/64:=⟨_,rfl⟩
 have j:z=aj X:=by rw [hz,dJ];rfl
 have a:=fun W=>iw (au X) 64 z hz (by omega) (by omega) (by omega) W
 obtain ⟨b,hb⟩:∃ b,b=au X:=⟨_,rfl⟩
 rw [← hb] at a JB hA;have g1:¬ (b:Int)<32:=by omega
 have d1:decide ((b:Int)<32)=false:=aC g1;have g2:¬ (b:Int) > 8192:=by omega
 have d:¬ (8192:Int)<(b:Int):=by omega
 have d2:decide ((8192:Int)<(b:Int))=false:=aC d;have f:(L:Int)=(z:Int):=by omega
 clear hu hd hl hb hz j hW c hA hO;go_enter Tryz.func99,Tryz.ntmps99;go_wp2_with fail;refine JB.mono ?_;rintro e w1 ⟨rfl,rfl⟩;clear JB;go_wp2_with fail;try rw [d2]
 refine (hR _).mono ?_;rintro e w1 ⟨rfl,rfl⟩;clear g1 d1 g2 d d2;go_wp2_with fail;refine wp_region_held_drew (S:=fun w'=>w'.cell? ⟨bN,0,none⟩=some (.slice ao L cap)) (by kernel_rfl) b0 (fun hS=>?_);refine aB 0 (some 12) (.slice ao L cap) (y:=.inl ⟨by rfl,fun w h=>by simp [execOp,go_sem,h]⟩) (s:=hS) (k:=?_);simp only [Act.put,lsA,lsS,lsZ];refine aB 1 (some 13) (.int .i64 (L:Int)) (y:=.inl ⟨by rfl,fun w h=>by simp [execOp,go_sem]⟩) (s:=hS) (k:=?_);simp only [Act.put,lsA,lsS,lsZ];refine aB 2 (some 14) (.int .i64 (b:Int)) (y:=.inl ⟨by rfl,fun w h=>by simp [execOp,go_sem]⟩) (s:=hS) (k:=?_);simp only [Act.put,lsA,lsS,lsZ]
 refine bk 3 (some 15) (by kernel_rfl) rfl rfl (by rfl) 94 _ _ [.int .i64 (b:Int),.int .i64 64] rfl rfl (fun _ _=>by simp [go_sem]) (a _) ?_;rintro e w4 ⟨rfl,rfl⟩;refine .inl ⟨_,rfl,hS,?_⟩;simp only [Act.put,lsA,lsS,lsZ];refine aB 4 (some 16) (.bool false) (y:=.inl ⟨by rfl,fun w h=>by simp [execOp,go_sem,f]⟩) (s:=hS) (k:=?_);simp only [Act.put,lsA,lsS,lsZ];refine aB 5 (some 17) (.bool false) (y:=.inl ⟨by rfl,fun w h=>by simp [execOp,go_sem]⟩) (s:=hS) (k:=?_);simp only [Act.put,lsA,lsS,lsZ];refine aB 6 (some 18) (.slice ao L cap) (y:=.inl ⟨by rfl,fun w h=>by simp [execOp,go_sem,h]⟩) (s:=hS) (k:=?_);simp only [Act.put,lsA,lsS,lsZ]
 refine bk 7 (some 19) (by kernel_rfl) rfl rfl (by rfl) 93 _ _ [.slice ao L cap] rfl rfl (fun _ _=>by simp [go_sem]) (JO.out _ g.out.drew) ?_;rintro e w5 ⟨rfl,rfl⟩;refine .inl ⟨_,rfl,hS,?_⟩;simp only [Act.put,lsA,lsS,lsZ];refine aB 8 (some 20) (.bool false) (y:=.inl ⟨by rfl,fun w h=>by simp [execOp,go_sem]⟩) (s:=hS) (k:=?_);simp only [Act.put,lsA,lsS,lsZ];refine aB 9 (some 21) (.bool false) (y:=.inl ⟨by rfl,fun w h=>by simp [execOp,go_sem]⟩) (s:=hS) (k:=?_);simp only [Act.put,lsA,lsS,lsZ];refine bk 10 (some 22) (by kernel_rfl) rfl rfl (by rfl) 51 _ _ [.bool false,.int .i64 190] rfl rfl (fun _ _=>by simp [go_sem]) (hR _) ?_;rintro e w6 ⟨rfl,rfl⟩;refine .inl ⟨_,rfl,hS,?_⟩
 simp only [Act.put,lsA,lsS,lsZ];refine wpAnyH_done (by kernel_rfl) ?_ _;have i:Hid (Kept af w1 w1.drew):=(ai af w1).drew;have b2:w1.drew.cell? ⟨bE,0,none⟩=some (.int .u64 (e:Int)):=i.out.cellN b1;generalize w1.drew=W6 at *;clear b0 b1 f a JO hS g;have g3:(e:Int)<3:=by omega
 have d3:decide ((e:Int)<3)=true:=aT g3;clear h3;go_wp2_with fail;refine (hY _).mono ?_;rintro e w7 ⟨rfl,rfl⟩;exact ⟨rfl,.no (by decide),i.out⟩

theorem Aa (bN bE:Nat) (ao:Option Addr) (L cap:Nat) (xs:List Nat) (e:Nat) (hL:L≤1000) (hA:32≤au (val xs)∧au (val xs)≤8192) (hW:L=aj (val xs)) (hO:val xs%2=1) (h4:4294967296≤e) (w:World) (hu:Row .u64 w (.slice ao L cap) xs) (hd:Digs xs) (b0:w.cell? ⟨bN,0,none⟩=some (.slice ao L cap)) (b1:w.cell? ⟨bE,0,none⟩=some (.int .u64 (e:Int))) :
  Calls Tryz.prog 99 #[.pointer (some ⟨bN,0,none⟩),.pointer (some ⟨bE,0,none⟩)] w fun e w'=>AttE 190 e∧Kept af w w':=by
 obtain ⟨_,_,_,e1,hl,-,-,-,-⟩:=hu.open;cases e1
 have hR:=bd 190;have hY:=cf 190;have JB:=dG _ xs w hu hd (by rw [hl.out];omega);have c:au (val xs)≤64*xs.length:=(aA _ _).2 (by rw [Nat.pow_mul];exact aq (by omega) hd);rw [hl.out] at c;have g:Hid (Kept af w w):=ai _ _;have JO:Hid (∀ W,Kept af w W→Calls Tryz.prog 93 #[.slice ao L cap] W fun e w'=>e=.returned (.bool true)∧w'=W):=fun W k=>by
  have h:=ol ao L cap xs W (hu.grew k) hd;rw [aT (by omega)] at h;exact h
 generalize val xs=X at *;obtain ⟨z,hz⟩:∃ z,z=(au X+64-1)/64:=⟨_,rfl⟩
 have j:z=aj X:=by rw [hz,dJ];rfl
 have a:=fun W=>iw (au X) 64 z hz (by omega) (by omega) (by omega) W
 obtain ⟨b,hb⟩:∃ b,b=au X:=⟨_,rfl⟩
 rw [← hb] at a JB hA;have g1:¬ (b:Int)<32:=by omega
 have d1:decide ((b:Int)<32)=false:=aC g1;have g2:¬ (b:Int) > 8192:=by omega
 have d:¬ (8192:Int)<(b:Int):=by omega
 have d2:decide ((8192:Int)<(b:Int))=false:=aC d;have f:(L:Int)=(z:Int):=by omega
 clear hu hd hl hb hz j hW c hA hO;go_enter Tryz.func99,Tryz.ntmps99;go_wp2_with fail;refine JB.mono ?_;rintro e w1 ⟨rfl,rfl⟩;clear JB;go_wp2_with fail;try rw [d2]
 refine (hR _).mono ?_;rintro e w1 ⟨rfl,rfl⟩;clear g1 d1 g2 d d2;go_wp2_with fail;refine wp_region_held_drew (S:=fun w'=>w'.cell? ⟨bN,0,none⟩=some (.slice ao L cap)) (by kernel_rfl) b0 (fun hS=>?_);refine aB 0 (some 12) (.slice ao L cap) (y:=.inl ⟨by rfl,fun w h=>by simp [execOp,go_sem,h]⟩) (s:=hS) (k:=?_);simp only [Act.put,lsA,lsS,lsZ];refine aB 1 (some 13) (.int .i64 (L:Int)) (y:=.inl ⟨by rfl,fun w h=>by simp [execOp,go_sem]⟩) (s:=hS) (k:=?_);simp only [Act.put,lsA,lsS,lsZ];refine aB 2 (some 14) (.int .i64 (b:Int)) (y:=.inl ⟨by rfl,fun w h=>by simp [execOp,go_sem]⟩) (s:=hS) (k:=?_);simp only [Act.put,lsA,lsS,lsZ]
 refine bk 3 (some 15) (by kernel_rfl) rfl rfl (by rfl) 94 _ _ [.int .i64 (b:Int),.int .i64 64] rfl rfl (fun _ _=>by simp [go_sem]) (a _) ?_;rintro e w4 ⟨rfl,rfl⟩;refine .inl ⟨_,rfl,hS,?_⟩;simp only [Act.put,lsA,lsS,lsZ];refine aB 4 (some 16) (.bool false) (y:=.inl ⟨by rfl,fun w h=>by simp [execOp,go_sem,f]⟩) (s:=hS) (k:=?_);simp only [Act.put,lsA,lsS,lsZ];refine aB 5 (some 17) (.bool false) (y:=.inl ⟨by rfl,fun w h=>by simp [execOp,go_sem]⟩) (s:=hS) (k:=?_);simp only [Act.put,lsA,lsS,lsZ];refine aB 6 (some 18) (.slice ao L cap) (y:=.inl ⟨by rfl,fun w h=>by simp [execOp,go_sem,h]⟩) (s:=hS) (k:=?_);simp only [Act.put,lsA,lsS,lsZ]
 refine bk 7 (some 19) (by kernel_rfl) rfl rfl (by rfl) 93 _ _ [.slice ao L cap] rfl rfl (fun _ _=>by simp [go_sem]) (JO.out _ g.out.drew) ?_;rintro e w5 ⟨rfl,rfl⟩;refine .inl ⟨_,rfl,hS,?_⟩;simp only [Act.put,lsA,lsS,lsZ];refine aB 8 (some 20) (.bool false) (y:=.inl ⟨by rfl,fun w h=>by simp [execOp,go_sem]⟩) (s:=hS) (k:=?_);simp only [Act.put,lsA,lsS,lsZ];refine aB 9 (some 21) (.bool false) (y:=.inl ⟨by rfl,fun w h=>by simp [execOp,go_sem]⟩) (s:=hS) (k:=?_);simp only [Act.put,lsA,lsS,lsZ];refine bk 10 (some 22) (by kernel_rfl) rfl rfl (by rfl) 51 _ _ [.bool false,.int .i64 190] rfl rfl (fun _ _=>by simp [go_sem]) (hR _) ?_;rintro e w6 ⟨rfl,rfl⟩;refine .inl ⟨_,rfl,hS,?_⟩
 simp only [Act.put,lsA,lsS,lsZ];refine wpAnyH_done (by kernel_rfl) ?_ _;have i:Hid (Kept af w1 w1.drew):=(ai af w1).drew;have b2:w1.drew.cell? ⟨bE,0,none⟩=some (.int .u64 (e:Int)):=i.out.cellN b1;generalize w1.drew=W6 at *;clear b0 b1 f a JO hS g;have g3:¬ (e:Int)<3:=by omega
 have d3:decide ((e:Int)<3)=false:=aC g3;have g4:(e:Int)≥4294967296:=by omega
 have l:(4294967296:Int)≤(e:Int):=by omega
 have d4:decide ((4294967296:Int)≤(e:Int))=true:=aT l;clear h4;go_wp2_with fail;refine (hY _).mono ?_;rintro e w7 ⟨rfl,rfl⟩;exact ⟨rfl,.no (by decide),i.out⟩

theorem zT (bN bE:Nat) (ao:Option Addr) (L cap:Nat) (xs:List Nat) (e:Nat) (hL:L≤1000) (hA:32≤au (val xs)∧au (val xs)≤8192) (hW:L=aj (val xs)) (hO:val xs%2=1) (h3:3≤e) (h4:e<4294967296) (h5:e%2=0) (w:World) (hu:Row .u64 w (.slice ao L cap) xs) (hd:Digs xs) (b0:w.cell? ⟨bN,0,none⟩=some (.slice ao L cap)) (b1:w.cell? ⟨bE,0,none⟩=some (.int .u64 (e:Int))) :
  Calls Tryz.prog 99 #[.pointer (some ⟨bN,0,none⟩),.pointer (some ⟨bE,0,none⟩)] w fun e w'=>AttE 190 e∧Kept af w w':=by
 obtain ⟨_,_,_,e1,hl,-,-,-,-⟩:=hu.open;cases e1
 have hR:=bd 190;have hY:=cf 190;have JB:=dG _ xs w hu hd (by rw [hl.out];omega);have c:au (val xs)≤64*xs.length:=(aA _ _).2 (by rw [Nat.pow_mul];exact aq (by omega) hd);rw [hl.out] at c;have g:Hid (Kept af w w):=ai _ _;have JO:Hid (∀ W,Kept af w W→Calls Tryz.prog 93 #[.slice ao L cap] W fun e w'=>e=.returned (.bool true)∧w'=W):=fun W k=>by
  have h:=ol ao L cap xs W (hu.grew k) hd;rw [aT (by omega)] at h;exact h
 generalize val xs=X at *;obtain ⟨z,hz⟩:∃ z,z=(au X+64-1)/64:=⟨_,rfl⟩
 have j:z=aj X:=by rw [hz,dJ];rfl
 have a:=fun W=>iw (au X) 64 z hz (by omega) (by omega) (by omega) W
 obtain ⟨b,hb⟩:∃ b,b=au X:=⟨_,rfl⟩
 rw [← hb] at a JB hA;have g1:¬ (b:Int)<32:=by omega
 have d1:decide ((b:Int)<32)=false:=aC g1;have g2:¬ (b:Int) > 8192:=by omega
 have d:¬ (8192:Int)<(b:Int):=by omega
 have d2:decide ((8192:Int)<(b:Int))=false:=aC d;have f:(L:Int)=(z:Int):=by omega
 clear hu hd hl hb hz j hW c hA hO;go_enter Tryz.func99,Tryz.ntmps99;go_wp2_with fail;refine JB.mono ?_;rintro e w1 ⟨rfl,rfl⟩;clear JB;go_wp2_with fail;try rw [d2]
 refine (hR _).mono ?_;rintro e w1 ⟨rfl,rfl⟩;clear g1 d1 g2 d d2;go_wp2_with fail;refine wp_region_held_drew (S:=fun w'=>w'.cell? ⟨bN,0,none⟩=some (.slice ao L cap)) (by kernel_rfl) b0 (fun hS=>?_);refine aB 0 (some 12) (.slice ao L cap) (y:=.inl ⟨by rfl,fun w h=>by simp [execOp,go_sem,h]⟩) (s:=hS) (k:=?_);simp only [Act.put,lsA,lsS,lsZ];refine aB 1 (some 13) (.int .i64 (L:Int)) (y:=.inl ⟨by rfl,fun w h=>by simp [execOp,go_sem]⟩) (s:=hS) (k:=?_);simp only [Act.put,lsA,lsS,lsZ];refine aB 2 (some 14) (.int .i64 (b:Int)) (y:=.inl ⟨by rfl,fun w h=>by simp [execOp,go_sem]⟩) (s:=hS) (k:=?_);simp only [Act.put,lsA,lsS,lsZ]
 refine bk 3 (some 15) (by kernel_rfl) rfl rfl (by rfl) 94 _ _ [.int .i64 (b:Int),.int .i64 64] rfl rfl (fun _ _=>by simp [go_sem]) (a _) ?_;rintro e w4 ⟨rfl,rfl⟩;refine .inl ⟨_,rfl,hS,?_⟩;simp only [Act.put,lsA,lsS,lsZ];refine aB 4 (some 16) (.bool false) (y:=.inl ⟨by rfl,fun w h=>by simp [execOp,go_sem,f]⟩) (s:=hS) (k:=?_);simp only [Act.put,lsA,lsS,lsZ];refine aB 5 (some 17) (.bool false) (y:=.inl ⟨by rfl,fun w h=>by simp [execOp,go_sem]⟩) (s:=hS) (k:=?_);simp only [Act.put,lsA,lsS,lsZ];refine aB 6 (some 18) (.slice ao L cap) (y:=.inl ⟨by rfl,fun w h=>by simp [execOp,go_sem,h]⟩) (s:=hS) (k:=?_);simp only [Act.put,lsA,lsS,lsZ]
 refine bk 7 (some 19) (by kernel_rfl) rfl rfl (by rfl) 93 _ _ [.slice ao L cap] rfl rfl (fun _ _=>by simp [go_sem]) (JO.out _ g.out.drew) ?_;rintro e w5 ⟨rfl,rfl⟩;refine .inl ⟨_,rfl,hS,?_⟩;simp only [Act.put,lsA,lsS,lsZ];refine aB 8 (some 20) (.bool false) (y:=.inl ⟨by rfl,fun w h=>by simp [execOp,go_sem]⟩) (s:=hS) (k:=?_);simp only [Act.put,lsA,lsS,lsZ];refine aB 9 (some 21) (.bool false) (y:=.inl ⟨by rfl,fun w h=>by simp [execOp,go_sem]⟩) (s:=hS) (k:=?_);simp only [Act.put,lsA,lsS,lsZ];refine bk 10 (some 22) (by kernel_rfl) rfl rfl (by rfl) 51 _ _ [.bool false,.int .i64 190] rfl rfl (fun _ _=>by simp [go_sem]) (hR _) ?_;rintro e w6 ⟨rfl,rfl⟩;refine .inl ⟨_,rfl,hS,?_⟩
 simp only [Act.put,lsA,lsS,lsZ];refine wpAnyH_done (by kernel_rfl) ?_ _;have i:Hid (Kept af w1 w1.drew):=(ai af w1).drew;have b2:w1.drew.cell? ⟨bE,0,none⟩=some (.int .u64 (e:Int)):=i.out.cellN b1;generalize w1.drew=W6 at *;clear b0 b1 f a JO hS g;have g3:¬ (e:Int)<3:=by omega
 have d3:decide ((e:Int)<3)=false:=aC g3;have g4:¬ (e:Int)≥4294967296:=by omega
 have l:¬ (4294967296:Int)≤(e:Int):=by omega
 have d4:decide ((4294967296:Int)≤(e:Int))=false:=aC l;have g5:(e:Int)%2=0:=by omega
 have m:(e:Int).tmod 2=0:=by rw [Int.tmod_eq_emod_of_nonneg (by omega)];omega
 have d5:((e:Int)%2 == 0)=true:=by simp;omega
 clear h3 h4 h5;go_wp2_with fail;refine (hY _).mono ?_;rintro e w7 ⟨rfl,rfl⟩;exact ⟨rfl,.no (by decide),i.out⟩

theorem AB (bN bE:Nat) (ao:Option Addr) (L cap:Nat) (xs:List Nat) (e:Nat) (hL:L≤1000) (hA:32≤au (val xs)∧au (val xs)≤8192) (hW:L=aj (val xs)) (hO:val xs%2=1) (h3:3≤e) (h4:e<4294967296) (h5:e%2=1) (w:World) (hu:Row .u64 w (.slice ao L cap) xs) (hd:Digs xs) (b0:w.cell? ⟨bN,0,none⟩=some (.slice ao L cap)) (b1:w.cell? ⟨bE,0,none⟩=some (.int .u64 (e:Int))) :
  Calls Tryz.prog 99 #[.pointer (some ⟨bN,0,none⟩),.pointer (some ⟨bE,0,none⟩)] w fun e w'=>AttE 0 e∧Kept af w w':=by
 obtain ⟨_,_,_,e1,hl,-,-,-,-⟩:=hu.open;cases e1
 have hR:=bd 190;have hY:=cf 190;have JB:=dG _ xs w hu hd (by rw [hl.out];omega);have c:au (val xs)≤64*xs.length:=(aA _ _).2 (by rw [Nat.pow_mul];exact aq (by omega) hd);rw [hl.out] at c;have g:Hid (Kept af w w):=ai _ _;have JO:Hid (∀ W,Kept af w W→Calls Tryz.prog 93 #[.slice ao L cap] W fun e w'=>e=.returned (.bool true)∧w'=W):=fun W k=>by
  have h:=ol ao L cap xs W (hu.grew k) hd;rw [aT (by omega)] at h;exact h
 generalize val xs=X at *;obtain ⟨z,hz⟩:∃ z,z=(au X+64-1)/64:=⟨_,rfl⟩
 have j:z=aj X:=by rw [hz,dJ];rfl
 have a:=fun W=>iw (au X) 64 z hz (by omega) (by omega) (by omega) W
 obtain ⟨b,hb⟩:∃ b,b=au X:=⟨_,rfl⟩
 rw [← hb] at a JB hA;have g1:¬ (b:Int)<32:=by omega
 have d1:decide ((b:Int)<32)=false:=aC g1;have g2:¬ (b:Int) > 8192:=by omega
 have d:¬ (8192:Int)<(b:Int):=by omega
 have d2:decide ((8192:Int)<(b:Int))=false:=aC d;have f:(L:Int)=(z:Int):=by omega
 clear hu hd hl hb hz j hW c hA hO;go_enter Tryz.func99,Tryz.ntmps99;go_wp2_with fail;refine JB.mono ?_;rintro e w1 ⟨rfl,rfl⟩;clear JB;go_wp2_with fail;try rw [d2]
 refine (hR _).mono ?_;rintro e w1 ⟨rfl,rfl⟩;clear g1 d1 g2 d d2;go_wp2_with fail;refine wp_region_held_drew (S:=fun w'=>w'.cell? ⟨bN,0,none⟩=some (.slice ao L cap)) (by kernel_rfl) b0 (fun hS=>?_);refine aB 0 (some 12) (.slice ao L cap) (y:=.inl ⟨by rfl,fun w h=>by simp [execOp,go_sem,h]⟩) (s:=hS) (k:=?_);simp only [Act.put,lsA,lsS,lsZ];refine aB 1 (some 13) (.int .i64 (L:Int)) (y:=.inl ⟨by rfl,fun w h=>by simp [execOp,go_sem]⟩) (s:=hS) (k:=?_);simp only [Act.put,lsA,lsS,lsZ];refine aB 2 (some 14) (.int .i64 (b:Int)) (y:=.inl ⟨by rfl,fun w h=>by simp [execOp,go_sem]⟩) (s:=hS) (k:=?_);simp only [Act.put,lsA,lsS,lsZ]
 refine bk 3 (some 15) (by kernel_rfl) rfl rfl (by rfl) 94 _ _ [.int .i64 (b:Int),.int .i64 64] rfl rfl (fun _ _=>by simp [go_sem]) (a _) ?_;rintro e w4 ⟨rfl,rfl⟩;refine .inl ⟨_,rfl,hS,?_⟩;simp only [Act.put,lsA,lsS,lsZ];refine aB 4 (some 16) (.bool false) (y:=.inl ⟨by rfl,fun w h=>by simp [execOp,go_sem,f]⟩) (s:=hS) (k:=?_);simp only [Act.put,lsA,lsS,lsZ];refine aB 5 (some 17) (.bool false) (y:=.inl ⟨by rfl,fun w h=>by simp [execOp,go_sem]⟩) (s:=hS) (k:=?_);simp only [Act.put,lsA,lsS,lsZ];refine aB 6 (some 18) (.slice ao L cap) (y:=.inl ⟨by rfl,fun w h=>by simp [execOp,go_sem,h]⟩) (s:=hS) (k:=?_);simp only [Act.put,lsA,lsS,lsZ]
 refine bk 7 (some 19) (by kernel_rfl) rfl rfl (by rfl) 93 _ _ [.slice ao L cap] rfl rfl (fun _ _=>by simp [go_sem]) (JO.out _ g.out.drew) ?_;rintro e w5 ⟨rfl,rfl⟩;refine .inl ⟨_,rfl,hS,?_⟩;simp only [Act.put,lsA,lsS,lsZ];refine aB 8 (some 20) (.bool false) (y:=.inl ⟨by rfl,fun w h=>by simp [execOp,go_sem]⟩) (s:=hS) (k:=?_);simp only [Act.put,lsA,lsS,lsZ];refine aB 9 (some 21) (.bool false) (y:=.inl ⟨by rfl,fun w h=>by simp [execOp,go_sem]⟩) (s:=hS) (k:=?_);simp only [Act.put,lsA,lsS,lsZ];refine bk 10 (some 22) (by kernel_rfl) rfl rfl (by rfl) 51 _ _ [.bool false,.int .i64 190] rfl rfl (fun _ _=>by simp [go_sem]) (hR _) ?_;rintro e w6 ⟨rfl,rfl⟩;refine .inl ⟨_,rfl,hS,?_⟩
 simp only [Act.put,lsA,lsS,lsZ];refine wpAnyH_done (by kernel_rfl) ?_ _;have i:Hid (Kept af w1 w1.drew):=(ai af w1).drew;have b2:w1.drew.cell? ⟨bE,0,none⟩=some (.int .u64 (e:Int)):=i.out.cellN b1;generalize w1.drew=W6 at *;clear b0 b1 f a JO hS g;have g3:¬ (e:Int)<3:=by omega
 have d3:decide ((e:Int)<3)=false:=aC g3;have g4:¬ (e:Int)≥4294967296:=by omega
 have l:¬ (4294967296:Int)≤(e:Int):=by omega
 have d4:decide ((4294967296:Int)≤(e:Int))=false:=aC l;have g5:¬ (e:Int)%2=0:=by omega
 have m:¬ (e:Int).tmod 2=0:=by rw [Int.tmod_eq_emod_of_nonneg (by omega)];omega
 have d5:((e:Int)%2 == 0)=false:=by simp;omega
 clear h3 h4 h5;go_wp2_with fail;refine (hR _).mono ?_;rintro e w7 ⟨rfl,rfl⟩;go_wp2;go_end0
 exact ⟨.ok,i.out⟩

theorem xQ (ao:Option Addr) (L cap:Nat) (xs:List Nat) (e:Nat) (w:World) (hu:Row .u64 w (.slice ao L cap) xs) (hd:Digs xs) (hL:L≤1000) :
  Calls Tryz.prog 52 #[.slice ao L cap,.int .u64 (e:Nat)] w fun r w'=>r=.returned (.int .i64 ((fm xs e:Nat):Int))∧Kept af w w':=by
 have i:=eR;have c:∀ args w,(callFunc 99 args).run Tryz.prog w=.ok (.enter 99 args) w:=fun _ _=>by simp [go_sem]
 obtain ⟨_,_,_,e1,hl,-,-,-,-⟩:=hu.open;cases e1
 have d:xs.length=L:=hl.out;obtain ⟨W,hW⟩:∃ W,W=(w.alloc (.cells #[.slice ao L cap] 32)).alloc (.cells #[.int .u64 (e:Nat)] 23):=⟨_,rfl⟩
 have k0:Kept af w W:=by rw [hW];exact ((ai af w).alloc _).alloc _
 have x0:W.heap[w.heap.size]? = some (.cells #[.slice ao L cap] 32 (0,0)):=by rw [hW];exact ap (heap_alloc_new _ _)
 have x1:W.heap[w.heap.size+1]? = some (.cells #[.int .u64 (e:Nat)] 23 (0,0)):=by
  rw [hW];have:=heap_alloc_new (w.alloc (.cells #[.slice ao L cap] 32)) (.cells #[.int .u64 (e:Nat)] 23)
  rwa [World.size_alloc] at this
 have kE:=(ai af W).alloc (.cells #[.int .i64 0] 33);have c0:(W.alloc (.cells #[.int .i64 0] 33)).cell? ⟨w.heap.size,0,none⟩=some (.slice ao L cap):=kE.cellN ((cell_of_row W _ 0 _ _ _ x0).trans rfl);have c1:(W.alloc (.cells #[.int .i64 0] 33)).cell? ⟨w.heap.size+1,0,none⟩=some (.int .u64 (e:Int)):=kE.cellN ((cell_of_row W _ 0 _ _ _ x1).trans rfl);have b:=hu.grew (k0.trans kE);have JA:Calls Tryz.prog 46 #[.func (.func 99) #[] #[.pointer (some ⟨w.heap.size,0,none⟩),.pointer (some ⟨w.heap.size+1,0,none⟩)]] W fun e' w'=>e'=.returned (.int .i64 ((fm xs e:Nat):Int))∧Kept af W w':=by
  refine qX _ _ W (fm xs e) c ?_;have a:=jD hd (by omega) e;rw [d] at a;by_cases hA:32≤au (val xs)∧au (val xs)≤8192
  ·by_cases hw:L=aj (val xs)
   ·by_cases ho:val xs%2=1
    ·by_cases h3:3≤e
     ·by_cases h4:e<4294967296
      ·by_cases h5:e%2=1
       ·rw [a.2 ⟨hA,⟨hw,ho⟩,h3,h4,h5⟩];exact AB _ _ ao L cap xs e hL hA hw ho h3 h4 h5 _ b hd c0 c1
       ·rw [(gh xs e).resolve_left (fun h=>by have:=a.1 h;omega)];exact zT _ _ ao L cap xs e hL hA hw ho h3 h4 (by omega) _ b hd c0 c1
      ·rw [(gh xs e).resolve_left (fun h=>by have:=a.1 h;omega)];exact Aa _ _ ao L cap xs e hL hA hw ho (by omega) _ b hd c0 c1
     ·rw [(gh xs e).resolve_left (fun h=>by have:=a.1 h;omega)];exact At _ _ ao L cap xs e hL hA hw ho (by omega) _ b hd c0 c1
    ·rw [(gh xs e).resolve_left (fun h=>by have:=a.1 h;omega)];exact zI _ (w.heap.size+1) ao L cap xs hL hA hw (by omega) _ b hd c0
   ·rw [(gh xs e).resolve_left (fun h=>by have:=a.1 h;omega)];exact Aq _ (w.heap.size+1) ao L cap xs hL hA hw _ b hd c0
  ·rw [(gh xs e).resolve_left (fun h=>by have:=a.1 h;omega)];exact zZ _ (w.heap.size+1) ao L cap xs hL (by omega) _ b hd c0
 have HW:=aa hW;have g:=aa k0;generalize fm xs e=E at *;clear hu hd hL hl d hW k0 x0 x1 kE c0 c1 b c;go_enter Tryz.func52,Tryz.ntmps52;go_wp2_with (rw [← HW.out]);refine JA.mono ?_;rintro r w1 ⟨rfl,k1⟩;have f:=aa (g.out.trans k1);clear JA k1;go_wp2;go_ret;exact ⟨rfl,f.out⟩

theorem kI {M:Nat} (h2:2≤M) (ho:M%2=1) (hn:aj M≤130):dD M=0:=by
 unfold dD;rw [if_neg (by omega),if_neg (by omega),if_neg (by omega)]

theorem AU (ao bo:Option Addr) (L n cap c:Nat) (xs ms:List Nat) (X M:Nat) (hX:X=val xs) (hM:M=val ms) (h2:2≤M) (ho:M%2=1) (hn:n=aj M) (N:n≤130) (hL:L≤300) (hg:Nat.gcd X M=1) (w:World) (hu:Row .u64 w (.slice ao L cap) xs) (hv:Row .u64 w (.slice bo n c) ms) (v:Digs xs) (i:Digs ms) :
  Calls Tryz.prog 53 #[.slice ao L cap,.slice bo n c] w fun e w'=>∃ vo vc T,e=.returned (.slice vo n vc)∧Hid (T<M∧X*T%M=1)∧Row .u64 w' (.slice vo n vc) (digs T n)∧Kept af w w':=by
 obtain ⟨_,_,_,e1,H,-,-,-,-⟩:=hv.open;cases e1
 have hE:=kI h2 ho (by omega);have J1:=sZ bo n c ms M 0 hM hE.symm w hv i (by omega);have JR:Hid (∀ W,Kept af w W→Calls Tryz.prog 58 #[.slice ao L cap,.slice bo n c] W fun e w'=>∃ vo vc,e=.returned (.slice vo n vc)∧Row .u64 w' (.slice vo n vc) (digs (X%M) n)∧Kept af W w'):=fun W k=>qq ao bo L n cap c xs ms X M hX hM (by omega) hL (by omega) W (hu.grew k) (hv.grew k) v i
 have s:Nat.gcd (X%M) M=Nat.gcd X M:=by rw [Nat.gcd_comm X M,Nat.gcd_rec M X]
 have hlt:X%M<M:=Nat.mod_lt _ (by omega);have b:X%M<18446744073709551616^n:=Nat.lt_trans hlt ((am M n).1 (by omega));have JI:Hid (∀ W (sa sb so:Option Addr) (na nb ca cb sc K:Nat),lW M K→Row .u64 W (.slice sa na ca) (eP M)→Row .u64 W (.slice sb nb cb) (eI M)→Row .u64 W (.slice so n sc) (digs (X%M) n)→Calls Tryz.prog 102 #[.pointer none,.agg #[.slice sa na ca,.int .u64 (K:Nat),.slice sb nb cb],.slice so n sc] W fun e w'=>∃ vo vc T,e=.returned (.tuple #[.slice vo n vc,.int .u64 1,.int .i64 0])∧Hid (T<M∧X*T%M=1)∧Row .u64 w' (.slice vo n vc) (digs T n)∧Kept af W w'):=fun W sa sb so na nb ca cb sc K hK h1 h3 h4=>by
  obtain ⟨U,J,V,d,A,I⟩:=mG hE hK;obtain ⟨_,_,_,e1,R,-,-,-,-⟩:=h1.open;cases e1
  obtain rfl:n=na:=by rw [← R.out,J,hn]
  refine (Bh sa sb so n nb K ca cb n sc (eP M) (eI M) (digs (X%M) n) W h1 h3 h4 A I (ah (by omega) _ _) hK.1 (by omega)).mono ?_;rintro e w' ⟨v',F,E,rfl,T,RL,hr,k,P⟩;obtain ⟨c1,c2,c3,c4⟩:=P.out;rw [ak,al b,d] at c1 c2;rcases c1 with ⟨rfl,_⟩ | ⟨_,hno⟩
  ·rw [if_pos rfl] at c4;subst c4;obtain ⟨vo,vn,vc,rfl,B,-,-,-,-⟩:=hr.open;obtain rfl:n=vn:=by rw [← B.out,ag]
   have hI:=c2 rfl;obtain ⟨t1,t2,rfl⟩:=hI.1 (by rw [s];exact hg);exact ⟨_,_,T,rfl,⟨t1,by rw [Nat.mul_mod,Nat.mod_mod,← Nat.mul_mod] at t2;exact t2⟩,hr,k⟩
  ·exact absurd ⟨⟨by rw [d];exact hE,by rw [d],by rw [d];exact hK,by rw [d]⟩,rfl,hlt⟩ hno
 clear hu hv v i H hX hM h2 ho hL hg hE s hlt b N hn;go_enter Tryz.func53,Tryz.ntmps53;go_wp2_with fail;refine J1.mono ?_;rintro e w1 ⟨va,K,vb,rfl,g,l,hK,k1⟩;obtain ⟨sa,na,ca,rfl,_,_,_,_,_⟩:=g.open;obtain ⟨sb,nb,cb,rfl,_,_,_,_,_⟩:=l.open;have J2:=tx sa sb na ca K nb cb w1;have HA:=aa g;have HB:=aa l;have y:=aa hK;have q:=aa k1;unfold fl;clear J1 g l hK k1;go_wp2_with fail;refine J2.mono ?_;rintro e w2 ⟨rfl,k2⟩;obtain ⟨W,hW⟩:∃ W,W=w2.alloc (.cells #[.slice sa na ca,.int .u64 (K:Nat),.slice sb nb cb] 130):=⟨_,rfl⟩
 have j:W.heap[w2.heap.size]? = some (.cells #[.slice sa na ca,.int .u64 (K:Nat),.slice sb nb cb] 130 (0,0)):=by rw [hW];exact heap_alloc_new _ _
 have kW:Kept af w2 W:=by rw [hW];exact (ai af w2).alloc _
 have HC:Hid (∀ W',Kept af W W'→W'.cell? ⟨w2.heap.size,0,none⟩=some (.slice sa na ca)∧W'.cell? ⟨w2.heap.size,1,none⟩=some (.int .u64 (K:Nat))∧W'.cell? ⟨w2.heap.size,2,none⟩=some (.slice sb nb cb)):=fun W' k=>ax ((k.block _ (lt_of_block j) (fun f=>f)).trans j)
 have HW:=aa hW;have t:=aa ((q.out.trans k2).trans kW);have O:=aa (HA.out.grew (k2.trans kW));have Q:=aa (HB.out.grew (k2.trans kW));clear J2 k2 kW j hW HA HB q;go_wp2_with (rw [← HW.out]);have KD:Kept af W W.drew:=(ai af W).drew;obtain ⟨c0,c1,c2⟩:=HC.out _ (ai af W);have x:=JR.out _ (t.out.trans KD);go_region_held3 (fun w'=>w'.cell? ⟨w2.heap.size,0,none⟩=some (.slice sa na ca)∧w'.cell? ⟨w2.heap.size,1,none⟩=some (.int .u64 (K:Nat))∧w'.cell? ⟨w2.heap.size,2,none⟩=some (.slice sb nb cb))
  (((try dsimp only);(repeat' apply And.intro) <;> first | (go_keep;done) | assumption))
  (first
  | (go_at_call 102;refine (JI.out _ sa sb so na nb ca cb sc K y.out (O.out.grew a) (Q.out.grew a) r).mono ?_;rintro e w4 ⟨vo,vc,T,rfl,hT,p,k4⟩;obtain ⟨h,o,m⟩:=HC.out _ (a.trans k4))
  | (go_at_call 58;refine x.mono ?_;rintro e w3 ⟨so,sc,rfl,r,k3⟩;have a:=KD.trans k3;obtain ⟨z,C,S⟩:=HC.out _ a))
 have D:=aa p;have G:=aa (t.out.trans (a.trans k4));clear x JR JI KD a k3 k4 r p HC c0 c1 c2 z C S h o m;have hR:=bd 190 w4;have hS:=ix vo n vc w4;go_wp2_with fail;refine hR.mono ?_;rintro e w5 ⟨rfl,rfl⟩;clear hR;go_wp2_with fail;refine hS.mono ?_;rintro e w6 ⟨rfl,rfl⟩;clear hS;go_wp2;go_ret;exact ⟨_,_,T,rfl,hT,D.out,G.out⟩

theorem pF (ao bo:Option Addr) (L n cap c:Nat) (xs ms:List Nat) (X M:Nat) (hX:X=val xs) (hM:M=val ms) (h2:2≤M) (ho:M%2=1) (hn:n=aj M) (J:n≤130) (hL:L≤300) (hg:Nat.gcd X M≠1) (w:World) (hu:Row .u64 w (.slice ao L cap) xs) (hv:Row .u64 w (.slice bo n c) ms) (v:Digs xs) (i:Digs ms) :
  Calls Tryz.prog 53 #[.slice ao L cap,.slice bo n c] w fun e w'=>e=.panicked [refusal 190]∧Kept af w w':=by
 obtain ⟨_,_,_,e1,G,-,-,-,-⟩:=hv.open;cases e1
 have hE:=kI h2 ho (by omega);have J1:=sZ bo n c ms M 0 hM hE.symm w hv i (by omega);have JR:Hid (∀ W,Kept af w W→Calls Tryz.prog 58 #[.slice ao L cap,.slice bo n c] W fun e w'=>∃ vo vc,e=.returned (.slice vo n vc)∧Row .u64 w' (.slice vo n vc) (digs (X%M) n)∧Kept af W w'):=fun W k=>qq ao bo L n cap c xs ms X M hX hM (by omega) hL (by omega) W (hu.grew k) (hv.grew k) v i
 have s:Nat.gcd (X%M) M=Nat.gcd X M:=by rw [Nat.gcd_comm X M,Nat.gcd_rec M X]
 have hlt:X%M<M:=Nat.mod_lt _ (by omega);have b:X%M<18446744073709551616^n:=Nat.lt_trans hlt ((am M n).1 (by omega));have JI:Hid (∀ W (sa sb so:Option Addr) (na nb ca cb sc K:Nat),lW M K→Row .u64 W (.slice sa na ca) (eP M)→Row .u64 W (.slice sb nb cb) (eI M)→Row .u64 W (.slice so n sc) (digs (X%M) n)→Calls Tryz.prog 102 #[.pointer none,.agg #[.slice sa na ca,.int .u64 (K:Nat),.slice sb nb cb],.slice so n sc] W fun e w'=>∃ vo vc T,e=.returned (.tuple #[.slice vo n vc,.int .u64 0,.int .i64 0])∧Hid (True)∧Row .u64 w' (.slice vo n vc) (digs T n)∧Kept af W w'):=fun W sa sb so na nb ca cb sc K hK h1 h3 h4=>by
  obtain ⟨S,I,V,d,A,H⟩:=mG hE hK;obtain ⟨_,_,_,e1,Q,-,-,-,-⟩:=h1.open;cases e1
  obtain rfl:n=na:=by rw [← Q.out,I,hn]
  refine (Bh sa sb so n nb K ca cb n sc (eP M) (eI M) (digs (X%M) n) W h1 h3 h4 A H (ah (by omega) _ _) hK.1 (by omega)).mono ?_;rintro e w' ⟨v',F,E,rfl,T,RL,hr,k,O⟩;obtain ⟨c1,c2,c3,c4⟩:=O.out;rw [ak,al b,d] at c1 c2;rcases c1 with ⟨rfl,_⟩ | ⟨_,hno⟩
  ·rw [if_pos rfl] at c4;subst c4;obtain ⟨vo,vn,vc,rfl,B,-,-,-,-⟩:=hr.open;obtain rfl:n=vn:=by rw [← B.out,ag]
   have hI:=c2 rfl;obtain ⟨_,rfl⟩:=hI.2 (by rw [s];exact hg);exact ⟨_,_,_,rfl,trivial,hr,k⟩
  ·exact absurd ⟨⟨by rw [d];exact hE,by rw [d],by rw [d];exact hK,by rw [d]⟩,rfl,hlt⟩ hno
 clear hu hv v i G hX hM h2 ho hL hg hE s hlt b J hn;go_enter Tryz.func53,Tryz.ntmps53;go_wp2_with fail;refine J1.mono ?_;rintro e w1 ⟨va,K,vb,rfl,g,l,hK,k1⟩;obtain ⟨sa,na,ca,rfl,_,_,_,_,_⟩:=g.open;obtain ⟨sb,nb,cb,rfl,_,_,_,_,_⟩:=l.open;have J2:=tx sa sb na ca K nb cb w1;have HA:=aa g;have HB:=aa l;have y:=aa hK;have q:=aa k1;unfold fl;clear J1 g l hK k1;go_wp2_with fail;refine J2.mono ?_;rintro e w2 ⟨rfl,k2⟩;obtain ⟨W,hW⟩:∃ W,W=w2.alloc (.cells #[.slice sa na ca,.int .u64 (K:Nat),.slice sb nb cb] 130):=⟨_,rfl⟩
 have j:W.heap[w2.heap.size]? = some (.cells #[.slice sa na ca,.int .u64 (K:Nat),.slice sb nb cb] 130 (0,0)):=by rw [hW];exact heap_alloc_new _ _
 have kW:Kept af w2 W:=by rw [hW];exact (ai af w2).alloc _
 have HC:Hid (∀ W',Kept af W W'→W'.cell? ⟨w2.heap.size,0,none⟩=some (.slice sa na ca)∧W'.cell? ⟨w2.heap.size,1,none⟩=some (.int .u64 (K:Nat))∧W'.cell? ⟨w2.heap.size,2,none⟩=some (.slice sb nb cb)):=fun W' k=>ax ((k.block _ (lt_of_block j) (fun f=>f)).trans j)
 have HW:=aa hW;have t:=aa ((q.out.trans k2).trans kW);have N:=aa (HA.out.grew (k2.trans kW));have P:=aa (HB.out.grew (k2.trans kW));clear J2 k2 kW j hW HA HB q;go_wp2_with (rw [← HW.out]);have KD:Kept af W W.drew:=(ai af W).drew;obtain ⟨c0,c1,c2⟩:=HC.out _ (ai af W);have x:=JR.out _ (t.out.trans KD);go_region_held3 (fun w'=>w'.cell? ⟨w2.heap.size,0,none⟩=some (.slice sa na ca)∧w'.cell? ⟨w2.heap.size,1,none⟩=some (.int .u64 (K:Nat))∧w'.cell? ⟨w2.heap.size,2,none⟩=some (.slice sb nb cb))
  (((try dsimp only);(repeat' apply And.intro) <;> first | (go_keep;done) | assumption))
  (first
  | (go_at_call 102;refine (JI.out _ sa sb so na nb ca cb sc K y.out (N.out.grew a) (P.out.grew a) r).mono ?_;rintro e w4 ⟨vo,vc,T,rfl,hT,p,k4⟩;obtain ⟨h,o,m⟩:=HC.out _ (a.trans k4))
  | (go_at_call 58;refine x.mono ?_;rintro e w3 ⟨so,sc,rfl,r,k3⟩;have a:=KD.trans k3;obtain ⟨z,C,R⟩:=HC.out _ a))
 have U:=aa p;have D:=aa (t.out.trans (a.trans k4));clear x JR JI KD a k3 k4 r p HC c0 c1 c2 z C R h o m;have hY:=cf 190 w4;go_wp2_with fail;refine hY.mono ?_;rintro e w5 ⟨rfl,rfl⟩;exact ⟨rfl,rfl,D.out⟩

end Go.Proofs.YtcemlfokmjjiaaaGreatDoor
