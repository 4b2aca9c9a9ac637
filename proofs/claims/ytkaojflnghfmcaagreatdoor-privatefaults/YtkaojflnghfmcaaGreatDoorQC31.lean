/- Put together of: Kex3. -/
import Derived.Test.YtkaojflnghfmcaaGreatDoorQC30

namespace Go.Proofs.YtkaojflnghfmcaaGreatDoor
open _root_.Go.Proofs.Tryz
set_option maxRecDepth 100000
set_option maxHeartbeats 4000000
open Go.RowKit

def AttE (E:Nat) (e:Ending):Prop:=(E=0/\e=.returned (.tuple #[]))\/(E≠0/\e=.panicked [refusal (E:Nat)])

theorem AttE.ok:AttE 0 (.returned (.tuple #[])):=.inl ⟨rfl,rfl⟩

theorem AttE.no {E:Nat} (h:E≠0):AttE E (.panicked [refusal (E:Nat)]):=.inr ⟨h,rfl⟩

theorem E4 (bN bE:Nat) (ao:Option Addr) (L c:Nat) (xs:List Nat) (hL:L<=1000) (hA:aM (val xs)<32\/8192<aM (val xs)) (w:World) (hu:Row .u64 w (.slice ao L c) xs) (hd:Digs xs) (b0:w.cell? ⟨bN,0,none⟩=some (.slice ao L c)) :
  Calls prog 213 #[.pointer (some ⟨bN,0,none⟩),.pointer (some ⟨bE,0,none⟩)] w fun e w'=>AttE 190 e/\Kept af w w':=by
 obtain ⟨_,_,_,e1,hl,-,-,-,-⟩:=hu.open;cases e1
 have hR:=de 190;have hY:=dM 190;have JB:=iw _ xs w hu hd (by rw [hl.out];omega);have f:aM (val xs)<=64*xs.length:=(aX _ _).2 (by rw [bh];exact aE (by omega) hd);rw [hl.out] at f;have a:Hid (Kept af w w):=aj _ _;generalize aM (val xs)=b at *;clear hu hd hl;by_cases h1:b<32
 ·have g1:(b:Int)<32:=by omega
  have d1:decide ((b:Int)<32)=true:=dL g1;clear hA h1 hR;go_enter func213,ntmps213;go_wp2_with fail;refine JB.mono ?_;rintro e w1 ⟨rfl,rfl⟩;clear JB;go_wp2_with fail;try rw [d1]
  refine (hY _).mono ?_;rintro e w1 ⟨rfl,rfl⟩;exact ⟨rfl,.no (by decide),a.out⟩
 ·have g1:¬ (b:Int)<32:=by omega
  have d1:decide ((b:Int)<32)=false:=cP g1;have g2:(b:Int) > 8192:=by omega
  have d:(8192:Int)<(b:Int):=by omega
  have d2:decide ((8192:Int)<(b:Int))=true:=dL d;clear hA h1 hR;go_enter func213,ntmps213;go_wp2_with fail;refine JB.mono ?_;rintro e w1 ⟨rfl,rfl⟩;clear JB;go_wp2_with fail;try rw [d2]
  refine (hY _).mono ?_;rintro e w1 ⟨rfl,rfl⟩;exact ⟨rfl,.no (by decide),a.out⟩

theorem E5 (bN bE:Nat) (ao:Option Addr) (L a:Nat) (xs:List Nat) (hL:L<=1000) (hA:32<=aM (val xs)/\aM (val xs)<=8192) (hW:L≠ar (val xs)) (w:World) (hu:Row .u64 w (.slice ao L a) xs) (hd:Digs xs) (b0:w.cell? ⟨bN,0,none⟩=some (.slice ao L a)) :
  Calls prog 213 #[.pointer (some ⟨bN,0,none⟩),.pointer (some ⟨bE,0,none⟩)] w fun e w'=>AttE 190 e/\Kept af w w':=by
 obtain ⟨_,_,_,e1,hl,-,-,-,-⟩:=hu.open;cases e1
 have hR:=de 190;have hY:=dM 190;have JB:=iw _ xs w hu hd (by rw [hl.out];omega);have f:aM (val xs)<=64*xs.length:=(aX _ _).2 (by rw [bh];exact aE (by omega) hd);rw [hl.out] at f;have g:Hid (Kept af w w):=aj _ _;generalize val xs=X at *;obtain ⟨z,hz⟩:∃ z,z=(aM X+64-1)/64:=⟨_,rfl⟩
 have j:z=ar X:=by rw [hz,gh];rfl
 have c:=fun W=>kT (aM X) 64 z hz (by omega) (by omega) (by omega) W
 obtain ⟨b,hb⟩:∃ b,b=aM X:=⟨_,rfl⟩
 rw [<- hb] at c JB hA;have g1:¬ (b:Int)<32:=by omega
 have d1:decide ((b:Int)<32)=false:=cP g1;have g2:¬ (b:Int) > 8192:=by omega
 have d:¬ (8192:Int)<(b:Int):=by omega
 have d2:decide ((8192:Int)<(b:Int))=false:=cP d;have i:¬ (L:Int)=(z:Int):=by omega
 clear hu hd hl hb hz j hW f hA;go_enter func213,ntmps213;go_wp2_with fail;refine JB.mono ?_;rintro e w1 ⟨rfl,rfl⟩;clear JB;go_wp2_with fail;try rw [d2]
 refine (hR _).mono ?_;rintro e w1 ⟨rfl,rfl⟩;clear g1 d1 g2 d d2;go_wp2_with fail;refine wp_region_held_drew (S:=fun w'=>w'.cell? ⟨bN,0,none⟩=some (.slice ao L a)) (by kernel_rfl) b0 (fun hS=>?_);refine aT 0 (some 12) (.slice ao L a) hS ?_ (y:=.inl ⟨by rfl,fun w h=>by simp [execOp,go_sem,h]⟩);simp only [Act.put,lsA,lsS,lsZ];refine aT 1 (some 13) (.int .i64 (L:Int)) hS ?_;simp only [Act.put,lsA,lsS,lsZ];refine aT 2 (some 14) (.int .i64 (b:Int)) hS ?_;simp only [Act.put,lsA,lsS,lsZ];refine bV 3 (some 15) 109 [.int .i64 (b:Int),.int .i64 64] (c _) ?_;rintro e w4 ⟨rfl,rfl⟩;refine .inl ⟨_,rfl,hS,?_⟩;simp only [Act.put,lsA,lsS,lsZ]
 refine aT 4 (some 16) (.bool true) hS ?_ (y:=.inl ⟨by rfl,fun w h=>by simp [execOp,go_sem,i]⟩);simp only [Act.put,lsA,lsS,lsZ];refine aT 5 (some 17) (.bool true) hS ?_;simp only [Act.put,lsA,lsS,lsZ];refine aT 6 (some 18) (undef) hS ?_ (y:=.inr ⟨by rfl,rfl⟩);simp only [Act.put,lsA,lsS,lsZ];refine H8 7 (some 19) hS ?_;simp only [Act.put,lsA,lsS,lsZ];refine aT 8 (some 20) (undef) hS ?_ (y:=.inr ⟨by rfl,rfl⟩);simp only [Act.put,lsA,lsS,lsZ];refine aT 9 (some 21) (.bool true) hS ?_;simp only [Act.put,lsA,lsS,lsZ];refine bV 10 (some 22) 107 [.bool true,.int .i64 190] (hY _) ?_;rintro e w6 ⟨rfl,rfl⟩;exact .inr ⟨_,rfl,rfl,.no (by decide),g.out.drew⟩

theorem E6 (bN bE:Nat) (ao:Option Addr) (L a:Nat) (xs:List Nat) (hL:L<=1000) (hA:32<=aM (val xs)/\aM (val xs)<=8192) (hW:L=ar (val xs)) (hO:val xs%2=0) (w:World) (hu:Row .u64 w (.slice ao L a) xs) (hd:Digs xs) (b0:w.cell? ⟨bN,0,none⟩=some (.slice ao L a)) :
  Calls prog 213 #[.pointer (some ⟨bN,0,none⟩),.pointer (some ⟨bE,0,none⟩)] w fun e w'=>AttE 190 e/\Kept af w w':=by
 obtain ⟨_,_,_,e1,hl,-,-,-,-⟩:=hu.open;cases e1
 have hR:=de 190;have hY:=dM 190;have JB:=iw _ xs w hu hd (by rw [hl.out];omega);have g:aM (val xs)<=64*xs.length:=(aX _ _).2 (by rw [bh];exact aE (by omega) hd);rw [hl.out] at g;have c:Hid (Kept af w w):=aj _ _;have JO:Hid (∀ W,Kept af w W->Calls prog 212 #[.slice ao L a] W fun e w'=>e=.returned (.bool false)/\w'=W):=fun W k=>by
  have h:=uA ao L a xs W (hu.grew k) hd;rw [cP (by omega)] at h;exact h
 generalize val xs=X at *;obtain ⟨z,hz⟩:∃ z,z=(aM X+64-1)/64:=⟨_,rfl⟩
 have j:z=ar X:=by rw [hz,gh];rfl
 have d:=fun W=>kT (aM X) 64 z hz (by omega) (by omega) (by omega) W
 obtain ⟨b,hb⟩:∃ b,b=aM X:=⟨_,rfl⟩
 rw [<- hb] at d JB hA;have g1:¬ (b:Int)<32:=by omega
 have d1:decide ((b:Int)<32)=false:=cP g1;have g2:¬ (b:Int) > 8192:=by omega
 have f:¬ (8192:Int)<(b:Int):=by omega
 have d2:decide ((8192:Int)<(b:Int))=false:=cP f;have i:(L:Int)=(z:Int):=by omega
 clear hu hd hl hb hz j hW g hA hO;go_enter func213,ntmps213;go_wp2_with fail;refine JB.mono ?_;rintro e w1 ⟨rfl,rfl⟩;clear JB;go_wp2_with fail;try rw [d2]
 refine (hR _).mono ?_;rintro e w1 ⟨rfl,rfl⟩;clear g1 d1 g2 f d2;go_wp2_with fail;refine wp_region_held_drew (S:=fun w'=>w'.cell? ⟨bN,0,none⟩=some (.slice ao L a)) (by kernel_rfl) b0 (fun hS=>?_);refine aT 0 (some 12) (.slice ao L a) hS ?_ (y:=.inl ⟨by rfl,fun w h=>by simp [execOp,go_sem,h]⟩);simp only [Act.put,lsA,lsS,lsZ];refine aT 1 (some 13) (.int .i64 (L:Int)) hS ?_;simp only [Act.put,lsA,lsS,lsZ];refine aT 2 (some 14) (.int .i64 (b:Int)) hS ?_;simp only [Act.put,lsA,lsS,lsZ];refine bV 3 (some 15) 109 [.int .i64 (b:Int),.int .i64 64] (d _) ?_;rintro e w4 ⟨rfl,rfl⟩;refine .inl ⟨_,rfl,hS,?_⟩;simp only [Act.put,lsA,lsS,lsZ]
 refine aT 4 (some 16) (.bool false) hS ?_ (y:=.inl ⟨by rfl,fun w h=>by simp [execOp,go_sem,i]⟩);simp only [Act.put,lsA,lsS,lsZ];refine aT 5 (some 17) (.bool false) hS ?_;simp only [Act.put,lsA,lsS,lsZ];refine aT 6 (some 18) (.slice ao L a) hS ?_ (y:=.inl ⟨by rfl,fun w h=>by simp [execOp,go_sem,h]⟩);simp only [Act.put,lsA,lsS,lsZ];refine bV 7 (some 19) 212 [.slice ao L a] (JO.out _ c.out.drew) ?_;rintro e w5 ⟨rfl,rfl⟩;refine .inl ⟨_,rfl,hS,?_⟩;simp only [Act.put,lsA,lsS,lsZ];refine aT 8 (some 20) (.bool true) hS ?_;simp only [Act.put,lsA,lsS,lsZ];refine aT 9 (some 21) (.bool true) hS ?_;simp only [Act.put,lsA,lsS,lsZ]
 refine bV 10 (some 22) 107 [.bool true,.int .i64 190] (hY _) ?_;rintro e w6 ⟨rfl,rfl⟩;exact .inr ⟨_,rfl,rfl,.no (by decide),c.out.drew⟩

theorem E7 (bN bE:Nat) (ao:Option Addr) (L a:Nat) (xs:List Nat) (e:Nat) (hL:L<=1000) (hA:32<=aM (val xs)/\aM (val xs)<=8192) (hW:L=ar (val xs)) (hO:val xs%2=1) (h3:e<3) (w:World) (hu:Row .u64 w (.slice ao L a) xs) (hd:Digs xs) (b0:w.cell? ⟨bN,0,none⟩=some (.slice ao L a)) (b1:w.cell? ⟨bE,0,none⟩=some (.int .u64 (e:Int))) :
  Calls prog 213 #[.pointer (some ⟨bN,0,none⟩),.pointer (some ⟨bE,0,none⟩)] w fun e w'=>AttE 190 e/\Kept af w w':=by
 obtain ⟨_,_,_,e1,hl,-,-,-,-⟩:=hu.open;cases e1
 have hR:=de 190;have hY:=dM 190;have JB:=iw _ xs w hu hd (by rw [hl.out];omega);have i:aM (val xs)<=64*xs.length:=(aX _ _).2 (by rw [bh];exact aE (by omega) hd);rw [hl.out] at i;have d:Hid (Kept af w w):=aj _ _;have JO:Hid (∀ W,Kept af w W->Calls prog 212 #[.slice ao L a] W fun e w'=>e=.returned (.bool true)/\w'=W):=fun W k=>by
  have h:=uA ao L a xs W (hu.grew k) hd;rw [dL (by omega)] at h;exact h
 generalize val xs=X at *;obtain ⟨z,hz⟩:∃ z,z=(aM X+64-1)/64:=⟨_,rfl⟩
 have l:z=ar X:=by rw [hz,gh];rfl
 have c:=fun W=>kT (aM X) 64 z hz (by omega) (by omega) (by omega) W
 obtain ⟨b,hb⟩:∃ b,b=aM X:=⟨_,rfl⟩
 rw [<- hb] at c JB hA;have g1:¬ (b:Int)<32:=by omega
 have d1:decide ((b:Int)<32)=false:=cP g1;have g2:¬ (b:Int) > 8192:=by omega
 have g:¬ (8192:Int)<(b:Int):=by omega
 have d2:decide ((8192:Int)<(b:Int))=false:=cP g;have j:(L:Int)=(z:Int):=by omega
 clear hu hd hl hb hz l hW i hA hO;go_enter func213,ntmps213;go_wp2_with fail;refine JB.mono ?_;rintro e w1 ⟨rfl,rfl⟩;clear JB;go_wp2_with fail;try rw [d2]
 refine (hR _).mono ?_;rintro e w1 ⟨rfl,rfl⟩;clear g1 d1 g2 g d2;go_wp2_with fail;refine wp_region_held_drew (S:=fun w'=>w'.cell? ⟨bN,0,none⟩=some (.slice ao L a)) (by kernel_rfl) b0 (fun hS=>?_);refine aT 0 (some 12) (.slice ao L a) hS ?_ (y:=.inl ⟨by rfl,fun w h=>by simp [execOp,go_sem,h]⟩);simp only [Act.put,lsA,lsS,lsZ];refine aT 1 (some 13) (.int .i64 (L:Int)) hS ?_;simp only [Act.put,lsA,lsS,lsZ];refine aT 2 (some 14) (.int .i64 (b:Int)) hS ?_;simp only [Act.put,lsA,lsS,lsZ];refine bV 3 (some 15) 109 [.int .i64 (b:Int),.int .i64 64] (c _) ?_;rintro e w4 ⟨rfl,rfl⟩;refine .inl ⟨_,rfl,hS,?_⟩;simp only [Act.put,lsA,lsS,lsZ]
 refine aT 4 (some 16) (.bool false) hS ?_ (y:=.inl ⟨by rfl,fun w h=>by simp [execOp,go_sem,j]⟩);simp only [Act.put,lsA,lsS,lsZ];refine aT 5 (some 17) (.bool false) hS ?_;simp only [Act.put,lsA,lsS,lsZ];refine aT 6 (some 18) (.slice ao L a) hS ?_ (y:=.inl ⟨by rfl,fun w h=>by simp [execOp,go_sem,h]⟩);simp only [Act.put,lsA,lsS,lsZ];refine bV 7 (some 19) 212 [.slice ao L a] (JO.out _ d.out.drew) ?_;rintro e w5 ⟨rfl,rfl⟩;refine .inl ⟨_,rfl,hS,?_⟩;simp only [Act.put,lsA,lsS,lsZ];refine aT 8 (some 20) (.bool false) hS ?_;simp only [Act.put,lsA,lsS,lsZ];refine aT 9 (some 21) (.bool false) hS ?_;simp only [Act.put,lsA,lsS,lsZ]
 refine bV 10 (some 22) 107 [.bool false,.int .i64 190] (hR _) ?_;rintro e w6 ⟨rfl,rfl⟩;refine .inl ⟨_,rfl,hS,?_⟩;simp only [Act.put,lsA,lsS,lsZ];refine wpAnyH_done (by kernel_rfl) ?_ _;have f:Hid (Kept af w1 w1.drew):=(aj af w1).drew;have b2:w1.drew.cell? ⟨bE,0,none⟩=some (.int .u64 (e:Int)):=f.out.cellN b1;generalize w1.drew=W6 at *;clear b0 b1 j c JO hS d;have g3:(e:Int)<3:=by omega
 have d3:decide ((e:Int)<3)=true:=dL g3;clear h3;go_wp2_with fail;refine (hY _).mono ?_;rintro e w7 ⟨rfl,rfl⟩;exact ⟨rfl,.no (by decide),f.out⟩

theorem E8 (bN bE:Nat) (ao:Option Addr) (L a:Nat) (xs:List Nat) (e:Nat) (hL:L<=1000) (hA:32<=aM (val xs)/\aM (val xs)<=8192) (hW:L=ar (val xs)) (hO:val xs%2=1) (h4:4294967296<=e) (w:World) (hu:Row .u64 w (.slice ao L a) xs) (hd:Digs xs) (b0:w.cell? ⟨bN,0,none⟩=some (.slice ao L a)) (b1:w.cell? ⟨bE,0,none⟩=some (.int .u64 (e:Int))) :
  Calls prog 213 #[.pointer (some ⟨bN,0,none⟩),.pointer (some ⟨bE,0,none⟩)] w fun e w'=>AttE 190 e/\Kept af w w':=by
 obtain ⟨_,_,_,e1,hl,-,-,-,-⟩:=hu.open;cases e1
 have hR:=de 190;have hY:=dM 190;have JB:=iw _ xs w hu hd (by rw [hl.out];omega);have i:aM (val xs)<=64*xs.length:=(aX _ _).2 (by rw [bh];exact aE (by omega) hd);rw [hl.out] at i;have d:Hid (Kept af w w):=aj _ _;have JO:Hid (∀ W,Kept af w W->Calls prog 212 #[.slice ao L a] W fun e w'=>e=.returned (.bool true)/\w'=W):=fun W k=>by
  have h:=uA ao L a xs W (hu.grew k) hd;rw [dL (by omega)] at h;exact h
 generalize val xs=X at *;obtain ⟨z,hz⟩:∃ z,z=(aM X+64-1)/64:=⟨_,rfl⟩
 have m:z=ar X:=by rw [hz,gh];rfl
 have c:=fun W=>kT (aM X) 64 z hz (by omega) (by omega) (by omega) W
 obtain ⟨b,hb⟩:∃ b,b=aM X:=⟨_,rfl⟩
 rw [<- hb] at c JB hA;have g1:¬ (b:Int)<32:=by omega
 have d1:decide ((b:Int)<32)=false:=cP g1;have g2:¬ (b:Int) > 8192:=by omega
 have g:¬ (8192:Int)<(b:Int):=by omega
 have d2:decide ((8192:Int)<(b:Int))=false:=cP g;have j:(L:Int)=(z:Int):=by omega
 clear hu hd hl hb hz m hW i hA hO;go_enter func213,ntmps213;go_wp2_with fail;refine JB.mono ?_;rintro e w1 ⟨rfl,rfl⟩;clear JB;go_wp2_with fail;try rw [d2]
 refine (hR _).mono ?_;rintro e w1 ⟨rfl,rfl⟩;clear g1 d1 g2 g d2;go_wp2_with fail;refine wp_region_held_drew (S:=fun w'=>w'.cell? ⟨bN,0,none⟩=some (.slice ao L a)) (by kernel_rfl) b0 (fun hS=>?_);refine aT 0 (some 12) (.slice ao L a) hS ?_ (y:=.inl ⟨by rfl,fun w h=>by simp [execOp,go_sem,h]⟩);simp only [Act.put,lsA,lsS,lsZ];refine aT 1 (some 13) (.int .i64 (L:Int)) hS ?_;simp only [Act.put,lsA,lsS,lsZ];refine aT 2 (some 14) (.int .i64 (b:Int)) hS ?_;simp only [Act.put,lsA,lsS,lsZ];refine bV 3 (some 15) 109 [.int .i64 (b:Int),.int .i64 64] (c _) ?_;rintro e w4 ⟨rfl,rfl⟩;refine .inl ⟨_,rfl,hS,?_⟩;simp only [Act.put,lsA,lsS,lsZ]
 refine aT 4 (some 16) (.bool false) hS ?_ (y:=.inl ⟨by rfl,fun w h=>by simp [execOp,go_sem,j]⟩);simp only [Act.put,lsA,lsS,lsZ];refine aT 5 (some 17) (.bool false) hS ?_;simp only [Act.put,lsA,lsS,lsZ];refine aT 6 (some 18) (.slice ao L a) hS ?_ (y:=.inl ⟨by rfl,fun w h=>by simp [execOp,go_sem,h]⟩);simp only [Act.put,lsA,lsS,lsZ];refine bV 7 (some 19) 212 [.slice ao L a] (JO.out _ d.out.drew) ?_;rintro e w5 ⟨rfl,rfl⟩;refine .inl ⟨_,rfl,hS,?_⟩;simp only [Act.put,lsA,lsS,lsZ];refine aT 8 (some 20) (.bool false) hS ?_;simp only [Act.put,lsA,lsS,lsZ];refine aT 9 (some 21) (.bool false) hS ?_;simp only [Act.put,lsA,lsS,lsZ]
 refine bV 10 (some 22) 107 [.bool false,.int .i64 190] (hR _) ?_;rintro e w6 ⟨rfl,rfl⟩;refine .inl ⟨_,rfl,hS,?_⟩;simp only [Act.put,lsA,lsS,lsZ];refine wpAnyH_done (by kernel_rfl) ?_ _;have f:Hid (Kept af w1 w1.drew):=(aj af w1).drew;have b2:w1.drew.cell? ⟨bE,0,none⟩=some (.int .u64 (e:Int)):=f.out.cellN b1;generalize w1.drew=W6 at *;clear b0 b1 j c JO hS d;have g3:¬ (e:Int)<3:=by omega
 have d3:decide ((e:Int)<3)=false:=cP g3;have g4:(e:Int)≥4294967296:=by omega
 have l:(4294967296:Int)<=(e:Int):=by omega
 have d4:decide ((4294967296:Int)<=(e:Int))=true:=dL l;clear h4;go_wp2_with fail;refine (hY _).mono ?_;rintro e w7 ⟨rfl,rfl⟩;exact ⟨rfl,.no (by decide),f.out⟩

theorem E9 (bN bE:Nat) (ao:Option Addr) (L a:Nat) (xs:List Nat) (e:Nat) (hL:L<=1000) (hA:32<=aM (val xs)/\aM (val xs)<=8192) (hW:L=ar (val xs)) (hO:val xs%2=1) (h3:3<=e) (h4:e<4294967296) (h5:e%2=0) (w:World) (hu:Row .u64 w (.slice ao L a) xs) (hd:Digs xs) (b0:w.cell? ⟨bN,0,none⟩=some (.slice ao L a)) (b1:w.cell? ⟨bE,0,none⟩=some (.int .u64 (e:Int))) :
  Calls prog 213 #[.pointer (some ⟨bN,0,none⟩),.pointer (some ⟨bE,0,none⟩)] w fun e w'=>AttE 190 e/\Kept af w w':=by
 obtain ⟨_,_,_,e1,hl,-,-,-,-⟩:=hu.open;cases e1
 have hR:=de 190;have hY:=dM 190;have JB:=iw _ xs w hu hd (by rw [hl.out];omega);have i:aM (val xs)<=64*xs.length:=(aX _ _).2 (by rw [bh];exact aE (by omega) hd);rw [hl.out] at i;have d:Hid (Kept af w w):=aj _ _;have JO:Hid (∀ W,Kept af w W->Calls prog 212 #[.slice ao L a] W fun e w'=>e=.returned (.bool true)/\w'=W):=fun W k=>by
  have h:=uA ao L a xs W (hu.grew k) hd;rw [dL (by omega)] at h;exact h
 generalize val xs=X at *;obtain ⟨z,hz⟩:∃ z,z=(aM X+64-1)/64:=⟨_,rfl⟩
 have m:z=ar X:=by rw [hz,gh];rfl
 have c:=fun W=>kT (aM X) 64 z hz (by omega) (by omega) (by omega) W
 obtain ⟨b,hb⟩:∃ b,b=aM X:=⟨_,rfl⟩
 rw [<- hb] at c JB hA;have g1:¬ (b:Int)<32:=by omega
 have d1:decide ((b:Int)<32)=false:=cP g1;have g2:¬ (b:Int) > 8192:=by omega
 have g:¬ (8192:Int)<(b:Int):=by omega
 have d2:decide ((8192:Int)<(b:Int))=false:=cP g;have j:(L:Int)=(z:Int):=by omega
 clear hu hd hl hb hz m hW i hA hO;go_enter func213,ntmps213;go_wp2_with fail;refine JB.mono ?_;rintro e w1 ⟨rfl,rfl⟩;clear JB;go_wp2_with fail;try rw [d2]
 refine (hR _).mono ?_;rintro e w1 ⟨rfl,rfl⟩;clear g1 d1 g2 g d2;go_wp2_with fail;refine wp_region_held_drew (S:=fun w'=>w'.cell? ⟨bN,0,none⟩=some (.slice ao L a)) (by kernel_rfl) b0 (fun hS=>?_);refine aT 0 (some 12) (.slice ao L a) hS ?_ (y:=.inl ⟨by rfl,fun w h=>by simp [execOp,go_sem,h]⟩);simp only [Act.put,lsA,lsS,lsZ];refine aT 1 (some 13) (.int .i64 (L:Int)) hS ?_;simp only [Act.put,lsA,lsS,lsZ];refine aT 2 (some 14) (.int .i64 (b:Int)) hS ?_;simp only [Act.put,lsA,lsS,lsZ];refine bV 3 (some 15) 109 [.int .i64 (b:Int),.int .i64 64] (c _) ?_;rintro e w4 ⟨rfl,rfl⟩;refine .inl ⟨_,rfl,hS,?_⟩;simp only [Act.put,lsA,lsS,lsZ]
 refine aT 4 (some 16) (.bool false) hS ?_ (y:=.inl ⟨by rfl,fun w h=>by simp [execOp,go_sem,j]⟩);simp only [Act.put,lsA,lsS,lsZ];refine aT 5 (some 17) (.bool false) hS ?_;simp only [Act.put,lsA,lsS,lsZ];refine aT 6 (some 18) (.slice ao L a) hS ?_ (y:=.inl ⟨by rfl,fun w h=>by simp [execOp,go_sem,h]⟩);simp only [Act.put,lsA,lsS,lsZ];refine bV 7 (some 19) 212 [.slice ao L a] (JO.out _ d.out.drew) ?_;rintro e w5 ⟨rfl,rfl⟩;refine .inl ⟨_,rfl,hS,?_⟩;simp only [Act.put,lsA,lsS,lsZ];refine aT 8 (some 20) (.bool false) hS ?_;simp only [Act.put,lsA,lsS,lsZ];refine aT 9 (some 21) (.bool false) hS ?_;simp only [Act.put,lsA,lsS,lsZ]
 refine bV 10 (some 22) 107 [.bool false,.int .i64 190] (hR _) ?_;rintro e w6 ⟨rfl,rfl⟩;refine .inl ⟨_,rfl,hS,?_⟩;simp only [Act.put,lsA,lsS,lsZ];refine wpAnyH_done (by kernel_rfl) ?_ _;have f:Hid (Kept af w1 w1.drew):=(aj af w1).drew;have b2:w1.drew.cell? ⟨bE,0,none⟩=some (.int .u64 (e:Int)):=f.out.cellN b1;generalize w1.drew=W6 at *;clear b0 b1 j c JO hS d;have g3:¬ (e:Int)<3:=by omega
 have d3:decide ((e:Int)<3)=false:=cP g3;have g4:¬ (e:Int)≥4294967296:=by omega
 have l:¬ (4294967296:Int)<=(e:Int):=by omega
 have d4:decide ((4294967296:Int)<=(e:Int))=false:=cP l;have g5:(e:Int)%2=0:=by omega
 have n:(e:Int).tmod 2=0:=by rw [li (by omega)];omega
 have d5:((e:Int)%2 == 0)=true:=by simp;omega
 clear h3 h4 h5;go_wp2_with fail;refine (hY _).mono ?_;rintro e w7 ⟨rfl,rfl⟩;exact ⟨rfl,.no (by decide),f.out⟩

theorem Fa (bN bE:Nat) (ao:Option Addr) (L a:Nat) (xs:List Nat) (e:Nat) (hL:L<=1000) (hA:32<=aM (val xs)/\aM (val xs)<=8192) (hW:L=ar (val xs)) (hO:val xs%2=1) (h3:3<=e) (h4:e<4294967296) (h5:e%2=1) (w:World) (hu:Row .u64 w (.slice ao L a) xs) (hd:Digs xs) (b0:w.cell? ⟨bN,0,none⟩=some (.slice ao L a)) (b1:w.cell? ⟨bE,0,none⟩=some (.int .u64 (e:Int))) :
  Calls prog 213 #[.pointer (some ⟨bN,0,none⟩),.pointer (some ⟨bE,0,none⟩)] w fun e w'=>AttE 0 e/\Kept af w w':=by
 obtain ⟨_,_,_,e1,hl,-,-,-,-⟩:=hu.open;cases e1
 have hR:=de 190;have hY:=dM 190;have JB:=iw _ xs w hu hd (by rw [hl.out];omega);have i:aM (val xs)<=64*xs.length:=(aX _ _).2 (by rw [bh];exact aE (by omega) hd);rw [hl.out] at i;have d:Hid (Kept af w w):=aj _ _;have JO:Hid (∀ W,Kept af w W->Calls prog 212 #[.slice ao L a] W fun e w'=>e=.returned (.bool true)/\w'=W):=fun W k=>by
  have h:=uA ao L a xs W (hu.grew k) hd;rw [dL (by omega)] at h;exact h
 generalize val xs=X at *;obtain ⟨z,hz⟩:∃ z,z=(aM X+64-1)/64:=⟨_,rfl⟩
 have m:z=ar X:=by rw [hz,gh];rfl
 have c:=fun W=>kT (aM X) 64 z hz (by omega) (by omega) (by omega) W
 obtain ⟨b,hb⟩:∃ b,b=aM X:=⟨_,rfl⟩
 rw [<- hb] at c JB hA;have g1:¬ (b:Int)<32:=by omega
 have d1:decide ((b:Int)<32)=false:=cP g1;have g2:¬ (b:Int) > 8192:=by omega
 have g:¬ (8192:Int)<(b:Int):=by omega
 have d2:decide ((8192:Int)<(b:Int))=false:=cP g;have j:(L:Int)=(z:Int):=by omega
 clear hu hd hl hb hz m hW i hA hO;go_enter func213,ntmps213;go_wp2_with fail;refine JB.mono ?_;rintro e w1 ⟨rfl,rfl⟩;clear JB;go_wp2_with fail;try rw [d2]
 refine (hR _).mono ?_;rintro e w1 ⟨rfl,rfl⟩;clear g1 d1 g2 g d2;go_wp2_with fail;refine wp_region_held_drew (S:=fun w'=>w'.cell? ⟨bN,0,none⟩=some (.slice ao L a)) (by kernel_rfl) b0 (fun hS=>?_);refine aT 0 (some 12) (.slice ao L a) hS ?_ (y:=.inl ⟨by rfl,fun w h=>by simp [execOp,go_sem,h]⟩);simp only [Act.put,lsA,lsS,lsZ];refine aT 1 (some 13) (.int .i64 (L:Int)) hS ?_;simp only [Act.put,lsA,lsS,lsZ];refine aT 2 (some 14) (.int .i64 (b:Int)) hS ?_;simp only [Act.put,lsA,lsS,lsZ];refine bV 3 (some 15) 109 [.int .i64 (b:Int),.int .i64 64] (c _) ?_;rintro e w4 ⟨rfl,rfl⟩;refine .inl ⟨_,rfl,hS,?_⟩;simp only [Act.put,lsA,lsS,lsZ]
 refine aT 4 (some 16) (.bool false) hS ?_ (y:=.inl ⟨by rfl,fun w h=>by simp [execOp,go_sem,j]⟩);simp only [Act.put,lsA,lsS,lsZ];refine aT 5 (some 17) (.bool false) hS ?_;simp only [Act.put,lsA,lsS,lsZ];refine aT 6 (some 18) (.slice ao L a) hS ?_ (y:=.inl ⟨by rfl,fun w h=>by simp [execOp,go_sem,h]⟩);simp only [Act.put,lsA,lsS,lsZ];refine bV 7 (some 19) 212 [.slice ao L a] (JO.out _ d.out.drew) ?_;rintro e w5 ⟨rfl,rfl⟩;refine .inl ⟨_,rfl,hS,?_⟩;simp only [Act.put,lsA,lsS,lsZ];refine aT 8 (some 20) (.bool false) hS ?_;simp only [Act.put,lsA,lsS,lsZ];refine aT 9 (some 21) (.bool false) hS ?_;simp only [Act.put,lsA,lsS,lsZ]
 refine bV 10 (some 22) 107 [.bool false,.int .i64 190] (hR _) ?_;rintro e w6 ⟨rfl,rfl⟩;refine .inl ⟨_,rfl,hS,?_⟩;simp only [Act.put,lsA,lsS,lsZ];refine wpAnyH_done (by kernel_rfl) ?_ _;have f:Hid (Kept af w1 w1.drew):=(aj af w1).drew;have b2:w1.drew.cell? ⟨bE,0,none⟩=some (.int .u64 (e:Int)):=f.out.cellN b1;generalize w1.drew=W6 at *;clear b0 b1 j c JO hS d;have g3:¬ (e:Int)<3:=by omega
 have d3:decide ((e:Int)<3)=false:=cP g3;have g4:¬ (e:Int)≥4294967296:=by omega
 have l:¬ (4294967296:Int)<=(e:Int):=by omega
 have d4:decide ((4294967296:Int)<=(e:Int))=false:=cP l;have g5:¬ (e:Int)%2=0:=by omega
 have n:¬ (e:Int).tmod 2=0:=by rw [li (by omega)];omega
 have d5:((e:Int)%2 == 0)=false:=by simp;omega
 clear h3 h4 h5;go_wp2_with fail;refine (hR _).mono ?_;rintro e w7 ⟨rfl,rfl⟩;go_wp2;go_end0
 exact ⟨.ok,f.out⟩

theorem CK (ao:Option Addr) (L b:Nat) (xs:List Nat) (e:Nat) (w:World) (hu:Row .u64 w (.slice ao L b) xs) (hd:Digs xs) (hL:L<=1000) :
  Calls prog 157 #[.slice ao L b,.int .u64 (e:Nat)] w fun r w'=>r=.returned (.int .i64 ((fW xs e:Nat):Int))/\Kept af w w':=by
 have j:=im;have d:∀ args w,(callFunc 213 args).run prog w=.ok (.enter 213 args) w:=fun _ _=>by simp [go_sem]
 obtain ⟨_,_,_,e1,hl,-,-,-,-⟩:=hu.open;cases e1
 have f:xs.length=L:=hl.out;obtain ⟨W,hW⟩:∃ W,W=(w.alloc (.cells #[.slice ao L b] 23)).alloc (.cells #[.int .u64 (e:Nat)] 24):=⟨_,rfl⟩
 have k0:Kept af w W:=by rw [hW];exact ((aj af w).alloc _).alloc _
 have x0:W.heap[w.heap.size]? = some (.cells #[.slice ao L b] 23 (0,0)):=by rw [hW];exact au (heap_alloc_new _ _)
 have x1:W.heap[w.heap.size+1]? = some (.cells #[.int .u64 (e:Nat)] 24 (0,0)):=by
  rw [hW];have:=heap_alloc_new (w.alloc (.cells #[.slice ao L b] 23)) (.cells #[.int .u64 (e:Nat)] 24)
  rwa [World.size_alloc] at this
 have kE:=(aj af W).alloc (.cells #[.int .i64 0] 32);have c0:(W.alloc (.cells #[.int .i64 0] 32)).cell? ⟨w.heap.size,0,none⟩=some (.slice ao L b):=kE.cellN ((cell_of_row W _ 0 _ _ _ x0).trans rfl);have c1:(W.alloc (.cells #[.int .i64 0] 32)).cell? ⟨w.heap.size+1,0,none⟩=some (.int .u64 (e:Int)):=kE.cellN ((cell_of_row W _ 0 _ _ _ x1).trans rfl);have c:=hu.grew (k0.trans kE);have JA:Calls prog 103 #[.func (.func 213) #[] #[.pointer (some ⟨w.heap.size,0,none⟩),.pointer (some ⟨w.heap.size+1,0,none⟩)]] W fun e' w'=>e'=.returned (.int .i64 ((fW xs e:Nat):Int))/\Kept af W w':=by
  refine qz _ _ W (fW xs e) d ?_;have a:=mX hd (by omega) e;rw [f] at a;by_cases hA:32<=aM (val xs)/\aM (val xs)<=8192
  ·by_cases hw:L=ar (val xs)
   ·by_cases ho:val xs%2=1
    ·by_cases h3:3<=e
     ·by_cases h4:e<4294967296
      ·by_cases h5:e%2=1
       ·rw [a.2 ⟨hA,⟨hw,ho⟩,h3,h4,h5⟩];exact Fa _ _ ao L b xs e hL hA hw ho h3 h4 h5 _ c hd c0 c1
       ·rw [(kC xs e).resolve_left (fun h=>by have:=a.1 h;omega)];exact E9 _ _ ao L b xs e hL hA hw ho h3 h4 (by omega) _ c hd c0 c1
      ·rw [(kC xs e).resolve_left (fun h=>by have:=a.1 h;omega)];exact E8 _ _ ao L b xs e hL hA hw ho (by omega) _ c hd c0 c1
     ·rw [(kC xs e).resolve_left (fun h=>by have:=a.1 h;omega)];exact E7 _ _ ao L b xs e hL hA hw ho (by omega) _ c hd c0 c1
    ·rw [(kC xs e).resolve_left (fun h=>by have:=a.1 h;omega)];exact E6 _ (w.heap.size+1) ao L b xs hL hA hw (by omega) _ c hd c0
   ·rw [(kC xs e).resolve_left (fun h=>by have:=a.1 h;omega)];exact E5 _ (w.heap.size+1) ao L b xs hL hA hw _ c hd c0
  ·rw [(kC xs e).resolve_left (fun h=>by have:=a.1 h;omega)];exact E4 _ (w.heap.size+1) ao L b xs hL (by omega) _ c hd c0
 have HW:=aa hW;have g:=aa k0;generalize fW xs e=E at *;clear hu hd hL hl f hW k0 x0 x1 kE c0 c1 c d;go_enter func157,ntmps157;go_wp2_with (rw [<- HW.out]);refine JA.mono ?_;rintro r w1 ⟨rfl,k1⟩;have i:=aa (g.out.trans k1);clear JA k1;go_wp2;go_ret;exact ⟨rfl,i.out⟩

theorem js {M:Nat} (h2:2<=M) (ho:M%2=1) (hn:ar M<=130):el M=0:=by
 unfold el;rw [ai (by omega),ai (by omega),ai (by omega)]

theorem E0 (ao bo:Option Addr) (L n g b:Nat) (xs ms:List Nat) (X M:Nat) (hX:X=val xs) (hM:M=val ms) (h2:2<=M) (ho:M%2=1) (hn:n=ar M) (Q:n<=130) (hL:L<=300) (hg:Nat.gcd X M=1) (w:World) (hu:Row .u64 w (.slice ao L g) xs) (hv:Row .u64 w (.slice bo n b) ms) (t:Digs xs) (m:Digs ms) :
  Calls prog 158 #[.slice ao L g,.slice bo n b] w fun e w'=>∃ vo vc T,e=.returned (.slice vo n vc)/\Hid (T<M/\X*T%M=1)/\Row .u64 w' (.slice vo n vc) (digs T n)/\Kept af w w':=by
 obtain ⟨_,_,_,e1,O,-,-,-,-⟩:=hv.open;cases e1
 have hE:=js h2 ho (by omega);have J1:=AF bo n b ms M 0 hM hE.symm w hv m (by omega);have JR:Hid (∀ W,Kept af w W->Calls prog 163 #[.slice ao L g,.slice bo n b] W fun e w'=>∃ vo vc,e=.returned (.slice vo n vc)/\Row .u64 w' (.slice vo n vc) (digs (X%M) n)/\Kept af W w'):=fun W k=>vU ao bo L n g b xs ms X M hX hM (by omega) hL (by omega) W (hu.grew k) (hv.grew k) t m
 have v:Nat.gcd (X%M) M=Nat.gcd X M:=by rw [i8 X M,Nat.gcd_rec M X]
 have hlt:X%M<M:=ay _ (by omega);have c:X%M<18446744073709551616^n:=bk hlt ((aG M n).1 (by omega));have JI:Hid (∀ W (sa sb so:Option Addr) (na nb ca cb sc K:Nat),pV M K->Row .u64 W (.slice sa na ca) (je M)->Row .u64 W (.slice sb nb cb) (jy M)->Row .u64 W (.slice so n sc) (digs (X%M) n)->Calls prog 82 #[.pointer none,.agg #[.slice sa na ca,.int .u64 (K:Nat),.slice sb nb cb],.slice so n sc] W fun e w'=>∃ vo vc T,e=.returned (.tuple #[.slice vo n vc,.int .u64 1,.int .i64 0])/\Hid (T<M/\X*T%M=1)/\Row .u64 w' (.slice vo n vc) (digs T n)/\Kept af W w'):=fun W sa sb so na nb ca cb sc K hK h1 h3 h4=>by
  obtain ⟨V,R,Y,d,S,U⟩:=kX hE hK;obtain ⟨_,_,_,e1,N,-,-,-,-⟩:=h1.open;cases e1
  obtain rfl:n=na:=by rw [<- N.out,R,hn]
  refine (Hd sa sb so n nb K ca cb n sc (je M) (jy M) (digs (X%M) n) W h1 h3 h4 S U (ak (by omega) _ _) hK.1 (by omega)).mono ?_;rintro e w' ⟨v',F,E,rfl,T,RL,hr,k,J⟩;obtain ⟨c1,c2,c3,c4⟩:=J.out;rw [aB,ax c,d] at c1 c2;rcases c1 with ⟨rfl,_⟩ | ⟨_,hno⟩
  ·rw [ah rfl] at c4;subst c4;obtain ⟨vo,vn,vc,rfl,P,-,-,-,-⟩:=hr.open;obtain rfl:n=vn:=by rw [<- P.out,ag]
   have hI:=c2 rfl;obtain ⟨t1,t2,rfl⟩:=hI.1 (by rw [v];exact hg);exact ⟨_,_,T,rfl,⟨t1,by rw [eh,fG,<- eh] at t2;exact t2⟩,hr,k⟩
  ·exact absurd ⟨⟨by rw [d];exact hE,by rw [d],by rw [d];exact hK,by rw [d]⟩,rfl,hlt⟩ hno
 clear hu hv t m O hX hM h2 ho hL hg hE v hlt c Q hn;go_enter func158,ntmps158;go_wp2_with fail;refine J1.mono ?_;rintro e w1 ⟨va,K,vb,rfl,o,p,hK,k1⟩;obtain ⟨sa,na,ca,rfl,_,_,_,_,_⟩:=o.open;obtain ⟨sb,nb,cb,rfl,_,_,_,_,_⟩:=p.open;have J2:=Au sa sb na ca K nb cb w1;have HA:=aa o;have HB:=aa p;have C:=aa hK;have q:=aa k1;unfold jx;clear J1 o p hK k1;go_wp2_with fail;refine J2.mono ?_;rintro e w2 ⟨rfl,k2⟩;obtain ⟨W,hW⟩:∃ W,W=w2.alloc (.cells #[.slice sa na ca,.int .u64 (K:Nat),.slice sb nb cb] 70):=⟨_,rfl⟩
 have l:W.heap[w2.heap.size]? = some (.cells #[.slice sa na ca,.int .u64 (K:Nat),.slice sb nb cb] 70 (0,0)):=by rw [hW];exact heap_alloc_new _ _
 have kW:Kept af w2 W:=by rw [hW];exact (aj af w2).alloc _
 have HC:Hid (∀ W',Kept af W W'->W'.cell? ⟨w2.heap.size,0,none⟩=some (.slice sa na ca)/\W'.cell? ⟨w2.heap.size,1,none⟩=some (.int .u64 (K:Nat))/\W'.cell? ⟨w2.heap.size,2,none⟩=some (.slice sb nb cb)):=fun W' k=>aw ((k.block _ (lt_of_block l) (fun f=>f)).trans l)
 have HW:=aa hW;have r:=aa ((q.out.trans k2).trans kW);have z:=aa (HA.out.grew (k2.trans kW));have A:=aa (HB.out.grew (k2.trans kW));clear J2 k2 kW l hW HA HB q;go_wp2_with (rw [<- HW.out]);have KD:Kept af W W.drew:=(aj af W).drew;obtain ⟨c0,c1,c2⟩:=HC.out _ (aj af W);have s:=JR.out _ (r.out.trans KD);go_region_held3 (fun w'=>w'.cell? ⟨w2.heap.size,0,none⟩=some (.slice sa na ca)/\w'.cell? ⟨w2.heap.size,1,none⟩=some (.int .u64 (K:Nat))/\w'.cell? ⟨w2.heap.size,2,none⟩=some (.slice sb nb cb))
  (((try dsimp only);(repeat' apply And.intro) <;> first | (go_keep;done) | assumption))
  (first
  | (go_at_call 82;refine (JI.out _ sa sb so na nb ca cb sc K C.out (z.out.grew a) (A.out.grew a) x).mono ?_;rintro e w4 ⟨vo,vc,T,rfl,hT,y,k4⟩;obtain ⟨h,i,j⟩:=HC.out _ (a.trans k4))
  | (go_at_call 163;refine s.mono ?_;rintro e w3 ⟨so,sc,rfl,x,k3⟩;have a:=KD.trans k3;obtain ⟨G,H,I⟩:=HC.out _ a))
 have D:=aa y;have B:=aa (r.out.trans (a.trans k4));clear s JR JI KD a k3 k4 x y HC c0 c1 c2 G H I h i j;have hR:=de 190 w4;have hS:=lZ vo n vc w4;go_wp2_with fail;refine hR.mono ?_;rintro e w5 ⟨rfl,rfl⟩;clear hR;go_wp2_with fail;refine hS.mono ?_;rintro e w6 ⟨rfl,rfl⟩;clear hS;go_wp2;go_ret;exact ⟨_,_,T,rfl,hT,D.out,B.out⟩

theorem vS (ao bo:Option Addr) (L n g b:Nat) (xs ms:List Nat) (X M:Nat) (hX:X=val xs) (hM:M=val ms) (h2:2<=M) (ho:M%2=1) (hn:n=ar M) (P:n<=130) (hL:L<=300) (hg:Nat.gcd X M≠1) (w:World) (hu:Row .u64 w (.slice ao L g) xs) (hv:Row .u64 w (.slice bo n b) ms) (t:Digs xs) (m:Digs ms) :
  Calls prog 158 #[.slice ao L g,.slice bo n b] w fun e w'=>e=.panicked [refusal 190]/\Kept af w w':=by
 obtain ⟨_,_,_,e1,N,-,-,-,-⟩:=hv.open;cases e1
 have hE:=js h2 ho (by omega);have J1:=AF bo n b ms M 0 hM hE.symm w hv m (by omega);have JR:Hid (∀ W,Kept af w W->Calls prog 163 #[.slice ao L g,.slice bo n b] W fun e w'=>∃ vo vc,e=.returned (.slice vo n vc)/\Row .u64 w' (.slice vo n vc) (digs (X%M) n)/\Kept af W w'):=fun W k=>vU ao bo L n g b xs ms X M hX hM (by omega) hL (by omega) W (hu.grew k) (hv.grew k) t m
 have v:Nat.gcd (X%M) M=Nat.gcd X M:=by rw [i8 X M,Nat.gcd_rec M X]
 have hlt:X%M<M:=ay _ (by omega);have c:X%M<18446744073709551616^n:=bk hlt ((aG M n).1 (by omega));have JI:Hid (∀ W (sa sb so:Option Addr) (na nb ca cb sc K:Nat),pV M K->Row .u64 W (.slice sa na ca) (je M)->Row .u64 W (.slice sb nb cb) (jy M)->Row .u64 W (.slice so n sc) (digs (X%M) n)->Calls prog 82 #[.pointer none,.agg #[.slice sa na ca,.int .u64 (K:Nat),.slice sb nb cb],.slice so n sc] W fun e w'=>∃ vo vc T,e=.returned (.tuple #[.slice vo n vc,.int .u64 0,.int .i64 0])/\Hid (True)/\Row .u64 w' (.slice vo n vc) (digs T n)/\Kept af W w'):=fun W sa sb so na nb ca cb sc K hK h1 h3 h4=>by
  obtain ⟨V,Q,Y,d,R,S⟩:=kX hE hK;obtain ⟨_,_,_,e1,J,-,-,-,-⟩:=h1.open;cases e1
  obtain rfl:n=na:=by rw [<- J.out,Q,hn]
  refine (Hd sa sb so n nb K ca cb n sc (je M) (jy M) (digs (X%M) n) W h1 h3 h4 R S (ak (by omega) _ _) hK.1 (by omega)).mono ?_;rintro e w' ⟨v',F,E,rfl,T,RL,hr,k,I⟩;obtain ⟨c1,c2,c3,c4⟩:=I.out;rw [aB,ax c,d] at c1 c2;rcases c1 with ⟨rfl,_⟩ | ⟨_,hno⟩
  ·rw [ah rfl] at c4;subst c4;obtain ⟨vo,vn,vc,rfl,O,-,-,-,-⟩:=hr.open;obtain rfl:n=vn:=by rw [<- O.out,ag]
   have hI:=c2 rfl;obtain ⟨_,rfl⟩:=hI.2 (by rw [v];exact hg);exact ⟨_,_,_,rfl,trivial,hr,k⟩
  ·exact absurd ⟨⟨by rw [d];exact hE,by rw [d],by rw [d];exact hK,by rw [d]⟩,rfl,hlt⟩ hno
 clear hu hv t m N hX hM h2 ho hL hg hE v hlt c P hn;go_enter func158,ntmps158;go_wp2_with fail;refine J1.mono ?_;rintro e w1 ⟨va,K,vb,rfl,o,p,hK,k1⟩;obtain ⟨sa,na,ca,rfl,_,_,_,_,_⟩:=o.open;obtain ⟨sb,nb,cb,rfl,_,_,_,_,_⟩:=p.open;have J2:=Au sa sb na ca K nb cb w1;have HA:=aa o;have HB:=aa p;have C:=aa hK;have q:=aa k1;unfold jx;clear J1 o p hK k1;go_wp2_with fail;refine J2.mono ?_;rintro e w2 ⟨rfl,k2⟩;obtain ⟨W,hW⟩:∃ W,W=w2.alloc (.cells #[.slice sa na ca,.int .u64 (K:Nat),.slice sb nb cb] 70):=⟨_,rfl⟩
 have l:W.heap[w2.heap.size]? = some (.cells #[.slice sa na ca,.int .u64 (K:Nat),.slice sb nb cb] 70 (0,0)):=by rw [hW];exact heap_alloc_new _ _
 have kW:Kept af w2 W:=by rw [hW];exact (aj af w2).alloc _
 have HC:Hid (∀ W',Kept af W W'->W'.cell? ⟨w2.heap.size,0,none⟩=some (.slice sa na ca)/\W'.cell? ⟨w2.heap.size,1,none⟩=some (.int .u64 (K:Nat))/\W'.cell? ⟨w2.heap.size,2,none⟩=some (.slice sb nb cb)):=fun W' k=>aw ((k.block _ (lt_of_block l) (fun f=>f)).trans l)
 have HW:=aa hW;have r:=aa ((q.out.trans k2).trans kW);have z:=aa (HA.out.grew (k2.trans kW));have A:=aa (HB.out.grew (k2.trans kW));clear J2 k2 kW l hW HA HB q;go_wp2_with (rw [<- HW.out]);have KD:Kept af W W.drew:=(aj af W).drew;obtain ⟨c0,c1,c2⟩:=HC.out _ (aj af W);have s:=JR.out _ (r.out.trans KD);go_region_held3 (fun w'=>w'.cell? ⟨w2.heap.size,0,none⟩=some (.slice sa na ca)/\w'.cell? ⟨w2.heap.size,1,none⟩=some (.int .u64 (K:Nat))/\w'.cell? ⟨w2.heap.size,2,none⟩=some (.slice sb nb cb))
  (((try dsimp only);(repeat' apply And.intro) <;> first | (go_keep;done) | assumption))
  (first
  | (go_at_call 82;refine (JI.out _ sa sb so na nb ca cb sc K C.out (z.out.grew a) (A.out.grew a) x).mono ?_;rintro e w4 ⟨vo,vc,T,rfl,hT,y,k4⟩;obtain ⟨h,i,j⟩:=HC.out _ (a.trans k4))
  | (go_at_call 163;refine s.mono ?_;rintro e w3 ⟨so,sc,rfl,x,k3⟩;have a:=KD.trans k3;obtain ⟨D,G,H⟩:=HC.out _ a))
 have U:=aa y;have B:=aa (r.out.trans (a.trans k4));clear s JR JI KD a k3 k4 x y HC c0 c1 c2 D G H h i j;have hY:=dM 190 w4;go_wp2_with fail;refine hY.mono ?_;rintro e w5 ⟨rfl,rfl⟩;exact ⟨rfl,rfl,B.out⟩

end Go.Proofs.YtkaojflnghfmcaaGreatDoor
