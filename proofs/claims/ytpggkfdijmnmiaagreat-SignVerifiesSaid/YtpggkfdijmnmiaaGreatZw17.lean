/- What sign's left and inRange answer. Condition: the number i -/
import Derived.Test.YtpggkfdijmnmiaaGreatZw13
import Derived.Test.YtpggkfdijmnmiaaGreatZw14
import Derived.Test.YtpggkfdijmnmiaaGreatZw15
import Derived.Test.YtpggkfdijmnmiaaGreatZw02
set_option linter.unusedVariables false
set_option linter.unusedSimpArgs false
set_option maxRecDepth 100000
namespace Go.Proofs.YtpggkfdijmnmiaaGreat
section
open Go.RowKit Limbs
open Go.Lib renaming hid→Φ
set_option maxHeartbeats 16000000
theorem add_arith {a b M S c d bo:Nat}(hM:M<W256)(hM2:W256<2*M)(hS:S<W256)(h:S+W256*c=a % M+b % M)(hd:d<W256)(hbo:bo≤1)(he:d+M=S+W256*bo): (c<bo→S=(a+b) % M)∧(¬c<bo→d=(a+b) % M):=by
 have h1:=Nat.mod_lt a (show 0<M by unfold W256 at *;omega);have h2:=Nat.mod_lt b (show 0<M by unfold W256 at *;omega);rw [Nat.add_mod];generalize a % M=x at *;generalize b % M=y at *;have h3:(x+y) % M=if x+y<M then x+y else x+y - M:=by
  split
  ·exact Nat.mod_eq_of_lt (by assumption)
  ·rw [Nat.mod_eq_sub_mod (by omega),Nat.mod_eq_of_lt (by omega)]
 rw [h3];unfold W256 at *
 constructor<;>intro h4<;>split<;>omega
theorem sub_arith {a b M d bo:Nat}(hM:M<W256)(hM0:0<M)(hd:d<W256)(hbo:bo≤1)(he:d+b % M=a % M+W256*bo): (bo=0→d=(a+(M - b % M)) % M)∧(bo≠0→(d+M) % W256=(a+(M - b % M)) % M):=by
 have h1:=Nat.mod_lt a hM0;have h2:=Nat.mod_lt b hM0;rw [Nat.add_mod];have h3:(a % M+(M - b % M) % M) % M=if b % M≤a % M then a % M - b % M else a % M+M - b % M:=by
  rw [← Nat.add_mod,← Nat.mod_add_mod];generalize a % M=x at *;generalize b % M=y at *
  split
  ·rw [show x+(M - y)=(x - y)+M from by omega,Nat.add_mod_right,Nat.mod_eq_of_lt (by omega)]
  ·rw [show x+(M - y)=x+M - y from by omega,Nat.mod_eq_of_lt (by omega)]
 rw [h3];generalize a % M=x at *;generalize b % M=y at *;unfold W256 at *
 constructor<;>intro h4<;>split<;>omega
theorem add_any (m:Int)(a b:Nat)(ha:a<W256)(hb:b<W256)(w:World):
  Calls Tryz.prog 141 #[.int .i64 m,nv a,nv b] w fun e w'=>e = .returned (nv ((a+b) % md m))∧Below w.heap.size w w':=by
 have hM:=md_or m;obtain⟨hMW,hM2,hM3,hMp⟩:=md_lt hM;have HM:=Φ (mod_any m);generalize md m=M at *;have hap:a % M<W256:=Nat.lt_trans (Nat.mod_lt _ (by omega)) hMW;have hbp:b % M<W256:=Nat.lt_trans (Nat.mod_lt _ (by omega)) hMW;have HLA:=Φ (left_any a M ha hMW (by omega));have HLB:=Φ (left_any b M hb hMW (by omega));obtain⟨S,hS⟩:∃z,z=(a % M+b % M) % W256:=⟨_,rfl⟩;obtain⟨c,hc⟩:∃z,z=(a % M+b % M) / W256:=⟨_,rfl⟩;have hpl:=plus_nv (a % M) (b % M) hap hbp;rw [← hS,← hc] at hpl;have HPL:=Φ hpl;have hSW:S<W256:=by rw [hS];exact Nat.mod_lt _ (by decide)
 have hSe:S+W256*c=a % M+b % M:=by rw [hS,hc];exact Nat.mod_add_div _ _
 obtain⟨res,hres⟩:∃z,z=(a+b) % M:=⟨_,rfl⟩;rw [← hres];have HA:=Φ (And.intro hMW (And.intro hM2 (And.intro hSW (And.intro hSe hres))));clear hM hMW hM2 hM3 hMp ha hb hap hbp hS hc hpl hSW hSe hres;simp only [nv,num] at HLA HLB HPL ⊢;go_enter Tryz.func141,Tryz.ntmps141;go_wp2_with fail;refine(keep w.heap.size w (HM.out _) (by go_grown) (Nat.le_refl _)).mono ?_;rintro e w1 ⟨rfl,hb,hk⟩;have KA:Hid (Bk 24 w1 w.heap.size (cs4 a)):=Φ (Bk.below (Bk.alloc (Bk.alloc (Bk.new rfl))) hk);have KB:Hid (Bk 24 w1 (w.heap.size+1) (cs4 b)):=Φ (Bk.below (Bk.alloc (Bk.new (by simp))) hk);have KR:Hid (Bk 24 w1 (w.heap.size+1+1) cs0):=Φ (Bk.below (Bk.new (by simp)) hk);have HB:=Φ hb;clear hk hb HM;simp only [nv,num];go_wp2_with fail;refine a2 w.heap.size (w.heap.size+1) w1.heap.size c (lb a 0) (lb a 1) (lb a 2) (lb a 3) (lb b 0) (lb b 1) (lb b 2) (lb b 3) (lb M 0) (lb M 1) (lb M 2) (lb M 3) (lb (a % M) 0) (lb (a % M) 1) (lb (a % M) 2) (lb (a % M) 3) (lb (b % M) 0) (lb (b % M) 1) (lb (b % M) 2) (lb (b % M) 3) (lb S 0) (lb S 1) (lb S 2) (lb S 3) _ (Bk.alloc KA.out) (Bk.alloc KB.out) (Bk.new rfl) HLA HLB HPL ?_;intro _ _ _ _ _ _ _ _ _ _ g w2 hb2 hg2 hk2;have K2R:=Φ (Bk.below (Bk.alloc KR.out) hb2);have K2M:Hid (Bk 24 w2 w1.heap.size (cs4 M)):=Φ (Bk.below (Bk.new rfl) hb2);have K2S:Hid (Bk 24 w2 g (cs4 S)):=Φ hk2;have HB2:Hid (Below w.heap.size w w2):=Φ (Below.trans (by have hb:=HB.out;have hs:=hb.size;go_grown) (hb2.mono (by have hs:=HB.out.size;simp;omega)));have HGE:Hid (g≠w.heap.size+1+1∧w.heap.size≤g):=Φ (by
  have h1:=KR.out.lt;have h2:=HB.out.size;simp at hg2
  omega)
 clear hb2 hg2 hk2 KA KB KR HLA HLB HPL HB;generalize w1.heap.size=gM at *;generalize hgR:w.heap.size+1+1=gR at *;obtain⟨i0,i1,i2,i3⟩:=K2S.out.cells;obtain⟨j0,j1,j2,j3⟩:=K2M.out.cells;go_wp2_with fail;refine(keep w.heap.size w (minus_nv S M HA.out.2.2.1 HA.out.1 _) HB2.out (Nat.le_refl _)).mono ?_;rintro e w3 ⟨⟨d,bo,hd,hbo,he,rfl⟩,hb,hk⟩;have K3R:=Φ (K2R.out.below hk);have K3S:=Φ (K2S.out.below hk);have HB3:=Φ hb;have HF:=Φ (add_arith HA.out.1 HA.out.2.1 HA.out.2.2.1 HA.out.2.2.2.1 hd hbo he);clear hk hb hd hbo he i0 i1 i2 i3 j0 j1 j2 j3 K2R K2S K2M HB2;simp only [nv,num];obtain⟨i0,i1,i2,i3⟩:=K3S.out.cellsA;obtain⟨j0,j1,j2,j3⟩:=K3R.out.cellsA;obtain⟨f0,f1,f2,f3⟩:=K3R.out.frosA
 by_cases hcb:c<bo
 ·have HV:Hid (S=res):=Φ ((HF.out.1 hcb).trans HA.out.2.2.2.2.symm);have t1:decide (c<bo)=true:=by simp [hcb]
  clear hcb HF;go_wp2_with fail;refine ret_cell rfl gR S rfl (Bk.put K3R.out.alloc) rfl ⟨by rw [HV.out];rfl,?_⟩;have hb:=HB3.out;have hs:=hb.size;have hg:w.heap.size≤gR:=by omega
  go_grown
 ·have HV:Hid (d=res):=Φ ((HF.out.2 hcb).trans HA.out.2.2.2.2.symm);have t1:decide (c<bo)=false:=by simp;omega
  clear hcb HF;go_wp2_with fail;refine ret_cell rfl gR d rfl (Bk.put K3R.out.alloc) rfl ⟨by rw [HV.out];rfl,?_⟩;have hb:=HB3.out;have hs:=hb.size;have hg:w.heap.size≤gR:=by omega
  go_grown
theorem sub_any (m:Int)(a b:Nat)(ha:a<W256)(hb:b<W256)(w:World):
  Calls Tryz.prog 73 #[.int .i64 m,nv a,nv b] w fun e w'=>e = .returned (nv ((a+(md m - b % md m)) % md m))∧Below w.heap.size w w':=by
 have hM:=md_or m;obtain⟨hMW,hM2,hM3,hMp⟩:=md_lt hM;have HM:=Φ (mod_any m);generalize md m=M at *;have hap:a % M<W256:=Nat.lt_trans (Nat.mod_lt _ (by omega)) hMW;have hbp:b % M<W256:=Nat.lt_trans (Nat.mod_lt _ (by omega)) hMW;have HLA:=Φ (left_any a M ha hMW (by omega));have HLB:=Φ (left_any b M hb hMW (by omega));have hmn:∃d bo:Nat,d<W256∧bo≤1∧d+b % M=a % M+W256*bo∧∀w,Calls Tryz.prog 131 #[nv (a % M),nv (b % M)] w fun e w'=>e = .returned (.tuple #[nv d,.int .u64 (bo:Int)])∧Below w.heap.size w w':=by
  refine⟨if a % M<b % M then a % M+W256 - b % M else a % M - b % M,if a % M<b % M then 1 else 0,?_,?_,?_,fun w=>?_⟩
  ·split<;>omega
  ·split<;>omega
  ·split<;>omega
  ·refine(minus_nv (a % M) (b % M) hap hbp w).mono ?_;rintro e w' ⟨⟨d,c,hd,hc,he,rfl⟩,hw⟩;refine⟨?_,hw⟩;have h2:c=if a % M<b % M then 1 else 0:=by
    generalize a % M=x at *;generalize b % M=y at *;unfold W256 at *
    split<;>omega
   have h1:d=if a % M<b % M then a % M+W256 - b % M else a % M - b % M:=by
    subst h2;generalize a % M=x at *;generalize b % M=y at *
    split at he<;>split<;>omega
   rw [← h1,← h2]
 obtain⟨d,bo,hd,hbo,he,hpl⟩:=hmn;have HPL:=Φ hpl;obtain⟨res,hres⟩:∃z,z=(a+(M - b % M)) % M:=⟨_,rfl⟩;rw [← hres];have HF:=Φ (sub_arith hMW (by omega) hd hbo he);have HA:=Φ (And.intro hMW (And.intro hd hres));clear hM hMW hM2 hM3 hMp ha hb hap hbp hpl hres hd hbo he;simp only [nv,num] at HLA HLB HPL ⊢;go_enter Tryz.func73,Tryz.ntmps73;go_wp2_with fail;refine(keep w.heap.size w (HM.out _) (by go_grown) (Nat.le_refl _)).mono ?_;rintro e w1 ⟨rfl,hb,hk⟩;have KA:Hid (Bk 24 w1 w.heap.size (cs4 a)):=Φ (Bk.below (Bk.alloc (Bk.alloc (Bk.new rfl))) hk);have KB:Hid (Bk 24 w1 (w.heap.size+1) (cs4 b)):=Φ (Bk.below (Bk.alloc (Bk.new (by simp))) hk);have KR:Hid (Bk 24 w1 (w.heap.size+1+1) cs0):=Φ (Bk.below (Bk.new (by simp)) hk);have HB:=Φ hb;clear hk hb HM;simp only [nv,num];go_wp2_with fail;refine s2 w.heap.size (w.heap.size+1) w1.heap.size bo (lb a 0) (lb a 1) (lb a 2) (lb a 3) (lb b 0) (lb b 1) (lb b 2) (lb b 3) (lb M 0) (lb M 1) (lb M 2) (lb M 3) (lb (a % M) 0) (lb (a % M) 1) (lb (a % M) 2) (lb (a % M) 3) (lb (b % M) 0) (lb (b % M) 1) (lb (b % M) 2) (lb (b % M) 3) (lb d 0) (lb d 1) (lb d 2) (lb d 3) _ (Bk.alloc KA.out) (Bk.alloc KB.out) (Bk.new rfl) HLA HLB HPL ?_;intro _ _ _ _ _ _ _ _ _ _ g w2 hb2 hg2 hk2;have K2R:=Φ (Bk.below (Bk.alloc KR.out) hb2);have K2M:Hid (Bk 24 w2 w1.heap.size (cs4 M)):=Φ (Bk.below (Bk.new rfl) hb2);have K2S:Hid (Bk 24 w2 g (cs4 d)):=Φ hk2;have HB2:Hid (Below w.heap.size w w2):=Φ (Below.trans (by have hb:=HB.out;have hs:=hb.size;go_grown) (hb2.mono (by have hs:=HB.out.size;simp;omega)));have HGE:Hid (g≠w.heap.size+1+1∧w.heap.size≤g):=Φ (by
  have h1:=KR.out.lt;have h2:=HB.out.size;simp at hg2
  omega)
 clear hb2 hg2 hk2 KA KB KR HLA HLB HPL HB;generalize w1.heap.size=gM at *;generalize hgR:w.heap.size+1+1=gR at *
 by_cases hcb:bo=0
 ·have HV:Hid (d=res):=Φ ((HF.out.1 hcb).trans HA.out.2.2.symm);subst hcb;clear HF;obtain⟨i0,i1,i2,i3⟩:=K2S.out.cells;obtain⟨j0,j1,j2,j3⟩:=K2R.out.cells;obtain⟨f0,f1,f2,f3⟩:=K2R.out.fros;go_wp2_with fail;refine ret_cell rfl gR d rfl (Bk.put K2R.out) rfl ⟨by rw [HV.out];rfl,?_⟩;have hb:=HB2.out;have hs:=hb.size;have hg:w.heap.size≤gR:=by omega
  go_grown
 ·have HV:Hid ((d+M) % W256=res):=Φ ((HF.out.2 hcb).trans HA.out.2.2.symm);have t1:((bo:Int) != 0)=true:=by simp;omega
  clear hcb HF;obtain⟨i0,i1,i2,i3⟩:=K2S.out.cells;obtain⟨j0,j1,j2,j3⟩:=K2M.out.cells;go_wp2_with fail;refine(keep w.heap.size w (plus_nv d M HA.out.2.1 HA.out.1 _) HB2.out (Nat.le_refl _)).mono ?_;rintro e w3 ⟨rfl,hb,hk⟩;have K3R:=Φ (K2R.out.below hk);have K3S:=Φ (K2S.out.below hk);have HB3:=Φ hb;rw [HV.out];clear hk hb i0 i1 i2 i3 j0 j1 j2 j3 K2R K2S K2M HB2;simp only [nv,num];obtain⟨i0,i1,i2,i3⟩:=K3S.out.cells;obtain⟨y0,y1,y2,y3⟩:=K3S.out.fros;obtain⟨j0,j1,j2,j3⟩:=K3R.out.cells;obtain⟨f0,f1,f2,f3⟩:=K3R.out.fros;have n1:¬(g=gR):=HGE.out.1;have n2:¬(gR=g):=fun h=>HGE.out.1 h.symm
  go_wp2_with fail;refine ret_cell rfl gR res rfl (Bk.put (Bk.puto n2 K3R.out)) rfl ⟨rfl,?_⟩;have hb:=HB3.out;have hs:=hb.size;have hg:w.heap.size≤gR:=by omega
  have hg2:=HGE.out.2
  go_grown
end
section
open Go.RowKit Limbs
theorem md0:md 0=mP:=rfl
theorem md1:md 1=mN:=rfl
end
section
open Go.RowKit Go.Sort Limbs
theorem md_prime {M:Nat}(h:M=mP∨M=mN): Primes.Prm M:=by
 rcases h with rfl | rfl
 ·exact Primes.P256
 ·exact Primes.N256
theorem Bk.reg {w:World}{g:Nat}{x0 x1 x2 x3:Value}(h:Bk 24 w g #[x0,x1,x2,x3]): (∀d os,(grow (redrawn w d) os).cell? ⟨g,0,none⟩=some x0)∧(∀d os,(grow (redrawn w d) os).cell? ⟨g,1,none⟩=some x1)∧(∀d os,(grow (redrawn w d) os).cell? ⟨g,2,none⟩=some x2)∧(∀d os,(grow (redrawn w d) os).cell? ⟨g,3,none⟩=some x3):=
 ⟨fun d os=>(h.regrown d os).cell 0,fun d os=>(h.regrown d os).cell 1,fun d os=>(h.regrown d os).cell 2,fun d os=>(h.regrown d os).cell 3⟩
end
section
open Go.RowKit Go.Sort Limbs
open Go.Lib renaming hid→Φ
set_option maxHeartbeats 4000000
theorem mul_c (a b:Nat)(ha:a<W256)(hb:b<W256)(w:World):
  Calls Tryz.prog 108 #[nv a,nv b] w fun e w'=>e = .returned (nv (a*b % mP))∧Below w.heap.size w w':=by
 have h0:=mul_any 0 a b ha hb;rw [md0] at h0;have HS:=Φ h0;clear h0;generalize a*b % mP=res at *;simp only [nv,num] at HS ⊢;go_enter Tryz.func108,Tryz.ntmps108;go_wp2_with fail;refine(keep w.heap.size w (HS.out _) (by go_grown) (Nat.le_refl _)).mono ?_;rintro e w1 ⟨rfl,hb,hk⟩;have KR:Hid (Bk 24 w1 (w.heap.size+1+1) cs0):=Φ (Bk.below (Bk.new (by simp)) hk);have HB:=Φ hb;clear hk hb;obtain⟨j0,j1,j2,j3⟩:=KR.out.cells;obtain⟨f0,f1,f2,f3⟩:=KR.out.fros;go_wp2_with fail;refine ret_cell rfl (w.heap.size+1+1) res rfl (Bk.put KR.out) rfl ⟨rfl,?_⟩;have hb:=HB.out
 go_grown
theorem add_c (a b:Nat)(ha:a<W256)(hb:b<W256)(w:World):
  Calls Tryz.prog 109 #[nv a,nv b] w fun e w'=>e = .returned (nv ((a+b) % mP))∧Below w.heap.size w w':=by
 have h0:=add_any 0 a b ha hb;rw [md0] at h0;have HS:=Φ h0;clear h0;generalize (a+b) % mP=res at *;simp only [nv,num] at HS ⊢;go_enter Tryz.func109,Tryz.ntmps109;go_wp2_with fail;refine(keep w.heap.size w (HS.out _) (by go_grown) (Nat.le_refl _)).mono ?_;rintro e w1 ⟨rfl,hb,hk⟩;have KR:Hid (Bk 24 w1 (w.heap.size+1+1) cs0):=Φ (Bk.below (Bk.new (by simp)) hk);have HB:=Φ hb;clear hk hb;obtain⟨j0,j1,j2,j3⟩:=KR.out.cells;obtain⟨f0,f1,f2,f3⟩:=KR.out.fros;go_wp2_with fail;refine ret_cell rfl (w.heap.size+1+1) res rfl (Bk.put KR.out) rfl ⟨rfl,?_⟩;have hb:=HB.out
 go_grown
theorem sub_c (a b:Nat)(ha:a<W256)(hb:b<W256)(w:World):
  Calls Tryz.prog 110 #[nv a,nv b] w fun e w'=>e = .returned (nv ((a+(mP - b % mP)) % mP))∧Below w.heap.size w w':=by
 have h0:=sub_any 0 a b ha hb;rw [md0] at h0;have HS:=Φ h0;clear h0;generalize (a+(mP - b % mP)) % mP=res at *;simp only [nv,num] at HS ⊢;go_enter Tryz.func110,Tryz.ntmps110;go_wp2_with fail;refine(keep w.heap.size w (HS.out _) (by go_grown) (Nat.le_refl _)).mono ?_;rintro e w1 ⟨rfl,hb,hk⟩;have KR:Hid (Bk 24 w1 (w.heap.size+1+1) cs0):=Φ (Bk.below (Bk.new (by simp)) hk);have HB:=Φ hb;clear hk hb;obtain⟨j0,j1,j2,j3⟩:=KR.out.cells;obtain⟨f0,f1,f2,f3⟩:=KR.out.fros;go_wp2_with fail;refine ret_cell rfl (w.heap.size+1+1) res rfl (Bk.put KR.out) rfl ⟨rfl,?_⟩;have hb:=HB.out
 go_grown
theorem triple_c (a:Nat)(ha:a<W256)(w:World):
  Calls Tryz.prog 111 #[nv a] w fun e w'=>e = .returned (nv (((a+a) % mP+a) % mP))∧Below w.heap.size w w':=by
 have H1:=Φ (add_c a a ha ha);have h2:(a+a) % mP<W256:=Nat.lt_trans (Nat.mod_lt _ (by decide +kernel)) (by decide +kernel);have H2:=Φ (add_c _ a h2 ha);clear h2;generalize ((a+a) % mP+a) % mP=res at *;generalize (a+a) % mP=two at *;simp only [nv,num] at H1 H2 ⊢;go_enter Tryz.func111,Tryz.ntmps111;go_wp2_with fail;have KA:Hid (Bk 24 ((w.alloc (.cells #[υ a 0,υ a 1,υ a 2,υ a 3] 24)).alloc (.cells #[.int .u64 0,.int .u64 0,.int .u64 0,.int .u64 0] 24)) w.heap.size #[υ a 0,υ a 1,υ a 2,υ a 3]):=Φ (Bk.alloc (Bk.new rfl));have KR:Hid (Bk 24 ((w.alloc (.cells #[υ a 0,υ a 1,υ a 2,υ a 3] 24)).alloc (.cells #[.int .u64 0,.int .u64 0,.int .u64 0,.int .u64 0] 24)) (w.heap.size+1) #[.int .u64 0,.int .u64 0,.int .u64 0,.int .u64 0]):=Φ (Bk.new (by simp));have HB:Hid (Below w.heap.size w ((w.alloc (.cells #[υ a 0,υ a 1,υ a 2,υ a 3] 24)).alloc (.cells #[.int .u64 0,.int .u64 0,.int .u64 0,.int .u64 0] 24))):=Φ (by go_grown);generalize ((w.alloc (.cells #[υ a 0,υ a 1,υ a 2,υ a 3] 24)).alloc (.cells #[.int .u64 0,.int .u64 0,.int .u64 0,.int .u64 0] 24))=W at KA KR HB ⊢;obtain⟨gr,hgr⟩:∃z,z=w.heap.size+1:=⟨_,rfl⟩;rw [← hgr] at KR ⊢;have HG:=Φ (show w.heap.size≤gr by omega);clear hgr;obtain⟨a0,a1,a2,a3⟩:=KA.out.reg;refine wp_region_below_tail 5 mixed (by kernel_rfl) ?_;simp only [List.take_succ_cons,List.take_zero,List.drop_succ_cons,List.drop_zero]
 iterate 2 go_big_quiet_step (fail)
 go_big_quiet_step (exact qg H1.out)
 go_big_quiet_step (fail)
 go_big_quiet_step (exact qg H2.out)
 refine wpQuiet_nil ?_;intro _ hw';obtain⟨⟨dq,osq⟩,hw''⟩:=hw';subst hw'';have KR2:=Φ (KR.out.regrown dq osq);have HB2:=Φ (HB.out.trans ((below_regrown W dq osq).mono HB.out.size));clear KA KR HB a0 a1 a2 a3;generalize grow (redrawn W dq) osq=V at KR2 HB2 ⊢;obtain⟨f0,f1,f2,f3⟩:=KR2.out.fros;obtain⟨c0,c1,c2,c3⟩:=KR2.out.cells;go_wp2_with fail;refine ret_cell rfl gr res rfl (Bk.put KR2.out) rfl ⟨rfl,?_⟩;have hb:=HB2.out;have hg:=HG.out
 go_grown
theorem below_c_eq {a:Nat}(ha:a<W256): decide ((a+0) % mP=a)=decide (a<mP):=by
 rw [Nat.add_zero]
 by_cases h:a<mP
 ·rw [Nat.mod_eq_of_lt h];simp [h]
 ·have:=Nat.mod_lt a (show 0<mP by decide +kernel)
  simp [h];omega
theorem below_c (a:Nat)(ha:a<W256)(w:World):
  Calls Tryz.prog 107 #[nv a] w fun e w'=>e = .returned (.bool (decide (a<mP)))∧Below w.heap.size w w':=by
 rw [← below_c_eq ha];have H1:=Φ (add_c a 0 ha (by decide));have h2:(a+0) % mP<W256:=Nat.lt_trans (Nat.mod_lt _ (by decide +kernel)) (by decide +kernel);have HE:=Φ (eqN _ a h2 ha);clear h2;generalize (a+0) % mP=one at *;have e0:nv 0 = .agg #[.int .u64 0,.int .u64 0,.int .u64 0,.int .u64 0]:=rfl;rw [e0] at H1;obtain⟨res,hres⟩:∃z,z=decide (one=a):=⟨_,rfl⟩;rw [← hres] at HE ⊢;clear hres ha;simp only [nv,num] at H1 ⊢;go_enter Tryz.func107,Tryz.ntmps107;go_wp2_with fail;have KA:Hid (Bk 24 (w.alloc (.cells #[υ a 0,υ a 1,υ a 2,υ a 3] 24)) w.heap.size #[υ a 0,υ a 1,υ a 2,υ a 3]):=Φ (Bk.new rfl);have HB:Hid (Below w.heap.size w (w.alloc (.cells #[υ a 0,υ a 1,υ a 2,υ a 3] 24))):=Φ (by go_grown);generalize (w.alloc (.cells #[υ a 0,υ a 1,υ a 2,υ a 3] 24))=W at KA HB ⊢;obtain⟨a0,a1,a2,a3⟩:=KA.out.reg;have heq:=HE.out;refine wp_region_quiet_below mixed (by kernel_rfl) ?_
 iterate 2 go_big_quiet_step (fail)
 go_big_quiet_step (exact qg H1.out)
 repeat (first | go_big_quiet_step (fail) | quiet_step (fail))
 refine wpQuiet_nil ?_;intro _ hw';obtain⟨⟨dq,osq⟩,hw''⟩:=hw';subst hw'';have HB2:=Φ (HB.out.trans ((below_regrown W dq osq).mono HB.out.size));go_wp2_with fail;go_ret;exact⟨rfl,HB2.out⟩
end
section
open Go.RowKit Go.Sort Limbs
theorem Bk.cells12 {t:TypeId}{w:World}{g:Nat}{c0 c1 c2 c3 c4 c5 c6 c7 c8 c9 c10 c11:Value}(h:Bk t w g #[c0,c1,c2,c3,c4,c5,c6,c7,c8,c9,c10,c11]): (w.cell? ⟨g,0,none⟩=some c0∧w.cell? ⟨g,1,none⟩=some c1∧w.cell? ⟨g,2,none⟩=some c2∧w.cell? ⟨g,3,none⟩=some c3)∧(w.cell? ⟨g,4,none⟩=some c4∧w.cell? ⟨g,5,none⟩=some c5∧w.cell? ⟨g,6,none⟩=some c6∧w.cell? ⟨g,7,none⟩=some c7)∧(w.cell? ⟨g,8,none⟩=some c8∧w.cell? ⟨g,9,none⟩=some c9∧w.cell? ⟨g,10,none⟩=some c10∧w.cell? ⟨g,11,none⟩=some c11):=
 ⟨⟨h.cell 0,h.cell 1,h.cell 2,h.cell 3⟩,⟨h.cell 4,h.cell 5,h.cell 6,h.cell 7⟩,⟨h.cell 8,h.cell 9,h.cell 10,h.cell 11⟩⟩
theorem Bk.fros12 {t:TypeId}{w:World}{g:Nat}{cs:Array Value}(h:Bk t w g cs): (w.frozen? ⟨g,0,none⟩=false∧w.frozen? ⟨g,1,none⟩=false∧w.frozen? ⟨g,2,none⟩=false∧w.frozen? ⟨g,3,none⟩=false)∧(w.frozen? ⟨g,4,none⟩=false∧w.frozen? ⟨g,5,none⟩=false∧w.frozen? ⟨g,6,none⟩=false∧w.frozen? ⟨g,7,none⟩=false)∧(w.frozen? ⟨g,8,none⟩=false∧w.frozen? ⟨g,9,none⟩=false∧w.frozen? ⟨g,10,none⟩=false∧w.frozen? ⟨g,11,none⟩=false):=
 ⟨⟨h.fro 0,h.fro 1,h.fro 2,h.fro 3⟩,⟨h.fro 4,h.fro 5,h.fro 6,h.fro 7⟩,⟨h.fro 8,h.fro 9,h.fro 10,h.fro 11⟩⟩
theorem Bk.cellsA12 {t:TypeId}{w:World}{g:Nat}{c0 c1 c2 c3 c4 c5 c6 c7 c8 c9 c10 c11:Value}(h:Bk t w g #[c0,c1,c2,c3,c4,c5,c6,c7,c8,c9,c10,c11]): ((∀o,(w.alloc o).cell? ⟨g,0,none⟩=some c0)∧(∀o,(w.alloc o).cell? ⟨g,1,none⟩=some c1)∧(∀o,(w.alloc o).cell? ⟨g,2,none⟩=some c2)∧(∀o,(w.alloc o).cell? ⟨g,3,none⟩=some c3))∧((∀o,(w.alloc o).cell? ⟨g,4,none⟩=some c4)∧(∀o,(w.alloc o).cell? ⟨g,5,none⟩=some c5)∧(∀o,(w.alloc o).cell? ⟨g,6,none⟩=some c6)∧(∀o,(w.alloc o).cell? ⟨g,7,none⟩=some c7))∧((∀o,(w.alloc o).cell? ⟨g,8,none⟩=some c8)∧(∀o,(w.alloc o).cell? ⟨g,9,none⟩=some c9)∧(∀o,(w.alloc o).cell? ⟨g,10,none⟩=some c10)∧(∀o,(w.alloc o).cell? ⟨g,11,none⟩=some c11)):=
 ⟨⟨fun _=>h.alloc.cell 0,fun _=>h.alloc.cell 1,fun _=>h.alloc.cell 2,fun _=>h.alloc.cell 3⟩,⟨fun _=>h.alloc.cell 4,fun _=>h.alloc.cell 5,fun _=>h.alloc.cell 6,fun _=>h.alloc.cell 7⟩,⟨fun _=>h.alloc.cell 8,fun _=>h.alloc.cell 9,fun _=>h.alloc.cell 10,fun _=>h.alloc.cell 11⟩⟩
theorem Bk.reg12 {t:TypeId}{w:World}{g:Nat}{c0 c1 c2 c3 c4 c5 c6 c7 c8 c9 c10 c11:Value}(h:Bk t w g #[c0,c1,c2,c3,c4,c5,c6,c7,c8,c9,c10,c11]): ((∀d os,(grow (redrawn w d) os).cell? ⟨g,0,none⟩=some c0)∧(∀d os,(grow (redrawn w d) os).cell? ⟨g,1,none⟩=some c1)∧(∀d os,(grow (redrawn w d) os).cell? ⟨g,2,none⟩=some c2)∧(∀d os,(grow (redrawn w d) os).cell? ⟨g,3,none⟩=some c3))∧((∀d os,(grow (redrawn w d) os).cell? ⟨g,4,none⟩=some c4)∧(∀d os,(grow (redrawn w d) os).cell? ⟨g,5,none⟩=some c5)∧(∀d os,(grow (redrawn w d) os).cell? ⟨g,6,none⟩=some c6)∧(∀d os,(grow (redrawn w d) os).cell? ⟨g,7,none⟩=some c7))∧((∀d os,(grow (redrawn w d) os).cell? ⟨g,8,none⟩=some c8)∧(∀d os,(grow (redrawn w d) os).cell? ⟨g,9,none⟩=some c9)∧(∀d os,(grow (redrawn w d) os).cell? ⟨g,10,none⟩=some c10)∧(∀d os,(grow (redrawn w d) os).cell? ⟨g,11,none⟩=some c11)):=
 ⟨⟨fun d os=>(h.regrown d os).cell 0,fun d os=>(h.regrown d os).cell 1,fun d os=>(h.regrown d os).cell 2,fun d os=>(h.regrown d os).cell 3⟩,⟨fun d os=>(h.regrown d os).cell 4,fun d os=>(h.regrown d os).cell 5,fun d os=>(h.regrown d os).cell 6,fun d os=>(h.regrown d os).cell 7⟩,⟨fun d os=>(h.regrown d os).cell 8,fun d os=>(h.regrown d os).cell 9,fun d os=>(h.regrown d os).cell 10,fun d os=>(h.regrown d os).cell 11⟩⟩
theorem Bk.put12 {t:TypeId}{w:World}{g:Nat}{c0 c1 c2 c3 c4 c5 c6 c7 c8 c9 c10 c11 d0 d1 d2 d3 d4 d5 d6 d7 d8 d9 d10 d11:Value}(h:Bk t w g #[c0,c1,c2,c3,c4,c5,c6,c7,c8,c9,c10,c11]): Bk t ((((((((((((w.setCell ⟨g,0,none⟩ d0).setCell ⟨g,1,none⟩ d1).setCell ⟨g,2,none⟩ d2).setCell ⟨g,3,none⟩ d3).setCell ⟨g,4,none⟩ d4).setCell ⟨g,5,none⟩ d5).setCell ⟨g,6,none⟩ d6).setCell ⟨g,7,none⟩ d7).setCell ⟨g,8,none⟩ d8).setCell ⟨g,9,none⟩ d9).setCell ⟨g,10,none⟩ d10).setCell ⟨g,11,none⟩ d11) g #[d0,d1,d2,d3,d4,d5,d6,d7,d8,d9,d10,d11]:=by
 have p:=(Bk.same (i:=11) (v:=d11) (Bk.same (i:=10) (v:=d10) (Bk.same (i:=9) (v:=d9) (Bk.same (i:=8) (v:=d8) (Bk.same (i:=7) (v:=d7) (Bk.same (i:=6) (v:=d6) (Bk.same (i:=5) (v:=d5) (Bk.same (i:=4) (v:=d4) (Bk.same (i:=3) (v:=d3) (Bk.same (i:=2) (v:=d2) (Bk.same (i:=1) (v:=d1) (Bk.same (i:=0) (v:=d0) h))))))))))))
 simpa using p
theorem Bk.puto12 {t:TypeId}{w:World}{g h:Nat}{cs:Array Value}{d0 d1 d2 d3 d4 d5 d6 d7 d8 d9 d10 d11:Value}(hn:g≠h)(k:Bk t w g cs): Bk t ((((((((((((w.setCell ⟨h,0,none⟩ d0).setCell ⟨h,1,none⟩ d1).setCell ⟨h,2,none⟩ d2).setCell ⟨h,3,none⟩ d3).setCell ⟨h,4,none⟩ d4).setCell ⟨h,5,none⟩ d5).setCell ⟨h,6,none⟩ d6).setCell ⟨h,7,none⟩ d7).setCell ⟨h,8,none⟩ d8).setCell ⟨h,9,none⟩ d9).setCell ⟨h,10,none⟩ d10).setCell ⟨h,11,none⟩ d11) g cs:=
 (Bk.oth hn (Bk.oth hn (Bk.oth hn (Bk.oth hn (Bk.oth hn (Bk.oth hn (Bk.oth hn (Bk.oth hn (Bk.oth hn (Bk.oth hn (Bk.oth hn (Bk.oth hn k))))))))))))
theorem Bk.cells9 {t:TypeId}{w:World}{g:Nat}{c0 c1 c2 c3 c4 c5 c6 c7 c8:Value}(h:Bk t w g #[c0,c1,c2,c3,c4,c5,c6,c7,c8]): (w.cell? ⟨g,0,none⟩=some c0∧w.cell? ⟨g,1,none⟩=some c1∧w.cell? ⟨g,2,none⟩=some c2∧w.cell? ⟨g,3,none⟩=some c3)∧(w.cell? ⟨g,4,none⟩=some c4∧w.cell? ⟨g,5,none⟩=some c5∧w.cell? ⟨g,6,none⟩=some c6∧w.cell? ⟨g,7,none⟩=some c7)∧(w.cell? ⟨g,8,none⟩=some c8):=
 ⟨⟨h.cell 0,h.cell 1,h.cell 2,h.cell 3⟩,⟨h.cell 4,h.cell 5,h.cell 6,h.cell 7⟩,h.cell 8⟩
theorem Bk.fros9 {t:TypeId}{w:World}{g:Nat}{cs:Array Value}(h:Bk t w g cs): (w.frozen? ⟨g,0,none⟩=false∧w.frozen? ⟨g,1,none⟩=false∧w.frozen? ⟨g,2,none⟩=false∧w.frozen? ⟨g,3,none⟩=false)∧(w.frozen? ⟨g,4,none⟩=false∧w.frozen? ⟨g,5,none⟩=false∧w.frozen? ⟨g,6,none⟩=false∧w.frozen? ⟨g,7,none⟩=false)∧(w.frozen? ⟨g,8,none⟩=false):=
 ⟨⟨h.fro 0,h.fro 1,h.fro 2,h.fro 3⟩,⟨h.fro 4,h.fro 5,h.fro 6,h.fro 7⟩,h.fro 8⟩
theorem Bk.cellsA9 {t:TypeId}{w:World}{g:Nat}{c0 c1 c2 c3 c4 c5 c6 c7 c8:Value}(h:Bk t w g #[c0,c1,c2,c3,c4,c5,c6,c7,c8]): ((∀o,(w.alloc o).cell? ⟨g,0,none⟩=some c0)∧(∀o,(w.alloc o).cell? ⟨g,1,none⟩=some c1)∧(∀o,(w.alloc o).cell? ⟨g,2,none⟩=some c2)∧(∀o,(w.alloc o).cell? ⟨g,3,none⟩=some c3))∧((∀o,(w.alloc o).cell? ⟨g,4,none⟩=some c4)∧(∀o,(w.alloc o).cell? ⟨g,5,none⟩=some c5)∧(∀o,(w.alloc o).cell? ⟨g,6,none⟩=some c6)∧(∀o,(w.alloc o).cell? ⟨g,7,none⟩=some c7))∧((∀o,(w.alloc o).cell? ⟨g,8,none⟩=some c8)):=
 ⟨⟨fun _=>h.alloc.cell 0,fun _=>h.alloc.cell 1,fun _=>h.alloc.cell 2,fun _=>h.alloc.cell 3⟩,⟨fun _=>h.alloc.cell 4,fun _=>h.alloc.cell 5,fun _=>h.alloc.cell 6,fun _=>h.alloc.cell 7⟩,fun _=>h.alloc.cell 8⟩
theorem Bk.frosA9 {t:TypeId}{w:World}{g:Nat}{cs:Array Value}(h:Bk t w g cs): ((∀o,(w.alloc o).frozen? ⟨g,0,none⟩=false)∧(∀o,(w.alloc o).frozen? ⟨g,1,none⟩=false)∧(∀o,(w.alloc o).frozen? ⟨g,2,none⟩=false)∧(∀o,(w.alloc o).frozen? ⟨g,3,none⟩=false))∧((∀o,(w.alloc o).frozen? ⟨g,4,none⟩=false)∧(∀o,(w.alloc o).frozen? ⟨g,5,none⟩=false)∧(∀o,(w.alloc o).frozen? ⟨g,6,none⟩=false)∧(∀o,(w.alloc o).frozen? ⟨g,7,none⟩=false))∧((∀o,(w.alloc o).frozen? ⟨g,8,none⟩=false)):=
 ⟨⟨fun _=>h.alloc.fro 0,fun _=>h.alloc.fro 1,fun _=>h.alloc.fro 2,fun _=>h.alloc.fro 3⟩,⟨fun _=>h.alloc.fro 4,fun _=>h.alloc.fro 5,fun _=>h.alloc.fro 6,fun _=>h.alloc.fro 7⟩,fun _=>h.alloc.fro 8⟩
theorem Bk.reg9 {t:TypeId}{w:World}{g:Nat}{c0 c1 c2 c3 c4 c5 c6 c7 c8:Value}(h:Bk t w g #[c0,c1,c2,c3,c4,c5,c6,c7,c8]): ((∀d os,(grow (redrawn w d) os).cell? ⟨g,0,none⟩=some c0)∧(∀d os,(grow (redrawn w d) os).cell? ⟨g,1,none⟩=some c1)∧(∀d os,(grow (redrawn w d) os).cell? ⟨g,2,none⟩=some c2)∧(∀d os,(grow (redrawn w d) os).cell? ⟨g,3,none⟩=some c3))∧((∀d os,(grow (redrawn w d) os).cell? ⟨g,4,none⟩=some c4)∧(∀d os,(grow (redrawn w d) os).cell? ⟨g,5,none⟩=some c5)∧(∀d os,(grow (redrawn w d) os).cell? ⟨g,6,none⟩=some c6)∧(∀d os,(grow (redrawn w d) os).cell? ⟨g,7,none⟩=some c7))∧((∀d os,(grow (redrawn w d) os).cell? ⟨g,8,none⟩=some c8)):=
 ⟨⟨fun d os=>(h.regrown d os).cell 0,fun d os=>(h.regrown d os).cell 1,fun d os=>(h.regrown d os).cell 2,fun d os=>(h.regrown d os).cell 3⟩,⟨fun d os=>(h.regrown d os).cell 4,fun d os=>(h.regrown d os).cell 5,fun d os=>(h.regrown d os).cell 6,fun d os=>(h.regrown d os).cell 7⟩,fun d os=>(h.regrown d os).cell 8⟩
theorem Bk.put9 {t:TypeId}{w:World}{g:Nat}{c0 c1 c2 c3 c4 c5 c6 c7 c8 d0 d1 d2 d3 d4 d5 d6 d7 d8:Value}(h:Bk t w g #[c0,c1,c2,c3,c4,c5,c6,c7,c8]): Bk t (((((((((w.setCell ⟨g,0,none⟩ d0).setCell ⟨g,1,none⟩ d1).setCell ⟨g,2,none⟩ d2).setCell ⟨g,3,none⟩ d3).setCell ⟨g,4,none⟩ d4).setCell ⟨g,5,none⟩ d5).setCell ⟨g,6,none⟩ d6).setCell ⟨g,7,none⟩ d7).setCell ⟨g,8,none⟩ d8) g #[d0,d1,d2,d3,d4,d5,d6,d7,d8]:=by
 have p:=(Bk.same (i:=8) (v:=d8) (Bk.same (i:=7) (v:=d7) (Bk.same (i:=6) (v:=d6) (Bk.same (i:=5) (v:=d5) (Bk.same (i:=4) (v:=d4) (Bk.same (i:=3) (v:=d3) (Bk.same (i:=2) (v:=d2) (Bk.same (i:=1) (v:=d1) (Bk.same (i:=0) (v:=d0) h)))))))))
 simpa using p
def cs12 (x y z:Nat): Array Value:=#[υ x 0,υ x 1,υ x 2,υ x 3,υ y 0,υ y 1,υ y 2,υ y 3,υ z 0,υ z 1,υ z 2,υ z 3]
def cs9 (x y:Nat)(i:Bool): Array Value:=#[.int .u64 (lb x 0:Nat),.int .u64 (lb x 1:Nat),.int .u64 (lb x 2:Nat),.int .u64 (lb x 3:Nat),.int .u64 (lb y 0:Nat),.int .u64 (lb y 1:Nat),.int .u64 (lb y 2:Nat),.int .u64 (lb y 3:Nat),.bool i]
theorem ret_cell93 {fn:Func}{R:Ending→World→Prop}{a:Act}{w:World}{p:Tmp}(h:fn.results=#[.cell p 162])(g x y z:Nat)(hp:a.tmps.getD p undef = .pointer (some ⟨g,0,none⟩))(hk:Bk 162 w g (cs12 x y z))(hd:a.defers=[])(hR:R (.returned (jn x y z)) w): bodyPost Tryz.prog fn R .ret a w:=
 bodyPost_ret (v:=jn x y z) (results_cell_row h a.tmps w g 162 (cs12 x y z) (0,0) _ hp hk u93 rfl i93) hd hR
theorem ret_cell51 {fn:Func}{R:Ending→World→Prop}{a:Act}{w:World}{p:Tmp}(h:fn.results=#[.cell p 26])(g x y:Nat)(i:Bool)(hp:a.tmps.getD p undef = .pointer (some ⟨g,0,none⟩))(hk:Bk 26 w g (cs9 x y i))(hd:a.defers=[])(hR:R (.returned (pn x y i)) w): bodyPost Tryz.prog fn R .ret a w:=
 bodyPost_ret (v:=pn x y i) (results_cell_row h a.tmps w g 26 (cs9 x y i) (0,0) _ hp hk u51 rfl i51) hd hR
theorem ret_cell51e {fn:Func}{R:Ending→World→Prop}{a:Act}{w:World}{p u:Tmp}(h:fn.results=#[.cell p 26,.tmp u])(g x y:Nat)(i:Bool)(v:Value)(hp:a.tmps.getD p undef = .pointer (some ⟨g,0,none⟩))(hy:a.tmps.getD u undef=v)(hk:Bk 26 w g (cs9 x y i))(hd:a.defers=[])(hR:R (.returned (.tuple #[pn x y i,v])) w): bodyPost Tryz.prog fn R .ret a w:=by
 subst hy;refine bodyPost_ret (v:= .tuple #[pn x y i,a.tmps.getD u undef]) ?_ hd hR;rw [results_cell_tmp h,hp]
 show((loadVar 26 ⟨g,0,none⟩).run Tryz.prog w).andThen _=_
 rw [run_loadVar_row w g 26 26 (cs9 x y i) (0,0) _ hk u51 rfl i51];rfl
end
section
open Go.RowKit Go.Sort Limbs
open Go.Lib renaming hid→Φ
theorem mp_lt (a:Nat): a % mP<W256:=Nat.lt_trans (Nat.mod_lt _ (by decide +kernel)) (by decide +kernel)
set_option maxHeartbeats 16000000 in
theorem over_c (x y z f:Nat)(hx:x<W256)(hy:y<W256)(hz:z<W256)(hf:f<W256)(w:World):
  Calls Tryz.prog 170 #[jn x y z,nv f] w fun e w'=>e = .returned (jn (x*(f*f % mP) % mP) (y*((f*f % mP)*f % mP) % mP) (z*f % mP))∧Below w.heap.size w w':=by
 have H1:=Φ (mul_c f f hf hf);have H2:=Φ (mul_c x (f*f % mP) hx (mp_lt _));have H3:=Φ (mul_c (f*f % mP) f (mp_lt _) hf);have H4:=Φ (mul_c y ((f*f % mP)*f % mP) hy (mp_lt _));have H5:=Φ (mul_c z f hz hf);clear hx hy hz hf;generalize x*(f*f % mP) % mP=rx at *;generalize y*((f*f % mP)*f % mP) % mP=ry at *;generalize (f*f % mP)*f % mP=cube at *;generalize f*f % mP=sq at *;generalize z*f % mP=rz at *;simp only [jn,nv,num] at H1 H2 H3 H4 H5 ⊢;go_enter Tryz.func170,Tryz.ntmps170;go_wp2_with fail;refine(keep w.heap.size w (H1.out _) (by go_grown) (Nat.le_refl _)).mono ?_;rintro e w1 ⟨rfl,hb,hk⟩;have KP:Hid (Bk 162 w1 w.heap.size #[υ x 0,υ x 1,υ x 2,υ x 3,υ y 0,υ y 1,υ y 2,υ y 3,υ z 0,υ z 1,υ z 2,υ z 3]):=Φ (Bk.below (Bk.alloc (Bk.alloc (Bk.new rfl))) hk);have KF:Hid (Bk 24 w1 (w.heap.size+1) #[υ f 0,υ f 1,υ f 2,υ f 3]):=Φ (Bk.below (Bk.alloc (Bk.new (by simp))) hk);have KR:Hid (Bk 162 w1 (w.heap.size+1+1) #[.int .u64 0,.int .u64 0,.int .u64 0,.int .u64 0,.int .u64 0,.int .u64 0,.int .u64 0,.int .u64 0,.int .u64 0,.int .u64 0,.int .u64 0,.int .u64 0]):=Φ (Bk.below (Bk.new (by simp)) hk);have HB:=Φ hb;clear hk hb H1;go_wp2_with fail;have KP1:Hid (Bk 162 (w1.alloc (.cells #[υ sq 0,υ sq 1,υ sq 2,υ sq 3] 24)) w.heap.size #[υ x 0,υ x 1,υ x 2,υ x 3,υ y 0,υ y 1,υ y 2,υ y 3,υ z 0,υ z 1,υ z 2,υ z 3]):=Φ (Bk.alloc KP.out);have KF1:Hid (Bk 24 (w1.alloc (.cells #[υ sq 0,υ sq 1,υ sq 2,υ sq 3] 24)) (w.heap.size+1) #[υ f 0,υ f 1,υ f 2,υ f 3]):=Φ (Bk.alloc KF.out);have KR1:Hid (Bk 162 (w1.alloc (.cells #[υ sq 0,υ sq 1,υ sq 2,υ sq 3] 24)) (w.heap.size+1+1) #[.int .u64 0,.int .u64 0,.int .u64 0,.int .u64 0,.int .u64 0,.int .u64 0,.int .u64 0,.int .u64 0,.int .u64 0,.int .u64 0,.int .u64 0,.int .u64 0]):=Φ (Bk.alloc KR.out);have KS1:Hid (Bk 24 (w1.alloc (.cells #[υ sq 0,υ sq 1,υ sq 2,υ sq 3] 24)) w1.heap.size #[υ sq 0,υ sq 1,υ sq 2,υ sq 3]):=Φ (Bk.new rfl);have HB1:Hid (Below w.heap.size w (w1.alloc (.cells #[υ sq 0,υ sq 1,υ sq 2,υ sq 3] 24))):=Φ (by have hb:=HB.out;have hs:=hb.size;go_grown);generalize (w1.alloc (.cells #[υ sq 0,υ sq 1,υ sq 2,υ sq 3] 24))=W at KP1 KF1 KR1 KS1 HB1 ⊢;obtain⟨gf,hgf⟩:∃z,z=w.heap.size+1:=⟨_,rfl⟩;obtain⟨gr,hgr⟩:∃z,z=w.heap.size+1+1:=⟨_,rfl⟩;rw [← hgr] at KR1 ⊢;rw [← hgf] at KF1 ⊢;generalize w1.heap.size=gs at KS1 ⊢;have HG:=Φ (show w.heap.size≤gr by omega);clear hgr hgf KP KF KR HB;obtain⟨⟨x0,x1,x2,x3⟩,⟨y0,y1,y2,y3⟩,z0,z1,z2,z3⟩:=KP1.out.reg12;obtain⟨f0,f1,f2,f3⟩:=KF1.out.reg;obtain⟨s0,s1,s2,s3⟩:=KS1.out.reg;refine wp_region_below_tail 15 mixed (by kernel_rfl) ?_;simp only [List.take_succ_cons,List.take_zero,List.drop_succ_cons,List.drop_zero]
 iterate 3 go_big_quiet_step (fail)
 go_big_quiet_step (exact qg H2.out)
 iterate 4 go_big_quiet_step (fail)
 go_big_quiet_step (exact qg H3.out)
 go_big_quiet_step (exact qg H4.out)
 iterate 3 go_big_quiet_step (fail)
 go_big_quiet_step (exact qg H5.out)
 repeat (first | go_big_quiet_step (fail) | quiet_step (fail))
 refine wpQuiet_nil ?_;intro _ hw';obtain⟨⟨dq,osq⟩,hw''⟩:=hw';subst hw'';have KR2:=Φ (KR1.out.regrown dq osq);have HB2:=Φ (HB1.out.trans ((below_regrown W dq osq).mono HB1.out.size));clear KP1 KF1 KR1 KS1 HB1 x0 x1 x2 x3 y0 y1 y2 y3 z0 z1 z2 z3 f0 f1 f2 f3 s0 s1 s2 s3 H2 H3 H4 H5;generalize grow (redrawn W dq) osq=V at KR2 HB2 ⊢;obtain⟨⟨f0,f1,f2,f3⟩,⟨f4,f5,f6,f7⟩,f8,f9,f10,f11⟩:=KR2.out.fros12;obtain⟨⟨c0,c1,c2,c3⟩,⟨c4,c5,c6,c7⟩,c8,c9,c10,c11⟩:=KR2.out.cells12;go_wp2_with fail;refine ret_cell93 rfl gr rx ry rz rfl (Bk.put12 KR2.out) rfl ⟨rfl,?_⟩;have hb:=HB2.out;have hg:=HG.out
 go_grown
end
section
open Go.RowKit Go.Sort Limbs
open Go.Lib renaming hid→Φ
set_option maxHeartbeats 16000000
variable {t0 t1 t2 t3 t4 t5 t6 t7 t8 t9 t10 t11 t12 t13 t14 t15 t16 t17 t18 t19 t20 t21 t22 t23 t24 t25 t26 t27 t28 t29 t30 t31 t32 t33 t34 t35 t36 t37 t38 t39 t40 t41 t42 t43 t44 t45 t46 t47 t48 t49 t50 t51 t52 t53 t54:Value}{ds:List Deferred}{Q:Exit→Act→World→Prop}
def al1I (w0:World)(gp gr go x y z r o rr d1 d2:Nat)(t0 t1 t2 t6 t16 t17 t18 t19 t20 t21 t22 t23 t24 t25 t26 t27 t28:Value)(ds:List Deferred)(l:Array Bool)(a:Act)(w:World): Prop:=
 ∃j0 j1 j2 j3 j4 j5 j6 j7 j8 j9:Bool,∃x0 x1 x2 x3 x4 x5 x6 x7 x8:Value,∃g8:Nat,l=#[j0,j1,j2,j3,j4,j5,j6,j7,j8,j9]∧a={tmps:=#[t0,t1,t2,.pointer (some ⟨gp,0,none⟩),.pointer (some ⟨gr,0,none⟩),.pointer (some ⟨go,0,none⟩),t6,x8,x0,x1,x2,x3,x4,x5,x6,x7,t16,t17,t18,t19,t20,t21,t22,t23,t24,t25,t26,t27,t28],defers:=ds}∧Below w0.heap.size w0 w∧
 (j0=true→x0 = .agg #[υ r 0,υ r 1,υ r 2,υ r 3])∧
 (j1=true→x1 = .agg #[υ r 0,υ r 1,υ r 2,υ r 3])∧
 (j2=true→x2 = .agg #[υ rr 0,υ rr 1,υ rr 2,υ rr 3])∧
 (j3=true→x3 = .pointer (some ⟨gp,0,none⟩))∧
 (j4=true→x4 = .agg #[υ x 0,υ x 1,υ x 2,υ x 3])∧
 (j5=true→x5 = .agg #[υ d1 0,υ d1 1,υ d1 2,υ d1 3])∧
 (j6=true→x6 = .agg #[υ o 0,υ o 1,υ o 2,υ o 3])∧
 (j7=true→x7 = .agg #[υ d2 0,υ d2 1,υ d2 2,υ d2 3])∧
 (j8=true→x8 = .pointer (some ⟨g8,0,none⟩)∧w0.heap.size≤g8∧∃z0 z1 z2 z3:Value,Bk 24 w g8 #[z0,z1,z2,z3]∧(j9=true→#[z0,z1,z2,z3]=#[υ d2 0,υ d2 1,υ d2 2,υ d2 3]))∧
 (j9=true→j8=true)
noncomputable def al1O:Array Oper:=(Tryz.f184.body.bind fun c=>findR c 1).getD #[]
theorem al1_steps (gp gr go x y z r o rr d1 d2:Nat)(w:World)(KP:Bk 162 w gp #[υ x 0,υ x 1,υ x 2,υ x 3,υ y 0,υ y 1,υ y 2,υ y 3,υ z 0,υ z 1,υ z 2,υ z 3])(KR:Bk 24 w gr #[υ r 0,υ r 1,υ r 2,υ r 3])(KO:Bk 24 w go #[υ o 0,υ o 1,υ o 2,υ o 3])(H1:Hid (∀w,Calls Tryz.prog 108 #[.agg #[υ r 0,υ r 1,υ r 2,υ r 3],.agg #[υ r 0,υ r 1,υ r 2,υ r 3]] w fun e w'=>e = .returned (.agg #[υ rr 0,υ rr 1,υ rr 2,υ rr 3])∧Below w.heap.size w w'))(H2:Hid (∀w,Calls Tryz.prog 110 #[.agg #[υ rr 0,υ rr 1,υ rr 2,υ rr 3],.agg #[υ x 0,υ x 1,υ x 2,υ x 3]] w fun e w'=>e = .returned (.agg #[υ d1 0,υ d1 1,υ d1 2,υ d1 3])∧Below w.heap.size w w'))(H3:Hid (∀w,Calls Tryz.prog 110 #[.agg #[υ d1 0,υ d1 1,υ d1 2,υ d1 3],.agg #[υ o 0,υ o 1,υ o 2,υ o 3]] w fun e w'=>e = .returned (.agg #[υ d2 0,υ d2 1,υ d2 2,υ d2 3])∧Below w.heap.size w w'))
  :
  ∀l a w',al1I w gp gr go x y z r o rr d1 d2 t0 t1 t2 t6 t16 t17 t18 t19 t20 t21 t22 t23 t24 t25 t26 t27 t28 ds l a w'→∀i∈Region.ready .any al1O l,wpOp Tryz.prog al1O Q i (fun a' w''=>al1I w gp gr go x y z r o rr d1 d2 t0 t1 t2 t6 t16 t17 t18 t19 t20 t21 t22 t23 t24 t25 t26 t27 t28 ds (l.setIfInBounds i true) a' w'') a w':=by
 simp only [al1O,findR,Tryz.f184,Option.bind_some,Option.or,Option.getD,Nat.reduceEqDiff,if_true,if_false,reduceIte];rintro l a w' ⟨j0,j1,j2,j3,j4,j5,j6,j7,j8,j9,x0,x1,x2,x3,x4,x5,x6,x7,x8,g8,rfl,rfl,hB,h0,h1,h2,h3,h4,h5,h6,h7,a8,s8⟩ i hi;rw [mem_ready] at hi;obtain⟨hu,oo,ho,hd⟩:=hi;have hin:i<10:=by
  have:=(Array.getElem?_eq_some_iff.1 ho).1
  simpa using this
 replace h0:=Φ h0;replace h1:=Φ h1;replace h2:=Φ h2;replace h3:=Φ h3;replace h4:=Φ h4;replace h5:=Φ h5;replace h6:=Φ h6;replace h7:=Φ h7;have hcase:i=0∨i=1∨i=2∨i=3∨i=4∨i=5∨i=6∨i=7∨i=8∨i=9:=by omega
 rcases hcase with rfl | rfl | rfl | rfl | rfl | rfl | rfl | rfl | rfl | rfl
 all_goals obtain rfl:=Option.some.inj ho
 all_goals simp [Region.binds] at hu hd
 ·clear hd;refine wpOp_of rfl rfl ?_;have i0:w'.cell? ⟨gr,0,none⟩=some (υ r 0):=(KR.below hB).cell 0;have i1:w'.cell? ⟨gr,1,none⟩=some (υ r 1):=(KR.below hB).cell 1;have i2:w'.cell? ⟨gr,2,none⟩=some (υ r 2):=(KR.below hB).cell 2;have i3:w'.cell? ⟨gr,3,none⟩=some (υ r 3):=(KR.below hB).cell 3;go_simp;unfold al1I;exact⟨true,j1,j2,j3,j4,j5,j6,j7,j8,j9,_,x1,x2,x3,x4,x5,x6,x7,x8,g8,rfl,rfl,hB,fun _=>rfl,h1.out,h2.out,h3.out,h4.out,h5.out,h6.out,h7.out,a8,s8⟩
 ·clear hd;refine wpOp_of rfl rfl ?_;have i0:w'.cell? ⟨gr,0,none⟩=some (υ r 0):=(KR.below hB).cell 0;have i1:w'.cell? ⟨gr,1,none⟩=some (υ r 1):=(KR.below hB).cell 1;have i2:w'.cell? ⟨gr,2,none⟩=some (υ r 2):=(KR.below hB).cell 2;have i3:w'.cell? ⟨gr,3,none⟩=some (υ r 3):=(KR.below hB).cell 3;go_simp;unfold al1I;exact⟨j0,true,j2,j3,j4,j5,j6,j7,j8,j9,x0,_,x2,x3,x4,x5,x6,x7,x8,g8,rfl,rfl,hB,h0.out,fun _=>rfl,h2.out,h3.out,h4.out,h5.out,h6.out,h7.out,a8,s8⟩
 ·have d0:j0=true:=by simp [hd]
  obtain rfl:=h0.out d0;have d1:j1=true:=by simp [hd]
  obtain rfl:=h1.out d1;subst d0 d1;clear hd;refine wpOp_of rfl rfl ?_;go_simp;go_at_call 108;refine(keep w.heap.size w (H1.out _) hB (Nat.le_refl _)).mono ?_;rintro e w2 ⟨rfl,hB2,hb2⟩;unfold al1I;exact⟨true,true,true,j3,j4,j5,j6,j7,j8,j9,_,_,_,x3,x4,x5,x6,x7,x8,g8,rfl,rfl,hB2,h0.out,h1.out,fun _=>rfl,h3.out,h4.out,h5.out,h6.out,h7.out,(fun hj=>by obtain⟨q1,q2,z0,z1,z2,z3,q3,q4⟩:=a8 hj;exact⟨q1,q2,z0,z1,z2,z3,q3.below hb2,q4⟩),s8⟩
 ·clear hd;refine wpOp_of rfl rfl ?_;go_simp;unfold al1I;exact⟨j0,j1,j2,true,j4,j5,j6,j7,j8,j9,x0,x1,x2,_,x4,x5,x6,x7,x8,g8,rfl,rfl,hB,h0.out,h1.out,h2.out,fun _=>rfl,h4.out,h5.out,h6.out,h7.out,a8,s8⟩
 ·have d3:j3=true:=by simp [hd]
  obtain rfl:=h3.out d3;subst d3;clear hd;refine wpOp_of rfl rfl ?_;have i0:w'.cell? ⟨gp,0,none⟩=some (υ x 0):=(KP.below hB).cell 0;have i1:w'.cell? ⟨gp,1,none⟩=some (υ x 1):=(KP.below hB).cell 1;have i2:w'.cell? ⟨gp,2,none⟩=some (υ x 2):=(KP.below hB).cell 2;have i3:w'.cell? ⟨gp,3,none⟩=some (υ x 3):=(KP.below hB).cell 3;go_simp;unfold al1I;exact⟨j0,j1,j2,true,true,j5,j6,j7,j8,j9,x0,x1,x2,_,_,x5,x6,x7,x8,g8,rfl,rfl,hB,h0.out,h1.out,h2.out,h3.out,fun _=>rfl,h5.out,h6.out,h7.out,a8,s8⟩
 ·have d2:j2=true:=by simp [hd]
  obtain rfl:=h2.out d2;have d4:j4=true:=by simp [hd]
  obtain rfl:=h4.out d4;subst d2 d4;clear hd;refine wpOp_of rfl rfl ?_;go_simp;go_at_call 110;refine(keep w.heap.size w (H2.out _) hB (Nat.le_refl _)).mono ?_;rintro e w2 ⟨rfl,hB2,hb2⟩;unfold al1I;exact⟨j0,j1,true,j3,true,true,j6,j7,j8,j9,x0,x1,_,x3,_,_,x6,x7,x8,g8,rfl,rfl,hB2,h0.out,h1.out,h2.out,h3.out,h4.out,fun _=>rfl,h6.out,h7.out,(fun hj=>by obtain⟨q1,q2,z0,z1,z2,z3,q3,q4⟩:=a8 hj;exact⟨q1,q2,z0,z1,z2,z3,q3.below hb2,q4⟩),s8⟩
 ·clear hd;refine wpOp_of rfl rfl ?_;have i0:w'.cell? ⟨go,0,none⟩=some (υ o 0):=(KO.below hB).cell 0;have i1:w'.cell? ⟨go,1,none⟩=some (υ o 1):=(KO.below hB).cell 1;have i2:w'.cell? ⟨go,2,none⟩=some (υ o 2):=(KO.below hB).cell 2;have i3:w'.cell? ⟨go,3,none⟩=some (υ o 3):=(KO.below hB).cell 3;go_simp;unfold al1I;exact⟨j0,j1,j2,j3,j4,j5,true,j7,j8,j9,x0,x1,x2,x3,x4,x5,_,x7,x8,g8,rfl,rfl,hB,h0.out,h1.out,h2.out,h3.out,h4.out,h5.out,fun _=>rfl,h7.out,a8,s8⟩
 ·have d5:j5=true:=by simp [hd]
  obtain rfl:=h5.out d5;have d6:j6=true:=by simp [hd]
  obtain rfl:=h6.out d6;subst d5 d6;clear hd;refine wpOp_of rfl rfl ?_;go_simp;go_at_call 110;refine(keep w.heap.size w (H3.out _) hB (Nat.le_refl _)).mono ?_;rintro e w2 ⟨rfl,hB2,hb2⟩;unfold al1I;exact⟨j0,j1,j2,j3,j4,true,true,true,j8,j9,x0,x1,x2,x3,x4,_,_,_,x8,g8,rfl,rfl,hB2,h0.out,h1.out,h2.out,h3.out,h4.out,h5.out,h6.out,fun _=>rfl,(fun hj=>by obtain⟨q1,q2,z0,z1,z2,z3,q3,q4⟩:=a8 hj;exact⟨q1,q2,z0,z1,z2,z3,q3.below hb2,q4⟩),s8⟩
 ·clear hd;refine wpOp_of rfl rfl ?_;have hs:=hB.size;go_simp;unfold al1I;exact⟨j0,j1,j2,j3,j4,j5,j6,j7,true,j9,x0,x1,x2,x3,x4,x5,x6,x7,_,w'.heap.size,rfl,rfl,(by go_grown),h0.out,h1.out,h2.out,h3.out,h4.out,h5.out,h6.out,h7.out,(fun _=>⟨rfl,hs,_,_,_,_,Bk.new rfl,fun hj=>absurd (s8 hj) (by simp [hu])⟩),(fun _=>rfl)⟩
 ·have d7:j7=true:=by simp [hd]
  obtain rfl:=h7.out d7;have d8:j8=true:=by simp [hd]
  subst d7 d8;clear hd;refine wpOp_of rfl rfl ?_;obtain⟨p1,p2,z0,z1,z2,z3,p3,p4⟩:=a8 rfl;subst p1;obtain⟨f0,f1,f2,f3⟩:=p3.fros;obtain⟨c0,c1,c2,c3⟩:=p3.cells;clear a8;go_simp;unfold al1I;exact⟨j0,j1,j2,j3,j4,j5,j6,true,true,true,x0,x1,x2,x3,x4,x5,x6,_,_,g8,rfl,rfl,(by go_grown),h0.out,h1.out,h2.out,h3.out,h4.out,h5.out,h6.out,h7.out,(fun _=>⟨rfl,p2,_,_,_,_,Bk.put p3,fun _=>rfl⟩),(fun _=>rfl)⟩
theorem al1_fin (gp gr go x y z r o rr d1 d2:Nat)(w:World)
  :∀l a w',al1I w gp gr go x y z r o rr d1 d2 t0 t1 t2 t6 t16 t17 t18 t19 t20 t21 t22 t23 t24 t25 t26 t27 t28 ds l a w'→Region.ready .any al1O l=[]→
  ∃(y0 y1 y2 y3 y4 y5 y6 y7:Value) (g8:Nat),a={tmps:=#[t0,t1,t2,.pointer (some ⟨gp,0,none⟩),.pointer (some ⟨gr,0,none⟩),.pointer (some ⟨go,0,none⟩),t6,.pointer (some ⟨g8,0,none⟩),y0,y1,y2,y3,y4,y5,y6,y7,t16,t17,t18,t19,t20,t21,t22,t23,t24,t25,t26,t27,t28],defers:=ds}∧Below w.heap.size w w'∧w.heap.size≤g8∧Bk 24 w' g8 #[υ d2 0,υ d2 1,υ d2 2,υ d2 3]:=by
 simp only [al1O,findR,Tryz.f184,Option.bind_some,Option.or,Option.getD,Nat.reduceEqDiff,if_true,if_false,reduceIte];rintro l a w' ⟨j0,j1,j2,j3,j4,j5,j6,j7,j8,j9,x0,x1,x2,x3,x4,x5,x6,x7,x8,g8,rfl,rfl,hB,h0,h1,h2,h3,h4,h5,h6,h7,a8,s8⟩ hr;have hn:=fun i=>List.eq_nil_iff_forall_not_mem.1 hr i
 clear hr;cases j0;exact(ab hn 0).elim
 obtain rfl:=h0 rfl;cases j1;exact(ab hn 1).elim
 obtain rfl:=h1 rfl;cases j2;exact(ab hn 2).elim
 obtain rfl:=h2 rfl;cases j3;exact(ab hn 3).elim
 obtain rfl:=h3 rfl;cases j4;exact(ab hn 4).elim
 obtain rfl:=h4 rfl;cases j5;exact(ab hn 5).elim
 obtain rfl:=h5 rfl;cases j6;exact(ab hn 6).elim
 obtain rfl:=h6 rfl;cases j7;exact(ab hn 7).elim
 obtain rfl:=h7 rfl;cases j8;exact(ab hn 8).elim
 cases j9;exact(ab hn 9).elim
 obtain⟨rfl,l8,z0,z1,z2,z3,b8,r8⟩:=a8 rfl;rw [r8 rfl] at b8;exact⟨_,_,_,_,_,_,_,_,g8,rfl,hB,l8,b8⟩
theorem al1 (gp gr go x y z r o rr d1 d2:Nat)(w:World)(KP:Bk 162 w gp #[υ x 0,υ x 1,υ x 2,υ x 3,υ y 0,υ y 1,υ y 2,υ y 3,υ z 0,υ z 1,υ z 2,υ z 3])(KR:Bk 24 w gr #[υ r 0,υ r 1,υ r 2,υ r 3])(KO:Bk 24 w go #[υ o 0,υ o 1,υ o 2,υ o 3])(H1:Hid (∀w,Calls Tryz.prog 108 #[.agg #[υ r 0,υ r 1,υ r 2,υ r 3],.agg #[υ r 0,υ r 1,υ r 2,υ r 3]] w fun e w'=>e = .returned (.agg #[υ rr 0,υ rr 1,υ rr 2,υ rr 3])∧Below w.heap.size w w'))(H2:Hid (∀w,Calls Tryz.prog 110 #[.agg #[υ rr 0,υ rr 1,υ rr 2,υ rr 3],.agg #[υ x 0,υ x 1,υ x 2,υ x 3]] w fun e w'=>e = .returned (.agg #[υ d1 0,υ d1 1,υ d1 2,υ d1 3])∧Below w.heap.size w w'))(H3:Hid (∀w,Calls Tryz.prog 110 #[.agg #[υ d1 0,υ d1 1,υ d1 2,υ d1 3],.agg #[υ o 0,υ o 1,υ o 2,υ o 3]] w fun e w'=>e = .returned (.agg #[υ d2 0,υ d2 1,υ d2 2,υ d2 3])∧Below w.heap.size w w'))
  {K:Act→World→Prop} 
  (h:∀(y0 y1 y2 y3 y4 y5 y6 y7:Value) (g8:Nat) (w':World) (hb:Below w.heap.size w w') (hg8:w.heap.size≤g8) (hk8:Bk 24 w' g8 #[υ d2 0,υ d2 1,υ d2 2,υ d2 3]),K {tmps:=#[t0,t1,t2,.pointer (some ⟨gp,0,none⟩),.pointer (some ⟨gr,0,none⟩),.pointer (some ⟨go,0,none⟩),t6,.pointer (some ⟨g8,0,none⟩),y0,y1,y2,y3,y4,y5,y6,y7,t16,t17,t18,t19,t20,t21,t22,t23,t24,t25,t26,t27,t28],defers:=ds} w') :
  (Code.region 1 al1O true).wp Tryz.prog (Exit.then K Q) {tmps:=#[t0,t1,t2,.pointer (some ⟨gp,0,none⟩),.pointer (some ⟨gr,0,none⟩),.pointer (some ⟨go,0,none⟩),t6,t7,t8,t9,t10,t11,t12,t13,t14,t15,t16,t17,t18,t19,t20,t21,t22,t23,t24,t25,t26,t27,t28],defers:=ds} w:=by
 have hsz:al1O.size=10:=by kernel_rfl
 refine wp_region_any mixed ?_;rw [hsz];refine wpAny_inv (I:=al1I w gp gr go x y z r o rr d1 d2 t0 t1 t2 t6 t16 t17 t18 t19 t20 t21 t22 t23 t24 t25 t26 t27 t28 ds) (al1_steps gp gr go x y z r o rr d1 d2 w KP KR KO H1 H2 H3) (fun l a w' hI hr=>?_) 10 _ _ _ (by decide) ?_
 ·obtain⟨y0,y1,y2,y3,y4,y5,y6,y7,g8,rfl,hb,l8,b8⟩:=al1_fin gp gr go x y z r o rr d1 d2 w l a w' hI hr;exact h _ _ _ _ _ _ _ _ g8 w' hb l8 b8
 ·exact⟨false,false,false,false,false,false,false,false,false,false,t8,t9,t10,t11,t12,t13,t14,t15,t7,0,rfl,rfl,⟨rfl,rfl,rfl,Nat.le_refl _,fun _ _=>rfl⟩,(fun h=>by cases h),(fun h=>by cases h),(fun h=>by cases h),(fun h=>by cases h),(fun h=>by cases h),(fun h=>by cases h),(fun h=>by cases h),(fun h=>by cases h),(fun h=>by cases h),(fun h=>by cases h)⟩
def tw4I (w0:World)(gp gs x y z q dd ss mm rise:Nat)(t0 t2 t5 t6 t7 t8 t9 t10 t11 t12 t13 t24 t25 t26 t27 t28 t29 t30 t31 t32 t33 t34 t35:Value)(ds:List Deferred)(l:Array Bool)(a:Act)(w:World): Prop:=
 ∃j0 j1 j2 j3 j4 j5 j6 j7 j8 j9 j10 j11:Bool,∃x0 x1 x2 x3 x4 x5 x6 x7 x8 x9 x10:Value,∃g10:Nat,l=#[j0,j1,j2,j3,j4,j5,j6,j7,j8,j9,j10,j11]∧a={tmps:=#[t0,.pointer (some ⟨gp,0,none⟩),t2,.pointer (some ⟨gs,0,none⟩),x10,t5,t6,t7,t8,t9,t10,t11,t12,t13,x0,x1,x2,x3,x4,x5,x6,x7,x8,x9,t24,t25,t26,t27,t28,t29,t30,t31,t32,t33,t34,t35],defers:=ds}∧Below w0.heap.size w0 w∧
 (j0=true→x0 = .pointer (some ⟨gp,0,none⟩))∧
 (j1=true→x1 = .agg #[υ x 0,υ x 1,υ x 2,υ x 3])∧
 (j2=true→x2 = .agg #[υ q 0,υ q 1,υ q 2,υ q 3])∧
 (j3=true→x3 = .agg #[υ dd 0,υ dd 1,υ dd 2,υ dd 3])∧
 (j4=true→x4 = .pointer (some ⟨gp,0,none⟩))∧
 (j5=true→x5 = .agg #[υ x 0,υ x 1,υ x 2,υ x 3])∧
 (j6=true→x6 = .agg #[υ q 0,υ q 1,υ q 2,υ q 3])∧
 (j7=true→x7 = .agg #[υ ss 0,υ ss 1,υ ss 2,υ ss 3])∧
 (j8=true→x8 = .agg #[υ mm 0,υ mm 1,υ mm 2,υ mm 3])∧
 (j9=true→x9 = .agg #[υ rise 0,υ rise 1,υ rise 2,υ rise 3])∧
 (j10=true→x10 = .pointer (some ⟨g10,0,none⟩)∧w0.heap.size≤g10∧∃z0 z1 z2 z3:Value,Bk 24 w g10 #[z0,z1,z2,z3]∧(j11=true→#[z0,z1,z2,z3]=#[υ rise 0,υ rise 1,υ rise 2,υ rise 3]))∧
 (j11=true→j10=true)
noncomputable def tw4O:Array Oper:=(Tryz.f168.body.bind fun c=>findR c 4).getD #[]
theorem tw4_steps (gp gs x y z q dd ss mm rise:Nat)(w:World)(KP:Bk 162 w gp #[υ x 0,υ x 1,υ x 2,υ x 3,υ y 0,υ y 1,υ y 2,υ y 3,υ z 0,υ z 1,υ z 2,υ z 3])(KS:Bk 24 w gs #[υ q 0,υ q 1,υ q 2,υ q 3])(H1:Hid (∀w,Calls Tryz.prog 110 #[.agg #[υ x 0,υ x 1,υ x 2,υ x 3],.agg #[υ q 0,υ q 1,υ q 2,υ q 3]] w fun e w'=>e = .returned (.agg #[υ dd 0,υ dd 1,υ dd 2,υ dd 3])∧Below w.heap.size w w'))(H2:Hid (∀w,Calls Tryz.prog 109 #[.agg #[υ x 0,υ x 1,υ x 2,υ x 3],.agg #[υ q 0,υ q 1,υ q 2,υ q 3]] w fun e w'=>e = .returned (.agg #[υ ss 0,υ ss 1,υ ss 2,υ ss 3])∧Below w.heap.size w w'))(H3:Hid (∀w,Calls Tryz.prog 108 #[.agg #[υ dd 0,υ dd 1,υ dd 2,υ dd 3],.agg #[υ ss 0,υ ss 1,υ ss 2,υ ss 3]] w fun e w'=>e = .returned (.agg #[υ mm 0,υ mm 1,υ mm 2,υ mm 3])∧Below w.heap.size w w'))(H4:Hid (∀w,Calls Tryz.prog 111 #[.agg #[υ mm 0,υ mm 1,υ mm 2,υ mm 3]] w fun e w'=>e = .returned (.agg #[υ rise 0,υ rise 1,υ rise 2,υ rise 3])∧Below w.heap.size w w'))
  :
  ∀l a w',tw4I w gp gs x y z q dd ss mm rise t0 t2 t5 t6 t7 t8 t9 t10 t11 t12 t13 t24 t25 t26 t27 t28 t29 t30 t31 t32 t33 t34 t35 ds l a w'→∀i∈Region.ready .any tw4O l,wpOp Tryz.prog tw4O Q i (fun a' w''=>tw4I w gp gs x y z q dd ss mm rise t0 t2 t5 t6 t7 t8 t9 t10 t11 t12 t13 t24 t25 t26 t27 t28 t29 t30 t31 t32 t33 t34 t35 ds (l.setIfInBounds i true) a' w'') a w':=by
 simp only [tw4O,findR,Tryz.f168,Option.bind_some,Option.or,Option.getD,Nat.reduceEqDiff,if_true,if_false,reduceIte];rintro l a w' ⟨j0,j1,j2,j3,j4,j5,j6,j7,j8,j9,j10,j11,x0,x1,x2,x3,x4,x5,x6,x7,x8,x9,x10,g10,rfl,rfl,hB,h0,h1,h2,h3,h4,h5,h6,h7,h8,h9,a10,s10⟩ i hi;rw [mem_ready] at hi;obtain⟨hu,oo,ho,hd⟩:=hi;have hin:i<12:=by
  have:=(Array.getElem?_eq_some_iff.1 ho).1
  simpa using this
 replace h0:=Φ h0;replace h1:=Φ h1;replace h2:=Φ h2;replace h3:=Φ h3;replace h4:=Φ h4;replace h5:=Φ h5;replace h6:=Φ h6;replace h7:=Φ h7;replace h8:=Φ h8;replace h9:=Φ h9;have hcase:i=0∨i=1∨i=2∨i=3∨i=4∨i=5∨i=6∨i=7∨i=8∨i=9∨i=10∨i=11:=by omega
 rcases hcase with rfl | rfl | rfl | rfl | rfl | rfl | rfl | rfl | rfl | rfl | rfl | rfl
 all_goals obtain rfl:=Option.some.inj ho
 all_goals simp [Region.binds] at hu hd
 ·clear hd;refine wpOp_of rfl rfl ?_;go_simp;unfold tw4I;exact⟨true,j1,j2,j3,j4,j5,j6,j7,j8,j9,j10,j11,_,x1,x2,x3,x4,x5,x6,x7,x8,x9,x10,g10,rfl,rfl,hB,fun _=>rfl,h1.out,h2.out,h3.out,h4.out,h5.out,h6.out,h7.out,h8.out,h9.out,a10,s10⟩
 ·have d0:j0=true:=by simp [hd]
  obtain rfl:=h0.out d0;subst d0;clear hd;refine wpOp_of rfl rfl ?_;have i0:w'.cell? ⟨gp,0,none⟩=some (υ x 0):=(KP.below hB).cell 0;have i1:w'.cell? ⟨gp,1,none⟩=some (υ x 1):=(KP.below hB).cell 1;have i2:w'.cell? ⟨gp,2,none⟩=some (υ x 2):=(KP.below hB).cell 2;have i3:w'.cell? ⟨gp,3,none⟩=some (υ x 3):=(KP.below hB).cell 3;go_simp;unfold tw4I;exact⟨true,true,j2,j3,j4,j5,j6,j7,j8,j9,j10,j11,_,_,x2,x3,x4,x5,x6,x7,x8,x9,x10,g10,rfl,rfl,hB,h0.out,fun _=>rfl,h2.out,h3.out,h4.out,h5.out,h6.out,h7.out,h8.out,h9.out,a10,s10⟩
 ·clear hd;refine wpOp_of rfl rfl ?_;have i0:w'.cell? ⟨gs,0,none⟩=some (υ q 0):=(KS.below hB).cell 0;have i1:w'.cell? ⟨gs,1,none⟩=some (υ q 1):=(KS.below hB).cell 1;have i2:w'.cell? ⟨gs,2,none⟩=some (υ q 2):=(KS.below hB).cell 2;have i3:w'.cell? ⟨gs,3,none⟩=some (υ q 3):=(KS.below hB).cell 3;go_simp;unfold tw4I;exact⟨j0,j1,true,j3,j4,j5,j6,j7,j8,j9,j10,j11,x0,x1,_,x3,x4,x5,x6,x7,x8,x9,x10,g10,rfl,rfl,hB,h0.out,h1.out,fun _=>rfl,h3.out,h4.out,h5.out,h6.out,h7.out,h8.out,h9.out,a10,s10⟩
 ·have d1:j1=true:=by simp [hd]
  obtain rfl:=h1.out d1;have d2:j2=true:=by simp [hd]
  obtain rfl:=h2.out d2;subst d1 d2;clear hd;refine wpOp_of rfl rfl ?_;go_simp;go_at_call 110;refine(keep w.heap.size w (H1.out _) hB (Nat.le_refl _)).mono ?_;rintro e w2 ⟨rfl,hB2,hb2⟩;unfold tw4I;exact⟨j0,true,true,true,j4,j5,j6,j7,j8,j9,j10,j11,x0,_,_,_,x4,x5,x6,x7,x8,x9,x10,g10,rfl,rfl,hB2,h0.out,h1.out,h2.out,fun _=>rfl,h4.out,h5.out,h6.out,h7.out,h8.out,h9.out,(fun hj=>by obtain⟨q1,q2,z0,z1,z2,z3,q3,q4⟩:=a10 hj;exact⟨q1,q2,z0,z1,z2,z3,q3.below hb2,q4⟩),s10⟩
 ·clear hd;refine wpOp_of rfl rfl ?_;go_simp;unfold tw4I;exact⟨j0,j1,j2,j3,true,j5,j6,j7,j8,j9,j10,j11,x0,x1,x2,x3,_,x5,x6,x7,x8,x9,x10,g10,rfl,rfl,hB,h0.out,h1.out,h2.out,h3.out,fun _=>rfl,h5.out,h6.out,h7.out,h8.out,h9.out,a10,s10⟩
 ·have d4:j4=true:=by simp [hd]
  obtain rfl:=h4.out d4;subst d4;clear hd;refine wpOp_of rfl rfl ?_;have i0:w'.cell? ⟨gp,0,none⟩=some (υ x 0):=(KP.below hB).cell 0;have i1:w'.cell? ⟨gp,1,none⟩=some (υ x 1):=(KP.below hB).cell 1;have i2:w'.cell? ⟨gp,2,none⟩=some (υ x 2):=(KP.below hB).cell 2;have i3:w'.cell? ⟨gp,3,none⟩=some (υ x 3):=(KP.below hB).cell 3;go_simp;unfold tw4I;exact⟨j0,j1,j2,j3,true,true,j6,j7,j8,j9,j10,j11,x0,x1,x2,x3,_,_,x6,x7,x8,x9,x10,g10,rfl,rfl,hB,h0.out,h1.out,h2.out,h3.out,h4.out,fun _=>rfl,h6.out,h7.out,h8.out,h9.out,a10,s10⟩
 ·clear hd;refine wpOp_of rfl rfl ?_;have i0:w'.cell? ⟨gs,0,none⟩=some (υ q 0):=(KS.below hB).cell 0;have i1:w'.cell? ⟨gs,1,none⟩=some (υ q 1):=(KS.below hB).cell 1;have i2:w'.cell? ⟨gs,2,none⟩=some (υ q 2):=(KS.below hB).cell 2;have i3:w'.cell? ⟨gs,3,none⟩=some (υ q 3):=(KS.below hB).cell 3;go_simp;unfold tw4I;exact⟨j0,j1,j2,j3,j4,j5,true,j7,j8,j9,j10,j11,x0,x1,x2,x3,x4,x5,_,x7,x8,x9,x10,g10,rfl,rfl,hB,h0.out,h1.out,h2.out,h3.out,h4.out,h5.out,fun _=>rfl,h7.out,h8.out,h9.out,a10,s10⟩
 ·have d5:j5=true:=by simp [hd]
  obtain rfl:=h5.out d5;have d6:j6=true:=by simp [hd]
  obtain rfl:=h6.out d6;subst d5 d6;clear hd;refine wpOp_of rfl rfl ?_;go_simp;go_at_call 109;refine(keep w.heap.size w (H2.out _) hB (Nat.le_refl _)).mono ?_;rintro e w2 ⟨rfl,hB2,hb2⟩;unfold tw4I;exact⟨j0,j1,j2,j3,j4,true,true,true,j8,j9,j10,j11,x0,x1,x2,x3,x4,_,_,_,x8,x9,x10,g10,rfl,rfl,hB2,h0.out,h1.out,h2.out,h3.out,h4.out,h5.out,h6.out,fun _=>rfl,h8.out,h9.out,(fun hj=>by obtain⟨q1,q2,z0,z1,z2,z3,q3,q4⟩:=a10 hj;exact⟨q1,q2,z0,z1,z2,z3,q3.below hb2,q4⟩),s10⟩
 ·have d3:j3=true:=by simp [hd]
  obtain rfl:=h3.out d3;have d7:j7=true:=by simp [hd]
  obtain rfl:=h7.out d7;subst d3 d7;clear hd;refine wpOp_of rfl rfl ?_;go_simp;go_at_call 108;refine(keep w.heap.size w (H3.out _) hB (Nat.le_refl _)).mono ?_;rintro e w2 ⟨rfl,hB2,hb2⟩;unfold tw4I;exact⟨j0,j1,j2,true,j4,j5,j6,true,true,j9,j10,j11,x0,x1,x2,_,x4,x5,x6,_,_,x9,x10,g10,rfl,rfl,hB2,h0.out,h1.out,h2.out,h3.out,h4.out,h5.out,h6.out,h7.out,fun _=>rfl,h9.out,(fun hj=>by obtain⟨q1,q2,z0,z1,z2,z3,q3,q4⟩:=a10 hj;exact⟨q1,q2,z0,z1,z2,z3,q3.below hb2,q4⟩),s10⟩
 ·have d8:j8=true:=by simp [hd]
  obtain rfl:=h8.out d8;subst d8;clear hd;refine wpOp_of rfl rfl ?_;go_simp;go_at_call 111;refine(keep w.heap.size w (H4.out _) hB (Nat.le_refl _)).mono ?_;rintro e w2 ⟨rfl,hB2,hb2⟩;unfold tw4I;exact⟨j0,j1,j2,j3,j4,j5,j6,j7,true,true,j10,j11,x0,x1,x2,x3,x4,x5,x6,x7,_,_,x10,g10,rfl,rfl,hB2,h0.out,h1.out,h2.out,h3.out,h4.out,h5.out,h6.out,h7.out,h8.out,fun _=>rfl,(fun hj=>by obtain⟨q1,q2,z0,z1,z2,z3,q3,q4⟩:=a10 hj;exact⟨q1,q2,z0,z1,z2,z3,q3.below hb2,q4⟩),s10⟩
 ·clear hd;refine wpOp_of rfl rfl ?_;have hs:=hB.size;go_simp;unfold tw4I;exact⟨j0,j1,j2,j3,j4,j5,j6,j7,j8,j9,true,j11,x0,x1,x2,x3,x4,x5,x6,x7,x8,x9,_,w'.heap.size,rfl,rfl,(by go_grown),h0.out,h1.out,h2.out,h3.out,h4.out,h5.out,h6.out,h7.out,h8.out,h9.out,(fun _=>⟨rfl,hs,_,_,_,_,Bk.new rfl,fun hj=>absurd (s10 hj) (by simp [hu])⟩),(fun _=>rfl)⟩
 ·have d9:j9=true:=by simp [hd]
  obtain rfl:=h9.out d9;have d10:j10=true:=by simp [hd]
  subst d9 d10;clear hd;refine wpOp_of rfl rfl ?_;obtain⟨p1,p2,z0,z1,z2,z3,p3,p4⟩:=a10 rfl;subst p1;obtain⟨f0,f1,f2,f3⟩:=p3.fros;obtain⟨c0,c1,c2,c3⟩:=p3.cells;clear a10;go_simp;unfold tw4I;exact⟨j0,j1,j2,j3,j4,j5,j6,j7,j8,true,true,true,x0,x1,x2,x3,x4,x5,x6,x7,x8,_,_,g10,rfl,rfl,(by go_grown),h0.out,h1.out,h2.out,h3.out,h4.out,h5.out,h6.out,h7.out,h8.out,h9.out,(fun _=>⟨rfl,p2,_,_,_,_,Bk.put p3,fun _=>rfl⟩),(fun _=>rfl)⟩
theorem tw4_fin (gp gs x y z q dd ss mm rise:Nat)(w:World)
  :∀l a w',tw4I w gp gs x y z q dd ss mm rise t0 t2 t5 t6 t7 t8 t9 t10 t11 t12 t13 t24 t25 t26 t27 t28 t29 t30 t31 t32 t33 t34 t35 ds l a w'→Region.ready .any tw4O l=[]→
  ∃(y0 y1 y2 y3 y4 y5 y6 y7 y8 y9:Value) (g10:Nat),a={tmps:=#[t0,.pointer (some ⟨gp,0,none⟩),t2,.pointer (some ⟨gs,0,none⟩),.pointer (some ⟨g10,0,none⟩),t5,t6,t7,t8,t9,t10,t11,t12,t13,y0,y1,y2,y3,y4,y5,y6,y7,y8,y9,t24,t25,t26,t27,t28,t29,t30,t31,t32,t33,t34,t35],defers:=ds}∧Below w.heap.size w w'∧w.heap.size≤g10∧Bk 24 w' g10 #[υ rise 0,υ rise 1,υ rise 2,υ rise 3]:=by
 simp only [tw4O,findR,Tryz.f168,Option.bind_some,Option.or,Option.getD,Nat.reduceEqDiff,if_true,if_false,reduceIte];rintro l a w' ⟨j0,j1,j2,j3,j4,j5,j6,j7,j8,j9,j10,j11,x0,x1,x2,x3,x4,x5,x6,x7,x8,x9,x10,g10,rfl,rfl,hB,h0,h1,h2,h3,h4,h5,h6,h7,h8,h9,a10,s10⟩ hr;have hn:=fun i=>List.eq_nil_iff_forall_not_mem.1 hr i
 clear hr;cases j0;exact(ab hn 0).elim
 obtain rfl:=h0 rfl;cases j1;exact(ab hn 1).elim
 obtain rfl:=h1 rfl;cases j2;exact(ab hn 2).elim
 obtain rfl:=h2 rfl;cases j3;exact(ab hn 3).elim
 obtain rfl:=h3 rfl;cases j4;exact(ab hn 4).elim
 obtain rfl:=h4 rfl;cases j5;exact(ab hn 5).elim
 obtain rfl:=h5 rfl;cases j6;exact(ab hn 6).elim
 obtain rfl:=h6 rfl;cases j7;exact(ab hn 7).elim
 obtain rfl:=h7 rfl;cases j8;exact(ab hn 8).elim
 obtain rfl:=h8 rfl;cases j9;exact(ab hn 9).elim
 obtain rfl:=h9 rfl;cases j10;exact(ab hn 10).elim
 cases j11;exact(ab hn 11).elim
 obtain⟨rfl,l10,z0,z1,z2,z3,b10,r10⟩:=a10 rfl;rw [r10 rfl] at b10;exact⟨_,_,_,_,_,_,_,_,_,_,g10,rfl,hB,l10,b10⟩
theorem tw4 (gp gs x y z q dd ss mm rise:Nat)(w:World)(KP:Bk 162 w gp #[υ x 0,υ x 1,υ x 2,υ x 3,υ y 0,υ y 1,υ y 2,υ y 3,υ z 0,υ z 1,υ z 2,υ z 3])(KS:Bk 24 w gs #[υ q 0,υ q 1,υ q 2,υ q 3])(H1:Hid (∀w,Calls Tryz.prog 110 #[.agg #[υ x 0,υ x 1,υ x 2,υ x 3],.agg #[υ q 0,υ q 1,υ q 2,υ q 3]] w fun e w'=>e = .returned (.agg #[υ dd 0,υ dd 1,υ dd 2,υ dd 3])∧Below w.heap.size w w'))(H2:Hid (∀w,Calls Tryz.prog 109 #[.agg #[υ x 0,υ x 1,υ x 2,υ x 3],.agg #[υ q 0,υ q 1,υ q 2,υ q 3]] w fun e w'=>e = .returned (.agg #[υ ss 0,υ ss 1,υ ss 2,υ ss 3])∧Below w.heap.size w w'))(H3:Hid (∀w,Calls Tryz.prog 108 #[.agg #[υ dd 0,υ dd 1,υ dd 2,υ dd 3],.agg #[υ ss 0,υ ss 1,υ ss 2,υ ss 3]] w fun e w'=>e = .returned (.agg #[υ mm 0,υ mm 1,υ mm 2,υ mm 3])∧Below w.heap.size w w'))(H4:Hid (∀w,Calls Tryz.prog 111 #[.agg #[υ mm 0,υ mm 1,υ mm 2,υ mm 3]] w fun e w'=>e = .returned (.agg #[υ rise 0,υ rise 1,υ rise 2,υ rise 3])∧Below w.heap.size w w'))
  {K:Act→World→Prop} 
  (h:∀(y0 y1 y2 y3 y4 y5 y6 y7 y8 y9:Value) (g10:Nat) (w':World) (hb:Below w.heap.size w w') (hg10:w.heap.size≤g10) (hk10:Bk 24 w' g10 #[υ rise 0,υ rise 1,υ rise 2,υ rise 3]),K {tmps:=#[t0,.pointer (some ⟨gp,0,none⟩),t2,.pointer (some ⟨gs,0,none⟩),.pointer (some ⟨g10,0,none⟩),t5,t6,t7,t8,t9,t10,t11,t12,t13,y0,y1,y2,y3,y4,y5,y6,y7,y8,y9,t24,t25,t26,t27,t28,t29,t30,t31,t32,t33,t34,t35],defers:=ds} w') :
  (Code.region 4 tw4O true).wp Tryz.prog (Exit.then K Q) {tmps:=#[t0,.pointer (some ⟨gp,0,none⟩),t2,.pointer (some ⟨gs,0,none⟩),t4,t5,t6,t7,t8,t9,t10,t11,t12,t13,t14,t15,t16,t17,t18,t19,t20,t21,t22,t23,t24,t25,t26,t27,t28,t29,t30,t31,t32,t33,t34,t35],defers:=ds} w:=by
 have hsz:tw4O.size=12:=by kernel_rfl
 refine wp_region_any mixed ?_;rw [hsz];refine wpAny_inv (I:=tw4I w gp gs x y z q dd ss mm rise t0 t2 t5 t6 t7 t8 t9 t10 t11 t12 t13 t24 t25 t26 t27 t28 t29 t30 t31 t32 t33 t34 t35 ds) (tw4_steps gp gs x y z q dd ss mm rise w KP KS H1 H2 H3 H4) (fun l a w' hI hr=>?_) 12 _ _ _ (by decide) ?_
 ·obtain⟨y0,y1,y2,y3,y4,y5,y6,y7,y8,y9,g10,rfl,hb,l10,b10⟩:=tw4_fin gp gs x y z q dd ss mm rise w l a w' hI hr;exact h _ _ _ _ _ _ _ _ _ _ g10 w' hb l10 b10
 ·exact⟨false,false,false,false,false,false,false,false,false,false,false,false,t14,t15,t16,t17,t18,t19,t20,t21,t22,t23,t4,0,rfl,rfl,⟨rfl,rfl,rfl,Nat.le_refl _,fun _ _=>rfl⟩,(fun h=>by cases h),(fun h=>by cases h),(fun h=>by cases h),(fun h=>by cases h),(fun h=>by cases h),(fun h=>by cases h),(fun h=>by cases h),(fun h=>by cases h),(fun h=>by cases h),(fun h=>by cases h),(fun h=>by cases h),(fun h=>by cases h)⟩
def pl10I (w0:World)(gp gq x y z x' y' z' run rise:Nat)(t0 t1 t4 t7 t8 t9 t10 t11 t12 t13 t14 t15 t16 t17 t18 t19 t20 t21 t22 t23 t24 t25 t26 t27 t28 t29 t30 t31 t32 t33 t44 t45 t46 t47 t48 t49 t50 t51 t52 t53 t54:Value)(ds:List Deferred)(l:Array Bool)(a:Act)(w:World): Prop:=
 ∃j0 j1 j2 j3 j4 j5 j6 j7 j8 j9 j10 j11 j12 j13:Bool,∃x0 x1 x2 x3 x4 x5 x6 x7 x8 x9 x10 x11:Value,∃g10 g11:Nat,l=#[j0,j1,j2,j3,j4,j5,j6,j7,j8,j9,j10,j11,j12,j13]∧a={tmps:=#[t0,t1,.pointer (some ⟨gp,0,none⟩),.pointer (some ⟨gq,0,none⟩),t4,x10,x11,t7,t8,t9,t10,t11,t12,t13,t14,t15,t16,t17,t18,t19,t20,t21,t22,t23,t24,t25,t26,t27,t28,t29,t30,t31,t32,t33,x0,x1,x2,x3,x4,x5,x6,x7,x8,x9,t44,t45,t46,t47,t48,t49,t50,t51,t52,t53,t54],defers:=ds}∧Below w0.heap.size w0 w∧
 (j0=true→x0 = .pointer (some ⟨gq,0,none⟩))∧
 (j1=true→x1 = .agg #[.int .u64 (lb x' 0:Nat),.int .u64 (lb x' 1:Nat),.int .u64 (lb x' 2:Nat),.int .u64 (lb x' 3:Nat)])∧
 (j2=true→x2 = .pointer (some ⟨gp,0,none⟩))∧
 (j3=true→x3 = .agg #[υ x 0,υ x 1,υ x 2,υ x 3])∧
 (j4=true→x4 = .agg #[υ run 0,υ run 1,υ run 2,υ run 3])∧
 (j5=true→x5 = .pointer (some ⟨gq,4,none⟩))∧
 (j6=true→x6 = .agg #[.int .u64 (lb y' 0:Nat),.int .u64 (lb y' 1:Nat),.int .u64 (lb y' 2:Nat),.int .u64 (lb y' 3:Nat)])∧
 (j7=true→x7 = .pointer (some ⟨gp,4,none⟩))∧
 (j8=true→x8 = .agg #[υ y 0,υ y 1,υ y 2,υ y 3])∧
 (j9=true→x9 = .agg #[υ rise 0,υ rise 1,υ rise 2,υ rise 3])∧
 (j10=true→x10 = .pointer (some ⟨g10,0,none⟩)∧w0.heap.size≤g10∧∃z0 z1 z2 z3:Value,Bk 24 w g10 #[z0,z1,z2,z3]∧(j12=true→#[z0,z1,z2,z3]=#[υ run 0,υ run 1,υ run 2,υ run 3]))∧
 (j12=true→j10=true)∧
 (j11=true→x11 = .pointer (some ⟨g11,0,none⟩)∧w0.heap.size≤g11∧∃z0 z1 z2 z3:Value,Bk 24 w g11 #[z0,z1,z2,z3]∧(j13=true→#[z0,z1,z2,z3]=#[υ rise 0,υ rise 1,υ rise 2,υ rise 3]))∧
 (j13=true→j11=true)∧
 (j10=true→j11=true→g10≠g11)
noncomputable def pl10O:Array Oper:=(Tryz.f158.body.bind fun c=>findR c 10).getD #[]
theorem pl10_steps (gp gq x y z x' y' z' run rise:Nat)(w:World)(KP:Bk 162 w gp #[υ x 0,υ x 1,υ x 2,υ x 3,υ y 0,υ y 1,υ y 2,υ y 3,υ z 0,υ z 1,υ z 2,υ z 3])(KQ:Bk 162 w gq #[.int .u64 (lb x' 0:Nat),.int .u64 (lb x' 1:Nat),.int .u64 (lb x' 2:Nat),.int .u64 (lb x' 3:Nat),.int .u64 (lb y' 0:Nat),.int .u64 (lb y' 1:Nat),.int .u64 (lb y' 2:Nat),.int .u64 (lb y' 3:Nat),.int .u64 (lb z' 0:Nat),.int .u64 (lb z' 1:Nat),.int .u64 (lb z' 2:Nat),.int .u64 (lb z' 3:Nat)])(H1:Hid (∀w,Calls Tryz.prog 110 #[.agg #[.int .u64 (lb x' 0:Nat),.int .u64 (lb x' 1:Nat),.int .u64 (lb x' 2:Nat),.int .u64 (lb x' 3:Nat)],.agg #[υ x 0,υ x 1,υ x 2,υ x 3]] w fun e w'=>e = .returned (.agg #[υ run 0,υ run 1,υ run 2,υ run 3])∧Below w.heap.size w w'))(H2:Hid (∀w,Calls Tryz.prog 110 #[.agg #[.int .u64 (lb y' 0:Nat),.int .u64 (lb y' 1:Nat),.int .u64 (lb y' 2:Nat),.int .u64 (lb y' 3:Nat)],.agg #[υ y 0,υ y 1,υ y 2,υ y 3]] w fun e w'=>e = .returned (.agg #[υ rise 0,υ rise 1,υ rise 2,υ rise 3])∧Below w.heap.size w w'))
  :
  ∀l a w',pl10I w gp gq x y z x' y' z' run rise t0 t1 t4 t7 t8 t9 t10 t11 t12 t13 t14 t15 t16 t17 t18 t19 t20 t21 t22 t23 t24 t25 t26 t27 t28 t29 t30 t31 t32 t33 t44 t45 t46 t47 t48 t49 t50 t51 t52 t53 t54 ds l a w'→∀i∈Region.ready .any pl10O l,wpOp Tryz.prog pl10O Q i (fun a' w''=>pl10I w gp gq x y z x' y' z' run rise t0 t1 t4 t7 t8 t9 t10 t11 t12 t13 t14 t15 t16 t17 t18 t19 t20 t21 t22 t23 t24 t25 t26 t27 t28 t29 t30 t31 t32 t33 t44 t45 t46 t47 t48 t49 t50 t51 t52 t53 t54 ds (l.setIfInBounds i true) a' w'') a w':=by
 simp only [pl10O,findR,Tryz.f158,Option.bind_some,Option.or,Option.getD,Nat.reduceEqDiff,if_true,if_false,reduceIte];rintro l a w' ⟨j0,j1,j2,j3,j4,j5,j6,j7,j8,j9,j10,j11,j12,j13,x0,x1,x2,x3,x4,x5,x6,x7,x8,x9,x10,x11,g10,g11,rfl,rfl,hB,h0,h1,h2,h3,h4,h5,h6,h7,h8,h9,a10,s10,a11,s11,n10_11⟩ i hi;rw [mem_ready] at hi;obtain⟨hu,oo,ho,hd⟩:=hi;have hin:i<14:=by
  have:=(Array.getElem?_eq_some_iff.1 ho).1
  simpa using this
 replace h0:=Φ h0;replace h1:=Φ h1;replace h2:=Φ h2;replace h3:=Φ h3;replace h4:=Φ h4;replace h5:=Φ h5;replace h6:=Φ h6;replace h7:=Φ h7;replace h8:=Φ h8;replace h9:=Φ h9;have hcase:i=0∨i=1∨i=2∨i=3∨i=4∨i=5∨i=6∨i=7∨i=8∨i=9∨i=10∨i=11∨i=12∨i=13:=by omega
 rcases hcase with rfl | rfl | rfl | rfl | rfl | rfl | rfl | rfl | rfl | rfl | rfl | rfl | rfl | rfl
 all_goals obtain rfl:=Option.some.inj ho
 all_goals simp [Region.binds] at hu hd
 ·clear hd;refine wpOp_of rfl rfl ?_;go_simp;unfold pl10I;exact⟨true,j1,j2,j3,j4,j5,j6,j7,j8,j9,j10,j11,j12,j13,_,x1,x2,x3,x4,x5,x6,x7,x8,x9,x10,x11,g10,g11,rfl,rfl,hB,fun _=>rfl,h1.out,h2.out,h3.out,h4.out,h5.out,h6.out,h7.out,h8.out,h9.out,a10,s10,a11,s11,n10_11⟩
 ·have d0:j0=true:=by simp [hd]
  obtain rfl:=h0.out d0;subst d0;clear hd;refine wpOp_of rfl rfl ?_;have i0:w'.cell? ⟨gq,0,none⟩=some (.int .u64 (lb x' 0:Nat)):=(KQ.below hB).cell 0;have i1:w'.cell? ⟨gq,1,none⟩=some (.int .u64 (lb x' 1:Nat)):=(KQ.below hB).cell 1;have i2:w'.cell? ⟨gq,2,none⟩=some (.int .u64 (lb x' 2:Nat)):=(KQ.below hB).cell 2;have i3:w'.cell? ⟨gq,3,none⟩=some (.int .u64 (lb x' 3:Nat)):=(KQ.below hB).cell 3;go_simp;unfold pl10I;exact⟨true,true,j2,j3,j4,j5,j6,j7,j8,j9,j10,j11,j12,j13,_,_,x2,x3,x4,x5,x6,x7,x8,x9,x10,x11,g10,g11,rfl,rfl,hB,h0.out,fun _=>rfl,h2.out,h3.out,h4.out,h5.out,h6.out,h7.out,h8.out,h9.out,a10,s10,a11,s11,n10_11⟩
 ·clear hd;refine wpOp_of rfl rfl ?_;go_simp;unfold pl10I;exact⟨j0,j1,true,j3,j4,j5,j6,j7,j8,j9,j10,j11,j12,j13,x0,x1,_,x3,x4,x5,x6,x7,x8,x9,x10,x11,g10,g11,rfl,rfl,hB,h0.out,h1.out,fun _=>rfl,h3.out,h4.out,h5.out,h6.out,h7.out,h8.out,h9.out,a10,s10,a11,s11,n10_11⟩
 ·have d2:j2=true:=by simp [hd]
  obtain rfl:=h2.out d2;subst d2;clear hd;refine wpOp_of rfl rfl ?_;have i0:w'.cell? ⟨gp,0,none⟩=some (υ x 0):=(KP.below hB).cell 0;have i1:w'.cell? ⟨gp,1,none⟩=some (υ x 1):=(KP.below hB).cell 1;have i2:w'.cell? ⟨gp,2,none⟩=some (υ x 2):=(KP.below hB).cell 2;have i3:w'.cell? ⟨gp,3,none⟩=some (υ x 3):=(KP.below hB).cell 3;go_simp;unfold pl10I;exact⟨j0,j1,true,true,j4,j5,j6,j7,j8,j9,j10,j11,j12,j13,x0,x1,_,_,x4,x5,x6,x7,x8,x9,x10,x11,g10,g11,rfl,rfl,hB,h0.out,h1.out,h2.out,fun _=>rfl,h4.out,h5.out,h6.out,h7.out,h8.out,h9.out,a10,s10,a11,s11,n10_11⟩
 ·have d1:j1=true:=by simp [hd]
  obtain rfl:=h1.out d1;have d3:j3=true:=by simp [hd]
  obtain rfl:=h3.out d3;subst d1 d3;clear hd;refine wpOp_of rfl rfl ?_;go_simp;go_at_call 110;refine(keep w.heap.size w (H1.out _) hB (Nat.le_refl _)).mono ?_;rintro e w2 ⟨rfl,hB2,hb2⟩;unfold pl10I;exact⟨j0,true,j2,true,true,j5,j6,j7,j8,j9,j10,j11,j12,j13,x0,_,x2,_,_,x5,x6,x7,x8,x9,x10,x11,g10,g11,rfl,rfl,hB2,h0.out,h1.out,h2.out,h3.out,fun _=>rfl,h5.out,h6.out,h7.out,h8.out,h9.out,(fun hj=>by obtain⟨q1,q2,z0,z1,z2,z3,q3,q4⟩:=a10 hj;exact⟨q1,q2,z0,z1,z2,z3,q3.below hb2,q4⟩),s10,(fun hj=>by obtain⟨q1,q2,z0,z1,z2,z3,q3,q4⟩:=a11 hj;exact⟨q1,q2,z0,z1,z2,z3,q3.below hb2,q4⟩),s11,n10_11⟩
 ·clear hd;refine wpOp_of rfl rfl ?_;go_simp;unfold pl10I;exact⟨j0,j1,j2,j3,j4,true,j6,j7,j8,j9,j10,j11,j12,j13,x0,x1,x2,x3,x4,_,x6,x7,x8,x9,x10,x11,g10,g11,rfl,rfl,hB,h0.out,h1.out,h2.out,h3.out,h4.out,fun _=>rfl,h6.out,h7.out,h8.out,h9.out,a10,s10,a11,s11,n10_11⟩
 ·have d5:j5=true:=by simp [hd]
  obtain rfl:=h5.out d5;subst d5;clear hd;refine wpOp_of rfl rfl ?_;have i4:w'.cell? ⟨gq,4,none⟩=some (.int .u64 (lb y' 0:Nat)):=(KQ.below hB).cell 4;have i5:w'.cell? ⟨gq,5,none⟩=some (.int .u64 (lb y' 1:Nat)):=(KQ.below hB).cell 5;have i6:w'.cell? ⟨gq,6,none⟩=some (.int .u64 (lb y' 2:Nat)):=(KQ.below hB).cell 6;have i7:w'.cell? ⟨gq,7,none⟩=some (.int .u64 (lb y' 3:Nat)):=(KQ.below hB).cell 7;go_simp;unfold pl10I;exact⟨j0,j1,j2,j3,j4,true,true,j7,j8,j9,j10,j11,j12,j13,x0,x1,x2,x3,x4,_,_,x7,x8,x9,x10,x11,g10,g11,rfl,rfl,hB,h0.out,h1.out,h2.out,h3.out,h4.out,h5.out,fun _=>rfl,h7.out,h8.out,h9.out,a10,s10,a11,s11,n10_11⟩
 ·clear hd;refine wpOp_of rfl rfl ?_;go_simp;unfold pl10I;exact⟨j0,j1,j2,j3,j4,j5,j6,true,j8,j9,j10,j11,j12,j13,x0,x1,x2,x3,x4,x5,x6,_,x8,x9,x10,x11,g10,g11,rfl,rfl,hB,h0.out,h1.out,h2.out,h3.out,h4.out,h5.out,h6.out,fun _=>rfl,h8.out,h9.out,a10,s10,a11,s11,n10_11⟩
 ·have d7:j7=true:=by simp [hd]
  obtain rfl:=h7.out d7;subst d7;clear hd;refine wpOp_of rfl rfl ?_;have i4:w'.cell? ⟨gp,4,none⟩=some (υ y 0):=(KP.below hB).cell 4;have i5:w'.cell? ⟨gp,5,none⟩=some (υ y 1):=(KP.below hB).cell 5;have i6:w'.cell? ⟨gp,6,none⟩=some (υ y 2):=(KP.below hB).cell 6;have i7:w'.cell? ⟨gp,7,none⟩=some (υ y 3):=(KP.below hB).cell 7;go_simp;unfold pl10I;exact⟨j0,j1,j2,j3,j4,j5,j6,true,true,j9,j10,j11,j12,j13,x0,x1,x2,x3,x4,x5,x6,_,_,x9,x10,x11,g10,g11,rfl,rfl,hB,h0.out,h1.out,h2.out,h3.out,h4.out,h5.out,h6.out,h7.out,fun _=>rfl,h9.out,a10,s10,a11,s11,n10_11⟩
 ·have d6:j6=true:=by simp [hd]
  obtain rfl:=h6.out d6;have d8:j8=true:=by simp [hd]
  obtain rfl:=h8.out d8;subst d6 d8;clear hd;refine wpOp_of rfl rfl ?_;go_simp;go_at_call 110;refine(keep w.heap.size w (H2.out _) hB (Nat.le_refl _)).mono ?_;rintro e w2 ⟨rfl,hB2,hb2⟩;unfold pl10I;exact⟨j0,j1,j2,j3,j4,j5,true,j7,true,true,j10,j11,j12,j13,x0,x1,x2,x3,x4,x5,_,x7,_,_,x10,x11,g10,g11,rfl,rfl,hB2,h0.out,h1.out,h2.out,h3.out,h4.out,h5.out,h6.out,h7.out,h8.out,fun _=>rfl,(fun hj=>by obtain⟨q1,q2,z0,z1,z2,z3,q3,q4⟩:=a10 hj;exact⟨q1,q2,z0,z1,z2,z3,q3.below hb2,q4⟩),s10,(fun hj=>by obtain⟨q1,q2,z0,z1,z2,z3,q3,q4⟩:=a11 hj;exact⟨q1,q2,z0,z1,z2,z3,q3.below hb2,q4⟩),s11,n10_11⟩
 ·clear hd;refine wpOp_of rfl rfl ?_;have hs:=hB.size;go_simp;unfold pl10I;exact⟨j0,j1,j2,j3,j4,j5,j6,j7,j8,j9,true,j11,j12,j13,x0,x1,x2,x3,x4,x5,x6,x7,x8,x9,_,x11,w'.heap.size,g11,rfl,rfl,(by go_grown),h0.out,h1.out,h2.out,h3.out,h4.out,h5.out,h6.out,h7.out,h8.out,h9.out,(fun _=>⟨rfl,hs,_,_,_,_,Bk.new rfl,fun hj=>absurd (s10 hj) (by simp [hu])⟩),(fun _=>rfl),(fun hj=>by obtain⟨q1,q2,z0,z1,z2,z3,q3,q4⟩:=a11 hj;exact⟨q1,q2,z0,z1,z2,z3,q3.alloc,q4⟩),s11,(fun _ hj=>by obtain⟨q1,q2,z0,z1,z2,z3,q3,q4⟩:=a11 hj;exact Nat.ne_of_gt q3.lt)⟩
 ·clear hd;refine wpOp_of rfl rfl ?_;have hs:=hB.size;go_simp;unfold pl10I;exact⟨j0,j1,j2,j3,j4,j5,j6,j7,j8,j9,j10,true,j12,j13,x0,x1,x2,x3,x4,x5,x6,x7,x8,x9,x10,_,g10,w'.heap.size,rfl,rfl,(by go_grown),h0.out,h1.out,h2.out,h3.out,h4.out,h5.out,h6.out,h7.out,h8.out,h9.out,(fun hj=>by obtain⟨q1,q2,z0,z1,z2,z3,q3,q4⟩:=a10 hj;exact⟨q1,q2,z0,z1,z2,z3,q3.alloc,q4⟩),s10,(fun _=>⟨rfl,hs,_,_,_,_,Bk.new rfl,fun hj=>absurd (s11 hj) (by simp [hu])⟩),(fun _=>rfl),(fun hj _=>by obtain⟨q1,q2,z0,z1,z2,z3,q3,q4⟩:=a10 hj;exact Nat.ne_of_lt q3.lt)⟩
 ·have d4:j4=true:=by simp [hd]
  obtain rfl:=h4.out d4;have d10:j10=true:=by simp [hd]
  subst d4 d10;clear hd;refine wpOp_of rfl rfl ?_;obtain⟨p1,p2,z0,z1,z2,z3,p3,p4⟩:=a10 rfl;subst p1;obtain⟨f0,f1,f2,f3⟩:=p3.fros;obtain⟨c0,c1,c2,c3⟩:=p3.cells;go_simp;unfold pl10I;exact⟨j0,j1,j2,j3,true,j5,j6,j7,j8,j9,true,j11,true,j13,x0,x1,x2,x3,_,x5,x6,x7,x8,x9,_,x11,g10,g11,rfl,rfl,(by go_grown),h0.out,h1.out,h2.out,h3.out,h4.out,h5.out,h6.out,h7.out,h8.out,h9.out,(fun _=>⟨rfl,p2,_,_,_,_,Bk.put p3,fun _=>rfl⟩),(fun _=>rfl),(fun hj=>by obtain⟨q1,q2,z0,z1,z2,z3,q3,q4⟩:=a11 hj;exact⟨q1,q2,z0,z1,z2,z3,Bk.puto ((Ne.symm (n10_11 rfl hj))) q3,q4⟩),s11,n10_11⟩
 ·have d9:j9=true:=by simp [hd]
  obtain rfl:=h9.out d9;have d11:j11=true:=by simp [hd]
  subst d9 d11;clear hd;refine wpOp_of rfl rfl ?_;obtain⟨p1,p2,z0,z1,z2,z3,p3,p4⟩:=a11 rfl;subst p1;obtain⟨f0,f1,f2,f3⟩:=p3.fros;obtain⟨c0,c1,c2,c3⟩:=p3.cells;go_simp;unfold pl10I;exact⟨j0,j1,j2,j3,j4,j5,j6,j7,j8,true,j10,true,j12,true,x0,x1,x2,x3,x4,x5,x6,x7,x8,_,x10,_,g10,g11,rfl,rfl,(by go_grown),h0.out,h1.out,h2.out,h3.out,h4.out,h5.out,h6.out,h7.out,h8.out,h9.out,(fun hj=>by obtain⟨q1,q2,z0,z1,z2,z3,q3,q4⟩:=a10 hj;exact⟨q1,q2,z0,z1,z2,z3,Bk.puto (n10_11 hj rfl) q3,q4⟩),s10,(fun _=>⟨rfl,p2,_,_,_,_,Bk.put p3,fun _=>rfl⟩),(fun _=>rfl),n10_11⟩
theorem pl10_fin (gp gq x y z x' y' z' run rise:Nat)(w:World)
  :∀l a w',pl10I w gp gq x y z x' y' z' run rise t0 t1 t4 t7 t8 t9 t10 t11 t12 t13 t14 t15 t16 t17 t18 t19 t20 t21 t22 t23 t24 t25 t26 t27 t28 t29 t30 t31 t32 t33 t44 t45 t46 t47 t48 t49 t50 t51 t52 t53 t54 ds l a w'→Region.ready .any pl10O l=[]→
  ∃(y0 y1 y2 y3 y4 y5 y6 y7 y8 y9:Value) (g10 g11:Nat),a={tmps:=#[t0,t1,.pointer (some ⟨gp,0,none⟩),.pointer (some ⟨gq,0,none⟩),t4,.pointer (some ⟨g10,0,none⟩),.pointer (some ⟨g11,0,none⟩),t7,t8,t9,t10,t11,t12,t13,t14,t15,t16,t17,t18,t19,t20,t21,t22,t23,t24,t25,t26,t27,t28,t29,t30,t31,t32,t33,y0,y1,y2,y3,y4,y5,y6,y7,y8,y9,t44,t45,t46,t47,t48,t49,t50,t51,t52,t53,t54],defers:=ds}∧Below w.heap.size w w'∧w.heap.size≤g10∧w.heap.size≤g11∧Bk 24 w' g10 #[υ run 0,υ run 1,υ run 2,υ run 3]∧Bk 24 w' g11 #[υ rise 0,υ rise 1,υ rise 2,υ rise 3]∧g10≠g11:=by
 simp only [pl10O,findR,Tryz.f158,Option.bind_some,Option.or,Option.getD,Nat.reduceEqDiff,if_true,if_false,reduceIte];rintro l a w' ⟨j0,j1,j2,j3,j4,j5,j6,j7,j8,j9,j10,j11,j12,j13,x0,x1,x2,x3,x4,x5,x6,x7,x8,x9,x10,x11,g10,g11,rfl,rfl,hB,h0,h1,h2,h3,h4,h5,h6,h7,h8,h9,a10,s10,a11,s11,n10_11⟩ hr;have hn:=fun i=>List.eq_nil_iff_forall_not_mem.1 hr i
 clear hr;cases j0;exact(ab hn 0).elim
 obtain rfl:=h0 rfl;cases j1;exact(ab hn 1).elim
 obtain rfl:=h1 rfl;cases j2;exact(ab hn 2).elim
 obtain rfl:=h2 rfl;cases j3;exact(ab hn 3).elim
 obtain rfl:=h3 rfl;cases j4;exact(ab hn 4).elim
 obtain rfl:=h4 rfl;cases j5;exact(ab hn 5).elim
 obtain rfl:=h5 rfl;cases j6;exact(ab hn 6).elim
 obtain rfl:=h6 rfl;cases j7;exact(ab hn 7).elim
 obtain rfl:=h7 rfl;cases j8;exact(ab hn 8).elim
 obtain rfl:=h8 rfl;cases j9;exact(ab hn 9).elim
 obtain rfl:=h9 rfl;cases j10;exact(ab hn 10).elim
 cases j11;exact(ab hn 11).elim
 cases j12;exact(ab hn 12).elim
 cases j13;exact(ab hn 13).elim
 obtain⟨rfl,l10,z0,z1,z2,z3,b10,r10⟩:=a10 rfl;rw [r10 rfl] at b10;obtain⟨rfl,l11,z0,z1,z2,z3,b11,r11⟩:=a11 rfl;rw [r11 rfl] at b11;exact⟨_,_,_,_,_,_,_,_,_,_,g10,g11,rfl,hB,l10,l11,b10,b11,n10_11 rfl rfl⟩
theorem pl10 (gp gq x y z x' y' z' run rise:Nat)(w:World)(KP:Bk 162 w gp #[υ x 0,υ x 1,υ x 2,υ x 3,υ y 0,υ y 1,υ y 2,υ y 3,υ z 0,υ z 1,υ z 2,υ z 3])(KQ:Bk 162 w gq #[.int .u64 (lb x' 0:Nat),.int .u64 (lb x' 1:Nat),.int .u64 (lb x' 2:Nat),.int .u64 (lb x' 3:Nat),.int .u64 (lb y' 0:Nat),.int .u64 (lb y' 1:Nat),.int .u64 (lb y' 2:Nat),.int .u64 (lb y' 3:Nat),.int .u64 (lb z' 0:Nat),.int .u64 (lb z' 1:Nat),.int .u64 (lb z' 2:Nat),.int .u64 (lb z' 3:Nat)])(H1:Hid (∀w,Calls Tryz.prog 110 #[.agg #[.int .u64 (lb x' 0:Nat),.int .u64 (lb x' 1:Nat),.int .u64 (lb x' 2:Nat),.int .u64 (lb x' 3:Nat)],.agg #[υ x 0,υ x 1,υ x 2,υ x 3]] w fun e w'=>e = .returned (.agg #[υ run 0,υ run 1,υ run 2,υ run 3])∧Below w.heap.size w w'))(H2:Hid (∀w,Calls Tryz.prog 110 #[.agg #[.int .u64 (lb y' 0:Nat),.int .u64 (lb y' 1:Nat),.int .u64 (lb y' 2:Nat),.int .u64 (lb y' 3:Nat)],.agg #[υ y 0,υ y 1,υ y 2,υ y 3]] w fun e w'=>e = .returned (.agg #[υ rise 0,υ rise 1,υ rise 2,υ rise 3])∧Below w.heap.size w w'))
  {K:Act→World→Prop} 
  (h:∀(y0 y1 y2 y3 y4 y5 y6 y7 y8 y9:Value) (g10 g11:Nat) (w':World) (hb:Below w.heap.size w w') (hg10:w.heap.size≤g10) (hg11:w.heap.size≤g11) (hk10:Bk 24 w' g10 #[υ run 0,υ run 1,υ run 2,υ run 3]) (hk11:Bk 24 w' g11 #[υ rise 0,υ rise 1,υ rise 2,υ rise 3]) (hn10_11:g10≠g11),K {tmps:=#[t0,t1,.pointer (some ⟨gp,0,none⟩),.pointer (some ⟨gq,0,none⟩),t4,.pointer (some ⟨g10,0,none⟩),.pointer (some ⟨g11,0,none⟩),t7,t8,t9,t10,t11,t12,t13,t14,t15,t16,t17,t18,t19,t20,t21,t22,t23,t24,t25,t26,t27,t28,t29,t30,t31,t32,t33,y0,y1,y2,y3,y4,y5,y6,y7,y8,y9,t44,t45,t46,t47,t48,t49,t50,t51,t52,t53,t54],defers:=ds} w') :
  (Code.region 10 pl10O true).wp Tryz.prog (Exit.then K Q) {tmps:=#[t0,t1,.pointer (some ⟨gp,0,none⟩),.pointer (some ⟨gq,0,none⟩),t4,t5,t6,t7,t8,t9,t10,t11,t12,t13,t14,t15,t16,t17,t18,t19,t20,t21,t22,t23,t24,t25,t26,t27,t28,t29,t30,t31,t32,t33,t34,t35,t36,t37,t38,t39,t40,t41,t42,t43,t44,t45,t46,t47,t48,t49,t50,t51,t52,t53,t54],defers:=ds} w:=by
 have hsz:pl10O.size=14:=by kernel_rfl
 refine wp_region_any mixed ?_;rw [hsz];refine wpAny_inv (I:=pl10I w gp gq x y z x' y' z' run rise t0 t1 t4 t7 t8 t9 t10 t11 t12 t13 t14 t15 t16 t17 t18 t19 t20 t21 t22 t23 t24 t25 t26 t27 t28 t29 t30 t31 t32 t33 t44 t45 t46 t47 t48 t49 t50 t51 t52 t53 t54 ds) (pl10_steps gp gq x y z x' y' z' run rise w KP KQ H1 H2) (fun l a w' hI hr=>?_) 14 _ _ _ (by decide) ?_
 ·obtain⟨y0,y1,y2,y3,y4,y5,y6,y7,y8,y9,g10,g11,rfl,hb,l10,l11,b10,b11,n10_11⟩:=pl10_fin gp gq x y z x' y' z' run rise w l a w' hI hr;exact h _ _ _ _ _ _ _ _ _ _ g10 g11 w' hb l10 l11 b10 b11 n10_11
 ·exact⟨false,false,false,false,false,false,false,false,false,false,false,false,false,false,t34,t35,t36,t37,t38,t39,t40,t41,t42,t43,t5,t6,0,0,rfl,rfl,⟨rfl,rfl,rfl,Nat.le_refl _,fun _ _=>rfl⟩,(fun h=>by cases h),(fun h=>by cases h),(fun h=>by cases h),(fun h=>by cases h),(fun h=>by cases h),(fun h=>by cases h),(fun h=>by cases h),(fun h=>by cases h),(fun h=>by cases h),(fun h=>by cases h),(fun h=>by cases h),(fun h=>by cases h),(fun h=>by cases h),(fun h=>by cases h),(fun h=>by cases h)⟩
def on6I (w0:World)(gp x y sq cube:Nat)(bi:Bool)(t0 t2 t3 t5 t6 t7 t8 t9 t10 t11 t12 t13 t14 t15 t16 t17 t18 t19 t20 t29 t30 t31 t32 t33 t34 t35 t36 t37 t38 t39 t40 t41:Value)(ds:List Deferred)(l:Array Bool)(a:Act)(w:World): Prop:=
 ∃j0 j1 j2 j3 j4 j5 j6 j7 j8 j9:Bool,∃x0 x1 x2 x3 x4 x5 x6 x7 x8:Value,∃g8:Nat,l=#[j0,j1,j2,j3,j4,j5,j6,j7,j8,j9]∧a={tmps:=#[t0,.pointer (some ⟨gp,0,none⟩),t2,t3,x8,t5,t6,t7,t8,t9,t10,t11,t12,t13,t14,t15,t16,t17,t18,t19,t20,x0,x1,x2,x3,x4,x5,x6,x7,t29,t30,t31,t32,t33,t34,t35,t36,t37,t38,t39,t40,t41],defers:=ds}∧Below w0.heap.size w0 w∧
 (j0=true→x0 = .pointer (some ⟨gp,0,none⟩))∧
 (j1=true→x1 = .agg #[υ x 0,υ x 1,υ x 2,υ x 3])∧
 (j2=true→x2 = .pointer (some ⟨gp,0,none⟩))∧
 (j3=true→x3 = .agg #[υ x 0,υ x 1,υ x 2,υ x 3])∧
 (j4=true→x4 = .agg #[υ sq 0,υ sq 1,υ sq 2,υ sq 3])∧
 (j5=true→x5 = .pointer (some ⟨gp,0,none⟩))∧
 (j6=true→x6 = .agg #[υ x 0,υ x 1,υ x 2,υ x 3])∧
 (j7=true→x7 = .agg #[υ cube 0,υ cube 1,υ cube 2,υ cube 3])∧
 (j8=true→x8 = .pointer (some ⟨g8,0,none⟩)∧w0.heap.size≤g8∧∃z0 z1 z2 z3:Value,Bk 24 w g8 #[z0,z1,z2,z3]∧(j9=true→#[z0,z1,z2,z3]=#[υ cube 0,υ cube 1,υ cube 2,υ cube 3]))∧
 (j9=true→j8=true)
noncomputable def on6O:Array Oper:=(Tryz.f61.body.bind fun c=>findR c 6).getD #[]
theorem on6_steps (gp x y sq cube:Nat)(bi:Bool)(w:World)(KP:Bk 26 w gp #[υ x 0,υ x 1,υ x 2,υ x 3,υ y 0,υ y 1,υ y 2,υ y 3,.bool bi])(H1:Hid (∀w,Calls Tryz.prog 108 #[.agg #[υ x 0,υ x 1,υ x 2,υ x 3],.agg #[υ x 0,υ x 1,υ x 2,υ x 3]] w fun e w'=>e = .returned (.agg #[υ sq 0,υ sq 1,υ sq 2,υ sq 3])∧Below w.heap.size w w'))(H2:Hid (∀w,Calls Tryz.prog 108 #[.agg #[υ sq 0,υ sq 1,υ sq 2,υ sq 3],.agg #[υ x 0,υ x 1,υ x 2,υ x 3]] w fun e w'=>e = .returned (.agg #[υ cube 0,υ cube 1,υ cube 2,υ cube 3])∧Below w.heap.size w w'))
  :
  ∀l a w',on6I w gp x y sq cube bi t0 t2 t3 t5 t6 t7 t8 t9 t10 t11 t12 t13 t14 t15 t16 t17 t18 t19 t20 t29 t30 t31 t32 t33 t34 t35 t36 t37 t38 t39 t40 t41 ds l a w'→∀i∈Region.ready .any on6O l,wpOp Tryz.prog on6O Q i (fun a' w''=>on6I w gp x y sq cube bi t0 t2 t3 t5 t6 t7 t8 t9 t10 t11 t12 t13 t14 t15 t16 t17 t18 t19 t20 t29 t30 t31 t32 t33 t34 t35 t36 t37 t38 t39 t40 t41 ds (l.setIfInBounds i true) a' w'') a w':=by
 simp only [on6O,findR,Tryz.f61,Option.bind_some,Option.or,Option.getD,Nat.reduceEqDiff,if_true,if_false,reduceIte];rintro l a w' ⟨j0,j1,j2,j3,j4,j5,j6,j7,j8,j9,x0,x1,x2,x3,x4,x5,x6,x7,x8,g8,rfl,rfl,hB,h0,h1,h2,h3,h4,h5,h6,h7,a8,s8⟩ i hi;rw [mem_ready] at hi;obtain⟨hu,oo,ho,hd⟩:=hi;have hin:i<10:=by
  have:=(Array.getElem?_eq_some_iff.1 ho).1
  simpa using this
 replace h0:=Φ h0;replace h1:=Φ h1;replace h2:=Φ h2;replace h3:=Φ h3;replace h4:=Φ h4;replace h5:=Φ h5;replace h6:=Φ h6;replace h7:=Φ h7;have hcase:i=0∨i=1∨i=2∨i=3∨i=4∨i=5∨i=6∨i=7∨i=8∨i=9:=by omega
 rcases hcase with rfl | rfl | rfl | rfl | rfl | rfl | rfl | rfl | rfl | rfl
 all_goals obtain rfl:=Option.some.inj ho
 all_goals simp [Region.binds] at hu hd
 ·clear hd;refine wpOp_of rfl rfl ?_;go_simp;unfold on6I;exact⟨true,j1,j2,j3,j4,j5,j6,j7,j8,j9,_,x1,x2,x3,x4,x5,x6,x7,x8,g8,rfl,rfl,hB,fun _=>rfl,h1.out,h2.out,h3.out,h4.out,h5.out,h6.out,h7.out,a8,s8⟩
 ·have d0:j0=true:=by simp [hd]
  obtain rfl:=h0.out d0;subst d0;clear hd;refine wpOp_of rfl rfl ?_;have i0:w'.cell? ⟨gp,0,none⟩=some (υ x 0):=(KP.below hB).cell 0;have i1:w'.cell? ⟨gp,1,none⟩=some (υ x 1):=(KP.below hB).cell 1;have i2:w'.cell? ⟨gp,2,none⟩=some (υ x 2):=(KP.below hB).cell 2;have i3:w'.cell? ⟨gp,3,none⟩=some (υ x 3):=(KP.below hB).cell 3;go_simp;unfold on6I;exact⟨true,true,j2,j3,j4,j5,j6,j7,j8,j9,_,_,x2,x3,x4,x5,x6,x7,x8,g8,rfl,rfl,hB,h0.out,fun _=>rfl,h2.out,h3.out,h4.out,h5.out,h6.out,h7.out,a8,s8⟩
 ·clear hd;refine wpOp_of rfl rfl ?_;go_simp;unfold on6I;exact⟨j0,j1,true,j3,j4,j5,j6,j7,j8,j9,x0,x1,_,x3,x4,x5,x6,x7,x8,g8,rfl,rfl,hB,h0.out,h1.out,fun _=>rfl,h3.out,h4.out,h5.out,h6.out,h7.out,a8,s8⟩
 ·have d2:j2=true:=by simp [hd]
  obtain rfl:=h2.out d2;subst d2;clear hd;refine wpOp_of rfl rfl ?_;have i0:w'.cell? ⟨gp,0,none⟩=some (υ x 0):=(KP.below hB).cell 0;have i1:w'.cell? ⟨gp,1,none⟩=some (υ x 1):=(KP.below hB).cell 1;have i2:w'.cell? ⟨gp,2,none⟩=some (υ x 2):=(KP.below hB).cell 2;have i3:w'.cell? ⟨gp,3,none⟩=some (υ x 3):=(KP.below hB).cell 3;go_simp;unfold on6I;exact⟨j0,j1,true,true,j4,j5,j6,j7,j8,j9,x0,x1,_,_,x4,x5,x6,x7,x8,g8,rfl,rfl,hB,h0.out,h1.out,h2.out,fun _=>rfl,h4.out,h5.out,h6.out,h7.out,a8,s8⟩
 ·have d1:j1=true:=by simp [hd]
  obtain rfl:=h1.out d1;have d3:j3=true:=by simp [hd]
  obtain rfl:=h3.out d3;subst d1 d3;clear hd;refine wpOp_of rfl rfl ?_;go_simp;go_at_call 108;refine(keep w.heap.size w (H1.out _) hB (Nat.le_refl _)).mono ?_;rintro e w2 ⟨rfl,hB2,hb2⟩;unfold on6I;exact⟨j0,true,j2,true,true,j5,j6,j7,j8,j9,x0,_,x2,_,_,x5,x6,x7,x8,g8,rfl,rfl,hB2,h0.out,h1.out,h2.out,h3.out,fun _=>rfl,h5.out,h6.out,h7.out,(fun hj=>by obtain⟨q1,q2,z0,z1,z2,z3,q3,q4⟩:=a8 hj;exact⟨q1,q2,z0,z1,z2,z3,q3.below hb2,q4⟩),s8⟩
 ·clear hd;refine wpOp_of rfl rfl ?_;go_simp;unfold on6I;exact⟨j0,j1,j2,j3,j4,true,j6,j7,j8,j9,x0,x1,x2,x3,x4,_,x6,x7,x8,g8,rfl,rfl,hB,h0.out,h1.out,h2.out,h3.out,h4.out,fun _=>rfl,h6.out,h7.out,a8,s8⟩
 ·have d5:j5=true:=by simp [hd]
  obtain rfl:=h5.out d5;subst d5;clear hd;refine wpOp_of rfl rfl ?_;have i0:w'.cell? ⟨gp,0,none⟩=some (υ x 0):=(KP.below hB).cell 0;have i1:w'.cell? ⟨gp,1,none⟩=some (υ x 1):=(KP.below hB).cell 1;have i2:w'.cell? ⟨gp,2,none⟩=some (υ x 2):=(KP.below hB).cell 2;have i3:w'.cell? ⟨gp,3,none⟩=some (υ x 3):=(KP.below hB).cell 3;go_simp;unfold on6I;exact⟨j0,j1,j2,j3,j4,true,true,j7,j8,j9,x0,x1,x2,x3,x4,_,_,x7,x8,g8,rfl,rfl,hB,h0.out,h1.out,h2.out,h3.out,h4.out,h5.out,fun _=>rfl,h7.out,a8,s8⟩
 ·have d4:j4=true:=by simp [hd]
  obtain rfl:=h4.out d4;have d6:j6=true:=by simp [hd]
  obtain rfl:=h6.out d6;subst d4 d6;clear hd;refine wpOp_of rfl rfl ?_;go_simp;go_at_call 108;refine(keep w.heap.size w (H2.out _) hB (Nat.le_refl _)).mono ?_;rintro e w2 ⟨rfl,hB2,hb2⟩;unfold on6I;exact⟨j0,j1,j2,j3,true,j5,true,true,j8,j9,x0,x1,x2,x3,_,x5,_,_,x8,g8,rfl,rfl,hB2,h0.out,h1.out,h2.out,h3.out,h4.out,h5.out,h6.out,fun _=>rfl,(fun hj=>by obtain⟨q1,q2,z0,z1,z2,z3,q3,q4⟩:=a8 hj;exact⟨q1,q2,z0,z1,z2,z3,q3.below hb2,q4⟩),s8⟩
 ·clear hd;refine wpOp_of rfl rfl ?_;have hs:=hB.size;go_simp;unfold on6I;exact⟨j0,j1,j2,j3,j4,j5,j6,j7,true,j9,x0,x1,x2,x3,x4,x5,x6,x7,_,w'.heap.size,rfl,rfl,(by go_grown),h0.out,h1.out,h2.out,h3.out,h4.out,h5.out,h6.out,h7.out,(fun _=>⟨rfl,hs,_,_,_,_,Bk.new rfl,fun hj=>absurd (s8 hj) (by simp [hu])⟩),(fun _=>rfl)⟩
 ·have d7:j7=true:=by simp [hd]
  obtain rfl:=h7.out d7;have d8:j8=true:=by simp [hd]
  subst d7 d8;clear hd;refine wpOp_of rfl rfl ?_;obtain⟨p1,p2,z0,z1,z2,z3,p3,p4⟩:=a8 rfl;subst p1;obtain⟨f0,f1,f2,f3⟩:=p3.fros;obtain⟨c0,c1,c2,c3⟩:=p3.cells;clear a8;go_simp;unfold on6I;exact⟨j0,j1,j2,j3,j4,j5,j6,true,true,true,x0,x1,x2,x3,x4,x5,x6,_,_,g8,rfl,rfl,(by go_grown),h0.out,h1.out,h2.out,h3.out,h4.out,h5.out,h6.out,h7.out,(fun _=>⟨rfl,p2,_,_,_,_,Bk.put p3,fun _=>rfl⟩),(fun _=>rfl)⟩
theorem on6_fin (gp x y sq cube:Nat)(bi:Bool)(w:World)
  :∀l a w',on6I w gp x y sq cube bi t0 t2 t3 t5 t6 t7 t8 t9 t10 t11 t12 t13 t14 t15 t16 t17 t18 t19 t20 t29 t30 t31 t32 t33 t34 t35 t36 t37 t38 t39 t40 t41 ds l a w'→Region.ready .any on6O l=[]→
  ∃(y0 y1 y2 y3 y4 y5 y6 y7:Value) (g8:Nat),a={tmps:=#[t0,.pointer (some ⟨gp,0,none⟩),t2,t3,.pointer (some ⟨g8,0,none⟩),t5,t6,t7,t8,t9,t10,t11,t12,t13,t14,t15,t16,t17,t18,t19,t20,y0,y1,y2,y3,y4,y5,y6,y7,t29,t30,t31,t32,t33,t34,t35,t36,t37,t38,t39,t40,t41],defers:=ds}∧Below w.heap.size w w'∧w.heap.size≤g8∧Bk 24 w' g8 #[υ cube 0,υ cube 1,υ cube 2,υ cube 3]:=by
 simp only [on6O,findR,Tryz.f61,Option.bind_some,Option.or,Option.getD,Nat.reduceEqDiff,if_true,if_false,reduceIte];rintro l a w' ⟨j0,j1,j2,j3,j4,j5,j6,j7,j8,j9,x0,x1,x2,x3,x4,x5,x6,x7,x8,g8,rfl,rfl,hB,h0,h1,h2,h3,h4,h5,h6,h7,a8,s8⟩ hr;have hn:=fun i=>List.eq_nil_iff_forall_not_mem.1 hr i
 clear hr;cases j0;exact(ab hn 0).elim
 obtain rfl:=h0 rfl;cases j1;exact(ab hn 1).elim
 obtain rfl:=h1 rfl;cases j2;exact(ab hn 2).elim
 obtain rfl:=h2 rfl;cases j3;exact(ab hn 3).elim
 obtain rfl:=h3 rfl;cases j4;exact(ab hn 4).elim
 obtain rfl:=h4 rfl;cases j5;exact(ab hn 5).elim
 obtain rfl:=h5 rfl;cases j6;exact(ab hn 6).elim
 obtain rfl:=h6 rfl;cases j7;exact(ab hn 7).elim
 obtain rfl:=h7 rfl;cases j8;exact(ab hn 8).elim
 cases j9;exact(ab hn 9).elim
 obtain⟨rfl,l8,z0,z1,z2,z3,b8,r8⟩:=a8 rfl;rw [r8 rfl] at b8;exact⟨_,_,_,_,_,_,_,_,g8,rfl,hB,l8,b8⟩
theorem on6 (gp x y sq cube:Nat)(bi:Bool)(w:World)(KP:Bk 26 w gp #[υ x 0,υ x 1,υ x 2,υ x 3,υ y 0,υ y 1,υ y 2,υ y 3,.bool bi])(H1:Hid (∀w,Calls Tryz.prog 108 #[.agg #[υ x 0,υ x 1,υ x 2,υ x 3],.agg #[υ x 0,υ x 1,υ x 2,υ x 3]] w fun e w'=>e = .returned (.agg #[υ sq 0,υ sq 1,υ sq 2,υ sq 3])∧Below w.heap.size w w'))(H2:Hid (∀w,Calls Tryz.prog 108 #[.agg #[υ sq 0,υ sq 1,υ sq 2,υ sq 3],.agg #[υ x 0,υ x 1,υ x 2,υ x 3]] w fun e w'=>e = .returned (.agg #[υ cube 0,υ cube 1,υ cube 2,υ cube 3])∧Below w.heap.size w w'))
  {K:Act→World→Prop} 
  (h:∀(y0 y1 y2 y3 y4 y5 y6 y7:Value) (g8:Nat) (w':World) (hb:Below w.heap.size w w') (hg8:w.heap.size≤g8) (hk8:Bk 24 w' g8 #[υ cube 0,υ cube 1,υ cube 2,υ cube 3]),K {tmps:=#[t0,.pointer (some ⟨gp,0,none⟩),t2,t3,.pointer (some ⟨g8,0,none⟩),t5,t6,t7,t8,t9,t10,t11,t12,t13,t14,t15,t16,t17,t18,t19,t20,y0,y1,y2,y3,y4,y5,y6,y7,t29,t30,t31,t32,t33,t34,t35,t36,t37,t38,t39,t40,t41],defers:=ds} w') :
  (Code.region 6 on6O true).wp Tryz.prog (Exit.then K Q) {tmps:=#[t0,.pointer (some ⟨gp,0,none⟩),t2,t3,t4,t5,t6,t7,t8,t9,t10,t11,t12,t13,t14,t15,t16,t17,t18,t19,t20,t21,t22,t23,t24,t25,t26,t27,t28,t29,t30,t31,t32,t33,t34,t35,t36,t37,t38,t39,t40,t41],defers:=ds} w:=by
 have hsz:on6O.size=10:=by kernel_rfl
 refine wp_region_any mixed ?_;rw [hsz];refine wpAny_inv (I:=on6I w gp x y sq cube bi t0 t2 t3 t5 t6 t7 t8 t9 t10 t11 t12 t13 t14 t15 t16 t17 t18 t19 t20 t29 t30 t31 t32 t33 t34 t35 t36 t37 t38 t39 t40 t41 ds) (on6_steps gp x y sq cube bi w KP H1 H2) (fun l a w' hI hr=>?_) 10 _ _ _ (by decide) ?_
 ·obtain⟨y0,y1,y2,y3,y4,y5,y6,y7,g8,rfl,hb,l8,b8⟩:=on6_fin gp x y sq cube bi w l a w' hI hr;exact h _ _ _ _ _ _ _ _ g8 w' hb l8 b8
 ·exact⟨false,false,false,false,false,false,false,false,false,false,t21,t22,t23,t24,t25,t26,t27,t28,t4,0,rfl,rfl,⟨rfl,rfl,rfl,Nat.le_refl _,fun _ _=>rfl⟩,(fun h=>by cases h),(fun h=>by cases h),(fun h=>by cases h),(fun h=>by cases h),(fun h=>by cases h),(fun h=>by cases h),(fun h=>by cases h),(fun h=>by cases h),(fun h=>by cases h),(fun h=>by cases h)⟩
end
section
open Go.RowKit Go.Sort Limbs
open Go.Lib renaming hid→Φ
def mj (a b:Nat): Nat:=a*b % mP
def aj (a b:Nat): Nat:=(a+b) % mP
def sj (a b:Nat): Nat:=(a+(mP - b % mP)) % mP
def tj (a:Nat): Nat:=aj (aj a a) a
theorem mj_lt (a b:Nat): mj a b<W256:=mp_lt _
theorem aj_lt (a b:Nat): aj a b<W256:=mp_lt _
theorem sj_lt (a b:Nat): sj a b<W256:=mp_lt _
theorem tj_lt (a:Nat): tj a<W256:=mp_lt _
theorem mulj {a b:Nat}(ha:a<W256)(hb:b<W256): ∀w,Calls Tryz.prog 108 #[nv a,nv b] w fun e w'=>e = .returned (nv (mj a b))∧Below w.heap.size w w':=mul_c a b ha hb
theorem addj {a b:Nat}(ha:a<W256)(hb:b<W256): ∀w,Calls Tryz.prog 109 #[nv a,nv b] w fun e w'=>e = .returned (nv (aj a b))∧Below w.heap.size w w':=add_c a b ha hb
theorem subj {a b:Nat}(ha:a<W256)(hb:b<W256): ∀w,Calls Tryz.prog 110 #[nv a,nv b] w fun e w'=>e = .returned (nv (sj a b))∧Below w.heap.size w w':=sub_c a b ha hb
theorem tripj {a:Nat}(ha:a<W256): ∀w,Calls Tryz.prog 111 #[nv a] w fun e w'=>e = .returned (nv (tj a))∧Below w.heap.size w w':=triple_c a ha
structure J where
 x:Nat
 y:Nat
 z:Nat
deriving DecidableEq
def J.ok (p:J): Prop:=p.x<W256∧p.y<W256∧p.z<W256
def J.v (p:J): Value:=jn p.x p.y p.z
def J.far:J:=⟨0,0,0⟩
def J.over (p:J)(f:Nat): J:=⟨mj p.x (mj f f),mj p.y (mj (mj f f) f),mj p.z f⟩
def J.along (p:J)(r o:Nat): J:=⟨sj (sj (mj r r) p.x) o,sj (mj r (sj p.x (sj (sj (mj r r) p.x) o))) p.y,p.z⟩
theorem J.over_ok (p:J)(f:Nat): (p.over f).ok:=⟨mj_lt _ _,mj_lt _ _,mj_lt _ _⟩
theorem J.along_ok (p:J)(r o:Nat)(h:p.z<W256): (p.along r o).ok:=⟨sj_lt _ _,sj_lt _ _,h⟩
theorem overj {p:J}{f:Nat}(hp:p.ok)(hf:f<W256): ∀w,Calls Tryz.prog 170 #[p.v,nv f] w fun e w'=>e = .returned (p.over f).v∧Below w.heap.size w w':=over_c p.x p.y p.z f hp.1 hp.2.1 hp.2.2 hf
set_option maxHeartbeats 16000000 in
theorem along_c (p:J)(r o:Nat)(hp:p.ok)(hr:r<W256)(ho:o<W256)(w:World):
  Calls Tryz.prog 184 #[p.v,nv r,nv o] w fun e w'=>e = .returned (p.along r o).v∧Below w.heap.size w w':=by
 obtain⟨x,y,z⟩:=p;obtain⟨hx,hy,hz⟩:=hp;simp only [] at hx hy hz;have H1:=Φ (mulj hr hr);have H2:=Φ (subj (mj_lt r r) hx);have H3:=Φ (subj (sj_lt (mj r r) x) ho);have H4:=Φ (subj hx (sj_lt (sj (mj r r) x) o));have H5:=Φ (mulj hr (sj_lt x (sj (sj (mj r r) x) o)));have H6:=Φ (subj (mj_lt r (sj x (sj (sj (mj r r) x) o))) hy);clear hx hy hz hr ho;unfold J.v J.along;simp only [];generalize sj (mj r (sj x (sj (sj (mj r r) x) o))) y=ry at *;generalize mj r (sj x (sj (sj (mj r r) x) o))=m5 at *;generalize sj x (sj (sj (mj r r) x) o)=d4 at *;generalize sj (sj (mj r r) x) o=x3 at *;generalize sj (mj r r) x=d1 at *;generalize mj r r=rr at *;simp only [jn,nv,num] at H1 H2 H3 H4 H5 H6 ⊢;go_enter Tryz.func184,Tryz.ntmps184;go_wp2_with fail;have KP:Hid (Bk 162 ((((w.alloc (.cells #[υ x 0,υ x 1,υ x 2,υ x 3,υ y 0,υ y 1,υ y 2,υ y 3,υ z 0,υ z 1,υ z 2,υ z 3] 162)).alloc (.cells #[υ r 0,υ r 1,υ r 2,υ r 3] 24)).alloc (.cells #[υ o 0,υ o 1,υ o 2,υ o 3] 24)).alloc (.cells #[.int .u64 0,.int .u64 0,.int .u64 0,.int .u64 0,.int .u64 0,.int .u64 0,.int .u64 0,.int .u64 0,.int .u64 0,.int .u64 0,.int .u64 0,.int .u64 0] 162)) w.heap.size #[υ x 0,υ x 1,υ x 2,υ x 3,υ y 0,υ y 1,υ y 2,υ y 3,υ z 0,υ z 1,υ z 2,υ z 3]):=Φ (Bk.alloc (Bk.alloc (Bk.alloc (Bk.new rfl))));have KR:Hid (Bk 24 ((((w.alloc (.cells #[υ x 0,υ x 1,υ x 2,υ x 3,υ y 0,υ y 1,υ y 2,υ y 3,υ z 0,υ z 1,υ z 2,υ z 3] 162)).alloc (.cells #[υ r 0,υ r 1,υ r 2,υ r 3] 24)).alloc (.cells #[υ o 0,υ o 1,υ o 2,υ o 3] 24)).alloc (.cells #[.int .u64 0,.int .u64 0,.int .u64 0,.int .u64 0,.int .u64 0,.int .u64 0,.int .u64 0,.int .u64 0,.int .u64 0,.int .u64 0,.int .u64 0,.int .u64 0] 162)) (w.heap.size+1) #[υ r 0,υ r 1,υ r 2,υ r 3]):=Φ (Bk.alloc (Bk.alloc (Bk.new (by simp))));have KO:Hid (Bk 24 ((((w.alloc (.cells #[υ x 0,υ x 1,υ x 2,υ x 3,υ y 0,υ y 1,υ y 2,υ y 3,υ z 0,υ z 1,υ z 2,υ z 3] 162)).alloc (.cells #[υ r 0,υ r 1,υ r 2,υ r 3] 24)).alloc (.cells #[υ o 0,υ o 1,υ o 2,υ o 3] 24)).alloc (.cells #[.int .u64 0,.int .u64 0,.int .u64 0,.int .u64 0,.int .u64 0,.int .u64 0,.int .u64 0,.int .u64 0,.int .u64 0,.int .u64 0,.int .u64 0,.int .u64 0] 162)) (w.heap.size+1+1) #[υ o 0,υ o 1,υ o 2,υ o 3]):=Φ (Bk.alloc (Bk.new (by simp)));have KZ:Hid (Bk 162 ((((w.alloc (.cells #[υ x 0,υ x 1,υ x 2,υ x 3,υ y 0,υ y 1,υ y 2,υ y 3,υ z 0,υ z 1,υ z 2,υ z 3] 162)).alloc (.cells #[υ r 0,υ r 1,υ r 2,υ r 3] 24)).alloc (.cells #[υ o 0,υ o 1,υ o 2,υ o 3] 24)).alloc (.cells #[.int .u64 0,.int .u64 0,.int .u64 0,.int .u64 0,.int .u64 0,.int .u64 0,.int .u64 0,.int .u64 0,.int .u64 0,.int .u64 0,.int .u64 0,.int .u64 0] 162)) (w.heap.size+1+1+1) #[.int .u64 0,.int .u64 0,.int .u64 0,.int .u64 0,.int .u64 0,.int .u64 0,.int .u64 0,.int .u64 0,.int .u64 0,.int .u64 0,.int .u64 0,.int .u64 0]):=Φ (Bk.new (by simp));have HB:Hid (Below w.heap.size w ((((w.alloc (.cells #[υ x 0,υ x 1,υ x 2,υ x 3,υ y 0,υ y 1,υ y 2,υ y 3,υ z 0,υ z 1,υ z 2,υ z 3] 162)).alloc (.cells #[υ r 0,υ r 1,υ r 2,υ r 3] 24)).alloc (.cells #[υ o 0,υ o 1,υ o 2,υ o 3] 24)).alloc (.cells #[.int .u64 0,.int .u64 0,.int .u64 0,.int .u64 0,.int .u64 0,.int .u64 0,.int .u64 0,.int .u64 0,.int .u64 0,.int .u64 0,.int .u64 0,.int .u64 0] 162))):=Φ (by go_grown);generalize ((((w.alloc (.cells #[υ x 0,υ x 1,υ x 2,υ x 3,υ y 0,υ y 1,υ y 2,υ y 3,υ z 0,υ z 1,υ z 2,υ z 3] 162)).alloc (.cells #[υ r 0,υ r 1,υ r 2,υ r 3] 24)).alloc (.cells #[υ o 0,υ o 1,υ o 2,υ o 3] 24)).alloc (.cells #[.int .u64 0,.int .u64 0,.int .u64 0,.int .u64 0,.int .u64 0,.int .u64 0,.int .u64 0,.int .u64 0,.int .u64 0,.int .u64 0,.int .u64 0,.int .u64 0] 162))=W at KP KR KO KZ HB ⊢;obtain⟨gr,hgr⟩:∃z,z=w.heap.size+1:=⟨_,rfl⟩;obtain⟨go,hgo⟩:∃z,z=w.heap.size+1+1:=⟨_,rfl⟩;obtain⟨gz,hgz⟩:∃z,z=w.heap.size+1+1+1:=⟨_,rfl⟩;rw [← hgz] at KZ ⊢;rw [← hgo] at KO ⊢;rw [← hgr] at KR ⊢;have HG:=Φ (show w.heap.size≤gz by omega);clear hgr hgo hgz;obtain⟨gp,hgp⟩:∃z,z=w.heap.size:=⟨_,rfl⟩;rw [← hgp] at KP;have e:(Value.pointer (some ⟨w.heap.size,0,none⟩)) = .pointer (some ⟨gp,0,none⟩):=by rw [hgp]
 rw [e];clear e;refine al1 gp gr go x y z r o rr d1 x3 W KP.out KR.out KO.out H1 H2 H3 ?_;intro _ _ _ _ _ _ _ _ g8 W2 hb2 hg8 hk8;have KP2:=Φ (KP.out.below hb2);have KR2:=Φ (KR.out.below hb2);have KZ2:=Φ (KZ.out.below hb2);have K82:=Φ hk8;have HB2:=Φ (HB.out.trans (hb2.mono HB.out.size));clear KP KR KO KZ HB hb2 hg8 hk8 H1 H2 H3 hgp;go_wp2_with fail;obtain⟨⟨x0,x1,x2,x3⟩,⟨y0,y1,y2,y3⟩,z0,z1,z2,z3⟩:=KP2.out.reg12;obtain⟨f0,f1,f2,f3⟩:=KR2.out.reg;obtain⟨s0,s1,s2,s3⟩:=K82.out.reg;refine wp_region_below_tail 13 mixed (by kernel_rfl) ?_;simp only [List.take_succ_cons,List.take_zero,List.drop_succ_cons,List.drop_zero]
 iterate 5 go_big_quiet_step (fail)
 go_big_quiet_step (exact qg H4.out)
 go_big_quiet_step (exact qg H5.out)
 iterate 2 go_big_quiet_step (fail)
 go_big_quiet_step (exact qg H6.out)
 repeat (first | go_big_quiet_step (fail) | quiet_step (fail))
 refine wpQuiet_nil ?_;intro _ hw';obtain⟨⟨dq,osq⟩,hw''⟩:=hw';subst hw'';have KZ3:=Φ (KZ2.out.regrown dq osq);have HB3:=Φ (HB2.out.trans ((below_regrown W2 dq osq).mono HB2.out.size));clear KP2 KR2 KZ2 K82 HB2 x0 x1 x2 x3 y0 y1 y2 y3 z0 z1 z2 z3 f0 f1 f2 f3 s0 s1 s2 s3 H4 H5 H6;generalize grow (redrawn W2 dq) osq=V at KZ3 HB3 ⊢;obtain⟨⟨f0,f1,f2,f3⟩,⟨f4,f5,f6,f7⟩,f8,f9,f10,f11⟩:=KZ3.out.fros12;obtain⟨⟨c0,c1,c2,c3⟩,⟨c4,c5,c6,c7⟩,c8,c9,c10,c11⟩:=KZ3.out.cells12;go_wp2_with fail;refine ret_cell93 rfl gz x3 ry z rfl (Bk.put12 KZ3.out) rfl ⟨rfl,?_⟩;have hb:=HB3.out;have hg:=HG.out
 go_grown
theorem alongj {p:J}{r o:Nat}(hp:p.ok)(hr:r<W256)(ho:o<W256): ∀w,Calls Tryz.prog 184 #[p.v,nv r,nv o] w fun e w'=>e = .returned (p.along r o).v∧Below w.heap.size w w':=along_c p r o hp hr ho
end
section
open Go.RowKit Go.Sort Limbs
theorem Bk.row {t:TypeId}{w:World}{g:Nat}{old cs:Array Value}(h:Bk t w g old): Bk t (w.setRow g cs) g cs:=setRow_heap w g old cs t (0,0) h
theorem Bk.rowo {t:TypeId}{w:World}{g h:Nat}{cs c:Array Value}(hn:g≠h)(k:Bk t w g cs): Bk t (w.setRow h c) g cs:=(setRow_other w h g c hn).trans k
theorem wpList_put {P:Program}{ops:Array Oper}{rest:List Oper}{o:Oper}{a:Act}{w:World}{Q:Exit→Act→World→Prop}(hgd:o.guard=none)(ty:TypeId)(x y:Operand)(ho:o.op = .store ty x y)
  (g:Nat) (old cells:Array Value) (hx:a.eval x = .pointer (some ⟨g,0,none⟩)) (hy:a.eval y = .agg cells) (hk:Bk ty w g old) (hi:(P.info? ty).map (·.size)=some cells.size)
  (hold:old.size=cells.size) (h1:cells.all (·.oneCell')=true)
  (h:wpList P ops Q rest (a.put o.dst undef) (w.setRow g cells)):wpList P ops Q (o::rest) a w:=
 wpList_plain hgd fun _ hK=>wp_store_row ty x y ho g cells hx hy ty old hk hi hold h1 (hK _ _ h)
theorem one12 (x y z:Nat): (#[υ x 0,υ x 1,υ x 2,υ x 3,υ y 0,υ y 1,υ y 2,υ y 3,υ z 0,υ z 1,υ z 2,υ z 3]:Array Value).all (·.oneCell')=true:=by simp [Value.oneCell']
end
section
open Go.RowKit Limbs
set_option maxHeartbeats 8000000
theorem sleft_any (a:Nat)(ha:a<W256)(w:World): Calls Tryz.prog 92 #[nv a] w fun e w'=>e = .returned (nv (a % mN))∧Below w.heap.size w w':=by
 have h:=add_any 1 a 0 ha (by decide);rw [show md 1=mN by unfold md;rw [if_neg (by decide)],Nat.add_zero] at h;have HADD:=Lib.hid h;clear h;have hz:nv 0 = .agg #[.int .u64 0,.int .u64 0,.int .u64 0,.int .u64 0]:=rfl;rw [hz] at HADD;simp only [nv,num] at HADD ⊢;go_enter Tryz.func92,Tryz.ntmps92;go_wp2_with fail;refine(keep w.heap.size w (HADD.out _) (by go_grown) (Nat.le_refl _)).mono ?_;rintro e w1 ⟨rfl,hb,hk⟩;have KR:Bk 24 w1 (w.heap.size+1) cs0:=Bk.below (Bk.new (by simp)) hk;obtain⟨f0,f1,f2,f3⟩:=KR.fros;obtain⟨j0,j1,j2,j3⟩:=KR.cells;go_wp2_with fail;refine ret_cell rfl (w.heap.size+1) (a % mN) rfl (Bk.put KR) rfl ⟨rfl,?_⟩
 go_grown
theorem inRange_any (a:Nat)(ha:a<W256)(w:World): Calls Tryz.prog 41 #[nv a] w fun e w'=>e = .returned (.bool (decide (0<a∧a<mN)))∧Below w.heap.size w w':=by
 have hmN:mN<W256:=by decide
 have HL:=Lib.hid (sleft_any a ha);have HZ:Hid (∀w,(Op.equalIn 10000 24 (.agg #[υ a 0,υ a 1,υ a 2,υ a 3]) (.agg #[.int .u64 0,.int .u64 0,.int .u64 0,.int .u64 0])).run Tryz.prog w = .ok (decide (a=0)) w):=Lib.hid fun w=>eqN a 0 ha (by decide) w
 have HE:Hid (∀w,(Op.equalIn 10000 24 (.agg #[.int .u64 (lb (a % mN) 0:Nat),.int .u64 (lb (a % mN) 1:Nat),.int .u64 (lb (a % mN) 2:Nat),.int .u64 (lb (a % mN) 3:Nat)]) (.agg #[υ a 0,υ a 1,υ a 2,υ a 3])).run Tryz.prog w = .ok (decide (a % mN=a)) w):=Lib.hid fun w=>eqN (a % mN) a (Nat.lt_trans (Nat.mod_lt _ (by decide)) hmN) ha w
 have hv:decide (0<a∧a<mN)=(!decide (a=0)&&decide (a % mN=a)):=by
  have h1:a % mN=a↔a<mN:=⟨fun h=>by rw [← h];exact Nat.mod_lt _ (by decide),Nat.mod_eq_of_lt⟩
  by_cases h0:a=0
  ·subst h0;simp
  ·have:0<a:=by omega
   simp [h0,this,h1]
 rw [hv];clear hv hmN ha
 by_cases h0:a=0
 ·rw [decide_eq_true h0] at HZ ⊢;clear h0;have hz:=HZ.out;simp only [nv,num] at HL ⊢;go_enter Tryz.func41,Tryz.ntmps41;go_wp2_with fail;have K:Bk 24 (w.alloc (.cells (cs4 a) 24)) w.heap.size (cs4 a):=Bk.new rfl;have hb0:Below w.heap.size w (w.alloc (.cells (cs4 a) 24)):=by go_grown
  unfold cs4 at K hb0;generalize (w.alloc (.cells #[υ a 0,υ a 1,υ a 2,υ a 3] 24))=W at K hb0 ⊢;obtain⟨x0,x1,x2,x3⟩:=K.reg;refine wp_region_quiet_below mixed (by kernel_rfl) ?_
  repeat (first | go_big_quiet_step (exact qg HL.out) | quiet_step (exact qg HL.out))
  refine wpQuiet_nil ?_;intro _ hw';obtain⟨⟨dq,osq⟩,hw''⟩:=hw';subst hw'';go_wp2_with fail;go_returns;exact⟨rfl,hb0.trans ((below_regrown W dq osq).mono hb0.size)⟩
 ·rw [decide_eq_false h0] at HZ ⊢;clear h0;have hz:=HZ.out;have he:=HE.out;generalize decide (a % mN=a)=bb at he ⊢;simp only [nv,num] at HL ⊢;go_enter Tryz.func41,Tryz.ntmps41;go_wp2_with fail;have K:Bk 24 (w.alloc (.cells (cs4 a) 24)) w.heap.size (cs4 a):=Bk.new rfl;have hb0:Below w.heap.size w (w.alloc (.cells (cs4 a) 24)):=by go_grown
  unfold cs4 at K hb0;generalize (w.alloc (.cells #[υ a 0,υ a 1,υ a 2,υ a 3] 24))=W at K hb0 ⊢;obtain⟨x0,x1,x2,x3⟩:=K.reg;refine wp_region_quiet_below mixed (by kernel_rfl) ?_
  repeat (first | go_big_quiet_step (exact qg HL.out) | quiet_step (exact qg HL.out))
  refine wpQuiet_nil ?_;intro _ hw';obtain⟨⟨dq,osq⟩,hw''⟩:=hw';subst hw'';go_wp2_with fail;go_returns;exact⟨by simp,hb0.trans ((below_regrown W dq osq).mono hb0.size)⟩
end
end Go.Proofs.YtpggkfdijmnmiaaGreat
