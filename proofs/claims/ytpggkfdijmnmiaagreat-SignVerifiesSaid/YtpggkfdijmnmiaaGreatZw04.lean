/- The whole product of two numbers: the walk. No condition but -/
import Derived.Test.YtpggkfdijmnmiaaGreatZw00
import Derived.Test.YtpggkfdijmnmiaaGreatZw01
set_option linter.unusedVariables false
set_option linter.unusedSimpArgs false
set_option maxRecDepth 100000
namespace Go.Proofs.YtpggkfdijmnmiaaGreat
section
open Go.RowKit Limbs
set_option maxHeartbeats 4000000 in
theorem times_any {a b c d:Nat}(ha:a<18446744073709551616)(hb:b<18446744073709551616)(hc:c<18446744073709551616)(hd:d<18446744073709551616)(w:World):
  Calls Tryz.prog 161 #[.int .u64 (a:Int),.int .u64 (b:Int),.int .u64 (c:Int),.int .u64 (d:Int)] w fun e w'=>(∃l h:Nat,l<18446744073709551616∧h<18446744073709551616∧l+18446744073709551616*h=a*b+c+d∧e = .returned (.tuple #[.int .u64 (l:Int),.int .u64 (h:Int)]))∧w'=w:=by
 have hm:=Lib.hid (Tryz.bits_Mul64 a b ha hb);have hP:a*b≤18446744073709551615*18446744073709551615:=Nat.mul_le_mul (by omega) (by omega);generalize a*b=P at *;have hL:P % 18446744073709551616<18446744073709551616:=by omega
 have hPE:P % 18446744073709551616+18446744073709551616*(P / 18446744073709551616)=P:=by omega
 generalize P % 18446744073709551616=L at *;generalize P / 18446744073709551616=H at *;obtain⟨s0,c0,hs0,hc0,e0,k0⟩:=add64 L c 0 (by omega) hL hc;obtain⟨s1,c1,hs1,hc1,e1,k1⟩:=add64 s0 d 0 (by omega) hs0 hd;rw [show((0:Nat):Int)=0 from rfl] at k0 k1;have HF:Hid (s1<18446744073709551616∧H+c0+c1<18446744073709551616∧s1+18446744073709551616*(H+c0+c1)=P+c+d):=Lib.hid ⟨hs1,by omega,by omega⟩;have w1:IntKind.u64.wrap ((H:Int)+c0)=((H+c0:Nat):Int):=by rw [IntKind.wrap_u64];omega
 have w2:IntKind.u64.wrap (((H+c0:Nat):Int)+c1)=((H+c0+c1:Nat):Int):=by rw [IntKind.wrap_u64];omega
 generalize hx:H+c0=X at *;generalize hy:X+c1=Y at *;clear hs0 hc0 hs1 hc1 e0 e1 hL hPE hP ha hb hc hd hx hy;go_enter Tryz.func161,Tryz.ntmps161;go_wp2_with fail;refine(hm.out _).mono ?_;rintro e w' ⟨rfl,rfl⟩;go_wp2_with fail;go_ret2;exact⟨⟨s1,Y,HF.out.1,HF.out.2.1,HF.out.2.2,rfl⟩,rfl⟩
end
section
open Go.RowKit Limbs
open Go.Lib renaming hid→Φ
set_option maxHeartbeats 8000000
theorem lz_P (w:World): Calls Tryz.prog 199 #[.int .u64 18446744069414584321] w fun e w'=>e = .returned (.int .i64 0)∧w'=w:=by
 go_enter Tryz.func199,Tryz.ntmps199;go_wp2_with fail;refine(show Calls Tryz.prog 207 #[.int .u64 18446744069414584321] w fun e w'=>e = .returned (.int .i64 64)∧w'=w from ?_).mono ?_
 ·go_enter Tryz.func207,Tryz.ntmps207;go_wp2_with fail;go_ret;exact⟨by kernel_rfl,rfl⟩
 rintro e w' ⟨rfl,rfl⟩;go_wp2_with fail;go_ret;exact⟨rfl,rfl⟩
theorem lz_N (w:World): Calls Tryz.prog 199 #[.int .u64 18446744069414584320] w fun e w'=>e = .returned (.int .i64 0)∧w'=w:=by
 go_enter Tryz.func199,Tryz.ntmps199;go_wp2_with fail;refine(show Calls Tryz.prog 207 #[.int .u64 18446744069414584320] w fun e w'=>e = .returned (.int .i64 64)∧w'=w from ?_).mono ?_
 ·go_enter Tryz.func207,Tryz.ntmps207;go_wp2_with fail;go_ret;exact⟨by kernel_rfl,rfl⟩
 rintro e w' ⟨rfl,rfl⟩;go_wp2_with fail;go_ret;exact⟨rfl,rfl⟩
theorem half_P (x u:Nat)(hx:x<18446744069414584321)(hu:u<4294967296):
  (¬4294967296≤x / 4294967295→¬4294967296*(x % 4294967295)+u<x / 4294967295→(x*4294967296+u) / 18446744069414584321=x / 4294967295)∧(4294967296≤x / 4294967295∨4294967296*(x % 4294967295)+u<x / 4294967295→x % 4294967295=0∧u<x / 4294967295∧(x*4294967296+u) / 18446744069414584321=x / 4294967295 - 1):=by
 have ex:x=4294967295*(x / 4294967295)+x % 4294967295:=(Nat.div_add_mod x 4294967295).symm;have hr:x % 4294967295<4294967295:=Nat.mod_lt _ (by decide);generalize x / 4294967295=q at *;generalize x % 4294967295=r at *;subst ex;refine⟨fun h1 h2=>?_,fun h=>⟨by omega,by omega,?_⟩⟩
 ·rw [Nat.div_eq_iff (by decide)];omega
 ·rw [Nat.div_eq_iff (by decide)];omega
theorem long_div (h l D:Nat)(hD:0<D): (h*18446744073709551616+l) / D=(h*4294967296+l / 4294967296) / D*4294967296+((h*4294967296+l / 4294967296) % D*4294967296+l % 4294967296) / D:=by
 have e:h*18446744073709551616+l=((h*4294967296+l / 4294967296) % D*4294967296+l % 4294967296)+(h*4294967296+l / 4294967296) / D*4294967296*D:=by
  have e1:=Nat.div_add_mod (h*4294967296+l / 4294967296) D;have e2:(h*4294967296+l / 4294967296) / D*4294967296*D=D*((h*4294967296+l / 4294967296) / D)*4294967296:=by rw [Nat.mul_right_comm,Nat.mul_comm ((h*4294967296+l / 4294967296) / D) D]
  rw [e2];generalize D*((h*4294967296+l / 4294967296) / D)=A at *;generalize (h*4294967296+l / 4294967296) % D=C at *;omega
 conv=>lhs;rw [e]
 rw [Nat.add_mul_div_right _ _ hD,Nat.add_comm]
theorem half_N (x u:Nat)(hx:x<18446744069414584320)(hu:u<4294967296): x / 4294967295<4294967296∧(x*4294967296+u) / 18446744069414584320=x / 4294967295:=by
 have ex:x=4294967295*(x / 4294967295)+x % 4294967295:=(Nat.div_add_mod x 4294967295).symm;have hr:x % 4294967295<4294967295:=Nat.mod_lt _ (by decide);generalize x / 4294967295=q at *;generalize x % 4294967295=r at *;subst ex;refine⟨by omega,?_⟩;rw [Nat.div_eq_iff (by decide)];omega
theorem and_one:bits .and .u64 18446744069414584321 4294967295=1:=by decide +kernel
theorem and_nil:bits .and .u64 18446744069414584320 4294967295=0:=by decide +kernel
theorem or_nil (h:Nat)(hh:h<18446744073709551616): bits .or .u64 (h:Int) 0=(h:Int):=by
 have:=bits_or_u64_nat h 0 hh (by decide)
 simpa using this
theorem div_P (h l:Nat)(hh:h<18446744069414584321)(hl:l<18446744073709551616)(w:World):
  Calls Tryz.prog 185 #[.int .u64 (h:Int),.int .u64 (l:Int),.int .u64 18446744069414584321] w fun e w'=>(∃r:Value,e = .returned (.tuple #[.int .u64 (((h*18446744073709551616+l) / 18446744069414584321:Nat):Int),r]))∧Below w.heap.size w w':=by
 by_cases h0:h=0
 ·subst h0;go_enter Tryz.func185,Tryz.ntmps185;go_wp2_with fail
  go_region
  go_wp2_with fail;go_ret2;exact⟨⟨.int .u64 ((l:Int) % 18446744069414584321),by simp⟩,by go_grown⟩
 ·have t1:((h:Int) == 0)=false:=by simp;omega
  have t2:decide ((18446744069414584321:Int)≤(h:Int))=false:=by simp;omega
  have HPH:=Φ (half_P h (l / 4294967296) hh (by omega));have HFIN:=Φ (long_div h l 18446744069414584321 (by decide));have hX:(h*4294967296+l / 4294967296) % 18446744069414584321<18446744069414584321:=Nat.mod_lt _ (by decide);have HXE:=Φ (Nat.div_add_mod' (h*4294967296+l / 4294967296) 18446744069414584321).symm;obtain⟨u1,hu1⟩:∃u,u=l / 4294967296:=⟨_,rfl⟩;obtain⟨u0,hu0⟩:∃u,u=l % 4294967296:=⟨_,rfl⟩;obtain⟨q,hq⟩:∃u,u=h / 4294967295:=⟨_,rfl⟩;obtain⟨r,hr⟩:∃u,u=h % 4294967295:=⟨_,rfl⟩;obtain⟨M,hM⟩:∃u,u=q*4294967295:=⟨_,rfl⟩;rw [← hu1,← hu0] at HFIN;rw [← hu1] at HPH HXE hX;rw [← hq,← hr] at HPH;have a1:IntKind.u64.wrap (h:Int)=(h:Int):=by rw [IntKind.wrap_u64];omega
  have a2:(l:Int) / 18446744073709551616=0:=by omega
  have a4:IntKind.u64.wrap (l:Int)=(l:Int):=by rw [IntKind.wrap_u64];omega
  have a5:(l:Int) / 4294967296=(u1:Int):=by omega
  have a8:(h:Int).tdiv 4294967295=(q:Int):=by rw [Int.tdiv_eq_ediv_of_nonneg (by omega)];omega
  have a9:IntKind.u64.wrap (q:Int)=(q:Int):=by rw [IntKind.wrap_u64];omega
  have a10:IntKind.u64.wrap ((q:Int)*4294967295)=(M:Int):=by rw [IntKind.wrap_u64];omega
  have a11:IntKind.u64.wrap ((h:Int) - (M:Int))=(r:Int):=by rw [IntKind.wrap_u64];omega
  have a3:=or_nil h (by omega);have a6:bits .and .u64 (l:Int) 4294967295=(u0:Int):=by rw [Mul64.maskN l hl,← hu0]
  have a7:=and_one;have HU:Hid (u1<4294967296∧u0<4294967296∧r<4294967295∧q≤4294967296∧h=q*4294967295+r∧h<18446744069414584321):=Φ ⟨by omega,by omega,by omega,by omega,by omega,hh⟩;have HX:=Φ hX;obtain⟨FF,hFF⟩:∃z,z=(h*18446744073709551616+l) / 18446744069414584321:=⟨_,rfl⟩;rw [← hFF];have HFF:=Φ hFF;clear hFF;clear hh hl h0 hu1 hu0 hq hr hM hX;go_enter Tryz.func185,Tryz.ntmps185;go_wp2_with fail;refine(lz_P w).mono ?_;rintro e w' ⟨rfl,rfl⟩;go_wp2_with fail;obtain⟨g1,g2,g3,g4,g5,g6⟩:=HU.out;obtain⟨Q1,hQ1⟩:∃z,z=(h*4294967296+u1) / 18446744069414584321:=⟨_,rfl⟩;obtain⟨X,hX⟩:∃z,z=(h*4294967296+u1) % 18446744069414584321:=⟨_,rfl⟩;have k1:=HXE.out;have k2:=HX.out;have k3:=HPH.out;have k4:=HFIN.out;rw [← hQ1,← hX] at k1 k4;rw [← hX] at k2;rw [← hQ1] at k3;have HP1:=Φ k3;have HP2:=Φ (half_P X u0 k2 g2);obtain⟨q2,hq2⟩:∃z,z=X / 4294967295:=⟨_,rfl⟩;obtain⟨r2,hr2⟩:∃z,z=X % 4294967295:=⟨_,rfl⟩;obtain⟨Q0,hQ0⟩:∃z,z=(X*4294967296+u0) / 18446744069414584321:=⟨_,rfl⟩;rw [← hq2,← hr2,← hQ0] at HP2;rw [← hQ0] at k4;have g7:r2<4294967295:=by omega
  have g8:q2≤4294967296:=by omega
  have g9:X=q2*4294967295+r2:=by omega
  have g10:Q0<4294967296:=by rw [hQ0];exact(Nat.div_lt_iff_lt_mul (by decide)).2 (by omega)
  have g11:Q1<4294967296:=by rw [hQ1];exact(Nat.div_lt_iff_lt_mul (by decide)).2 (by omega)
  have HK4:=Φ k4;clear k3 k4 hQ1 hX hQ0 hq2 hr2 HPH HXE HX HFIN HU a1 a2 a3 a4 a5 a6 a7 a8 a9 a10 a11 t1 t2;have HG:=Φ (And.intro g1 (And.intro g2 (And.intro g3 (And.intro g4 (And.intro g5 (And.intro g6 (And.intro g7 (And.intro g8 (And.intro g9 (And.intro g10 (And.intro g11 (And.intro k1 k2))))))))))));clear g1 g2 g3 g4 g5 g6 g7 g8 g9 g10 g11 k1 k2
  by_cases c1:4294967296≤q
  ·obtain⟨g1,g2,g3,g4,g5,g6,g7,g8,g9,g10,g11,k1,k2⟩:=HG.out;obtain⟨hr0,hlt,hQ⟩:=HP1.out.2 (.inl c1);obtain⟨R3,hR3⟩:∃z,z=18446744069414584320+u1:=⟨_,rfl⟩;have b1:IntKind.u64.wrap ((q:Int) - 1)=(Q1:Int):=by rw [IntKind.wrap_u64];omega
   have b2:IntKind.u64.wrap ((r:Int)+4294967295)=4294967295:=by rw [IntKind.wrap_u64];omega
   have b3:decide ((4294967296:Int)≤(q:Int))=true:=by simp;omega
   have b4:IntKind.u64.wrap ((18446744069414584320:Int)+(u1:Int))=(R3:Int):=by rw [IntKind.wrap_u64];omega
   have b5:decide ((4294967296:Int)≤(Q1:Int))=false:=by simp;omega
   have b6:decide (R3<Q1)=false:=by simp;omega
   have b7:IntKind.u64.wrap (Q1:Int)=(Q1:Int):=by rw [IntKind.wrap_u64];omega
   clear hR3;refine wp_loop_rounds 2 ?_;rw [rounds_succ];obtain⟨H1,hH1⟩:∃z,z=h*4294967296 % 18446744073709551616:=⟨_,rfl⟩;obtain⟨H2,hH2⟩:∃z,z=(H1+u1) % 18446744073709551616:=⟨_,rfl⟩;obtain⟨H3,hH3⟩:∃z,z=Q1*18446744069414584321 % 18446744073709551616:=⟨_,rfl⟩;obtain⟨M2,hM2⟩:∃z,z=q2*4294967295:=⟨_,rfl⟩;have d1:IntKind.u64.wrap ((h:Int)*4294967296)=(H1:Int):=by rw [IntKind.wrap_u64];omega
   have d2:IntKind.u64.wrap ((H1:Int)+(u1:Int))=(H2:Int):=by rw [IntKind.wrap_u64];omega
   have d3:IntKind.u64.wrap ((Q1:Int)*18446744069414584321)=(H3:Int):=by rw [IntKind.wrap_u64];omega
   have d4:IntKind.u64.wrap ((H2:Int) - (H3:Int))=(X:Int):=by rw [IntKind.wrap_u64];omega
   have d5:(X:Int).tdiv 4294967295=(q2:Int):=by rw [Int.tdiv_eq_ediv_of_nonneg (by omega)];omega
   have d6:IntKind.u64.wrap ((q2:Int))=(q2:Int):=by rw [IntKind.wrap_u64];omega
   have d7:IntKind.u64.wrap ((q2:Int)*4294967295)=(M2:Int):=by rw [IntKind.wrap_u64];omega
   have d8:IntKind.u64.wrap ((X:Int) - (M2:Int))=(r2:Int):=by rw [IntKind.wrap_u64];omega
   clear hH1 hH2 hH3 hM2;clear c1 g1 g2 g3 g4 g5 g6 g7 g8 g9 g10 g11 k1 k2 hr0 hlt hQ;go_wp2_with fail;rw [rounds_succ];go_wp2_with fail;clear b1 b2 b3 b4 b5 b6 b7 d1 d2 d3 d4 d5 d6 d7 d8
   by_cases c1:4294967296≤q2
   ·obtain⟨g1,g2,g3,g4,g5,g6,g7,g8,g9,g10,g11,k1,k2⟩:=HG.out;obtain⟨hr0,hlt,hQ⟩:=HP2.out.2 (.inl c1);obtain⟨R3,hR3⟩:∃z,z=18446744069414584320+u0:=⟨_,rfl⟩;have b1:IntKind.u64.wrap ((q2:Int) - 1)=(Q0:Int):=by rw [IntKind.wrap_u64];omega
    have b2:IntKind.u64.wrap ((r2:Int)+4294967295)=4294967295:=by rw [IntKind.wrap_u64];omega
    have b3:decide ((4294967296:Int)≤(q2:Int))=true:=by simp;omega
    have b4:IntKind.u64.wrap ((18446744069414584320:Int)+(u0:Int))=(R3:Int):=by rw [IntKind.wrap_u64];omega
    have b5:decide ((4294967296:Int)≤(Q0:Int))=false:=by simp;omega
    have b6:decide (R3<Q0)=false:=by simp;omega
    have b7:IntKind.u64.wrap (Q0:Int)=(Q0:Int):=by rw [IntKind.wrap_u64];omega
    clear hR3;refine wp_loop_rounds 2 ?_;rw [rounds_succ];obtain⟨F1,hF1⟩:∃z,z=Q1*4294967296:=⟨_,rfl⟩;have d1:IntKind.u64.wrap ((Q1:Int)*4294967296)=(F1:Int):=by rw [IntKind.wrap_u64];omega
    have d2:IntKind.u64.wrap ((F1:Int)+(Q0:Int))=((F1+Q0:Nat):Int):=by rw [IntKind.wrap_u64];omega
    obtain⟨F2,hF2⟩:∃z,z=F1+Q0:=⟨_,rfl⟩;rw [← hF2] at d2;have HR:Hid (FF=F2):=Φ (by rw [HFF.out,HK4.out,hF2,hF1]);clear hF1 hF2;clear c1 g1 g2 g3 g4 g5 g6 g7 g8 g9 g10 g11 k1 k2 hr0 hlt hQ;go_wp2_with fail;rw [rounds_succ];go_wp2_with fail;go_ret2;refine⟨?_,by go_grown⟩;rw [HR.out];exact⟨_,rfl⟩
   ·by_cases c2:4294967296*r2+u0<q2
    ·obtain⟨g1,g2,g3,g4,g5,g6,g7,g8,g9,g10,g11,k1,k2⟩:=HG.out;obtain⟨hr0,hlt,hQ⟩:=HP2.out.2 (.inr c2);obtain⟨R3,hR3⟩:∃z,z=18446744069414584320+u0:=⟨_,rfl⟩;have b1:IntKind.u64.wrap ((q2:Int) - 1)=(Q0:Int):=by rw [IntKind.wrap_u64];omega
     have b2:IntKind.u64.wrap ((r2:Int)+4294967295)=4294967295:=by rw [IntKind.wrap_u64];omega
     have b3:decide ((4294967296:Int)≤(q2:Int))=false:=by simp;omega
     obtain⟨R1,hR1⟩:∃z,z=4294967296*r2:=⟨_,rfl⟩;obtain⟨R2,hR2⟩:∃z,z=R1+u0:=⟨_,rfl⟩;have b8:IntKind.u64.wrap ((4294967296:Int)*(r2:Int))=(R1:Int):=by rw [IntKind.wrap_u64];omega
     have b9:IntKind.u64.wrap ((R1:Int)+(u0:Int))=(R2:Int):=by rw [IntKind.wrap_u64];omega
     have b10:decide (R2<q2)=true:=by simp;omega
     have b11:IntKind.u64.wrap (q2:Int)=(q2:Int):=by rw [IntKind.wrap_u64];omega
     clear hR1 hR2;have b4:IntKind.u64.wrap ((18446744069414584320:Int)+(u0:Int))=(R3:Int):=by rw [IntKind.wrap_u64];omega
     have b5:decide ((4294967296:Int)≤(Q0:Int))=false:=by simp;omega
     have b6:decide (R3<Q0)=false:=by simp;omega
     have b7:IntKind.u64.wrap (Q0:Int)=(Q0:Int):=by rw [IntKind.wrap_u64];omega
     clear hR3;refine wp_loop_rounds 2 ?_;rw [rounds_succ];obtain⟨F1,hF1⟩:∃z,z=Q1*4294967296:=⟨_,rfl⟩;have d1:IntKind.u64.wrap ((Q1:Int)*4294967296)=(F1:Int):=by rw [IntKind.wrap_u64];omega
     have d2:IntKind.u64.wrap ((F1:Int)+(Q0:Int))=((F1+Q0:Nat):Int):=by rw [IntKind.wrap_u64];omega
     obtain⟨F2,hF2⟩:∃z,z=F1+Q0:=⟨_,rfl⟩;rw [← hF2] at d2;have HR:Hid (FF=F2):=Φ (by rw [HFF.out,HK4.out,hF2,hF1]);clear hF1 hF2;clear c1 g1 g2 g3 g4 g5 g6 g7 g8 g9 g10 g11 k1 k2 hr0 hlt hQ;go_wp2_with fail;rw [rounds_succ];go_wp2_with fail;go_ret2;refine⟨?_,by go_grown⟩;rw [HR.out];exact⟨_,rfl⟩
    ·obtain⟨g1,g2,g3,g4,g5,g6,g7,g8,g9,g10,g11,k1,k2⟩:=HG.out;have hQ:Q0=q2:=HP2.out.1 c1 c2;subst hQ;obtain⟨R1,hR1⟩:∃z,z=4294967296*r2:=⟨_,rfl⟩;obtain⟨R2,hR2⟩:∃z,z=R1+u0:=⟨_,rfl⟩;have b1:IntKind.u64.wrap ((4294967296:Int)*(r2:Int))=(R1:Int):=by rw [IntKind.wrap_u64];omega
     have b2:IntKind.u64.wrap ((R1:Int)+(u0:Int))=(R2:Int):=by rw [IntKind.wrap_u64];omega
     have b3:decide ((4294967296:Int)≤(Q0:Int))=false:=by simp;omega
     have b4:decide (R2<Q0)=false:=by simp;omega
     have b5:IntKind.u64.wrap (Q0:Int)=(Q0:Int):=by rw [IntKind.wrap_u64];omega
     clear hR1 hR2;refine wp_loop_rounds 1 ?_;rw [rounds_succ];obtain⟨F1,hF1⟩:∃z,z=Q1*4294967296:=⟨_,rfl⟩;have d1:IntKind.u64.wrap ((Q1:Int)*4294967296)=(F1:Int):=by rw [IntKind.wrap_u64];omega
     have d2:IntKind.u64.wrap ((F1:Int)+(Q0:Int))=((F1+Q0:Nat):Int):=by rw [IntKind.wrap_u64];omega
     obtain⟨F2,hF2⟩:∃z,z=F1+Q0:=⟨_,rfl⟩;rw [← hF2] at d2;have HR:Hid (FF=F2):=Φ (by rw [HFF.out,HK4.out,hF2,hF1]);clear hF1 hF2;clear c1 g1 g2 g3 g4 g5 g6 g7 g8 g9 g10 g11 k1 k2;go_wp2_with fail;go_ret2;refine⟨?_,by go_grown⟩;rw [HR.out];exact⟨_,rfl⟩
  ·by_cases c2:4294967296*r+u1<q
   ·obtain⟨g1,g2,g3,g4,g5,g6,g7,g8,g9,g10,g11,k1,k2⟩:=HG.out;obtain⟨hr0,hlt,hQ⟩:=HP1.out.2 (.inr c2);obtain⟨R3,hR3⟩:∃z,z=18446744069414584320+u1:=⟨_,rfl⟩;have b1:IntKind.u64.wrap ((q:Int) - 1)=(Q1:Int):=by rw [IntKind.wrap_u64];omega
    have b2:IntKind.u64.wrap ((r:Int)+4294967295)=4294967295:=by rw [IntKind.wrap_u64];omega
    have b3:decide ((4294967296:Int)≤(q:Int))=false:=by simp;omega
    obtain⟨R1,hR1⟩:∃z,z=4294967296*r:=⟨_,rfl⟩;obtain⟨R2,hR2⟩:∃z,z=R1+u1:=⟨_,rfl⟩;have b8:IntKind.u64.wrap ((4294967296:Int)*(r:Int))=(R1:Int):=by rw [IntKind.wrap_u64];omega
    have b9:IntKind.u64.wrap ((R1:Int)+(u1:Int))=(R2:Int):=by rw [IntKind.wrap_u64];omega
    have b10:decide (R2<q)=true:=by simp;omega
    have b11:IntKind.u64.wrap (q:Int)=(q:Int):=by rw [IntKind.wrap_u64];omega
    clear hR1 hR2;have b4:IntKind.u64.wrap ((18446744069414584320:Int)+(u1:Int))=(R3:Int):=by rw [IntKind.wrap_u64];omega
    have b5:decide ((4294967296:Int)≤(Q1:Int))=false:=by simp;omega
    have b6:decide (R3<Q1)=false:=by simp;omega
    have b7:IntKind.u64.wrap (Q1:Int)=(Q1:Int):=by rw [IntKind.wrap_u64];omega
    clear hR3;refine wp_loop_rounds 2 ?_;rw [rounds_succ];obtain⟨H1,hH1⟩:∃z,z=h*4294967296 % 18446744073709551616:=⟨_,rfl⟩;obtain⟨H2,hH2⟩:∃z,z=(H1+u1) % 18446744073709551616:=⟨_,rfl⟩;obtain⟨H3,hH3⟩:∃z,z=Q1*18446744069414584321 % 18446744073709551616:=⟨_,rfl⟩;obtain⟨M2,hM2⟩:∃z,z=q2*4294967295:=⟨_,rfl⟩;have d1:IntKind.u64.wrap ((h:Int)*4294967296)=(H1:Int):=by rw [IntKind.wrap_u64];omega
    have d2:IntKind.u64.wrap ((H1:Int)+(u1:Int))=(H2:Int):=by rw [IntKind.wrap_u64];omega
    have d3:IntKind.u64.wrap ((Q1:Int)*18446744069414584321)=(H3:Int):=by rw [IntKind.wrap_u64];omega
    have d4:IntKind.u64.wrap ((H2:Int) - (H3:Int))=(X:Int):=by rw [IntKind.wrap_u64];omega
    have d5:(X:Int).tdiv 4294967295=(q2:Int):=by rw [Int.tdiv_eq_ediv_of_nonneg (by omega)];omega
    have d6:IntKind.u64.wrap ((q2:Int))=(q2:Int):=by rw [IntKind.wrap_u64];omega
    have d7:IntKind.u64.wrap ((q2:Int)*4294967295)=(M2:Int):=by rw [IntKind.wrap_u64];omega
    have d8:IntKind.u64.wrap ((X:Int) - (M2:Int))=(r2:Int):=by rw [IntKind.wrap_u64];omega
    clear hH1 hH2 hH3 hM2;clear c1 c2 g1 g2 g3 g4 g5 g6 g7 g8 g9 g10 g11 k1 k2 hr0 hlt hQ;go_wp2_with fail;rw [rounds_succ];go_wp2_with fail;clear b1 b2 b3 b4 b5 b6 b7 b8 b9 b10 b11 d1 d2 d3 d4 d5 d6 d7 d8
    by_cases c1:4294967296≤q2
    ·obtain⟨g1,g2,g3,g4,g5,g6,g7,g8,g9,g10,g11,k1,k2⟩:=HG.out;obtain⟨hr0,hlt,hQ⟩:=HP2.out.2 (.inl c1);obtain⟨R3,hR3⟩:∃z,z=18446744069414584320+u0:=⟨_,rfl⟩;have b1:IntKind.u64.wrap ((q2:Int) - 1)=(Q0:Int):=by rw [IntKind.wrap_u64];omega
     have b2:IntKind.u64.wrap ((r2:Int)+4294967295)=4294967295:=by rw [IntKind.wrap_u64];omega
     have b3:decide ((4294967296:Int)≤(q2:Int))=true:=by simp;omega
     have b4:IntKind.u64.wrap ((18446744069414584320:Int)+(u0:Int))=(R3:Int):=by rw [IntKind.wrap_u64];omega
     have b5:decide ((4294967296:Int)≤(Q0:Int))=false:=by simp;omega
     have b6:decide (R3<Q0)=false:=by simp;omega
     have b7:IntKind.u64.wrap (Q0:Int)=(Q0:Int):=by rw [IntKind.wrap_u64];omega
     clear hR3;refine wp_loop_rounds 2 ?_;rw [rounds_succ];obtain⟨F1,hF1⟩:∃z,z=Q1*4294967296:=⟨_,rfl⟩;have d1:IntKind.u64.wrap ((Q1:Int)*4294967296)=(F1:Int):=by rw [IntKind.wrap_u64];omega
     have d2:IntKind.u64.wrap ((F1:Int)+(Q0:Int))=((F1+Q0:Nat):Int):=by rw [IntKind.wrap_u64];omega
     obtain⟨F2,hF2⟩:∃z,z=F1+Q0:=⟨_,rfl⟩;rw [← hF2] at d2;have HR:Hid (FF=F2):=Φ (by rw [HFF.out,HK4.out,hF2,hF1]);clear hF1 hF2;clear c1 g1 g2 g3 g4 g5 g6 g7 g8 g9 g10 g11 k1 k2 hr0 hlt hQ;go_wp2_with fail;rw [rounds_succ];go_wp2_with fail;go_ret2;refine⟨?_,by go_grown⟩;rw [HR.out];exact⟨_,rfl⟩
    ·by_cases c2:4294967296*r2+u0<q2
     ·obtain⟨g1,g2,g3,g4,g5,g6,g7,g8,g9,g10,g11,k1,k2⟩:=HG.out;obtain⟨hr0,hlt,hQ⟩:=HP2.out.2 (.inr c2);obtain⟨R3,hR3⟩:∃z,z=18446744069414584320+u0:=⟨_,rfl⟩;have b1:IntKind.u64.wrap ((q2:Int) - 1)=(Q0:Int):=by rw [IntKind.wrap_u64];omega
      have b2:IntKind.u64.wrap ((r2:Int)+4294967295)=4294967295:=by rw [IntKind.wrap_u64];omega
      have b3:decide ((4294967296:Int)≤(q2:Int))=false:=by simp;omega
      obtain⟨R1,hR1⟩:∃z,z=4294967296*r2:=⟨_,rfl⟩;obtain⟨R2,hR2⟩:∃z,z=R1+u0:=⟨_,rfl⟩;have b8:IntKind.u64.wrap ((4294967296:Int)*(r2:Int))=(R1:Int):=by rw [IntKind.wrap_u64];omega
      have b9:IntKind.u64.wrap ((R1:Int)+(u0:Int))=(R2:Int):=by rw [IntKind.wrap_u64];omega
      have b10:decide (R2<q2)=true:=by simp;omega
      have b11:IntKind.u64.wrap (q2:Int)=(q2:Int):=by rw [IntKind.wrap_u64];omega
      clear hR1 hR2;have b4:IntKind.u64.wrap ((18446744069414584320:Int)+(u0:Int))=(R3:Int):=by rw [IntKind.wrap_u64];omega
      have b5:decide ((4294967296:Int)≤(Q0:Int))=false:=by simp;omega
      have b6:decide (R3<Q0)=false:=by simp;omega
      have b7:IntKind.u64.wrap (Q0:Int)=(Q0:Int):=by rw [IntKind.wrap_u64];omega
      clear hR3;refine wp_loop_rounds 2 ?_;rw [rounds_succ];obtain⟨F1,hF1⟩:∃z,z=Q1*4294967296:=⟨_,rfl⟩;have d1:IntKind.u64.wrap ((Q1:Int)*4294967296)=(F1:Int):=by rw [IntKind.wrap_u64];omega
      have d2:IntKind.u64.wrap ((F1:Int)+(Q0:Int))=((F1+Q0:Nat):Int):=by rw [IntKind.wrap_u64];omega
      obtain⟨F2,hF2⟩:∃z,z=F1+Q0:=⟨_,rfl⟩;rw [← hF2] at d2;have HR:Hid (FF=F2):=Φ (by rw [HFF.out,HK4.out,hF2,hF1]);clear hF1 hF2;clear c1 c2 g1 g2 g3 g4 g5 g6 g7 g8 g9 g10 g11 k1 k2 hr0 hlt hQ;go_wp2_with fail;rw [rounds_succ];go_wp2_with fail;go_ret2;refine⟨?_,by go_grown⟩;rw [HR.out];exact⟨_,rfl⟩
     ·obtain⟨g1,g2,g3,g4,g5,g6,g7,g8,g9,g10,g11,k1,k2⟩:=HG.out;have hQ:Q0=q2:=HP2.out.1 c1 c2;subst hQ;obtain⟨R1,hR1⟩:∃z,z=4294967296*r2:=⟨_,rfl⟩;obtain⟨R2,hR2⟩:∃z,z=R1+u0:=⟨_,rfl⟩;have b1:IntKind.u64.wrap ((4294967296:Int)*(r2:Int))=(R1:Int):=by rw [IntKind.wrap_u64];omega
      have b2:IntKind.u64.wrap ((R1:Int)+(u0:Int))=(R2:Int):=by rw [IntKind.wrap_u64];omega
      have b3:decide ((4294967296:Int)≤(Q0:Int))=false:=by simp;omega
      have b4:decide (R2<Q0)=false:=by simp;omega
      have b5:IntKind.u64.wrap (Q0:Int)=(Q0:Int):=by rw [IntKind.wrap_u64];omega
      clear hR1 hR2;refine wp_loop_rounds 1 ?_;rw [rounds_succ];obtain⟨F1,hF1⟩:∃z,z=Q1*4294967296:=⟨_,rfl⟩;have d1:IntKind.u64.wrap ((Q1:Int)*4294967296)=(F1:Int):=by rw [IntKind.wrap_u64];omega
      have d2:IntKind.u64.wrap ((F1:Int)+(Q0:Int))=((F1+Q0:Nat):Int):=by rw [IntKind.wrap_u64];omega
      obtain⟨F2,hF2⟩:∃z,z=F1+Q0:=⟨_,rfl⟩;rw [← hF2] at d2;have HR:Hid (FF=F2):=Φ (by rw [HFF.out,HK4.out,hF2,hF1]);clear hF1 hF2;clear c1 c2 g1 g2 g3 g4 g5 g6 g7 g8 g9 g10 g11 k1 k2;go_wp2_with fail;go_ret2;refine⟨?_,by go_grown⟩;rw [HR.out];exact⟨_,rfl⟩
   ·obtain⟨g1,g2,g3,g4,g5,g6,g7,g8,g9,g10,g11,k1,k2⟩:=HG.out;have hQ:Q1=q:=HP1.out.1 c1 c2;subst hQ;obtain⟨R1,hR1⟩:∃z,z=4294967296*r:=⟨_,rfl⟩;obtain⟨R2,hR2⟩:∃z,z=R1+u1:=⟨_,rfl⟩;have b1:IntKind.u64.wrap ((4294967296:Int)*(r:Int))=(R1:Int):=by rw [IntKind.wrap_u64];omega
    have b2:IntKind.u64.wrap ((R1:Int)+(u1:Int))=(R2:Int):=by rw [IntKind.wrap_u64];omega
    have b3:decide ((4294967296:Int)≤(Q1:Int))=false:=by simp;omega
    have b4:decide (R2<Q1)=false:=by simp;omega
    have b5:IntKind.u64.wrap (Q1:Int)=(Q1:Int):=by rw [IntKind.wrap_u64];omega
    clear hR1 hR2;refine wp_loop_rounds 1 ?_;rw [rounds_succ];obtain⟨H1,hH1⟩:∃z,z=h*4294967296 % 18446744073709551616:=⟨_,rfl⟩;obtain⟨H2,hH2⟩:∃z,z=(H1+u1) % 18446744073709551616:=⟨_,rfl⟩;obtain⟨H3,hH3⟩:∃z,z=Q1*18446744069414584321 % 18446744073709551616:=⟨_,rfl⟩;obtain⟨M2,hM2⟩:∃z,z=q2*4294967295:=⟨_,rfl⟩;have d1:IntKind.u64.wrap ((h:Int)*4294967296)=(H1:Int):=by rw [IntKind.wrap_u64];omega
    have d2:IntKind.u64.wrap ((H1:Int)+(u1:Int))=(H2:Int):=by rw [IntKind.wrap_u64];omega
    have d3:IntKind.u64.wrap ((Q1:Int)*18446744069414584321)=(H3:Int):=by rw [IntKind.wrap_u64];omega
    have d4:IntKind.u64.wrap ((H2:Int) - (H3:Int))=(X:Int):=by rw [IntKind.wrap_u64];omega
    have d5:(X:Int).tdiv 4294967295=(q2:Int):=by rw [Int.tdiv_eq_ediv_of_nonneg (by omega)];omega
    have d6:IntKind.u64.wrap ((q2:Int))=(q2:Int):=by rw [IntKind.wrap_u64];omega
    have d7:IntKind.u64.wrap ((q2:Int)*4294967295)=(M2:Int):=by rw [IntKind.wrap_u64];omega
    have d8:IntKind.u64.wrap ((X:Int) - (M2:Int))=(r2:Int):=by rw [IntKind.wrap_u64];omega
    clear hH1 hH2 hH3 hM2;clear c1 c2 g1 g2 g3 g4 g5 g6 g7 g8 g9 g10 g11 k1 k2;go_wp2_with fail;clear b1 b2 b3 b4 b5 d1 d2 d3 d4 d5 d6 d7 d8
    by_cases c1:4294967296≤q2
    ·obtain⟨g1,g2,g3,g4,g5,g6,g7,g8,g9,g10,g11,k1,k2⟩:=HG.out;obtain⟨hr0,hlt,hQ⟩:=HP2.out.2 (.inl c1);obtain⟨R3,hR3⟩:∃z,z=18446744069414584320+u0:=⟨_,rfl⟩;have b1:IntKind.u64.wrap ((q2:Int) - 1)=(Q0:Int):=by rw [IntKind.wrap_u64];omega
     have b2:IntKind.u64.wrap ((r2:Int)+4294967295)=4294967295:=by rw [IntKind.wrap_u64];omega
     have b3:decide ((4294967296:Int)≤(q2:Int))=true:=by simp;omega
     have b4:IntKind.u64.wrap ((18446744069414584320:Int)+(u0:Int))=(R3:Int):=by rw [IntKind.wrap_u64];omega
     have b5:decide ((4294967296:Int)≤(Q0:Int))=false:=by simp;omega
     have b6:decide (R3<Q0)=false:=by simp;omega
     have b7:IntKind.u64.wrap (Q0:Int)=(Q0:Int):=by rw [IntKind.wrap_u64];omega
     clear hR3;refine wp_loop_rounds 2 ?_;rw [rounds_succ];obtain⟨F1,hF1⟩:∃z,z=Q1*4294967296:=⟨_,rfl⟩;have d1:IntKind.u64.wrap ((Q1:Int)*4294967296)=(F1:Int):=by rw [IntKind.wrap_u64];omega
     have d2:IntKind.u64.wrap ((F1:Int)+(Q0:Int))=((F1+Q0:Nat):Int):=by rw [IntKind.wrap_u64];omega
     obtain⟨F2,hF2⟩:∃z,z=F1+Q0:=⟨_,rfl⟩;rw [← hF2] at d2;have HR:Hid (FF=F2):=Φ (by rw [HFF.out,HK4.out,hF2,hF1]);clear hF1 hF2;clear c1 g1 g2 g3 g4 g5 g6 g7 g8 g9 g10 g11 k1 k2 hr0 hlt hQ;go_wp2_with fail;rw [rounds_succ];go_wp2_with fail;go_ret2;refine⟨?_,by go_grown⟩;rw [HR.out];exact⟨_,rfl⟩
    ·by_cases c2:4294967296*r2+u0<q2
     ·obtain⟨g1,g2,g3,g4,g5,g6,g7,g8,g9,g10,g11,k1,k2⟩:=HG.out;obtain⟨hr0,hlt,hQ⟩:=HP2.out.2 (.inr c2);obtain⟨R3,hR3⟩:∃z,z=18446744069414584320+u0:=⟨_,rfl⟩;have b1:IntKind.u64.wrap ((q2:Int) - 1)=(Q0:Int):=by rw [IntKind.wrap_u64];omega
      have b2:IntKind.u64.wrap ((r2:Int)+4294967295)=4294967295:=by rw [IntKind.wrap_u64];omega
      have b3:decide ((4294967296:Int)≤(q2:Int))=false:=by simp;omega
      obtain⟨R1,hR1⟩:∃z,z=4294967296*r2:=⟨_,rfl⟩;obtain⟨R2,hR2⟩:∃z,z=R1+u0:=⟨_,rfl⟩;have b8:IntKind.u64.wrap ((4294967296:Int)*(r2:Int))=(R1:Int):=by rw [IntKind.wrap_u64];omega
      have b9:IntKind.u64.wrap ((R1:Int)+(u0:Int))=(R2:Int):=by rw [IntKind.wrap_u64];omega
      have b10:decide (R2<q2)=true:=by simp;omega
      have b11:IntKind.u64.wrap (q2:Int)=(q2:Int):=by rw [IntKind.wrap_u64];omega
      clear hR1 hR2;have b4:IntKind.u64.wrap ((18446744069414584320:Int)+(u0:Int))=(R3:Int):=by rw [IntKind.wrap_u64];omega
      have b5:decide ((4294967296:Int)≤(Q0:Int))=false:=by simp;omega
      have b6:decide (R3<Q0)=false:=by simp;omega
      have b7:IntKind.u64.wrap (Q0:Int)=(Q0:Int):=by rw [IntKind.wrap_u64];omega
      clear hR3;refine wp_loop_rounds 2 ?_;rw [rounds_succ];obtain⟨F1,hF1⟩:∃z,z=Q1*4294967296:=⟨_,rfl⟩;have d1:IntKind.u64.wrap ((Q1:Int)*4294967296)=(F1:Int):=by rw [IntKind.wrap_u64];omega
      have d2:IntKind.u64.wrap ((F1:Int)+(Q0:Int))=((F1+Q0:Nat):Int):=by rw [IntKind.wrap_u64];omega
      obtain⟨F2,hF2⟩:∃z,z=F1+Q0:=⟨_,rfl⟩;rw [← hF2] at d2;have HR:Hid (FF=F2):=Φ (by rw [HFF.out,HK4.out,hF2,hF1]);clear hF1 hF2;clear c1 c2 g1 g2 g3 g4 g5 g6 g7 g8 g9 g10 g11 k1 k2 hr0 hlt hQ;go_wp2_with fail;rw [rounds_succ];go_wp2_with fail;go_ret2;refine⟨?_,by go_grown⟩;rw [HR.out];exact⟨_,rfl⟩
     ·obtain⟨g1,g2,g3,g4,g5,g6,g7,g8,g9,g10,g11,k1,k2⟩:=HG.out;have hQ:Q0=q2:=HP2.out.1 c1 c2;subst hQ;obtain⟨R1,hR1⟩:∃z,z=4294967296*r2:=⟨_,rfl⟩;obtain⟨R2,hR2⟩:∃z,z=R1+u0:=⟨_,rfl⟩;have b1:IntKind.u64.wrap ((4294967296:Int)*(r2:Int))=(R1:Int):=by rw [IntKind.wrap_u64];omega
      have b2:IntKind.u64.wrap ((R1:Int)+(u0:Int))=(R2:Int):=by rw [IntKind.wrap_u64];omega
      have b3:decide ((4294967296:Int)≤(Q0:Int))=false:=by simp;omega
      have b4:decide (R2<Q0)=false:=by simp;omega
      have b5:IntKind.u64.wrap (Q0:Int)=(Q0:Int):=by rw [IntKind.wrap_u64];omega
      clear hR1 hR2;refine wp_loop_rounds 1 ?_;rw [rounds_succ];obtain⟨F1,hF1⟩:∃z,z=Q1*4294967296:=⟨_,rfl⟩;have d1:IntKind.u64.wrap ((Q1:Int)*4294967296)=(F1:Int):=by rw [IntKind.wrap_u64];omega
      have d2:IntKind.u64.wrap ((F1:Int)+(Q0:Int))=((F1+Q0:Nat):Int):=by rw [IntKind.wrap_u64];omega
      obtain⟨F2,hF2⟩:∃z,z=F1+Q0:=⟨_,rfl⟩;rw [← hF2] at d2;have HR:Hid (FF=F2):=Φ (by rw [HFF.out,HK4.out,hF2,hF1]);clear hF1 hF2;clear c1 c2 g1 g2 g3 g4 g5 g6 g7 g8 g9 g10 g11 k1 k2;go_wp2_with fail;go_ret2;refine⟨?_,by go_grown⟩;rw [HR.out];exact⟨_,rfl⟩
theorem div_N (h l:Nat)(hh:h<18446744069414584320)(hl:l<18446744073709551616)(w:World):
  Calls Tryz.prog 185 #[.int .u64 (h:Int),.int .u64 (l:Int),.int .u64 18446744069414584320] w fun e w'=>(∃r:Value,e = .returned (.tuple #[.int .u64 (((h*18446744073709551616+l) / 18446744069414584320:Nat):Int),r]))∧Below w.heap.size w w':=by
 by_cases h0:h=0
 ·subst h0;go_enter Tryz.func185,Tryz.ntmps185;go_wp2_with fail
  go_region
  go_wp2_with fail;go_ret2;exact⟨⟨.int .u64 ((l:Int) % 18446744069414584320),by simp⟩,by go_grown⟩
 ·have t1:((h:Int) == 0)=false:=by simp;omega
  have t2:decide ((18446744069414584320:Int)≤(h:Int))=false:=by simp;omega
  have HPH:=Φ (half_N h (l / 4294967296) hh (by omega));have HFIN:=Φ (long_div h l 18446744069414584320 (by decide));have hX:(h*4294967296+l / 4294967296) % 18446744069414584320<18446744069414584320:=Nat.mod_lt _ (by decide);have HXE:=Φ (Nat.div_add_mod' (h*4294967296+l / 4294967296) 18446744069414584320).symm;obtain⟨u1,hu1⟩:∃u,u=l / 4294967296:=⟨_,rfl⟩;obtain⟨u0,hu0⟩:∃u,u=l % 4294967296:=⟨_,rfl⟩;obtain⟨q,hq⟩:∃u,u=h / 4294967295:=⟨_,rfl⟩;obtain⟨r,hr⟩:∃u,u=h % 4294967295:=⟨_,rfl⟩;obtain⟨M,hM⟩:∃u,u=q*4294967295:=⟨_,rfl⟩;rw [← hu1,← hu0] at HFIN;rw [← hu1] at HPH HXE hX;rw [← hq] at HPH;have a1:IntKind.u64.wrap (h:Int)=(h:Int):=by rw [IntKind.wrap_u64];omega
  have a2:(l:Int) / 18446744073709551616=0:=by omega
  have a4:IntKind.u64.wrap (l:Int)=(l:Int):=by rw [IntKind.wrap_u64];omega
  have a5:(l:Int) / 4294967296=(u1:Int):=by omega
  have a8:(h:Int).tdiv 4294967295=(q:Int):=by rw [Int.tdiv_eq_ediv_of_nonneg (by omega)];omega
  have a9:IntKind.u64.wrap (q:Int)=(q:Int):=by rw [IntKind.wrap_u64];omega
  have a10:IntKind.u64.wrap ((q:Int)*4294967295)=(M:Int):=by rw [IntKind.wrap_u64];omega
  have a11:IntKind.u64.wrap ((h:Int) - (M:Int))=(r:Int):=by rw [IntKind.wrap_u64];omega
  have a3:=or_nil h (by omega);have a6:bits .and .u64 (l:Int) 4294967295=(u0:Int):=by rw [Mul64.maskN l hl,← hu0]
  have a7:=and_nil;have HU:Hid (u1<4294967296∧u0<4294967296∧r<4294967295∧q≤4294967296∧h=q*4294967295+r∧h<18446744069414584320):=Φ ⟨by omega,by omega,by omega,by omega,by omega,hh⟩;have HX:=Φ hX;obtain⟨FF,hFF⟩:∃z,z=(h*18446744073709551616+l) / 18446744069414584320:=⟨_,rfl⟩;rw [← hFF];have HFF:=Φ hFF;clear hFF;clear hh hl h0 hu1 hu0 hq hr hM hX;go_enter Tryz.func185,Tryz.ntmps185;go_wp2_with fail;refine(lz_N w).mono ?_;rintro e w' ⟨rfl,rfl⟩;go_wp2_with fail;obtain⟨g1,g2,g3,g4,g5,g6⟩:=HU.out;obtain⟨Q1,hQ1⟩:∃z,z=(h*4294967296+u1) / 18446744069414584320:=⟨_,rfl⟩;obtain⟨X,hX⟩:∃z,z=(h*4294967296+u1) % 18446744069414584320:=⟨_,rfl⟩;have k1:=HXE.out;have k2:=HX.out;have k3:=HPH.out;have k4:=HFIN.out;rw [← hQ1,← hX] at k1 k4;rw [← hX] at k2;rw [← hQ1] at k3;have HP1:=Φ k3;have HP2:=Φ (half_N X u0 k2 g2);obtain⟨q2,hq2⟩:∃z,z=X / 4294967295:=⟨_,rfl⟩;obtain⟨r2,hr2⟩:∃z,z=X % 4294967295:=⟨_,rfl⟩;obtain⟨Q0,hQ0⟩:∃z,z=(X*4294967296+u0) / 18446744069414584320:=⟨_,rfl⟩;rw [← hq2,← hQ0] at HP2;rw [← hQ0] at k4;have g7:r2<4294967295:=by omega
  have g8:q2≤4294967296:=by omega
  have g9:X=q2*4294967295+r2:=by omega
  have g10:Q0<4294967296:=by rw [hQ0];exact(Nat.div_lt_iff_lt_mul (by decide)).2 (by omega)
  have g11:Q1<4294967296:=by rw [hQ1];exact(Nat.div_lt_iff_lt_mul (by decide)).2 (by omega)
  have HK4:=Φ k4;clear k3 k4 hQ1 hX hQ0 hq2 hr2 HPH HXE HX HFIN HU a1 a2 a3 a4 a5 a6 a7 a8 a9 a10 a11 t1 t2;have HG:=Φ (And.intro g1 (And.intro g2 (And.intro g3 (And.intro g4 (And.intro g5 (And.intro g6 (And.intro g7 (And.intro g8 (And.intro g9 (And.intro g10 (And.intro g11 (And.intro k1 k2))))))))))));clear g1 g2 g3 g4 g5 g6 g7 g8 g9 g10 g11 k1 k2;obtain⟨g1,g2,g3,g4,g5,g6,g7,g8,g9,g10,g11,k1,k2⟩:=HG.out;have hQ:Q1=q:=HP1.out.2;subst hQ;obtain⟨R1,hR1⟩:∃z,z=4294967296*r:=⟨_,rfl⟩;obtain⟨R2,hR2⟩:∃z,z=R1+u1:=⟨_,rfl⟩;have b1:IntKind.u64.wrap ((4294967296:Int)*(r:Int))=(R1:Int):=by rw [IntKind.wrap_u64];omega
  have b2:IntKind.u64.wrap ((R1:Int)+(u1:Int))=(R2:Int):=by rw [IntKind.wrap_u64];omega
  have b3:decide ((4294967296:Int)≤(Q1:Int))=false:=by simp;omega
  have b4:decide (R2<0)=false:=by simp
  clear hR1 hR2;refine wp_loop_rounds 1 ?_;rw [rounds_succ];obtain⟨H1,hH1⟩:∃z,z=h*4294967296 % 18446744073709551616:=⟨_,rfl⟩;obtain⟨H2,hH2⟩:∃z,z=(H1+u1) % 18446744073709551616:=⟨_,rfl⟩;obtain⟨H3,hH3⟩:∃z,z=Q1*18446744069414584320 % 18446744073709551616:=⟨_,rfl⟩;obtain⟨M2,hM2⟩:∃z,z=q2*4294967295:=⟨_,rfl⟩;have d1:IntKind.u64.wrap ((h:Int)*4294967296)=(H1:Int):=by rw [IntKind.wrap_u64];omega
  have d2:IntKind.u64.wrap ((H1:Int)+(u1:Int))=(H2:Int):=by rw [IntKind.wrap_u64];omega
  have d3:IntKind.u64.wrap ((Q1:Int)*18446744069414584320)=(H3:Int):=by rw [IntKind.wrap_u64];omega
  have d4:IntKind.u64.wrap ((H2:Int) - (H3:Int))=(X:Int):=by rw [IntKind.wrap_u64];omega
  have d5:(X:Int).tdiv 4294967295=(q2:Int):=by rw [Int.tdiv_eq_ediv_of_nonneg (by omega)];omega
  have d6:IntKind.u64.wrap ((q2:Int))=(q2:Int):=by rw [IntKind.wrap_u64];omega
  have d7:IntKind.u64.wrap ((q2:Int)*4294967295)=(M2:Int):=by rw [IntKind.wrap_u64];omega
  have d8:IntKind.u64.wrap ((X:Int) - (M2:Int))=(r2:Int):=by rw [IntKind.wrap_u64];omega
  clear hH1 hH2 hH3 hM2;clear g1 g2 g3 g4 g5 g6 g7 g8 g9 g10 g11 k1 k2;go_wp2_with fail;clear b1 b2 b3 b4 d1 d2 d3 d4 d5 d6 d7 d8;obtain⟨g1,g2,g3,g4,g5,g6,g7,g8,g9,g10,g11,k1,k2⟩:=HG.out;have hQ:Q0=q2:=HP2.out.2;subst hQ;obtain⟨R1,hR1⟩:∃z,z=4294967296*r2:=⟨_,rfl⟩;obtain⟨R2,hR2⟩:∃z,z=R1+u0:=⟨_,rfl⟩;have b1:IntKind.u64.wrap ((4294967296:Int)*(r2:Int))=(R1:Int):=by rw [IntKind.wrap_u64];omega
  have b2:IntKind.u64.wrap ((R1:Int)+(u0:Int))=(R2:Int):=by rw [IntKind.wrap_u64];omega
  have b3:decide ((4294967296:Int)≤(Q0:Int))=false:=by simp;omega
  have b4:decide (R2<0)=false:=by simp
  clear hR1 hR2;refine wp_loop_rounds 1 ?_;rw [rounds_succ];obtain⟨F1,hF1⟩:∃z,z=Q1*4294967296:=⟨_,rfl⟩;have d1:IntKind.u64.wrap ((Q1:Int)*4294967296)=(F1:Int):=by rw [IntKind.wrap_u64];omega
  have d2:IntKind.u64.wrap ((F1:Int)+(Q0:Int))=((F1+Q0:Nat):Int):=by rw [IntKind.wrap_u64];omega
  obtain⟨F2,hF2⟩:∃z,z=F1+Q0:=⟨_,rfl⟩;rw [← hF2] at d2;have HR:Hid (FF=F2):=Φ (by rw [HFF.out,HK4.out,hF2,hF1]);clear hF1 hF2;clear g1 g2 g3 g4 g5 g6 g7 g8 g9 g10 g11 k1 k2;go_wp2_with fail;go_ret2;refine⟨?_,by go_grown⟩;rw [HR.out];exact⟨_,rfl⟩
end
section
open Go.RowKit Limbs
def mP:Nat:=115792089210356248762697446949407573530086143415290314195533631308867097853951
def mN:Nat:=115792089210356248762697446949407573529996955224135760342422259061068512044369
def md (m:Int): Nat:=if m=0 then mP else mN
theorem md_or (m:Int): md m=mP∨md m=mN:=by unfold md;split<;>simp
theorem lbP:lb mP 0=18446744073709551615∧lb mP 1=4294967295∧lb mP 2=0∧lb mP 3=18446744069414584321:=by decide +kernel
theorem lbN:lb mN 0=17562291160714782033∧lb mN 1=13611842547513532036∧lb mN 2=18446744073709551615∧lb mN 3=18446744069414584320:=by decide +kernel
theorem md_lt {M:Nat}(h:M=mP∨M=mN): M<W256∧W256<2*M∧9223372036854775808≤lb M 3∧2<M:=by
 rcases h with rfl | rfl<;>decide +kernel
theorem lb_le {r M:Nat}(hr:r<M)(hM:M<W256): lb r 3≤lb M 3:=by
 unfold W256 at hM;simp only [lb];omega
set_option maxHeartbeats 4000000 in
theorem quot_one (r m3:Nat)(M:Nat)(hr3:lb r 3≤m3)(hm3:m3<18446744073709551616)(eM:lb M 3=m3)(hd:∀(h l:Nat),h<m3→l<18446744073709551616→∀w,Calls Tryz.prog 185 #[.int .u64 (h:Int),.int .u64 (l:Int),.int .u64 (m3:Int)] w fun e w'=>(∃r:Value,e = .returned (.tuple #[.int .u64 (((h*18446744073709551616+l) / m3:Nat):Int),r]))∧Below w.heap.size w w')(w:World):
  Calls Tryz.prog 160 #[nv r,nv M] w fun e w'=>e = .returned (.int .u64 (quo (lb r 3) (lb r 2) m3:Nat))∧Below w.heap.size w w':=by
 simp only [nv,num];rw [eM];have h2:=lb_lt r 2;generalize lb r 3=r3 at *;generalize lb r 2=r2 at *;generalize lb r 1=r1 at *;generalize lb r 0=r0 at *
 by_cases h:r3=m3
 ·have e:quo r3 r2 m3=18446744073709551615:=by unfold quo;rw [if_pos h]
  rw [e];subst h;clear hd e eM hr3;go_enter Tryz.func160,Tryz.ntmps160;go_wp2_with fail;go_ret;exact⟨rfl,by go_grown⟩
 ·have e:quo r3 r2 m3=(r3*18446744073709551616+r2) / m3:=by unfold quo;rw [if_neg h]
  rw [e];have HD:=Lib.hid (hd r3 r2 (by omega) h2);generalize (r3*18446744073709551616+r2) / m3=q at *;have t1:((r3:Int) == (m3:Int))=false:=by simp;omega
  clear hd e eM hr3 h h2;go_enter Tryz.func160,Tryz.ntmps160;go_wp2_with fail;refine(keep w.heap.size w (HD.out _) (by go_grown) (Nat.le_refl _)).mono ?_;rintro e w' ⟨⟨rr,rfl⟩,hb,_⟩;have HB:=Lib.hid hb;clear hb;go_wp2_with fail;go_ret;exact⟨rfl,HB.out⟩
theorem quot_any (r M:Nat)(hM:M=mP∨M=mN)(hr:r<M)(w:World):
  Calls Tryz.prog 160 #[nv r,nv M] w fun e w'=>e = .returned (.int .u64 (quo (lb r 3) (lb r 2) (lb M 3):Nat))∧Below w.heap.size w w':=by
 have hle:=lb_le hr (md_lt hM).1;rcases hM with rfl | rfl
 ·exact quot_one r (lb mP 3) mP hle (lb_lt _ _) rfl (fun h l hh hl w=>by rw [lbP.2.2.2] at hh ⊢;exact div_P h l hh hl w) w
 ·exact quot_one r (lb mN 3) mN hle (lb_lt _ _) rfl (fun h l hh hl w=>by rw [lbN.2.2.2] at hh ⊢;exact div_N h l hh hl w) w
theorem cs4_v4 {a b c d:Nat}(ha:a<18446744073709551616)(hb:b<18446744073709551616)(hc:c<18446744073709551616)(hd:d<18446744073709551616): cs4 (v4 a b c d)=#[.int .u64 (a:Int),.int .u64 (b:Int),.int .u64 (c:Int),.int .u64 (d:Int)]:=by
 obtain⟨e0,e1,e2,e3⟩:=lb_v4 ha hb hc hd;unfold cs4;rw [e0,e1,e2,e3]
theorem mul_v4 (q a b c d:Nat): q*v4 a b c d=q*a+18446744073709551616*(q*b+18446744073709551616*(q*c+18446744073709551616*(q*d))):=by
 unfold v4;simp only [Nat.mul_add,Nat.mul_left_comm]
theorem behind_arith {X M q D hi k3 b3 N r3 low:Nat}(hM:0<M)(hq1:X / M≤q)(hq2:q≤X / M+2)(hM2:W256<2*M)(hMW:M<W256)
  (hN:N+W256*k3=q*M) (hD:D<W256) (hb3:b3≤1) (hlow:D+N=low+W256*b3) (hX:X=low+W256*r3) (hr3:r3<18446744073709551616) (hk3:k3<18446744073709551616) (hhi:hi<18446744073709551616)
  (hh:∃z:Nat,hi+k3+b3=r3+18446744073709551616*z) :
  (q=X / M∧hi=0∧D=X % M)∨(q=X / M+1∧D+M=W256+X % M∧hi=18446744073709551615)∨(q=X / M+2∧D+W256*hi+2*M=W256*18446744073709551616+X % M):=by
 have hdm:=Nat.div_add_mod X M;have hlt:=Nat.mod_lt X hM;obtain⟨t,ht,ht2⟩:∃t,q=X / M+t∧t≤2:=⟨q - X / M,by omega,by omega⟩;have hqM:q*M=M*(X / M)+t*M:=by rw [ht,Nat.add_mul,Nat.mul_comm]
 obtain⟨z,hz⟩:=hh;generalize X / M=Q at *;generalize X % M=Y at *;generalize M*Q=MQ at *;generalize q*M=QM at *;have h3:t=0∨t=1∨t=2:=by omega
 unfold W256 at *;rcases h3 with rfl | rfl | rfl
 ·left
  omega
 ·right;left
  omega
 ·right;right
  omega
theorem nvP:nv mP = .agg #[.int .u64 18446744073709551615,.int .u64 4294967295,.int .u64 0,.int .u64 18446744069414584321]:=by
 unfold nv num;rw [lbP.1,lbP.2.1,lbP.2.2.1,lbP.2.2.2];rfl
theorem nvN:nv mN = .agg #[.int .u64 17562291160714782033,.int .u64 13611842547513532036,.int .u64 18446744073709551615,.int .u64 18446744069414584320]:=by
 unfold nv num;rw [lbN.1,lbN.2.1,lbN.2.2.1,lbN.2.2.2];rfl
set_option maxHeartbeats 4000000 in
theorem mod_any (m:Int)(w:World): Calls Tryz.prog 47 #[.int .i64 m] w fun e w'=>e = .returned (nv (md m))∧Below w.heap.size w w':=by
 by_cases h:m=0
 ·subst h
  show Calls Tryz.prog 47 #[.int .i64 0] w fun e w'=>e = .returned (nv mP)∧Below w.heap.size w w'
  rw [nvP];go_enter Tryz.func47,Tryz.ntmps47;go_wp2_with fail;go_returns;exact⟨rfl,by go_grown⟩
 ·have e:md m=mN:=by unfold md;rw [if_neg h]
  rw [e,nvN];have t:(m == 0)=false:=by simpa using h
  clear e h;go_enter Tryz.func47,Tryz.ntmps47;go_wp2_with fail;go_returns;exact⟨rfl,by go_grown⟩
end
section
open Go.RowKit Go.Sort
section
variable {P:Program}
theorem exec_load_row {o:Oper}{a:Act}{w:World}(ty:TypeId)(x:Operand)(ho:o.op = .load ty x)
  (g:Nat) (hx:a.eval x = .pointer (some ⟨g,0,none⟩)) (t:TypeId) (cs:Array Value) (fr:Nat×Nat) (d:TypeDesc) (hg:w.heap[g]?=some (.cells cs t fr))
  (hu:P.underlying ty=some d) (hd:(match d with | .struct _ | .array _ _=>true | _=>false)=true) (hi:(P.info? ty).map (·.size)=some cs.size) :
  (execOp a.eval o).run P w = .ok (.value (.agg cs)) w:=by
 unfold execOp;simp only [ho,hx,Instr.loadAt,Instr.sureAddr,Sem.run_bind,Sem.run_pure,Result.andThen_ok,run_loadVar_row w g t ty cs fr d hg hu hd hi]
theorem wpStill_load_row {ops:Array Oper}{w:World}{Q:Act→Prop}{a:Act}{o:Oper}{rest:List Oper}(hgd:o.guard=none)(ty:TypeId)(x:Operand)(ho:o.op = .load ty x)
  (g:Nat) (hx:a.eval x = .pointer (some ⟨g,0,none⟩)) (t:TypeId) (cs:Array Value) (fr:Nat×Nat) (d:TypeDesc) (hg:w.heap[g]?=some (.cells cs t fr))
  (hu:P.underlying ty=some d) (hd:(match d with | .struct _ | .array _ _=>true | _=>false)=true) (hi:(P.info? ty).map (·.size)=some cs.size)
  (h:wpStill P ops w Q rest (a.put o.dst (.agg cs))):wpStill P ops w Q (o::rest) a:=
 wpStill_step fun K hK=>by
  rw [if_pos (by simp [Region.wanted,hgd])];unfold Oper.still;rw [exec_load_row ty x ho g hx t cs fr d hg hu hd hi,Oper.stillUpon_value];exact hK _ h
theorem wpQuiet_load_row {ops:Array Oper}{C:World→Prop}{Q:Act→Prop}{a:Act}{o:Oper}{rest:List Oper}(hgd:o.guard=none)(ty:TypeId)(x:Operand)(ho:o.op = .load ty x)
  (g:Nat) (hx:a.eval x = .pointer (some ⟨g,0,none⟩)) (t:TypeId) (cs:Array Value) (fr:Nat×Nat) (d:TypeDesc) (hg:∀w,C w→w.heap[g]?=some (.cells cs t fr))
  (hu:P.underlying ty=some d) (hd:(match d with | .struct _ | .array _ _=>true | _=>false)=true) (hi:(P.info? ty).map (·.size)=some cs.size)
  (h:wpQuiet P ops C Q rest (a.put o.dst (.agg cs))):wpQuiet P ops C Q (o::rest) a:=
 wpQuiet_step fun K hK=>by
  rw [if_pos (by simp [Region.wanted,hgd])];refine⟨.agg cs,fun w hw=>?_,hK _ h⟩;unfold Oper.quietAt;rw [exec_load_row ty x ho g hx t cs fr d (hg w hw) hu hd hi];exact⟨rfl,rfl⟩
theorem heap_regrown {w w':World}{b:Nat}{o:Obj}(h:w.heap[b]?=some o)(hw:∃p:Regrown,w'=grow (redrawn w p.d) p.os): w'.heap[b]?=some o:=by
 obtain⟨p,rfl⟩:=hw;exact((below_regrown w p.d p.os).block _ (Array.getElem?_eq_some_iff.1 h).1).trans h
end
theorem mixed:Tryz.prog.follows .mixedOrders=true:=by kernel_rfl
section
variable {P:Program} {ops:Array Oper} {md:Region.Mode} {C:World→Prop}
def headQ (P:Program)(md:Region.Mode)(ops:Array Oper)(C:World→Prop)(n:Nat)(L:Array Bool→Act→Prop): Nat→Array Bool→Act→Prop
 |0,ls,a=>L ls a
 |f+1,ls,a=>Region.ready md ops ls≠[]∧∀i,i∈Region.ready md ops ls→i<n∧qOp P ops C i (headQ P md ops C n L f (ls.setIfInBounds i true)) a
theorem any_of_headQ {n g:Nat}{L:Array Bool→Act→Prop}{Q:Exit→Act→World→Prop}(hL:∀ls a w,C w→L ls a→wpAny P md ops Q g ls a w)(f:Nat):
  ∀(ls:Array Bool) (a:Act) (w:World),C w→headQ P md ops C n L f ls a→wpAny P md ops Q (f+g) ls a w:=by
 induction f with
 |zero=>intro ls a w hw h;rw [Nat.zero_add];exact hL _ _ _ hw h
 |succ f ih=>
  intro ls a w hw h;rw [Nat.succ_add];exact⟨fun h0=>absurd h0 h.1,fun i hi=>wpOp_of_qOp hw (fun a' w' hw' h'=>ih _ a' w' hw' h') (h.2 i hi).2⟩
theorem headQ_first {n i:Nat}{oi:Oper}{v:Value}{L:Array Bool→Act→Prop}(hi:ops[i]?=some oi)(hsel:∀(j:Nat) (o:Oper) cs b,ops[j]?=some o→o.op≠ .select cs b)
  (hs:Region.sinkB md ops n=true) (hc:Region.chainB md ops n=true) (hn:n<ops.size) (hin:i<n) (hdone:∀ls a,L ls a→∀j∈Region.ready md ops ls,n≤j) (f:Nat) :
  ∀(ls:Array Bool) (a:Act),HeadInv md ops n ls→(∀j oj,ops[j]?=some oj→j≠i→ls.getD j true=false→(∀e∈oj.after,Region.binds md e=true→e.on≠i)→oi.apart ops oj=true)→
   i∈Region.ready md ops ls→YieldsIn P ops C oi v a→headQ P md ops C n L f (ls.setIfInBounds i true) (a.put oi.dst v)→headQ P md ops C n L (f+1) ls a:=by
 induction f with
 |zero=>
  intro ls a inv _ hr hy H;have hun:=(mem_ready.1 hr).1;refine⟨fun h=>(by rw [h] at hr;cases hr),fun j hj=>?_⟩;have hjn:j<n:=Nat.lt_of_not_le fun h=>tail_waits hs hc hn inv _ i rfl hin hun j h hj
  refine⟨hjn,?_⟩
  by_cases hji:j=i
  ·subst hji;exact hy.qOp hi H
  ·have:=hdone _ _ H j (ready_mono hj hji)
   omega
 |succ f ih=>
  intro ls a inv hfree hr hy H;have hun:=(mem_ready.1 hr).1;refine⟨fun h=>(by rw [h] at hr;cases hr),fun j hj=>?_⟩;have hjn:j<n:=Nat.lt_of_not_le fun h=>tail_waits hs hc hn inv _ i rfl hin hun j h hj
  refine⟨hjn,?_⟩
  by_cases hji:j=i
  ·subst hji;exact hy.qOp hi H
  ·obtain⟨hjun,oj,hoj,hall⟩:=mem_ready.1 hj;have hnot:∀e∈oj.after,Region.binds md e=true→e.on≠i:=fun e he hb heq=>by
    have h1:=hall e he hb;rw [heq,getD_both hun] at h1;cases h1
   have h2:=qOp_put hoj (hfree j oj hoj hji hjun hnot) (fun cs b=>hsel i oi cs b hi) (fun cs b=>hsel j oj cs b hoj) hy (H.2 j (ready_mono hj hji)).2;refine qOp_mono (fun a' h3=>ih _ a' (inv.set hj hjn) (fun k ok hk hki hu hno=>hfree k ok hk hki ?_ hno) (ready_mono hr (Ne.symm hji)) h3.1 ?_) h2
   ·by_cases hjk:j=k
    ·subst hjk;exact hjun
    ·rw [getD_set_ne true hjk] at hu;exact hu
   ·rw [Array.setIfInBounds_comm _ _ hji];exact h3.2
theorem headQ_lex {n g:Nat}{F:Act→Prop}(hsel:Region.noSelect ops=true)(hs:Region.sinkB md ops n=true)(hc:Region.chainB md ops n=true)(hn:n<ops.size):
  ∀(l:List Oper) (k:Nat) (ls:Array Bool) (a:Act),(∀j,j<l.length→l[j]?=ops[k+j]?)→k+l.length=n→HeadInv md ops n ls→
  Region.lexHead md ops g l.length k ls=true→wpQuiet P ops C F l a→headQ P md ops C n (fun ls' a'=>Region.seqB md ops g n ls'=true∧F a') l.length ls a
 |[],k,ls,a,_,hk,_,hB,h=>by
  obtain rfl:k=n:=by simpa using hk
  exact⟨by simpa [Region.lexHead] using hB,h⟩
 |o::l,k,ls,a,hl,hk,inv,hB,h=>by
  have h0:ops[k]?=some o:=by simpa using (hl 0 (by simp)).symm
  simp only [List.length_cons,Region.lexHead,Bool.and_eq_true] at hB hk;obtain⟨⟨hr,hf⟩,hB'⟩:=hB;have hr':k∈Region.ready md ops ls:=by simpa using hr
  obtain⟨v,hy,hK⟩:=yieldsIn_of_qOp (K:=wpQuiet P ops C F l) h0 (by unfold qOp;simp only [h0];exact h);exact headQ_first h0 (Region.noSelect_spec hsel) hs hc hn (by omega) (fun ls' a' hL=>seqB_ready hL.1) l.length ls a inv (Region.free_spec h0 hf) hr' hy
   (headQ_lex hsel hs hc hn l (k+1) _ _ (fun j hj=>by have:=hl (j+1) (by simp;omega);simpa [Nat.add_assoc,Nat.add_comm 1 j] using this) (by omega) (inv.set hr' (by omega)) hB' hK)
theorem wp_region_below_tail {id:Nat}{Q:Exit→Act→World→Prop}{a:Act}{w:World}{l:List Oper}(n:Nat)(hm:P.follows .mixedOrders=true)(hB:Region.lexTailB .any l.toArray n=true)
  (h:wpQuiet P l.toArray (fun w'=>∃p:Regrown,w'=grow (redrawn w p.d) p.os) (fun a'=>∀w',(∃p:Regrown,w'=grow (redrawn w p.d) p.os)→wpList P l.toArray Q (l.drop n) a' w') (l.take n) a):(Code.region id l.toArray true).wp P Q a w:=by
 simp only [Region.lexTailB,Bool.and_eq_true,decide_eq_true_eq] at hB;obtain⟨⟨⟨⟨hsel,hn⟩,hs⟩,hc⟩,hlex⟩:=hB;have hn':n<l.length:=by simpa using hn
 have htl:(l.take n).length=n:=by simp;omega
 have hdl:(l.drop n).length=l.toArray.size - n:=by simp
 have inv0:HeadInv .any l.toArray n (Array.replicate l.toArray.size false):=
  ⟨by simp,fun j oj _ hl=>(by rw [getD_replicate_false] at hl;cases hl),fun t _ ht=>getD_in (by simpa using ht) (getD_replicate_false _ _)⟩
 have H:=headQ_lex (md:= .any) (g:=l.toArray.size - n) hsel hs hc hn (l.take n) 0 _ a (fun j hj=>by
  have hj':j<n:=by rw [htl] at hj;exact hj
  simp [hj']) (by simpa using htl) inv0 (by rw [htl];exact hlex) h
 refine wp_region_any hm ?_
 have:=any_of_headQ (Q:=Q) (g:=l.toArray.size - n) (fun ls a' w' hw' hL=>by
  have:=wpAny_of_seq (md:= .any) (Q':=Q) (l.drop n) n ls a' w' (fun j=>by simp [List.getElem?_drop]) (by rw [hdl];exact hL.1) (hL.2 w' hw')
  rwa [hdl] at this) _ _ _ _ (show ∃p:Regrown,_=grow (redrawn w p.d) p.os from⟨⟨w.drawn+1,#[]⟩,by rw [grow_empty]⟩) H
 rw [htl,show n+(l.toArray.size - n)=l.toArray.size by omega] at this;exact this
end
section
variable {P:Program}
theorem wp_region_quiet_tail {id:Nat}{Q:Exit→Act→World→Prop}{a:Act}{w:World}{l:List Oper}(n:Nat)(hm:P.follows .mixedOrders=true)(hB:Region.lexTailB .any l.toArray n=true)
  (h:wpQuiet P l.toArray (fun w'=>∃m:Nat,w'=w.drewN m) (fun a'=>∀w',(∃m:Nat,w'=w.drewN m)→wpList P l.toArray Q (l.drop n) a' w') (l.take n) a):(Code.region id l.toArray true).wp P Q a w:=by
 simp only [Region.lexTailB,Bool.and_eq_true,decide_eq_true_eq] at hB;obtain⟨⟨⟨⟨hsel,hn⟩,hs⟩,hc⟩,hlex⟩:=hB;have hn':n<l.length:=by simpa using hn
 have htl:(l.take n).length=n:=by simp;omega
 have hdl:(l.drop n).length=l.toArray.size - n:=by simp
 have inv0:HeadInv .any l.toArray n (Array.replicate l.toArray.size false):=
  ⟨by simp,fun j oj _ hl=>(by rw [getD_replicate_false] at hl;cases hl),fun t _ ht=>getD_in (by simpa using ht) (getD_replicate_false _ _)⟩
 have H:=headQ_lex (md:= .any) (g:=l.toArray.size - n) hsel hs hc hn (l.take n) 0 _ a (fun j hj=>by
  have hj':j<n:=by rw [htl] at hj;exact hj
  simp [hj']) (by simpa using htl) inv0 (by rw [htl];exact hlex) h
 refine wp_region_any hm ?_
 have:=any_of_headQ (Q:=Q) (g:=l.toArray.size - n) (fun ls a' w' hw' hL=>by
  have:=wpAny_of_seq (md:= .any) (Q':=Q) (l.drop n) n ls a' w' (fun j=>by simp [List.getElem?_drop]) (by rw [hdl];exact hL.1) (hL.2 w' hw')
  rwa [hdl] at this) _ _ _ _ (show ∃m:Nat,w.drew=w.drewN m from⟨1,rfl⟩) H
 rw [htl,show n+(l.toArray.size - n)=l.toArray.size by omega] at this;exact this
end
theorem qd {f:FuncId}{args:Array Value}{w:World}{n:Nat}{v:Value}(h:∀w,Calls Tryz.prog f args w fun e w'=>e = .returned v∧w'=w): Calls Tryz.prog f args (w.drewN n) fun e w''=>e = .returned v∧∃m,w''=w.drewN m:=
 (h _).mono fun _ _ h=>⟨h.1,n,h.2⟩
theorem qg {f:FuncId}{args:Array Value}{w:World}{d:Nat}{os:Array Obj}{v:Value}(h:∀w,Calls Tryz.prog f args w fun e w'=>e = .returned v∧Below w.heap.size w w'):
  Calls Tryz.prog f args (grow (redrawn w d) os) fun e w''=>e = .returned v∧∃p:Regrown,w''=grow (redrawn w p.d) p.os:=Calls.regrown_of (h _)
end
section
open Go.RowKit Limbs
theorem times_det {a b c d:Nat}(ha:a<18446744073709551616)(hb:b<18446744073709551616)(hc:c<18446744073709551616)(hd:d<18446744073709551616):
  ∃l h:Nat,l<18446744073709551616∧h<18446744073709551616∧l+18446744073709551616*h=a*b+c+d∧∀w,Calls Tryz.prog 161 #[.int .u64 (a:Int),.int .u64 (b:Int),.int .u64 (c:Int),.int .u64 (d:Int)] w fun e w'=>e = .returned (.tuple #[.int .u64 (l:Int),.int .u64 (h:Int)])∧w'=w:=by
 refine⟨(a*b+c+d) % 18446744073709551616,(a*b+c+d) / 18446744073709551616,?_,?_,?_,fun w=>?_⟩
 ·omega
 ·have hP:a*b≤18446744073709551615*18446744073709551615:=Nat.mul_le_mul (by omega) (by omega);omega
 ·omega
 ·refine(times_any ha hb hc hd w).mono ?_;rintro e w' ⟨⟨l,h,hl,hh,he,rfl⟩,hw⟩;refine⟨?_,hw⟩;have e1:(a*b+c+d) % 18446744073709551616=l:=by omega
  have e2:(a*b+c+d) / 18446744073709551616=h:=by omega
  rw [e1,e2]
theorem row_arith {a b0 b1 b2 b3 c0 c1 c2 c3 n0 n1 n2 n3 k0 k1 k2 k3:Nat}(e0:n0+18446744073709551616*k0=a*b0+c0+0)(e1:n1+18446744073709551616*k1=a*b1+c1+k0)(e2:n2+18446744073709551616*k2=a*b2+c2+k1)(e3:n3+18446744073709551616*k3=a*b3+c3+k2):
  v4 n0 n1 n2 n3+W256*k3=a*v4 b0 b1 b2 b3+v4 c0 c1 c2 c3:=by
 rw [mul_v4];generalize a*b0=t0 at *;generalize a*b1=t1 at *;generalize a*b2=t2 at *;generalize a*b3=t3 at *;unfold v4 W256;omega
def num8 (a b c d e f g h:Nat): Value:= .agg #[.int .u64 (a:Int),.int .u64 (b:Int),.int .u64 (c:Int),.int .u64 (d:Int),.int .u64 (e:Int),.int .u64 (f:Int),.int .u64 (g:Int),.int .u64 (h:Int)]
theorem u56:Tryz.prog.underlying 208=some (.array 8 22):=by kernel_rfl
theorem i56:(Tryz.prog.info? 208).map (·.size)=some 8:=by kernel_rfl
def findR:Code→Nat→Option (Array Oper)
 |.region id ops _,n=>if id=n then some ops else none
 |.seq a b,n=>(findR a n).or (findR b n)
 |.cond _ a b,n=>(findR a n).or (findR b n)
 |.block _ a,n=>findR a n
 |.loop a,n=>findR a n
 |.scope a,n=>findR a n
 |_,_=>none
noncomputable def ops39 (n:Nat):Array Oper:=(Tryz.f182.body.bind fun c=>findR c n).getD #[]
set_option maxHeartbeats 8000000 in
theorem r9 (ga gb gl i j:Nat)(a b c d n k:Nat)(hi:i<4)(hj:j<4)(w:World)(ia:w.cell? ⟨ga,i,none⟩=some (.int .u64 (a:Int)))(ib:w.cell? ⟨gb,j,none⟩=some (.int .u64 (b:Int)))(ic:w.cell? ⟨gl,i+j,none⟩=some (.int .u64 (c:Int)))(hf:w.frozen? ⟨gl,i+j,none⟩=false)
  (HQ:Hid (∀w,Calls Tryz.prog 161 #[.int .u64 (a:Int),.int .u64 (b:Int),.int .u64 (c:Int),.int .u64 (d:Int)] w fun e w'=>e = .returned (.tuple #[.int .u64 (n:Int),.int .u64 (k:Int)])∧w'=w))
  {t0 t1 t4 t9 t10 t11 t12 t13 t14 t15 t16 t17 t18 t19 t20 t21 t22 t23 t24 t25 t26 t27 t28 t29 t30 t31 t32 t33 t34 t35 t36 t37 t38 t39 t40 t41:Value} {ds:List Deferred} {Q:Exit→Act→World→Prop}
  (h:∀(x15 x16 x17 x18 x19 x20 x21 x22 x23 x24 x25 x26 x27 x28 x29 x30 x31 x32 x33 x34:Value),Q .normal {tmps:=#[t0,t1,.pointer (some ⟨ga,0,none⟩),.pointer (some ⟨gb,0,none⟩),t4,.pointer (some ⟨gl,0,none⟩),.int .i64 (i:Int),.int .u64 (k:Int),.int .i64 (j:Int),t9,t10,t11,t12,t13,t14,x15,x16,x17,x18,x19,x20,x21,x22,x23,x24,x25,x26,x27,x28,x29,x30,x31,x32,x33,x34,t35,t36,t37,t38,t39,t40,t41],defers:=ds} (w.drew.setCell ⟨gl,i+j,none⟩ (.int .u64 (n:Int)))) :
  (Code.region 9 (ops39 9) true).wp Tryz.prog Q {tmps:=#[t0,t1,.pointer (some ⟨ga,0,none⟩),.pointer (some ⟨gb,0,none⟩),t4,.pointer (some ⟨gl,0,none⟩),.int .i64 (i:Int),.int .u64 (d:Int),.int .i64 (j:Int),t9,t10,t11,t12,t13,t14,t15,t16,t17,t18,t19,t20,t21,t22,t23,t24,t25,t26,t27,t28,t29,t30,t31,t32,t33,t34,t35,t36,t37,t38,t39,t40,t41],defers:=ds} w:=by
 simp only [ops39,findR,Tryz.f182,Option.bind_some,Option.or,Option.getD,Nat.reduceEqDiff,if_true,if_false,reduceIte];have b1:((i:Int):Int)<4:=by omega
 have b2:((j:Int):Int)<4:=by omega
 have e1:IntKind.i64.wrap ((i:Int)+(j:Int))=((i+j:Nat):Int):=by rw [IntKind.wrap_i64];omega
 have e2:((i:Int)+(j:Int)).toNat=i+j:=by omega
 have b3:(i:Int)+(j:Int)<8:=by omega
 have b4:(0:Int)≤(i:Int)+(j:Int):=by omega
 have HH:=Lib.hid h;clear h;refine Code.wp_mono (Q:=Exit.then (fun a w=>Q .normal a w) (fun _ _ _=>False)) (fun e a w h=>by cases e<;>first | exact h | exact h.elim) ?_
 go_region_law (go_simp;go_at_call 161;refine(HQ.out _).mono ?_;rintro e w' ⟨rfl,rfl⟩)
 all_goals exact HH.out _ _ _ _ _ _ _ _ _ _ _ _ _ _ _ _ _ _ _ _
end
section
open Go.RowKit Limbs
open Go.Lib renaming hid→Φ
theorem ret_cell8 {fn:Func}{R:Ending→World→Prop}{a:Act}{w:World}{p:Tmp}(h:fn.results=#[.cell p 208])(g:Nat)(x0 x1 x2 x3 x4 x5 x6 x7:Value)(hp:a.tmps.getD p undef = .pointer (some ⟨g,0,none⟩))(hk:Bk 208 w g #[x0,x1,x2,x3,x4,x5,x6,x7])(hd:a.defers=[])(hR:R (.returned (.agg #[x0,x1,x2,x3,x4,x5,x6,x7])) w): bodyPost Tryz.prog fn R .ret a w:=
 bodyPost_ret (v:= .agg #[x0,x1,x2,x3,x4,x5,x6,x7]) (results_cell_row h a.tmps w g 208 #[x0,x1,x2,x3,x4,x5,x6,x7] (0,0) _ hp hk u56 rfl i56) hd hR
set_option maxHeartbeats 32000000 in
theorem product_any {a0 a1 a2 a3 b0 b1 b2 b3:Nat}(ha0:a0<18446744073709551616)(ha1:a1<18446744073709551616)(ha2:a2<18446744073709551616)(ha3:a3<18446744073709551616)
  (hb0:b0<18446744073709551616) (hb1:b1<18446744073709551616) (hb2:b2<18446744073709551616) (hb3:b3<18446744073709551616) (w:World) :
  Calls Tryz.prog 182 #[num a0 a1 a2 a3,num b0 b1 b2 b3] w fun e w'=>(∃l0 l1 l2 l3 l4 l5 l6 l7:Nat,(l0<18446744073709551616∧l1<18446744073709551616∧l2<18446744073709551616∧l3<18446744073709551616)∧(l4<18446744073709551616∧l5<18446744073709551616∧l6<18446744073709551616∧l7<18446744073709551616)∧v4 l0 l1 l2 l3+W256*v4 l4 l5 l6 l7=v4 a0 a1 a2 a3*v4 b0 b1 b2 b3∧e = .returned (num8 l0 l1 l2 l3 l4 l5 l6 l7))∧Below w.heap.size w w':=by
 have z:(0:Nat)<18446744073709551616:=by decide
 obtain⟨n00,k00,hn00,hk00,e00,q00⟩:=times_det (a:=a0) (b:=b0) (c:=0) (d:=0) ha0 hb0 z z;obtain⟨n01,k01,hn01,hk01,e01,q01⟩:=times_det (a:=a0) (b:=b1) (c:=0) (d:=k00) ha0 hb1 z hk00;obtain⟨n02,k02,hn02,hk02,e02,q02⟩:=times_det (a:=a0) (b:=b2) (c:=0) (d:=k01) ha0 hb2 z hk01;obtain⟨n03,k03,hn03,hk03,e03,q03⟩:=times_det (a:=a0) (b:=b3) (c:=0) (d:=k02) ha0 hb3 z hk02;obtain⟨n10,k10,hn10,hk10,e10,q10⟩:=times_det (a:=a1) (b:=b0) (c:=n01) (d:=0) ha1 hb0 hn01 z;obtain⟨n11,k11,hn11,hk11,e11,q11⟩:=times_det (a:=a1) (b:=b1) (c:=n02) (d:=k10) ha1 hb1 hn02 hk10;obtain⟨n12,k12,hn12,hk12,e12,q12⟩:=times_det (a:=a1) (b:=b2) (c:=n03) (d:=k11) ha1 hb2 hn03 hk11;obtain⟨n13,k13,hn13,hk13,e13,q13⟩:=times_det (a:=a1) (b:=b3) (c:=k03) (d:=k12) ha1 hb3 hk03 hk12;obtain⟨n20,k20,hn20,hk20,e20,q20⟩:=times_det (a:=a2) (b:=b0) (c:=n11) (d:=0) ha2 hb0 hn11 z;obtain⟨n21,k21,hn21,hk21,e21,q21⟩:=times_det (a:=a2) (b:=b1) (c:=n12) (d:=k20) ha2 hb1 hn12 hk20;obtain⟨n22,k22,hn22,hk22,e22,q22⟩:=times_det (a:=a2) (b:=b2) (c:=n13) (d:=k21) ha2 hb2 hn13 hk21;obtain⟨n23,k23,hn23,hk23,e23,q23⟩:=times_det (a:=a2) (b:=b3) (c:=k13) (d:=k22) ha2 hb3 hk13 hk22;obtain⟨n30,k30,hn30,hk30,e30,q30⟩:=times_det (a:=a3) (b:=b0) (c:=n21) (d:=0) ha3 hb0 hn21 z;obtain⟨n31,k31,hn31,hk31,e31,q31⟩:=times_det (a:=a3) (b:=b1) (c:=n22) (d:=k30) ha3 hb1 hn22 hk30;obtain⟨n32,k32,hn32,hk32,e32,q32⟩:=times_det (a:=a3) (b:=b2) (c:=n23) (d:=k31) ha3 hb2 hn23 hk31;obtain⟨n33,k33,hn33,hk33,e33,q33⟩:=times_det (a:=a3) (b:=b3) (c:=k23) (d:=k32) ha3 hb3 hk23 hk32;have r0:=row_arith (a:=a0) (b0:=b0) (b1:=b1) (b2:=b2) (b3:=b3) (c0:=0) (c1:=0) (c2:=0) (c3:=0) e00 e01 e02 e03;have r1:=row_arith (a:=a1) (b0:=b0) (b1:=b1) (b2:=b2) (b3:=b3) (c0:=n01) (c1:=n02) (c2:=n03) (c3:=k03) e10 e11 e12 e13;have r2:=row_arith (a:=a2) (b0:=b0) (b1:=b1) (b2:=b2) (b3:=b3) (c0:=n11) (c1:=n12) (c2:=n13) (c3:=k13) e20 e21 e22 e23;have r3:=row_arith (a:=a3) (b0:=b0) (b1:=b1) (b2:=b2) (b3:=b3) (c0:=n21) (c1:=n22) (c2:=n23) (c3:=k23) e30 e31 e32 e33;have HF:Hid (v4 n00 n10 n20 n30+W256*v4 n31 n32 n33 k33=v4 a0 a1 a2 a3*v4 b0 b1 b2 b3):=Φ (by
  have e:v4 a0 a1 a2 a3*v4 b0 b1 b2 b3=a0*v4 b0 b1 b2 b3+18446744073709551616*(a1*v4 b0 b1 b2 b3+18446744073709551616*(a2*v4 b0 b1 b2 b3+18446744073709551616*(a3*v4 b0 b1 b2 b3))):=by
   generalize v4 b0 b1 b2 b3=V;unfold v4;simp only [Nat.add_mul,Nat.mul_assoc]
  rw [e];clear e e00 e01 e02 e03 e10 e11 e12 e13 e20 e21 e22 e23 e30 e31 e32 e33;generalize a0*v4 b0 b1 b2 b3=t0 at *;generalize a1*v4 b0 b1 b2 b3=t1 at *;generalize a2*v4 b0 b1 b2 b3=t2 at *;generalize a3*v4 b0 b1 b2 b3=t3 at *;unfold v4 W256 at *
  omega)
 have HB:=Φ (show(n00<18446744073709551616∧n10<18446744073709551616∧n20<18446744073709551616∧n30<18446744073709551616)∧(n31<18446744073709551616∧n32<18446744073709551616∧n33<18446744073709551616∧k33<18446744073709551616) from⟨⟨hn00,hn10,hn20,hn30⟩,hn31,hn32,hn33,hk33⟩);have Q00:=Φ q00;have Q01:=Φ q01;have Q02:=Φ q02;have Q03:=Φ q03;have Q10:=Φ q10;have Q11:=Φ q11;have Q12:=Φ q12;have Q13:=Φ q13;have Q20:=Φ q20;have Q21:=Φ q21;have Q22:=Φ q22;have Q23:=Φ q23;have Q30:=Φ q30;have Q31:=Φ q31;have Q32:=Φ q32;have Q33:=Φ q33;clear z r0 r1 r2 r3 hn00 hk00 e00 q00 hn01 hk01 e01 q01 hn02 hk02 e02 q02 hn03 hk03 e03 q03 hn10 hk10 e10 q10 hn11 hk11 e11 q11 hn12 hk12 e12 q12 hn13 hk13 e13 q13 hn20 hk20 e20 q20 hn21 hk21 e21 q21 hn22 hk22 e22 q22 hn23 hk23 e23 q23 hn30 hk30 e30 q30 hn31 hk31 e31 q31 hn32 hk32 e32 q32 hn33 hk33 e33 q33 ha0 ha1 ha2 ha3 hb0 hb1 hb2 hb3;have w0:IntKind.i64.wrap 0=0:=by rw [IntKind.wrap_i64];rfl
 have w1:IntKind.i64.wrap 1=1:=by rw [IntKind.wrap_i64];rfl
 have w2:IntKind.i64.wrap 2=2:=by rw [IntKind.wrap_i64];rfl
 have w3:IntKind.i64.wrap 3=3:=by rw [IntKind.wrap_i64];rfl
 have w4:IntKind.i64.wrap 4=4:=by rw [IntKind.wrap_i64];rfl
 have w5:IntKind.i64.wrap 5=5:=by rw [IntKind.wrap_i64];rfl
 have w6:IntKind.i64.wrap 6=6:=by rw [IntKind.wrap_i64];rfl
 have w7:IntKind.i64.wrap 7=7:=by rw [IntKind.wrap_i64];rfl
 unfold num;go_enter Tryz.func182,Tryz.ntmps182;go_wp2_with fail;refine wp_loop_rounds 5 ?_;rw [rounds_succ];go_wp2_with fail;refine wp_loop_rounds 5 ?_;rw [rounds_succ];go_wp2_with fail;refine r9 w.heap.size (w.heap.size+1) (w.heap.size+1+1+1) 0 0 a0 b0 0 0 n00 k00 (by decide) (by decide) _ (by go_cell) (by go_cell) (by go_cell) (by simp [go_sem]) Q00 ?_;intros;simp only [Nat.reduceAdd,Nat.zero_add,Nat.add_zero];clear Q00;go_wp2_with fail;rw [rounds_succ];go_wp2_with fail;refine r9 w.heap.size (w.heap.size+1) (w.heap.size+1+1+1) 0 1 a0 b1 0 k00 n01 k01 (by decide) (by decide) _ (by go_cell) (by go_cell) (by go_cell) (by simp [go_sem]) Q01 ?_;intros;simp only [Nat.reduceAdd,Nat.zero_add,Nat.add_zero];clear Q01;go_wp2_with fail;rw [rounds_succ];go_wp2_with fail;refine r9 w.heap.size (w.heap.size+1) (w.heap.size+1+1+1) 0 2 a0 b2 0 k01 n02 k02 (by decide) (by decide) _ (by go_cell) (by go_cell) (by go_cell) (by simp [go_sem]) Q02 ?_;intros;simp only [Nat.reduceAdd,Nat.zero_add,Nat.add_zero];clear Q02;go_wp2_with fail;rw [rounds_succ];go_wp2_with fail;refine r9 w.heap.size (w.heap.size+1) (w.heap.size+1+1+1) 0 3 a0 b3 0 k02 n03 k03 (by decide) (by decide) _ (by go_cell) (by go_cell) (by go_cell) (by simp [go_sem]) Q03 ?_;intros;simp only [Nat.reduceAdd,Nat.zero_add,Nat.add_zero];clear Q03;go_wp2_with fail;rw [rounds_succ];go_wp2_with fail;rw [rounds_succ];go_wp2_with fail;refine wp_loop_rounds 5 ?_;rw [rounds_succ];go_wp2_with fail;refine r9 w.heap.size (w.heap.size+1) (w.heap.size+1+1+1) 1 0 a1 b0 n01 0 n10 k10 (by decide) (by decide) _ (by go_cell) (by go_cell) (by go_cell) (by simp [go_sem]) Q10 ?_;intros;simp only [Nat.reduceAdd,Nat.zero_add,Nat.add_zero];clear Q10;go_wp2_with fail;rw [rounds_succ];go_wp2_with fail;refine r9 w.heap.size (w.heap.size+1) (w.heap.size+1+1+1) 1 1 a1 b1 n02 k10 n11 k11 (by decide) (by decide) _ (by go_cell) (by go_cell) (by go_cell) (by simp [go_sem]) Q11 ?_;intros;simp only [Nat.reduceAdd,Nat.zero_add,Nat.add_zero];clear Q11;go_wp2_with fail;rw [rounds_succ];go_wp2_with fail;refine r9 w.heap.size (w.heap.size+1) (w.heap.size+1+1+1) 1 2 a1 b2 n03 k11 n12 k12 (by decide) (by decide) _ (by go_cell) (by go_cell) (by go_cell) (by simp [go_sem]) Q12 ?_;intros;simp only [Nat.reduceAdd,Nat.zero_add,Nat.add_zero];clear Q12;go_wp2_with fail;rw [rounds_succ];go_wp2_with fail;refine r9 w.heap.size (w.heap.size+1) (w.heap.size+1+1+1) 1 3 a1 b3 k03 k12 n13 k13 (by decide) (by decide) _ (by go_cell) (by go_cell) (by go_cell) (by simp [go_sem]) Q13 ?_;intros;simp only [Nat.reduceAdd,Nat.zero_add,Nat.add_zero];clear Q13;go_wp2_with fail;rw [rounds_succ];go_wp2_with fail;rw [rounds_succ];go_wp2_with fail;refine wp_loop_rounds 5 ?_;rw [rounds_succ];go_wp2_with fail;refine r9 w.heap.size (w.heap.size+1) (w.heap.size+1+1+1) 2 0 a2 b0 n11 0 n20 k20 (by decide) (by decide) _ (by go_cell) (by go_cell) (by go_cell) (by simp [go_sem]) Q20 ?_;intros;simp only [Nat.reduceAdd,Nat.zero_add,Nat.add_zero];clear Q20;go_wp2_with fail;rw [rounds_succ];go_wp2_with fail;refine r9 w.heap.size (w.heap.size+1) (w.heap.size+1+1+1) 2 1 a2 b1 n12 k20 n21 k21 (by decide) (by decide) _ (by go_cell) (by go_cell) (by go_cell) (by simp [go_sem]) Q21 ?_;intros;simp only [Nat.reduceAdd,Nat.zero_add,Nat.add_zero];clear Q21;go_wp2_with fail;rw [rounds_succ];go_wp2_with fail;refine r9 w.heap.size (w.heap.size+1) (w.heap.size+1+1+1) 2 2 a2 b2 n13 k21 n22 k22 (by decide) (by decide) _ (by go_cell) (by go_cell) (by go_cell) (by simp [go_sem]) Q22 ?_;intros;simp only [Nat.reduceAdd,Nat.zero_add,Nat.add_zero];clear Q22;go_wp2_with fail;rw [rounds_succ];go_wp2_with fail;refine r9 w.heap.size (w.heap.size+1) (w.heap.size+1+1+1) 2 3 a2 b3 k13 k22 n23 k23 (by decide) (by decide) _ (by go_cell) (by go_cell) (by go_cell) (by simp [go_sem]) Q23 ?_;intros;simp only [Nat.reduceAdd,Nat.zero_add,Nat.add_zero];clear Q23;go_wp2_with fail;rw [rounds_succ];go_wp2_with fail;rw [rounds_succ];go_wp2_with fail;refine wp_loop_rounds 5 ?_;rw [rounds_succ];go_wp2_with fail;refine r9 w.heap.size (w.heap.size+1) (w.heap.size+1+1+1) 3 0 a3 b0 n21 0 n30 k30 (by decide) (by decide) _ (by go_cell) (by go_cell) (by go_cell) (by simp [go_sem]) Q30 ?_;intros;simp only [Nat.reduceAdd,Nat.zero_add,Nat.add_zero];clear Q30;go_wp2_with fail;rw [rounds_succ];go_wp2_with fail;refine r9 w.heap.size (w.heap.size+1) (w.heap.size+1+1+1) 3 1 a3 b1 n22 k30 n31 k31 (by decide) (by decide) _ (by go_cell) (by go_cell) (by go_cell) (by simp [go_sem]) Q31 ?_;intros;simp only [Nat.reduceAdd,Nat.zero_add,Nat.add_zero];clear Q31;go_wp2_with fail;rw [rounds_succ];go_wp2_with fail;refine r9 w.heap.size (w.heap.size+1) (w.heap.size+1+1+1) 3 2 a3 b2 n23 k31 n32 k32 (by decide) (by decide) _ (by go_cell) (by go_cell) (by go_cell) (by simp [go_sem]) Q32 ?_;intros;simp only [Nat.reduceAdd,Nat.zero_add,Nat.add_zero];clear Q32;go_wp2_with fail;rw [rounds_succ];go_wp2_with fail;refine r9 w.heap.size (w.heap.size+1) (w.heap.size+1+1+1) 3 3 a3 b3 k23 k32 n33 k33 (by decide) (by decide) _ (by go_cell) (by go_cell) (by go_cell) (by simp [go_sem]) Q33 ?_;intros;simp only [Nat.reduceAdd,Nat.zero_add,Nat.add_zero];clear Q33;go_wp2_with fail;rw [rounds_succ];go_wp2_with fail;rw [rounds_succ];go_wp2_with fail;refine ret_cell8 rfl (w.heap.size+1+1) _ _ _ _ _ _ _ _ rfl ?_ rfl ⟨⟨n00,n10,n20,n30,n31,n32,n33,k33,HB.out.1,HB.out.2,HF.out,rfl⟩,by go_grown⟩
 repeat (refine Bk.drew ?_)
 exact Bk.alloc (Bk.new (by simp))
theorem product_nv (a b:Nat)(ha:a<W256)(hb:b<W256)(w:World):
  Calls Tryz.prog 182 #[nv a,nv b] w fun e w'=>(∃l0 l1 l2 l3 l4 l5 l6 l7:Nat,(l0<18446744073709551616∧l1<18446744073709551616∧l2<18446744073709551616∧l3<18446744073709551616)∧(l4<18446744073709551616∧l5<18446744073709551616∧l6<18446744073709551616∧l7<18446744073709551616)∧v4 l0 l1 l2 l3+W256*v4 l4 l5 l6 l7=a*b∧e = .returned (num8 l0 l1 l2 l3 l4 l5 l6 l7))∧Below w.heap.size w w':=by
 have h:=product_any (lb_lt a 0) (lb_lt a 1) (lb_lt a 2) (lb_lt a 3) (lb_lt b 0) (lb_lt b 1) (lb_lt b 2) (lb_lt b 3) w;rw [v4_lb ha,v4_lb hb] at h;exact h
end
end Go.Proofs.YtpggkfdijmnmiaaGreat
