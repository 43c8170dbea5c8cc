/- The difference's region that draws its order and holds three -/
import Derived.Test.YtpggkfdijmnmiaaGreatZw11
set_option linter.unusedVariables false
set_option linter.unusedSimpArgs false
set_option maxRecDepth 100000
namespace Go.Proofs.YtpggkfdijmnmiaaGreat
section
open Go.RowKit Limbs
set_option maxHeartbeats 16000000
variable {t0 t1 t2 t3 t6 t8 t9 t10 t11 t12 t13 t14 t15 t16 t17 t18 t19 t20 t21 t22 t23 t24 t25 t26 t27 t28 t29 t30:Value}{ds:List Deferred}{Q:Exit→Act→World→Prop}
def s2I (w0:World)(ga gb gM c a0 a1 a2 a3 b0 b1 b2 b3 m0 m1 m2 m3 p0 p1 p2 p3 q0 q1 q2 q3 s0 s1 s2 s3:Nat)(t0 t1 t2 t3 t6 t10 t11 t22 t23 t24 t25 t26 t27 t28 t29 t30:Value)(ds:List Deferred)(l:Array Bool)(a:Act)(w:World): Prop:=
 ∃j0 j1 j2 j3 j4 j5 j6 j7 j8 j9 j10 j11 j12:Bool,∃x0 x1 x2 x3 x4 x5 x6 x7 x8 x9 x10 x12:Value,l=#[j0,j1,j2,j3,j4,j5,j6,j7,j8,j9,j10,j11,j12]∧a={tmps:=#[t0,t1,t2,t3,.pointer (some ⟨ga,0,none⟩),.pointer (some ⟨gb,0,none⟩),t6,.pointer (some ⟨gM,0,none⟩),x10,x12,t10,t11,x7,x0,x1,x2,x3,x4,x5,x6,x8,x9,t22,t23,t24,t25,t26,t27,t28,t29,t30],defers:=ds}∧Below w0.heap.size w0 w∧
 (j0=true→x0 = .agg #[.int .u64 (a0:Int),.int .u64 (a1:Int),.int .u64 (a2:Int),.int .u64 (a3:Int)])∧(j1=true→x1 = .agg #[.int .u64 (m0:Int),.int .u64 (m1:Int),.int .u64 (m2:Int),.int .u64 (m3:Int)])∧(j2=true→x2 = .agg #[.int .u64 (p0:Int),.int .u64 (p1:Int),.int .u64 (p2:Int),.int .u64 (p3:Int)])∧(j3=true→x3 = .agg #[.int .u64 (b0:Int),.int .u64 (b1:Int),.int .u64 (b2:Int),.int .u64 (b3:Int)])∧(j4=true→x4 = .agg #[.int .u64 (m0:Int),.int .u64 (m1:Int),.int .u64 (m2:Int),.int .u64 (m3:Int)])∧(j5=true→x5 = .agg #[.int .u64 (q0:Int),.int .u64 (q1:Int),.int .u64 (q2:Int),.int .u64 (q3:Int)])∧(j6=true→x6 = .tuple #[.agg #[.int .u64 (s0:Int),.int .u64 (s1:Int),.int .u64 (s2:Int),.int .u64 (s3:Int)],.int .u64 (c:Int)])∧(j7=true→x7 = .tuple #[.agg #[.int .u64 (s0:Int),.int .u64 (s1:Int),.int .u64 (s2:Int),.int .u64 (s3:Int)],.int .u64 (c:Int)])∧(j8=true→x8 = .agg #[.int .u64 (s0:Int),.int .u64 (s1:Int),.int .u64 (s2:Int),.int .u64 (s3:Int)])∧(j9=true→x9 = .int .u64 (c:Int))∧
 (j10=true→∃(g:Nat) (z0 z1 z2 z3:Value),x10 = .pointer (some ⟨g,0,none⟩)∧w0.heap.size≤g∧Bk 24 w g #[z0,z1,z2,z3]∧(j11=true→#[z0,z1,z2,z3]=#[.int .u64 (s0:Int),.int .u64 (s1:Int),.int .u64 (s2:Int),.int .u64 (s3:Int)]))∧(j12=true→x12 = .int .u64 (c:Int))∧(j11=true→j10=true)
theorem s2_steps (ga gb gM c a0 a1 a2 a3 b0 b1 b2 b3 m0 m1 m2 m3 p0 p1 p2 p3 q0 q1 q2 q3 s0 s1 s2 s3:Nat)(w:World)(KA:Bk 24 w ga #[.int .u64 (a0:Int),.int .u64 (a1:Int),.int .u64 (a2:Int),.int .u64 (a3:Int)])(KB:Bk 24 w gb #[.int .u64 (b0:Int),.int .u64 (b1:Int),.int .u64 (b2:Int),.int .u64 (b3:Int)])(KM:Bk 24 w gM #[.int .u64 (m0:Int),.int .u64 (m1:Int),.int .u64 (m2:Int),.int .u64 (m3:Int)])(HA:Hid (∀w,Calls Tryz.prog 132 #[.agg #[.int .u64 (a0:Int),.int .u64 (a1:Int),.int .u64 (a2:Int),.int .u64 (a3:Int)],.agg #[.int .u64 (m0:Int),.int .u64 (m1:Int),.int .u64 (m2:Int),.int .u64 (m3:Int)]] w fun e w'=>e = .returned (.agg #[.int .u64 (p0:Int),.int .u64 (p1:Int),.int .u64 (p2:Int),.int .u64 (p3:Int)])∧Below w.heap.size w w'))(HB:Hid (∀w,Calls Tryz.prog 132 #[.agg #[.int .u64 (b0:Int),.int .u64 (b1:Int),.int .u64 (b2:Int),.int .u64 (b3:Int)],.agg #[.int .u64 (m0:Int),.int .u64 (m1:Int),.int .u64 (m2:Int),.int .u64 (m3:Int)]] w fun e w'=>e = .returned (.agg #[.int .u64 (q0:Int),.int .u64 (q1:Int),.int .u64 (q2:Int),.int .u64 (q3:Int)])∧Below w.heap.size w w'))(HC:Hid (∀w,Calls Tryz.prog 131 #[.agg #[.int .u64 (p0:Int),.int .u64 (p1:Int),.int .u64 (p2:Int),.int .u64 (p3:Int)],.agg #[.int .u64 (q0:Int),.int .u64 (q1:Int),.int .u64 (q2:Int),.int .u64 (q3:Int)]] w fun e w'=>e = .returned (.tuple #[.agg #[.int .u64 (s0:Int),.int .u64 (s1:Int),.int .u64 (s2:Int),.int .u64 (s3:Int)],.int .u64 (c:Int)])∧Below w.heap.size w w'))
  :
  ∀l a w',s2I w ga gb gM c a0 a1 a2 a3 b0 b1 b2 b3 m0 m1 m2 m3 p0 p1 p2 p3 q0 q1 q2 q3 s0 s1 s2 s3 t0 t1 t2 t3 t6 t10 t11 t22 t23 t24 t25 t26 t27 t28 t29 t30 ds l a w'→∀i∈Region.ready .any (ops17 2) l,wpOp Tryz.prog (ops17 2) Q i (fun a' w''=>s2I w ga gb gM c a0 a1 a2 a3 b0 b1 b2 b3 m0 m1 m2 m3 p0 p1 p2 p3 q0 q1 q2 q3 s0 s1 s2 s3 t0 t1 t2 t3 t6 t10 t11 t22 t23 t24 t25 t26 t27 t28 t29 t30 ds (l.setIfInBounds i true) a' w'') a w':=by
 simp only [ops17,findR,Tryz.f73,Option.bind_some,Option.or,Option.getD,Nat.reduceEqDiff,if_true,if_false,reduceIte];rintro l a w' ⟨j0,j1,j2,j3,j4,j5,j6,j7,j8,j9,j10,j11,j12,x0,x1,x2,x3,x4,x5,x6,x7,x8,x9,x10,x12,rfl,rfl,hB,h0,h1,h2,h3,h4,h5,h6,h7,h8,h9,h10,h11,h12⟩ i hi;rw [mem_ready] at hi;obtain⟨hu,oo,ho,hd⟩:=hi;have hi13:i<13:=by
  have:=(Array.getElem?_eq_some_iff.1 ho).1
  simpa using this
 obtain⟨⟨ca0,ca1,ca2,ca3⟩,-⟩:=Bk.all4 KA;obtain⟨⟨cb0,cb1,cb2,cb3⟩,-⟩:=Bk.all4 KB;obtain⟨⟨cm0,cm1,cm2,cm3⟩,-⟩:=Bk.all4 KM;clear KA KB KM;have hcase:i=0∨i=1∨i=2∨i=3∨i=4∨i=5∨i=6∨i=7∨i=8∨i=9∨i=10∨i=11∨i=12:=by omega
 rcases hcase with rfl | rfl | rfl | rfl | rfl | rfl | rfl | rfl | rfl | rfl | rfl | rfl | rfl
 all_goals obtain rfl:=Option.some.inj ho
 all_goals simp [Region.binds] at hu hd
 ·refine wpOp_of rfl rfl ?_;go_simp;unfold s2I;exact⟨true,j1,j2,j3,j4,j5,j6,j7,j8,j9,j10,j11,j12,_,x1,x2,x3,x4,x5,x6,x7,x8,x9,x10,x12,rfl,rfl,hB,fun _=>rfl,h1,h2,h3,h4,h5,h6,h7,h8,h9,h10,h11,h12⟩
 ·refine wpOp_of rfl rfl ?_;go_simp;unfold s2I;exact⟨j0,true,j2,j3,j4,j5,j6,j7,j8,j9,j10,j11,j12,x0,_,x2,x3,x4,x5,x6,x7,x8,x9,x10,x12,rfl,rfl,hB,h0,fun _=>rfl,h2,h3,h4,h5,h6,h7,h8,h9,h10,h11,h12⟩
 ·have d0:j0=true:=by simp [hd]
  have e0:=h0 d0;subst e0;have d1:j1=true:=by simp [hd]
  have e1:=h1 d1;subst e1;subst d0 d1;refine wpOp_of rfl rfl ?_;go_simp;go_at_call 132;refine(keep w.heap.size w (HA.out _) hB (Nat.le_refl _)).mono ?_;rintro e w2 ⟨rfl,hB2,hb2⟩;unfold s2I;exact⟨true,true,true,j3,j4,j5,j6,j7,j8,j9,j10,j11,j12,_,_,_,x3,x4,x5,x6,x7,x8,x9,x10,x12,rfl,rfl,hB2,h0,h1,fun _=>rfl,h3,h4,h5,h6,h7,h8,h9,(fun hj=>by obtain⟨g,z0,z1,z2,z3,e1,e2,e3,e4⟩:=h10 hj;exact⟨g,z0,z1,z2,z3,e1,e2,e3.below hb2,e4⟩),h11,h12⟩
 ·refine wpOp_of rfl rfl ?_;go_simp;unfold s2I;exact⟨j0,j1,j2,true,j4,j5,j6,j7,j8,j9,j10,j11,j12,x0,x1,x2,_,x4,x5,x6,x7,x8,x9,x10,x12,rfl,rfl,hB,h0,h1,h2,fun _=>rfl,h4,h5,h6,h7,h8,h9,h10,h11,h12⟩
 ·refine wpOp_of rfl rfl ?_;go_simp;unfold s2I;exact⟨j0,j1,j2,j3,true,j5,j6,j7,j8,j9,j10,j11,j12,x0,x1,x2,x3,_,x5,x6,x7,x8,x9,x10,x12,rfl,rfl,hB,h0,h1,h2,h3,fun _=>rfl,h5,h6,h7,h8,h9,h10,h11,h12⟩
 ·have d2:j2=true:=by simp [hd]
  have e2:=h2 d2;subst e2;have d3:j3=true:=by simp [hd]
  have e3:=h3 d3;subst e3;have d4:j4=true:=by simp [hd]
  have e4:=h4 d4;subst e4;subst d2 d3 d4;refine wpOp_of rfl rfl ?_;go_simp;go_at_call 132;refine(keep w.heap.size w (HB.out _) hB (Nat.le_refl _)).mono ?_;rintro e w2 ⟨rfl,hB2,hb2⟩;unfold s2I;exact⟨j0,j1,true,true,true,true,j6,j7,j8,j9,j10,j11,j12,x0,x1,_,_,_,_,x6,x7,x8,x9,x10,x12,rfl,rfl,hB2,h0,h1,h2,h3,h4,fun _=>rfl,h6,h7,h8,h9,(fun hj=>by obtain⟨g,z0,z1,z2,z3,e1,e2,e3,e4⟩:=h10 hj;exact⟨g,z0,z1,z2,z3,e1,e2,e3.below hb2,e4⟩),h11,h12⟩
 ·have d2:j2=true:=by simp [hd]
  have e2:=h2 d2;subst e2;have d5:j5=true:=by simp [hd]
  have e5:=h5 d5;subst e5;subst d2 d5;refine wpOp_of rfl rfl ?_;go_simp;go_at_call 131;refine(keep w.heap.size w (HC.out _) hB (Nat.le_refl _)).mono ?_;rintro e w2 ⟨rfl,hB2,hb2⟩;unfold s2I;exact⟨j0,j1,true,j3,j4,true,true,j7,j8,j9,j10,j11,j12,x0,x1,_,x3,x4,_,_,x7,x8,x9,x10,x12,rfl,rfl,hB2,h0,h1,h2,h3,h4,h5,fun _=>rfl,h7,h8,h9,(fun hj=>by obtain⟨g,z0,z1,z2,z3,e1,e2,e3,e4⟩:=h10 hj;exact⟨g,z0,z1,z2,z3,e1,e2,e3.below hb2,e4⟩),h11,h12⟩
 ·have d6:j6=true:=by simp [hd]
  have e6:=h6 d6;subst e6;subst d6;refine wpOp_of rfl rfl ?_;go_simp;unfold s2I;exact⟨j0,j1,j2,j3,j4,j5,true,true,j8,j9,j10,j11,j12,x0,x1,x2,x3,x4,x5,_,_,x8,x9,x10,x12,rfl,rfl,hB,h0,h1,h2,h3,h4,h5,h6,fun _=>rfl,h8,h9,h10,h11,h12⟩
 ·have d7:j7=true:=by simp [hd]
  have e7:=h7 d7;subst e7;subst d7;refine wpOp_of rfl rfl ?_;go_simp;unfold s2I;exact⟨j0,j1,j2,j3,j4,j5,j6,true,true,j9,j10,j11,j12,x0,x1,x2,x3,x4,x5,x6,_,_,x9,x10,x12,rfl,rfl,hB,h0,h1,h2,h3,h4,h5,h6,h7,fun _=>rfl,h9,h10,h11,h12⟩
 ·have d7:j7=true:=by simp [hd]
  have e7:=h7 d7;subst e7;subst d7;refine wpOp_of rfl rfl ?_;go_simp;unfold s2I;exact⟨j0,j1,j2,j3,j4,j5,j6,true,j8,true,j10,j11,j12,x0,x1,x2,x3,x4,x5,x6,_,x8,_,x10,x12,rfl,rfl,hB,h0,h1,h2,h3,h4,h5,h6,h7,h8,fun _=>rfl,h10,h11,h12⟩
 ·refine wpOp_of rfl rfl ?_;have hs:=hB.size;go_simp;unfold s2I;exact⟨j0,j1,j2,j3,j4,j5,j6,j7,j8,j9,true,j11,j12,x0,x1,x2,x3,x4,x5,x6,x7,x8,x9,_,x12,rfl,rfl,(by go_grown),h0,h1,h2,h3,h4,h5,h6,h7,h8,h9,fun _=>⟨_,_,_,_,_,rfl,hs,Bk.new rfl,fun hj=>absurd (h12 hj) (by simp [hu])⟩,h11,fun _=>rfl⟩
 ·have d0:j0=true:=by simp [hd]
  have e0:=h0 d0;subst e0;have d1:j1=true:=by simp [hd]
  have e1:=h1 d1;subst e1;have d2:j2=true:=by simp [hd]
  have e2:=h2 d2;subst e2;have d3:j3=true:=by simp [hd]
  have e3:=h3 d3;subst e3;have d4:j4=true:=by simp [hd]
  have e4:=h4 d4;subst e4;have d5:j5=true:=by simp [hd]
  have e5:=h5 d5;subst e5;have d6:j6=true:=by simp [hd]
  have e6:=h6 d6;subst e6;have d7:j7=true:=by simp [hd]
  have e7:=h7 d7;subst e7;have d8:j8=true:=by simp [hd]
  have e8:=h8 d8;subst e8;have d10:j10=true:=by simp [hd]
  subst d0 d1;subst d2 d3;subst d4 d5;subst d6 d7;subst d8 d10;refine wpOp_of rfl rfl ?_;obtain⟨g,z0,z1,z2,z3,e1,e2,e3,e4⟩:=h10 rfl;subst e1;obtain⟨f0,f1,f2,f3⟩:=e3.fros;obtain⟨c0,c1,c2,c3⟩:=e3.cells;go_simp;unfold s2I;exact⟨true,true,true,true,true,true,true,true,true,j9,true,true,j12,_,_,_,_,_,_,_,_,_,x9,_,x12,rfl,rfl,(by go_grown),h0,h1,h2,h3,h4,h5,h6,h7,h8,h9,fun _=>⟨g,_,_,_,_,rfl,e2,Bk.put e3,fun _=>rfl⟩,h11,fun _=>rfl⟩
 ·have d0:j0=true:=by simp [hd]
  have e0:=h0 d0;subst e0;have d1:j1=true:=by simp [hd]
  have e1:=h1 d1;subst e1;have d2:j2=true:=by simp [hd]
  have e2:=h2 d2;subst e2;have d3:j3=true:=by simp [hd]
  have e3:=h3 d3;subst e3;have d4:j4=true:=by simp [hd]
  have e4:=h4 d4;subst e4;have d5:j5=true:=by simp [hd]
  have e5:=h5 d5;subst e5;have d6:j6=true:=by simp [hd]
  have e6:=h6 d6;subst e6;have d7:j7=true:=by simp [hd]
  have e7:=h7 d7;subst e7;have d8:j8=true:=by simp [hd]
  have e8:=h8 d8;subst e8;have d9:j9=true:=by simp [hd]
  have e9:=h9 d9;subst e9;have d10:j10=true:=by simp [hd]
  have d11:j11=true:=by simp [hd]
  subst d0 d1;subst d2 d3;subst d4 d5;subst d6 d7;subst d8 d9;subst d10 d11;refine wpOp_of rfl rfl ?_;go_simp;unfold s2I;exact⟨true,true,true,true,true,true,true,true,true,true,true,true,true,_,_,_,_,_,_,_,_,_,_,x10,_,rfl,rfl,hB,h0,h1,h2,h3,h4,h5,h6,h7,h8,h9,h10,fun _=>rfl,h12⟩
theorem s2_fin (ga gb gM c a0 a1 a2 a3 b0 b1 b2 b3 m0 m1 m2 m3 p0 p1 p2 p3 q0 q1 q2 q3 s0 s1 s2 s3:Nat)(w:World)(KA:Bk 24 w ga #[.int .u64 (a0:Int),.int .u64 (a1:Int),.int .u64 (a2:Int),.int .u64 (a3:Int)])(KB:Bk 24 w gb #[.int .u64 (b0:Int),.int .u64 (b1:Int),.int .u64 (b2:Int),.int .u64 (b3:Int)])(KM:Bk 24 w gM #[.int .u64 (m0:Int),.int .u64 (m1:Int),.int .u64 (m2:Int),.int .u64 (m3:Int)])
  :∀l a w',s2I w ga gb gM c a0 a1 a2 a3 b0 b1 b2 b3 m0 m1 m2 m3 p0 p1 p2 p3 q0 q1 q2 q3 s0 s1 s2 s3 t0 t1 t2 t3 t6 t10 t11 t22 t23 t24 t25 t26 t27 t28 t29 t30 ds l a w'→Region.ready .any (ops17 2) l=[]→
  ∃(y0 y1 y2 y3 y4 y5 y6 y7 y8 y9:Value) (g:Nat),a={tmps:=#[t0,t1,t2,t3,.pointer (some ⟨ga,0,none⟩),.pointer (some ⟨gb,0,none⟩),t6,.pointer (some ⟨gM,0,none⟩),.pointer (some ⟨g,0,none⟩),.int .u64 (c:Int),t10,t11,y7,y0,y1,y2,y3,y4,y5,y6,y8,y9,t22,t23,t24,t25,t26,t27,t28,t29,t30],defers:=ds}∧Below w.heap.size w w'∧w.heap.size≤g∧Bk 24 w' g #[.int .u64 (s0:Int),.int .u64 (s1:Int),.int .u64 (s2:Int),.int .u64 (s3:Int)]:=by
 simp only [ops17,findR,Tryz.f73,Option.bind_some,Option.or,Option.getD,Nat.reduceEqDiff,if_true,if_false,reduceIte];rintro l a w' ⟨j0,j1,j2,j3,j4,j5,j6,j7,j8,j9,j10,j11,j12,x0,x1,x2,x3,x4,x5,x6,x7,x8,x9,x10,x12,rfl,rfl,hB,h0,h1,h2,h3,h4,h5,h6,h7,h8,h9,h10,h11,h12⟩ hr;have hn:=fun i=>List.eq_nil_iff_forall_not_mem.1 hr i
 clear hr;cases j0;exact(ab hn 0).elim
 obtain rfl:=h0 rfl;cases j1;exact(ab hn 1).elim
 obtain rfl:=h1 rfl;cases j2;exact(ab hn 2).elim
 obtain rfl:=h2 rfl;cases j3;exact(ab hn 3).elim
 obtain rfl:=h3 rfl;cases j4;exact(ab hn 4).elim
 obtain rfl:=h4 rfl;cases j5;exact(ab hn 5).elim
 obtain rfl:=h5 rfl;cases j6;exact(ab hn 6).elim
 obtain rfl:=h6 rfl;cases j7;exact(ab hn 7).elim
 obtain rfl:=h7 rfl;cases j8;exact(ab hn 8).elim
 obtain rfl:=h8 rfl;cases j9;exact(ab hn 9).elim
 obtain rfl:=h9 rfl;cases j10;exact(ab hn 10).elim
 cases j11;exact(ab hn 11).elim
 cases j12;exact(ab hn 12).elim
 obtain rfl:=h11 rfl;obtain⟨g,z0,z1,z2,z3,rfl,e2,e3,e4⟩:=h10 rfl;rw [e4 rfl] at e3;exact⟨_,_,_,_,_,_,_,_,_,_,g,rfl,hB,e2,e3⟩
theorem s2 (ga gb gM c a0 a1 a2 a3 b0 b1 b2 b3 m0 m1 m2 m3 p0 p1 p2 p3 q0 q1 q2 q3 s0 s1 s2 s3:Nat)(w:World)(KA:Bk 24 w ga #[.int .u64 (a0:Int),.int .u64 (a1:Int),.int .u64 (a2:Int),.int .u64 (a3:Int)])(KB:Bk 24 w gb #[.int .u64 (b0:Int),.int .u64 (b1:Int),.int .u64 (b2:Int),.int .u64 (b3:Int)])(KM:Bk 24 w gM #[.int .u64 (m0:Int),.int .u64 (m1:Int),.int .u64 (m2:Int),.int .u64 (m3:Int)])(HA:Hid (∀w,Calls Tryz.prog 132 #[.agg #[.int .u64 (a0:Int),.int .u64 (a1:Int),.int .u64 (a2:Int),.int .u64 (a3:Int)],.agg #[.int .u64 (m0:Int),.int .u64 (m1:Int),.int .u64 (m2:Int),.int .u64 (m3:Int)]] w fun e w'=>e = .returned (.agg #[.int .u64 (p0:Int),.int .u64 (p1:Int),.int .u64 (p2:Int),.int .u64 (p3:Int)])∧Below w.heap.size w w'))(HB:Hid (∀w,Calls Tryz.prog 132 #[.agg #[.int .u64 (b0:Int),.int .u64 (b1:Int),.int .u64 (b2:Int),.int .u64 (b3:Int)],.agg #[.int .u64 (m0:Int),.int .u64 (m1:Int),.int .u64 (m2:Int),.int .u64 (m3:Int)]] w fun e w'=>e = .returned (.agg #[.int .u64 (q0:Int),.int .u64 (q1:Int),.int .u64 (q2:Int),.int .u64 (q3:Int)])∧Below w.heap.size w w'))(HC:Hid (∀w,Calls Tryz.prog 131 #[.agg #[.int .u64 (p0:Int),.int .u64 (p1:Int),.int .u64 (p2:Int),.int .u64 (p3:Int)],.agg #[.int .u64 (q0:Int),.int .u64 (q1:Int),.int .u64 (q2:Int),.int .u64 (q3:Int)]] w fun e w'=>e = .returned (.tuple #[.agg #[.int .u64 (s0:Int),.int .u64 (s1:Int),.int .u64 (s2:Int),.int .u64 (s3:Int)],.int .u64 (c:Int)])∧Below w.heap.size w w'))
  {K:Act→World→Prop} 
  (h:∀(y0 y1 y2 y3 y4 y5 y6 y7 y8 y9:Value) (g:Nat) (w':World) (hb:Below w.heap.size w w') (hg:w.heap.size≤g) (hk:Bk 24 w' g #[.int .u64 (s0:Int),.int .u64 (s1:Int),.int .u64 (s2:Int),.int .u64 (s3:Int)]),K {tmps:=#[t0,t1,t2,t3,.pointer (some ⟨ga,0,none⟩),.pointer (some ⟨gb,0,none⟩),t6,.pointer (some ⟨gM,0,none⟩),.pointer (some ⟨g,0,none⟩),.int .u64 (c:Int),t10,t11,y7,y0,y1,y2,y3,y4,y5,y6,y8,y9,t22,t23,t24,t25,t26,t27,t28,t29,t30],defers:=ds} w') :
  (Code.region 2 (ops17 2) true).wp Tryz.prog (Exit.then K Q) {tmps:=#[t0,t1,t2,t3,.pointer (some ⟨ga,0,none⟩),.pointer (some ⟨gb,0,none⟩),t6,.pointer (some ⟨gM,0,none⟩),t8,t9,t10,t11,t12,t13,t14,t15,t16,t17,t18,t19,t20,t21,t22,t23,t24,t25,t26,t27,t28,t29,t30],defers:=ds} w:=by
 have hsz:(ops17 2).size=13:=by kernel_rfl
 refine wp_region_any mixed ?_;rw [hsz];refine wpAny_inv (I:=s2I w ga gb gM c a0 a1 a2 a3 b0 b1 b2 b3 m0 m1 m2 m3 p0 p1 p2 p3 q0 q1 q2 q3 s0 s1 s2 s3 t0 t1 t2 t3 t6 t10 t11 t22 t23 t24 t25 t26 t27 t28 t29 t30 ds) (s2_steps ga gb gM c a0 a1 a2 a3 b0 b1 b2 b3 m0 m1 m2 m3 p0 p1 p2 p3 q0 q1 q2 q3 s0 s1 s2 s3 w KA KB KM HA HB HC) (fun l a w' hI hr=>?_) 13 _ _ _ (by decide) ?_
 ·obtain⟨y0,y1,y2,y3,y4,y5,y6,y7,y8,y9,g,rfl,hb,hg,hk⟩:=s2_fin ga gb gM c a0 a1 a2 a3 b0 b1 b2 b3 m0 m1 m2 m3 p0 p1 p2 p3 q0 q1 q2 q3 s0 s1 s2 s3 w KA KB KM l a w' hI hr;exact h _ _ _ _ _ _ _ _ _ _ g w' hb hg hk
 ·exact⟨false,false,false,false,false,false,false,false,false,false,false,false,false,t13,t14,t15,t16,t17,t18,t19,t12,t20,t21,t8,t9,rfl,rfl,⟨rfl,rfl,rfl,Nat.le_refl _,fun _ _=>rfl⟩,(fun h=>by cases h),(fun h=>by cases h),(fun h=>by cases h),(fun h=>by cases h),(fun h=>by cases h),(fun h=>by cases h),(fun h=>by cases h),(fun h=>by cases h),(fun h=>by cases h),(fun h=>by cases h),(fun h=>by cases h),(fun h=>by cases h),(fun h=>by cases h)⟩
end
end Go.Proofs.YtpggkfdijmnmiaaGreat
