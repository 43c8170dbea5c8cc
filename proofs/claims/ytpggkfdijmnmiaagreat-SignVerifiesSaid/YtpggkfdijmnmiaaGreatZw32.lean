/- The drawn regions of the reference's double of a point under -/
import Derived.Test.YtpggkfdijmnmiaaGreatZw30
set_option linter.unusedVariables false
set_option linter.unusedSimpArgs false
set_option maxRecDepth 100000
namespace Go.Proofs.YtpggkfdijmnmiaaGreat
namespace Ref
open Go.RowKit Go.Proofs.YtpggkfdijmnmiaaGreat.Digits Limbs Curve
open Go.Lib renaming hid→Φ
set_option maxHeartbeats 16000000
variable {t0 t3 t4 t5 t6 t7 t8 t9 t10 t11 t12 t13 t14 t15 t16 t17 t18 t19 t20 t21 t22 t23 t24 t25 t26 t27 t28 t29 t30 t31 t32 t33 t34 t35 t36 t37 t38 t39 t40 t41 t42 t43 t44 t45 t46 t47 t48 t49 t50 t51 t52 t53 t54 t55 t56 t57 t58 t59 t60 t61 t62:Value}{ds:List Deferred}{Q:Exit→Act→World→Prop}
def tw1F (w0:World)(gP gR ya za:Nat)(nx cx ny cy nz cz:Nat)(ax ay az:Option Addr)(t0 t5 t6 t7 t18 t19 t20 t21 t22 t23 t24 t25 t26 t27 t28 t29 t30 t31 t32 t33 t34 t35 t36 t37 t38 t39 t40 t41 t42 t43 t44 t45 t46 t47 t48 t49 t50 t51 t52 t53 t54 t55 t56 t57 t58 t59 t60 t61 t62:Value)(ds:List Deferred)(a:Act)(w:World): Prop:=
 ∃y0 y1 y2 y3 y4 y5 y6 y7 y8 y9 y10 y11:Value,∃wm:World,a={tmps:=#[t0,.pointer (some ⟨gP,0,none⟩),.pointer (some ⟨gR,0,none⟩),y10,y11,t5,t6,t7,y0,y1,y2,y3,y4,y5,y6,y7,y8,y9,t18,t19,t20,t21,t22,t23,t24,t25,t26,t27,t28,t29,t30,t31,t32,t33,t34,t35,t36,t37,t38,t39,t40,t41,t42,t43,t44,t45,t46,t47,t48,t49,t50,t51,t52,t53,t54,t55,t56,t57,t58,t59,t60,t61,t62],defers:=ds}∧Below w0.heap.size w0 wm∧w=wm∧NV wm y10 (mj ya ya)∧NV wm y11 (mj za za)
def tw1I (w0:World)(gP gR ya za:Nat)(nx cx ny cy nz cz:Nat)(ax ay az:Option Addr)(t0 t5 t6 t7 t18 t19 t20 t21 t22 t23 t24 t25 t26 t27 t28 t29 t30 t31 t32 t33 t34 t35 t36 t37 t38 t39 t40 t41 t42 t43 t44 t45 t46 t47 t48 t49 t50 t51 t52 t53 t54 t55 t56 t57 t58 t59 t60 t61 t62:Value)(ds:List Deferred)(l:Array Bool)(a:Act)(w:World): Prop:=
 ∃j0 j1 j2 j3 j4 j5 j6 j7 j8 j9 j10 j11:Bool,∃x0 x1 x2 x3 x4 x5 x6 x7 x8 x9 x10 x11:Value,l=#[j0,j1,j2,j3,j4,j5,j6,j7,j8,j9,j10,j11]∧a={tmps:=#[t0,.pointer (some ⟨gP,0,none⟩),.pointer (some ⟨gR,0,none⟩),x10,x11,t5,t6,t7,x0,x1,x2,x3,x4,x5,x6,x7,x8,x9,t18,t19,t20,t21,t22,t23,t24,t25,t26,t27,t28,t29,t30,t31,t32,t33,t34,t35,t36,t37,t38,t39,t40,t41,t42,t43,t44,t45,t46,t47,t48,t49,t50,t51,t52,t53,t54,t55,t56,t57,t58,t59,t60,t61,t62],defers:=ds}∧Below w0.heap.size w0 w∧
 (j0=true→x0 = .pointer (some ⟨gP,1,none⟩))∧(j1=true→x1 = .slice ay ny cy)∧(j2=true→x2 = .pointer (some ⟨gP,1,none⟩))∧(j3=true→x3 = .slice ay ny cy)∧(j4=true→NV w x4 (mj ya ya))∧(j5=true→x5 = .pointer (some ⟨gP,2,none⟩))∧(j6=true→x6 = .slice az nz cz)∧(j7=true→x7 = .pointer (some ⟨gP,2,none⟩))∧(j8=true→x8 = .slice az nz cz)∧(j9=true→NV w x9 (mj za za))∧(j10=true→NV w x10 (mj ya ya))∧(j11=true→NV w x11 (mj za za))
noncomputable def tw1O:Array Oper:=(Tryz.f127.body.bind fun c=>findR c 1).getD #[]
theorem tw1_steps (gP gR ya za:Nat)(nx cx ny cy nz cz:Nat)(ax ay az:Option Addr)(w:World)(KP:Bk 150 w gP #[.slice ax nx cx,.slice ay ny cy,.slice az nz cz])(HY:ya<big)(HZ:za<big)(NY:NV w (.slice ay ny cy) ya)(NZ:NV w (.slice az nz cz) za)
  :
  ∀l a w',tw1I w gP gR ya za nx cx ny cy nz cz ax ay az t0 t5 t6 t7 t18 t19 t20 t21 t22 t23 t24 t25 t26 t27 t28 t29 t30 t31 t32 t33 t34 t35 t36 t37 t38 t39 t40 t41 t42 t43 t44 t45 t46 t47 t48 t49 t50 t51 t52 t53 t54 t55 t56 t57 t58 t59 t60 t61 t62 ds l a w'→∀i∈Region.ready .any tw1O l,wpOp Tryz.prog tw1O Q i (fun a' w''=>tw1I w gP gR ya za nx cx ny cy nz cz ax ay az t0 t5 t6 t7 t18 t19 t20 t21 t22 t23 t24 t25 t26 t27 t28 t29 t30 t31 t32 t33 t34 t35 t36 t37 t38 t39 t40 t41 t42 t43 t44 t45 t46 t47 t48 t49 t50 t51 t52 t53 t54 t55 t56 t57 t58 t59 t60 t61 t62 ds (l.setIfInBounds i true) a' w'') a w':=by
 simp only [tw1O,findR,Tryz.f127,Option.bind_some,Option.or,Option.getD,Nat.reduceEqDiff,if_true,if_false,reduceIte];rintro l a w' hI i hi;rw [mem_ready] at hi;obtain⟨hu,oo,ho,hd⟩:=hi;have hin:i<12:=by
  have:=(Array.getElem?_eq_some_iff.1 ho).1
  simpa using this
 have hcase:i=0∨i=1∨i=2∨i=3∨i=4∨i=5∨i=6∨i=7∨i=8∨i=9∨i=10∨i=11:=by omega
 obtain⟨j0,j1,j2,j3,j4,j5,j6,j7,j8,j9,j10,j11,x0,x1,x2,x3,x4,x5,x6,x7,x8,x9,x10,x11,rfl,rfl,hB,h0,h1,h2,h3,h4,h5,h6,h7,h8,h9,h10,h11⟩:=hI;replace h0:=Φ h0;replace h1:=Φ h1;replace h2:=Φ h2;replace h3:=Φ h3;replace h4:=Φ h4;replace h5:=Φ h5;replace h6:=Φ h6;replace h7:=Φ h7;replace h8:=Φ h8;replace h9:=Φ h9;replace h10:=Φ h10;replace h11:=Φ h11;rcases hcase with rfl | rfl | rfl | rfl | rfl | rfl | rfl | rfl | rfl | rfl | rfl | rfl
 all_goals obtain rfl:=Option.some.inj ho
 all_goals simp [Region.binds] at hu hd
 ·clear hd;refine wpOp_of rfl rfl ?_;go_simp;unfold tw1I;exact⟨true,j1,j2,j3,j4,j5,j6,j7,j8,j9,j10,j11,_,x1,x2,x3,x4,x5,x6,x7,x8,x9,x10,x11,rfl,rfl,hB,fun _=>rfl,h1.out,h2.out,h3.out,h4.out,h5.out,h6.out,h7.out,h8.out,h9.out,h10.out,h11.out⟩
 ·have d0:j0=true:=by simp [hd]
  obtain rfl:=h0.out d0;subst d0;clear hd;refine wpOp_of rfl rfl ?_;have i1:w'.cell? ⟨gP,1,none⟩=some (.slice ay ny cy):=(KP.below hB).cell 1;go_simp;unfold tw1I;exact⟨true,true,j2,j3,j4,j5,j6,j7,j8,j9,j10,j11,_,_,x2,x3,x4,x5,x6,x7,x8,x9,x10,x11,rfl,rfl,hB,h0.out,fun _=>rfl,h2.out,h3.out,h4.out,h5.out,h6.out,h7.out,h8.out,h9.out,h10.out,h11.out⟩
 ·clear hd;refine wpOp_of rfl rfl ?_;go_simp;unfold tw1I;exact⟨j0,j1,true,j3,j4,j5,j6,j7,j8,j9,j10,j11,x0,x1,_,x3,x4,x5,x6,x7,x8,x9,x10,x11,rfl,rfl,hB,h0.out,h1.out,fun _=>rfl,h3.out,h4.out,h5.out,h6.out,h7.out,h8.out,h9.out,h10.out,h11.out⟩
 ·have d2:j2=true:=by simp [hd]
  obtain rfl:=h2.out d2;subst d2;clear hd;refine wpOp_of rfl rfl ?_;have i1:w'.cell? ⟨gP,1,none⟩=some (.slice ay ny cy):=(KP.below hB).cell 1;go_simp;unfold tw1I;exact⟨j0,j1,true,true,j4,j5,j6,j7,j8,j9,j10,j11,x0,x1,_,_,x4,x5,x6,x7,x8,x9,x10,x11,rfl,rfl,hB,h0.out,h1.out,h2.out,fun _=>rfl,h4.out,h5.out,h6.out,h7.out,h8.out,h9.out,h10.out,h11.out⟩
 ·have d1:j1=true:=by simp [hd]
  have d3:j3=true:=by simp [hd]
  obtain rfl:=h1.out d1;obtain rfl:=h3.out d3;subst d1 d3;clear hd;refine wpOp_of rfl rfl ?_;go_simp;go_at_call 117;refine(nk w.heap.size w (times_nv _ _ _ ya ya HY HY (NY.below hB) (NY.below hB)) hB (Nat.le_refl _)).mono ?_;rintro e w2 ⟨v',rfl,hn',hB2,hb2⟩;unfold tw1I;exact⟨j0,true,j2,true,true,j5,j6,j7,j8,j9,j10,j11,x0,_,x2,_,_,x5,x6,x7,x8,x9,x10,x11,rfl,rfl,hB2,h0.out,h1.out,h2.out,h3.out,fun _=>hn',h5.out,h6.out,h7.out,h8.out,fun hj=>(h9.out hj).below hb2,fun hj=>(h10.out hj).below hb2,fun hj=>(h11.out hj).below hb2⟩
 ·clear hd;refine wpOp_of rfl rfl ?_;go_simp;unfold tw1I;exact⟨j0,j1,j2,j3,j4,true,j6,j7,j8,j9,j10,j11,x0,x1,x2,x3,x4,_,x6,x7,x8,x9,x10,x11,rfl,rfl,hB,h0.out,h1.out,h2.out,h3.out,h4.out,fun _=>rfl,h6.out,h7.out,h8.out,h9.out,h10.out,h11.out⟩
 ·have d5:j5=true:=by simp [hd]
  obtain rfl:=h5.out d5;subst d5;clear hd;refine wpOp_of rfl rfl ?_;have i2:w'.cell? ⟨gP,2,none⟩=some (.slice az nz cz):=(KP.below hB).cell 2;go_simp;unfold tw1I;exact⟨j0,j1,j2,j3,j4,true,true,j7,j8,j9,j10,j11,x0,x1,x2,x3,x4,_,_,x7,x8,x9,x10,x11,rfl,rfl,hB,h0.out,h1.out,h2.out,h3.out,h4.out,h5.out,fun _=>rfl,h7.out,h8.out,h9.out,h10.out,h11.out⟩
 ·clear hd;refine wpOp_of rfl rfl ?_;go_simp;unfold tw1I;exact⟨j0,j1,j2,j3,j4,j5,j6,true,j8,j9,j10,j11,x0,x1,x2,x3,x4,x5,x6,_,x8,x9,x10,x11,rfl,rfl,hB,h0.out,h1.out,h2.out,h3.out,h4.out,h5.out,h6.out,fun _=>rfl,h8.out,h9.out,h10.out,h11.out⟩
 ·have d7:j7=true:=by simp [hd]
  obtain rfl:=h7.out d7;subst d7;clear hd;refine wpOp_of rfl rfl ?_;have i2:w'.cell? ⟨gP,2,none⟩=some (.slice az nz cz):=(KP.below hB).cell 2;go_simp;unfold tw1I;exact⟨j0,j1,j2,j3,j4,j5,j6,true,true,j9,j10,j11,x0,x1,x2,x3,x4,x5,x6,_,_,x9,x10,x11,rfl,rfl,hB,h0.out,h1.out,h2.out,h3.out,h4.out,h5.out,h6.out,h7.out,fun _=>rfl,h9.out,h10.out,h11.out⟩
 ·have d4:j4=true:=by simp [hd]
  have d6:j6=true:=by simp [hd]
  have d8:j8=true:=by simp [hd]
  obtain rfl:=h6.out d6;obtain rfl:=h8.out d8;subst d4 d6 d8;clear hd;refine wpOp_of rfl rfl ?_;go_simp;go_at_call 117;refine(nk w.heap.size w (times_nv _ _ _ za za HZ HZ (NZ.below hB) (NZ.below hB)) hB (Nat.le_refl _)).mono ?_;rintro e w2 ⟨v',rfl,hn',hB2,hb2⟩;unfold tw1I;exact⟨j0,j1,j2,j3,true,j5,true,j7,true,true,j10,j11,x0,x1,x2,x3,x4,x5,_,x7,_,_,x10,x11,rfl,rfl,hB2,h0.out,h1.out,h2.out,h3.out,fun hj=>(h4.out hj).below hb2,h5.out,h6.out,h7.out,h8.out,fun _=>hn',fun hj=>(h10.out hj).below hb2,fun hj=>(h11.out hj).below hb2⟩
 ·have d0:j0=true:=by simp [hd]
  have d1:j1=true:=by simp [hd]
  have d2:j2=true:=by simp [hd]
  have d3:j3=true:=by simp [hd]
  have d4:j4=true:=by simp [hd]
  have d9:j9=true:=by simp [hd]
  obtain rfl:=h0.out d0;obtain rfl:=h1.out d1;obtain rfl:=h2.out d2;obtain rfl:=h3.out d3;subst d0 d1;subst d2 d3;subst d4 d9;clear hd;refine wpOp_of rfl rfl ?_;go_simp;unfold tw1I;exact⟨true,true,true,true,true,j5,j6,j7,j8,true,true,j11,_,_,_,_,x4,x5,x6,x7,x8,x9,_,x11,rfl,rfl,hB,h0.out,h1.out,h2.out,h3.out,h4.out,h5.out,h6.out,h7.out,h8.out,h9.out,fun _=>h4.out rfl,h11.out⟩
 ·have d0:j0=true:=by simp [hd]
  have d1:j1=true:=by simp [hd]
  have d2:j2=true:=by simp [hd]
  have d3:j3=true:=by simp [hd]
  have d4:j4=true:=by simp [hd]
  have d5:j5=true:=by simp [hd]
  have d6:j6=true:=by simp [hd]
  have d7:j7=true:=by simp [hd]
  have d8:j8=true:=by simp [hd]
  have d9:j9=true:=by simp [hd]
  have d10:j10=true:=by simp [hd]
  obtain rfl:=h0.out d0;obtain rfl:=h1.out d1;obtain rfl:=h2.out d2;obtain rfl:=h3.out d3;obtain rfl:=h5.out d5;obtain rfl:=h6.out d6;obtain rfl:=h7.out d7;obtain rfl:=h8.out d8;subst d0 d1;subst d2 d3;subst d4 d5;subst d6 d7;subst d8 d9 d10;clear hd;refine wpOp_of rfl rfl ?_;go_simp;unfold tw1I;exact⟨true,true,true,true,true,true,true,true,true,true,true,true,_,_,_,_,x4,_,_,_,_,x9,x10,_,rfl,rfl,hB,h0.out,h1.out,h2.out,h3.out,h4.out,h5.out,h6.out,h7.out,h8.out,h9.out,h10.out,fun _=>h9.out rfl⟩
theorem tw1_fin (gP gR ya za:Nat)(nx cx ny cy nz cz:Nat)(ax ay az:Option Addr)(w:World) : ∀l a w1,tw1I w gP gR ya za nx cx ny cy nz cz ax ay az t0 t5 t6 t7 t18 t19 t20 t21 t22 t23 t24 t25 t26 t27 t28 t29 t30 t31 t32 t33 t34 t35 t36 t37 t38 t39 t40 t41 t42 t43 t44 t45 t46 t47 t48 t49 t50 t51 t52 t53 t54 t55 t56 t57 t58 t59 t60 t61 t62 ds l a w1→Region.ready .any tw1O l=[]→tw1F w gP gR ya za nx cx ny cy nz cz ax ay az t0 t5 t6 t7 t18 t19 t20 t21 t22 t23 t24 t25 t26 t27 t28 t29 t30 t31 t32 t33 t34 t35 t36 t37 t38 t39 t40 t41 t42 t43 t44 t45 t46 t47 t48 t49 t50 t51 t52 t53 t54 t55 t56 t57 t58 t59 t60 t61 t62 ds a w1:=by
 simp only [tw1O,findR,Tryz.f127,Option.bind_some,Option.or,Option.getD,Nat.reduceEqDiff,if_true,if_false,reduceIte];rintro l a w1 hI hr;obtain⟨j0,j1,j2,j3,j4,j5,j6,j7,j8,j9,j10,j11,x0,x1,x2,x3,x4,x5,x6,x7,x8,x9,x10,x11,rfl,rfl,hB,h0,h1,h2,h3,h4,h5,h6,h7,h8,h9,h10,h11⟩:=hI;have hn:=fun i=>List.eq_nil_iff_forall_not_mem.1 hr i
 clear hr;cases j0;exact(ab hn 0).elim
 cases j1;exact(ab hn 1).elim
 cases j2;exact(ab hn 2).elim
 cases j3;exact(ab hn 3).elim
 cases j4;exact(ab hn 4).elim
 cases j5;exact(ab hn 5).elim
 cases j6;exact(ab hn 6).elim
 cases j7;exact(ab hn 7).elim
 cases j8;exact(ab hn 8).elim
 cases j9;exact(ab hn 9).elim
 cases j10;exact(ab hn 10).elim
 cases j11;exact(ab hn 11).elim
 exact⟨_,_,_,_,_,_,_,_,_,_,_,_,w1,rfl,hB,rfl,h10 rfl,h11 rfl⟩
theorem tw1 (gP gR ya za:Nat)(nx cx ny cy nz cz:Nat)(ax ay az:Option Addr)(w:World)(KP:Bk 150 w gP #[.slice ax nx cx,.slice ay ny cy,.slice az nz cz])(HY:ya<big)(HZ:za<big)(NY:NV w (.slice ay ny cy) ya)(NZ:NV w (.slice az nz cz) za) {K:Act→World→Prop} 
  (h:∀(y0 y1 y2 y3 y4 y5 y6 y7 y8 y9 y10 y11:Value) (w1:World) (hb:Below w.heap.size w w1) (hn10:NV w1 y10 (mj ya ya)) (hn11:NV w1 y11 (mj za za)),K {tmps:=#[t0,.pointer (some ⟨gP,0,none⟩),.pointer (some ⟨gR,0,none⟩),y10,y11,t5,t6,t7,y0,y1,y2,y3,y4,y5,y6,y7,y8,y9,t18,t19,t20,t21,t22,t23,t24,t25,t26,t27,t28,t29,t30,t31,t32,t33,t34,t35,t36,t37,t38,t39,t40,t41,t42,t43,t44,t45,t46,t47,t48,t49,t50,t51,t52,t53,t54,t55,t56,t57,t58,t59,t60,t61,t62],defers:=ds} w1) :
  (Code.region 1 tw1O true).wp Tryz.prog (Exit.then K Q) {tmps:=#[t0,.pointer (some ⟨gP,0,none⟩),.pointer (some ⟨gR,0,none⟩),t3,t4,t5,t6,t7,t8,t9,t10,t11,t12,t13,t14,t15,t16,t17,t18,t19,t20,t21,t22,t23,t24,t25,t26,t27,t28,t29,t30,t31,t32,t33,t34,t35,t36,t37,t38,t39,t40,t41,t42,t43,t44,t45,t46,t47,t48,t49,t50,t51,t52,t53,t54,t55,t56,t57,t58,t59,t60,t61,t62],defers:=ds} w:=by
 have hsz:tw1O.size=12:=by kernel_rfl
 refine wp_region_any (show Tryz.prog.follows .mixedOrders=true from by kernel_rfl) ?_;rw [hsz];refine wpAny_inv (I:=tw1I w gP gR ya za nx cx ny cy nz cz ax ay az t0 t5 t6 t7 t18 t19 t20 t21 t22 t23 t24 t25 t26 t27 t28 t29 t30 t31 t32 t33 t34 t35 t36 t37 t38 t39 t40 t41 t42 t43 t44 t45 t46 t47 t48 t49 t50 t51 t52 t53 t54 t55 t56 t57 t58 t59 t60 t61 t62 ds) (tw1_steps gP gR ya za nx cx ny cy nz cz ax ay az w KP HY HZ NY NZ) (fun l a w' hI hr=>?_) 12 _ _ _ (by decide) ?_
 ·obtain⟨y0,y1,y2,y3,y4,y5,y6,y7,y8,y9,y10,y11,wm,rfl,hb,rfl,hn10,hn11⟩:=tw1_fin gP gR ya za nx cx ny cy nz cz ax ay az w l a w' hI hr;exact h _ _ _ _ _ _ _ _ _ _ _ _ _ hb hn10 hn11
 ·exact⟨false,false,false,false,false,false,false,false,false,false,false,false,t8,t9,t10,t11,t12,t13,t14,t15,t16,t17,t3,t4,rfl,rfl,⟨rfl,rfl,rfl,Nat.le_refl _,fun _ _=>rfl⟩,(fun h=>by cases h),(fun h=>by cases h),(fun h=>by cases h),(fun h=>by cases h),(fun h=>by cases h),(fun h=>by cases h),(fun h=>by cases h),(fun h=>by cases h),(fun h=>by cases h),(fun h=>by cases h),(fun h=>by cases h),(fun h=>by cases h)⟩
def tw5F (w0:World)(gP gR ya za yy av bw xv n7 c7:Nat)(nx cx ny cy nz cz:Nat)(ax ay az:Option Addr)(a7:Option Addr)(vy va vb:Value)(t0 t4 t8 t9 t10 t11 t12 t13 t14 t15 t16 t17 t18 t19 t20 t21 t22 t23 t24 t25 t26 t27 t28 t29 t30 t31 t32 t33 t34 t35 t36 t37 t38 t39 t40 t41:Value)(ds:List Deferred)(a:Act)(w:World): Prop:=
 ∃y0 y1 y2 y3 y4 y5 y6 y7 y8 y9 y10 y11 y12 y13 y14 y15 y16 y17 y18 y19 y20:Value,∃wm:World,a={tmps:=#[t0,.pointer (some ⟨gP,0,none⟩),.pointer (some ⟨gR,0,none⟩),vy,t4,va,vb,.slice a7 n7 c7,t8,t9,t10,t11,t12,t13,t14,t15,t16,t17,t18,t19,t20,t21,t22,t23,t24,t25,t26,t27,t28,t29,t30,t31,t32,t33,t34,t35,t36,t37,t38,t39,t40,t41,y0,y1,y2,y3,y4,y5,y6,y7,y8,y9,y10,y11,y12,y13,y14,y15,y16,y17,y18,y19,y20],defers:=ds}∧Below w0.heap.size w0 wm∧w=(World.setCell (World.setCell (World.setCell wm ⟨gR,0,none⟩ (.slice a7 n7 c7)) ⟨gR,1,none⟩ (y11)) ⟨gR,2,none⟩ (y19))∧NV wm y11 (sj (mj bw (sj av xv)) (mj 8 (mj yy yy)))∧NV wm y19 (mj (aj ya ya) za)
def tw5I (w0:World)(gP gR ya za yy av bw xv n7 c7:Nat)(nx cx ny cy nz cz:Nat)(ax ay az:Option Addr)(a7:Option Addr)(vy va vb:Value)(t0 t4 t8 t9 t10 t11 t12 t13 t14 t15 t16 t17 t18 t19 t20 t21 t22 t23 t24 t25 t26 t27 t28 t29 t30 t31 t32 t33 t34 t35 t36 t37 t38 t39 t40 t41:Value)(ds:List Deferred)(l:Array Bool)(a:Act)(w:World): Prop:=
 (l=#[true,true,true,true,true,true,true,true,true,true,true,true,true,true,true,true,true,true,true,true,true,true]∧tw5F w0 gP gR ya za yy av bw xv n7 c7 nx cx ny cy nz cz ax ay az a7 vy va vb t0 t4 t8 t9 t10 t11 t12 t13 t14 t15 t16 t17 t18 t19 t20 t21 t22 t23 t24 t25 t26 t27 t28 t29 t30 t31 t32 t33 t34 t35 t36 t37 t38 t39 t40 t41 ds a w)∨(∃j0 j1 j2 j3 j4 j5 j6 j7 j8 j9 j10 j11 j12 j13 j14 j15 j16 j17 j18 j19 j20:Bool,∃x0 x1 x2 x3 x4 x5 x6 x7 x8 x9 x10 x11 x12 x13 x14 x15 x16 x17 x18 x19 x20:Value,l=#[j0,j1,j2,j3,j4,j5,j6,j7,j8,j9,j10,j11,j12,j13,j14,j15,j16,j17,j18,j19,j20,false]∧a={tmps:=#[t0,.pointer (some ⟨gP,0,none⟩),.pointer (some ⟨gR,0,none⟩),vy,t4,va,vb,.slice a7 n7 c7,t8,t9,t10,t11,t12,t13,t14,t15,t16,t17,t18,t19,t20,t21,t22,t23,t24,t25,t26,t27,t28,t29,t30,t31,t32,t33,t34,t35,t36,t37,t38,t39,t40,t41,x0,x1,x2,x3,x4,x5,x6,x7,x8,x9,x10,x11,x12,x13,x14,x15,x16,x17,x18,x19,x20],defers:=ds}∧Below w0.heap.size w0 w∧
 (j0=true→x0 = .slice a7 n7 c7)∧(j1=true→x1=vb)∧(j2=true→x2=va)∧(j3=true→x3 = .slice a7 n7 c7)∧(j4=true→NV w x4 (sj av xv))∧(j5=true→NV w x5 (mj bw (sj av xv)))∧(j6=true→NV w x6 (8))∧(j7=true→x7=vy)∧(j8=true→x8=vy)∧(j9=true→NV w x9 (mj yy yy))∧(j10=true→NV w x10 (mj 8 (mj yy yy)))∧(j11=true→NV w x11 (sj (mj bw (sj av xv)) (mj 8 (mj yy yy))))∧(j12=true→x12 = .pointer (some ⟨gP,1,none⟩))∧(j13=true→x13 = .slice ay ny cy)∧(j14=true→x14 = .pointer (some ⟨gP,1,none⟩))∧(j15=true→x15 = .slice ay ny cy)∧(j16=true→NV w x16 (aj ya ya))∧(j17=true→x17 = .pointer (some ⟨gP,2,none⟩))∧(j18=true→x18 = .slice az nz cz)∧(j19=true→NV w x19 (mj (aj ya ya) za))∧(j20=true→x20 = .agg #[.slice a7 n7 c7,x11,x19]∧j11=true∧j19=true))
noncomputable def tw5O:Array Oper:=(Tryz.f127.body.bind fun c=>findR c 5).getD #[]
theorem tw5_steps (gP gR ya za yy av bw xv n7 c7:Nat)(nx cx ny cy nz cz:Nat)(ax ay az:Option Addr)(a7:Option Addr)(vy va vb:Value)(w:World)(KP:Bk 150 w gP #[.slice ax nx cx,.slice ay ny cy,.slice az nz cz])(KR:Bk 150 w gR #[.slice none 0 0,.slice none 0 0,.slice none 0 0])(HY:ya<big)(HZ:za<big)(NY:NV w (.slice ay ny cy) ya)(NZ:NV w (.slice az nz cz) za)(HYY:yy<big)(HA:av<big)(HBW:bw<big)(HX:xv<big)(NYY:NV w vy yy)(NA:NV w va av)(NB:NV w vb bw)(N7:NV w (.slice a7 n7 c7) xv)
  :
  ∀l a w',tw5I w gP gR ya za yy av bw xv n7 c7 nx cx ny cy nz cz ax ay az a7 vy va vb t0 t4 t8 t9 t10 t11 t12 t13 t14 t15 t16 t17 t18 t19 t20 t21 t22 t23 t24 t25 t26 t27 t28 t29 t30 t31 t32 t33 t34 t35 t36 t37 t38 t39 t40 t41 ds l a w'→∀i∈Region.ready .any tw5O l,wpOp Tryz.prog tw5O Q i (fun a' w''=>tw5I w gP gR ya za yy av bw xv n7 c7 nx cx ny cy nz cz ax ay az a7 vy va vb t0 t4 t8 t9 t10 t11 t12 t13 t14 t15 t16 t17 t18 t19 t20 t21 t22 t23 t24 t25 t26 t27 t28 t29 t30 t31 t32 t33 t34 t35 t36 t37 t38 t39 t40 t41 ds (l.setIfInBounds i true) a' w'') a w':=by
 simp only [tw5O,findR,Tryz.f127,Option.bind_some,Option.or,Option.getD,Nat.reduceEqDiff,if_true,if_false,reduceIte];rintro l a w' hI i hi;rw [mem_ready] at hi;obtain⟨hu,oo,ho,hd⟩:=hi;have hin:i<22:=by
  have:=(Array.getElem?_eq_some_iff.1 ho).1
  simpa using this
 have hcase:i=0∨i=1∨i=2∨i=3∨i=4∨i=5∨i=6∨i=7∨i=8∨i=9∨i=10∨i=11∨i=12∨i=13∨i=14∨i=15∨i=16∨i=17∨i=18∨i=19∨i=20∨i=21:=by omega
 rcases hI with ⟨rfl,hF⟩ | hI
 ·exfalso
  rcases hcase with rfl | rfl | rfl | rfl | rfl | rfl | rfl | rfl | rfl | rfl | rfl | rfl | rfl | rfl | rfl | rfl | rfl | rfl | rfl | rfl | rfl | rfl<;>simp at hu
 obtain⟨j0,j1,j2,j3,j4,j5,j6,j7,j8,j9,j10,j11,j12,j13,j14,j15,j16,j17,j18,j19,j20,x0,x1,x2,x3,x4,x5,x6,x7,x8,x9,x10,x11,x12,x13,x14,x15,x16,x17,x18,x19,x20,rfl,rfl,hB,h0,h1,h2,h3,h4,h5,h6,h7,h8,h9,h10,h11,h12,h13,h14,h15,h16,h17,h18,h19,h20⟩:=hI;replace h0:=Φ h0;replace h1:=Φ h1;replace h2:=Φ h2;replace h3:=Φ h3;replace h4:=Φ h4;replace h5:=Φ h5;replace h6:=Φ h6;replace h7:=Φ h7;replace h8:=Φ h8;replace h9:=Φ h9;replace h10:=Φ h10;replace h11:=Φ h11;replace h12:=Φ h12;replace h13:=Φ h13;replace h14:=Φ h14;replace h15:=Φ h15;replace h16:=Φ h16;replace h17:=Φ h17;replace h18:=Φ h18;replace h19:=Φ h19;replace h20:=Φ h20;rcases hcase with rfl | rfl | rfl | rfl | rfl | rfl | rfl | rfl | rfl | rfl | rfl | rfl | rfl | rfl | rfl | rfl | rfl | rfl | rfl | rfl | rfl | rfl
 all_goals obtain rfl:=Option.some.inj ho
 all_goals simp [Region.binds] at hu hd
 ·clear hd;refine wpOp_of rfl rfl ?_;go_simp;unfold tw5I;exact .inr ⟨true,j1,j2,j3,j4,j5,j6,j7,j8,j9,j10,j11,j12,j13,j14,j15,j16,j17,j18,j19,j20,_,x1,x2,x3,x4,x5,x6,x7,x8,x9,x10,x11,x12,x13,x14,x15,x16,x17,x18,x19,x20,rfl,rfl,hB,fun _=>rfl,h1.out,h2.out,h3.out,h4.out,h5.out,h6.out,h7.out,h8.out,h9.out,h10.out,h11.out,h12.out,h13.out,h14.out,h15.out,h16.out,h17.out,h18.out,h19.out,h20.out⟩
 ·clear hd;refine wpOp_of rfl rfl ?_;go_simp;unfold tw5I;exact .inr ⟨j0,true,j2,j3,j4,j5,j6,j7,j8,j9,j10,j11,j12,j13,j14,j15,j16,j17,j18,j19,j20,x0,_,x2,x3,x4,x5,x6,x7,x8,x9,x10,x11,x12,x13,x14,x15,x16,x17,x18,x19,x20,rfl,rfl,hB,h0.out,fun _=>rfl,h2.out,h3.out,h4.out,h5.out,h6.out,h7.out,h8.out,h9.out,h10.out,h11.out,h12.out,h13.out,h14.out,h15.out,h16.out,h17.out,h18.out,h19.out,h20.out⟩
 ·clear hd;refine wpOp_of rfl rfl ?_;go_simp;unfold tw5I;exact .inr ⟨j0,j1,true,j3,j4,j5,j6,j7,j8,j9,j10,j11,j12,j13,j14,j15,j16,j17,j18,j19,j20,x0,x1,_,x3,x4,x5,x6,x7,x8,x9,x10,x11,x12,x13,x14,x15,x16,x17,x18,x19,x20,rfl,rfl,hB,h0.out,h1.out,fun _=>rfl,h3.out,h4.out,h5.out,h6.out,h7.out,h8.out,h9.out,h10.out,h11.out,h12.out,h13.out,h14.out,h15.out,h16.out,h17.out,h18.out,h19.out,h20.out⟩
 ·clear hd;refine wpOp_of rfl rfl ?_;go_simp;unfold tw5I;exact .inr ⟨j0,j1,j2,true,j4,j5,j6,j7,j8,j9,j10,j11,j12,j13,j14,j15,j16,j17,j18,j19,j20,x0,x1,x2,_,x4,x5,x6,x7,x8,x9,x10,x11,x12,x13,x14,x15,x16,x17,x18,x19,x20,rfl,rfl,hB,h0.out,h1.out,h2.out,fun _=>rfl,h4.out,h5.out,h6.out,h7.out,h8.out,h9.out,h10.out,h11.out,h12.out,h13.out,h14.out,h15.out,h16.out,h17.out,h18.out,h19.out,h20.out⟩
 ·have d2:j2=true:=by simp [hd]
  have d3:j3=true:=by simp [hd]
  obtain rfl:=h2.out d2;obtain rfl:=h3.out d3;subst d2 d3;clear hd;refine wpOp_of rfl rfl ?_;go_simp;go_at_call 116;refine(nk w.heap.size w (minus_nv' _ _ _ av xv HA HX (NA.below hB) (N7.below hB)) hB (Nat.le_refl _)).mono ?_;rintro e w2 ⟨v',rfl,hn',hB2,hb2⟩;unfold tw5I;exact .inr ⟨j0,j1,true,true,true,j5,j6,j7,j8,j9,j10,j11,j12,j13,j14,j15,j16,j17,j18,j19,j20,x0,x1,_,_,_,x5,x6,x7,x8,x9,x10,x11,x12,x13,x14,x15,x16,x17,x18,x19,x20,rfl,rfl,hB2,h0.out,h1.out,h2.out,h3.out,fun _=>hn',fun hj=>(h5.out hj).below hb2,fun hj=>(h6.out hj).below hb2,h7.out,h8.out,fun hj=>(h9.out hj).below hb2,fun hj=>(h10.out hj).below hb2,fun hj=>(h11.out hj).below hb2,h12.out,h13.out,h14.out,h15.out,fun hj=>(h16.out hj).below hb2,h17.out,h18.out,fun hj=>(h19.out hj).below hb2,h20.out⟩
 ·have d1:j1=true:=by simp [hd]
  have d4:j4=true:=by simp [hd]
  obtain rfl:=h1.out d1;subst d1 d4;clear hd;refine wpOp_of rfl rfl ?_;go_simp;go_at_call 117;refine(nk w.heap.size w (times_nv _ _ _ bw (sj av xv) HBW (sj_b _ _) (NB.below hB) (h4.out rfl)) hB (Nat.le_refl _)).mono ?_;rintro e w2 ⟨v',rfl,hn',hB2,hb2⟩;unfold tw5I;exact .inr ⟨j0,true,j2,j3,true,true,j6,j7,j8,j9,j10,j11,j12,j13,j14,j15,j16,j17,j18,j19,j20,x0,_,x2,x3,x4,_,x6,x7,x8,x9,x10,x11,x12,x13,x14,x15,x16,x17,x18,x19,x20,rfl,rfl,hB2,h0.out,h1.out,h2.out,h3.out,fun hj=>(h4.out hj).below hb2,fun _=>hn',fun hj=>(h6.out hj).below hb2,h7.out,h8.out,fun hj=>(h9.out hj).below hb2,fun hj=>(h10.out hj).below hb2,fun hj=>(h11.out hj).below hb2,h12.out,h13.out,h14.out,h15.out,fun hj=>(h16.out hj).below hb2,h17.out,h18.out,fun hj=>(h19.out hj).below hb2,h20.out⟩
 ·clear hd;refine wpOp_of rfl rfl ?_;have hb2:=al_below w' (.cells #[.int .u32 8] 111);have hn2:NV _ _ (8):=(⟨[8],us_dr (l:=[8]) (Go.heap_alloc_new w' _) (by decide),by unfold Dig;decide,by unfold Trim;decide,rfl⟩);have hB2:=hB.trans (hb2.mono hB.size);go_simp;unfold tw5I;exact .inr ⟨j0,j1,j2,j3,j4,j5,true,j7,j8,j9,j10,j11,j12,j13,j14,j15,j16,j17,j18,j19,j20,x0,x1,x2,x3,x4,x5,_,x7,x8,x9,x10,x11,x12,x13,x14,x15,x16,x17,x18,x19,x20,rfl,rfl,hB2,h0.out,h1.out,h2.out,h3.out,fun hj=>(h4.out hj).below hb2,fun hj=>(h5.out hj).below hb2,fun _=>hn2,h7.out,h8.out,fun hj=>(h9.out hj).below hb2,fun hj=>(h10.out hj).below hb2,fun hj=>(h11.out hj).below hb2,h12.out,h13.out,h14.out,h15.out,fun hj=>(h16.out hj).below hb2,h17.out,h18.out,fun hj=>(h19.out hj).below hb2,h20.out⟩
 ·clear hd;refine wpOp_of rfl rfl ?_;go_simp;unfold tw5I;exact .inr ⟨j0,j1,j2,j3,j4,j5,j6,true,j8,j9,j10,j11,j12,j13,j14,j15,j16,j17,j18,j19,j20,x0,x1,x2,x3,x4,x5,x6,_,x8,x9,x10,x11,x12,x13,x14,x15,x16,x17,x18,x19,x20,rfl,rfl,hB,h0.out,h1.out,h2.out,h3.out,h4.out,h5.out,h6.out,fun _=>rfl,h8.out,h9.out,h10.out,h11.out,h12.out,h13.out,h14.out,h15.out,h16.out,h17.out,h18.out,h19.out,h20.out⟩
 ·clear hd;refine wpOp_of rfl rfl ?_;go_simp;unfold tw5I;exact .inr ⟨j0,j1,j2,j3,j4,j5,j6,j7,true,j9,j10,j11,j12,j13,j14,j15,j16,j17,j18,j19,j20,x0,x1,x2,x3,x4,x5,x6,x7,_,x9,x10,x11,x12,x13,x14,x15,x16,x17,x18,x19,x20,rfl,rfl,hB,h0.out,h1.out,h2.out,h3.out,h4.out,h5.out,h6.out,h7.out,fun _=>rfl,h9.out,h10.out,h11.out,h12.out,h13.out,h14.out,h15.out,h16.out,h17.out,h18.out,h19.out,h20.out⟩
 ·have d5:j5=true:=by simp [hd]
  have d7:j7=true:=by simp [hd]
  have d8:j8=true:=by simp [hd]
  obtain rfl:=h7.out d7;obtain rfl:=h8.out d8;subst d5 d7 d8;clear hd;refine wpOp_of rfl rfl ?_;go_simp;go_at_call 117;refine(nk w.heap.size w (times_nv _ _ _ yy yy HYY HYY (NYY.below hB) (NYY.below hB)) hB (Nat.le_refl _)).mono ?_;rintro e w2 ⟨v',rfl,hn',hB2,hb2⟩;unfold tw5I;exact .inr ⟨j0,j1,j2,j3,j4,true,j6,true,true,true,j10,j11,j12,j13,j14,j15,j16,j17,j18,j19,j20,x0,x1,x2,x3,x4,x5,x6,_,_,_,x10,x11,x12,x13,x14,x15,x16,x17,x18,x19,x20,rfl,rfl,hB2,h0.out,h1.out,h2.out,h3.out,fun hj=>(h4.out hj).below hb2,fun hj=>(h5.out hj).below hb2,fun hj=>(h6.out hj).below hb2,h7.out,h8.out,fun _=>hn',fun hj=>(h10.out hj).below hb2,fun hj=>(h11.out hj).below hb2,h12.out,h13.out,h14.out,h15.out,fun hj=>(h16.out hj).below hb2,h17.out,h18.out,fun hj=>(h19.out hj).below hb2,h20.out⟩
 ·have d6:j6=true:=by simp [hd]
  have d9:j9=true:=by simp [hd]
  subst d6 d9;clear hd;refine wpOp_of rfl rfl ?_;go_simp;go_at_call 117;refine(nk w.heap.size w (times_nv _ _ _ 8 (mj yy yy) (by decide +kernel) (mj_b _ _) (h6.out rfl) (h9.out rfl)) hB (Nat.le_refl _)).mono ?_;rintro e w2 ⟨v',rfl,hn',hB2,hb2⟩;unfold tw5I;exact .inr ⟨j0,j1,j2,j3,j4,j5,true,j7,j8,true,true,j11,j12,j13,j14,j15,j16,j17,j18,j19,j20,x0,x1,x2,x3,x4,x5,x6,x7,x8,x9,_,x11,x12,x13,x14,x15,x16,x17,x18,x19,x20,rfl,rfl,hB2,h0.out,h1.out,h2.out,h3.out,fun hj=>(h4.out hj).below hb2,fun hj=>(h5.out hj).below hb2,fun hj=>(h6.out hj).below hb2,h7.out,h8.out,fun hj=>(h9.out hj).below hb2,fun _=>hn',fun hj=>(h11.out hj).below hb2,h12.out,h13.out,h14.out,h15.out,fun hj=>(h16.out hj).below hb2,h17.out,h18.out,fun hj=>(h19.out hj).below hb2,h20.out⟩
 ·have d5:j5=true:=by simp [hd]
  have d10:j10=true:=by simp [hd]
  subst d5 d10;clear hd;refine wpOp_of rfl rfl ?_;go_simp;go_at_call 116;refine(nk w.heap.size w (minus_nv' _ _ _ (mj bw (sj av xv)) (mj 8 (mj yy yy)) (mj_b _ _) (mj_b _ _) (h5.out rfl) (h10.out rfl)) hB (Nat.le_refl _)).mono ?_;rintro e w2 ⟨v',rfl,hn',hB2,hb2⟩;unfold tw5I;exact .inr ⟨j0,j1,j2,j3,j4,true,j6,j7,j8,j9,true,true,j12,j13,j14,j15,j16,j17,j18,j19,j20,x0,x1,x2,x3,x4,x5,x6,x7,x8,x9,x10,_,x12,x13,x14,x15,x16,x17,x18,x19,x20,rfl,rfl,hB2,h0.out,h1.out,h2.out,h3.out,fun hj=>(h4.out hj).below hb2,fun hj=>(h5.out hj).below hb2,fun hj=>(h6.out hj).below hb2,h7.out,h8.out,fun hj=>(h9.out hj).below hb2,fun hj=>(h10.out hj).below hb2,fun _=>hn',h12.out,h13.out,h14.out,h15.out,fun hj=>(h16.out hj).below hb2,h17.out,h18.out,fun hj=>(h19.out hj).below hb2,fun hj=>absurd (h20.out hj).2.1 (by simp [hu])⟩
 ·clear hd;refine wpOp_of rfl rfl ?_;go_simp;unfold tw5I;exact .inr ⟨j0,j1,j2,j3,j4,j5,j6,j7,j8,j9,j10,j11,true,j13,j14,j15,j16,j17,j18,j19,j20,x0,x1,x2,x3,x4,x5,x6,x7,x8,x9,x10,x11,_,x13,x14,x15,x16,x17,x18,x19,x20,rfl,rfl,hB,h0.out,h1.out,h2.out,h3.out,h4.out,h5.out,h6.out,h7.out,h8.out,h9.out,h10.out,h11.out,fun _=>rfl,h13.out,h14.out,h15.out,h16.out,h17.out,h18.out,h19.out,h20.out⟩
 ·have d12:j12=true:=by simp [hd]
  obtain rfl:=h12.out d12;subst d12;clear hd;refine wpOp_of rfl rfl ?_;have i1:w'.cell? ⟨gP,1,none⟩=some (.slice ay ny cy):=(KP.below hB).cell 1;go_simp;unfold tw5I;exact .inr ⟨j0,j1,j2,j3,j4,j5,j6,j7,j8,j9,j10,j11,true,true,j14,j15,j16,j17,j18,j19,j20,x0,x1,x2,x3,x4,x5,x6,x7,x8,x9,x10,x11,_,_,x14,x15,x16,x17,x18,x19,x20,rfl,rfl,hB,h0.out,h1.out,h2.out,h3.out,h4.out,h5.out,h6.out,h7.out,h8.out,h9.out,h10.out,h11.out,h12.out,fun _=>rfl,h14.out,h15.out,h16.out,h17.out,h18.out,h19.out,h20.out⟩
 ·clear hd;refine wpOp_of rfl rfl ?_;go_simp;unfold tw5I;exact .inr ⟨j0,j1,j2,j3,j4,j5,j6,j7,j8,j9,j10,j11,j12,j13,true,j15,j16,j17,j18,j19,j20,x0,x1,x2,x3,x4,x5,x6,x7,x8,x9,x10,x11,x12,x13,_,x15,x16,x17,x18,x19,x20,rfl,rfl,hB,h0.out,h1.out,h2.out,h3.out,h4.out,h5.out,h6.out,h7.out,h8.out,h9.out,h10.out,h11.out,h12.out,h13.out,fun _=>rfl,h15.out,h16.out,h17.out,h18.out,h19.out,h20.out⟩
 ·have d14:j14=true:=by simp [hd]
  obtain rfl:=h14.out d14;subst d14;clear hd;refine wpOp_of rfl rfl ?_;have i1:w'.cell? ⟨gP,1,none⟩=some (.slice ay ny cy):=(KP.below hB).cell 1;go_simp;unfold tw5I;exact .inr ⟨j0,j1,j2,j3,j4,j5,j6,j7,j8,j9,j10,j11,j12,j13,true,true,j16,j17,j18,j19,j20,x0,x1,x2,x3,x4,x5,x6,x7,x8,x9,x10,x11,x12,x13,_,_,x16,x17,x18,x19,x20,rfl,rfl,hB,h0.out,h1.out,h2.out,h3.out,h4.out,h5.out,h6.out,h7.out,h8.out,h9.out,h10.out,h11.out,h12.out,h13.out,h14.out,fun _=>rfl,h16.out,h17.out,h18.out,h19.out,h20.out⟩
 ·have d11:j11=true:=by simp [hd]
  have d13:j13=true:=by simp [hd]
  have d15:j15=true:=by simp [hd]
  obtain rfl:=h13.out d13;obtain rfl:=h15.out d15;subst d11 d13 d15;clear hd;refine wpOp_of rfl rfl ?_;go_simp;go_at_call 115;refine(nk w.heap.size w (plus_nv' _ _ _ ya ya HY HY (NY.below hB) (NY.below hB)) hB (Nat.le_refl _)).mono ?_;rintro e w2 ⟨v',rfl,hn',hB2,hb2⟩;unfold tw5I;exact .inr ⟨j0,j1,j2,j3,j4,j5,j6,j7,j8,j9,j10,true,j12,true,j14,true,true,j17,j18,j19,j20,x0,x1,x2,x3,x4,x5,x6,x7,x8,x9,x10,x11,x12,_,x14,_,_,x17,x18,x19,x20,rfl,rfl,hB2,h0.out,h1.out,h2.out,h3.out,fun hj=>(h4.out hj).below hb2,fun hj=>(h5.out hj).below hb2,fun hj=>(h6.out hj).below hb2,h7.out,h8.out,fun hj=>(h9.out hj).below hb2,fun hj=>(h10.out hj).below hb2,fun hj=>(h11.out hj).below hb2,h12.out,h13.out,h14.out,h15.out,fun _=>hn',h17.out,h18.out,fun hj=>(h19.out hj).below hb2,h20.out⟩
 ·clear hd;refine wpOp_of rfl rfl ?_;go_simp;unfold tw5I;exact .inr ⟨j0,j1,j2,j3,j4,j5,j6,j7,j8,j9,j10,j11,j12,j13,j14,j15,j16,true,j18,j19,j20,x0,x1,x2,x3,x4,x5,x6,x7,x8,x9,x10,x11,x12,x13,x14,x15,x16,_,x18,x19,x20,rfl,rfl,hB,h0.out,h1.out,h2.out,h3.out,h4.out,h5.out,h6.out,h7.out,h8.out,h9.out,h10.out,h11.out,h12.out,h13.out,h14.out,h15.out,h16.out,fun _=>rfl,h18.out,h19.out,h20.out⟩
 ·have d17:j17=true:=by simp [hd]
  obtain rfl:=h17.out d17;subst d17;clear hd;refine wpOp_of rfl rfl ?_;have i2:w'.cell? ⟨gP,2,none⟩=some (.slice az nz cz):=(KP.below hB).cell 2;go_simp;unfold tw5I;exact .inr ⟨j0,j1,j2,j3,j4,j5,j6,j7,j8,j9,j10,j11,j12,j13,j14,j15,j16,true,true,j19,j20,x0,x1,x2,x3,x4,x5,x6,x7,x8,x9,x10,x11,x12,x13,x14,x15,x16,_,_,x19,x20,rfl,rfl,hB,h0.out,h1.out,h2.out,h3.out,h4.out,h5.out,h6.out,h7.out,h8.out,h9.out,h10.out,h11.out,h12.out,h13.out,h14.out,h15.out,h16.out,h17.out,fun _=>rfl,h19.out,h20.out⟩
 ·have d16:j16=true:=by simp [hd]
  have d18:j18=true:=by simp [hd]
  obtain rfl:=h18.out d18;subst d16 d18;clear hd;refine wpOp_of rfl rfl ?_;go_simp;go_at_call 117;refine(nk w.heap.size w (times_nv _ _ _ (aj ya ya) za (aj_b _ _) HZ (h16.out rfl) (NZ.below hB)) hB (Nat.le_refl _)).mono ?_;rintro e w2 ⟨v',rfl,hn',hB2,hb2⟩;unfold tw5I;exact .inr ⟨j0,j1,j2,j3,j4,j5,j6,j7,j8,j9,j10,j11,j12,j13,j14,j15,true,j17,true,true,j20,x0,x1,x2,x3,x4,x5,x6,x7,x8,x9,x10,x11,x12,x13,x14,x15,x16,x17,_,_,x20,rfl,rfl,hB2,h0.out,h1.out,h2.out,h3.out,fun hj=>(h4.out hj).below hb2,fun hj=>(h5.out hj).below hb2,fun hj=>(h6.out hj).below hb2,h7.out,h8.out,fun hj=>(h9.out hj).below hb2,fun hj=>(h10.out hj).below hb2,fun hj=>(h11.out hj).below hb2,h12.out,h13.out,h14.out,h15.out,fun hj=>(h16.out hj).below hb2,h17.out,h18.out,fun _=>hn',fun hj=>absurd (h20.out hj).2.2 (by simp [hu])⟩
 ·have d0:j0=true:=by simp [hd]
  have d11:j11=true:=by simp [hd]
  have d19:j19=true:=by simp [hd]
  obtain rfl:=h0.out d0;subst d0 d11 d19;clear hd;refine wpOp_of rfl rfl ?_;obtain⟨sa11,sn11,sc11,es11⟩:=(h11.out rfl).shape;subst es11;obtain⟨sa19,sn19,sc19,es19⟩:=(h19.out rfl).shape;subst es19;go_simp;unfold tw5I;exact .inr ⟨true,j1,j2,j3,j4,j5,j6,j7,j8,j9,j10,true,j12,j13,j14,j15,j16,j17,j18,true,true,_,x1,x2,x3,x4,x5,x6,x7,x8,x9,x10,_,x12,x13,x14,x15,x16,x17,x18,_,_,rfl,rfl,hB,h0.out,h1.out,h2.out,h3.out,h4.out,h5.out,h6.out,h7.out,h8.out,h9.out,h10.out,h11.out,h12.out,h13.out,h14.out,h15.out,h16.out,h17.out,h18.out,h19.out,fun _=>⟨rfl,rfl,rfl⟩⟩
 ·have d0:j0=true:=by simp [hd]
  have d1:j1=true:=by simp [hd]
  have d2:j2=true:=by simp [hd]
  have d3:j3=true:=by simp [hd]
  have d4:j4=true:=by simp [hd]
  have d5:j5=true:=by simp [hd]
  have d6:j6=true:=by simp [hd]
  have d7:j7=true:=by simp [hd]
  have d8:j8=true:=by simp [hd]
  have d9:j9=true:=by simp [hd]
  have d10:j10=true:=by simp [hd]
  have d11:j11=true:=by simp [hd]
  have d12:j12=true:=by simp [hd]
  have d13:j13=true:=by simp [hd]
  have d14:j14=true:=by simp [hd]
  have d15:j15=true:=by simp [hd]
  have d16:j16=true:=by simp [hd]
  have d17:j17=true:=by simp [hd]
  have d18:j18=true:=by simp [hd]
  have d19:j19=true:=by simp [hd]
  have d20:j20=true:=by simp [hd]
  obtain rfl:=h0.out d0;obtain rfl:=h1.out d1;obtain rfl:=h2.out d2;obtain rfl:=h3.out d3;obtain rfl:=h7.out d7;obtain rfl:=h8.out d8;obtain rfl:=h12.out d12;obtain rfl:=h13.out d13;obtain rfl:=h14.out d14;obtain rfl:=h15.out d15;obtain rfl:=h17.out d17;obtain rfl:=h18.out d18;have e20:=(h20.out d20).1;subst e20;subst d0 d1;subst d2 d3;subst d4 d5;subst d6 d7;subst d8 d9;subst d10 d11;subst d12 d13;subst d14 d15;subst d16 d17;subst d18 d19 d20;clear hd;refine wpOp_of rfl rfl ?_;obtain⟨sa11,sn11,sc11,es11⟩:=(h11.out rfl).shape;subst es11;obtain⟨sa19,sn19,sc19,es19⟩:=(h19.out rfl).shape;subst es19;have c0:=(KR.below hB).cell 0;have f0:=(KR.below hB).fro 0;have c1:=(KR.below hB).cell 1;have f1:=(KR.below hB).fro 1;have c2:=(KR.below hB).cell 2;have f2:=(KR.below hB).fro 2;go_simp;unfold tw5I tw5F;exact .inl ⟨rfl,_,_,_,_,x4,x5,x6,_,_,x9,x10,_,_,_,_,_,x16,_,_,_,_,_,rfl,hB,rfl,h11.out rfl,h19.out rfl⟩
theorem tw5_fin (gP gR ya za yy av bw xv n7 c7:Nat)(nx cx ny cy nz cz:Nat)(ax ay az:Option Addr)(a7:Option Addr)(vy va vb:Value)(w:World) : ∀l a w1,tw5I w gP gR ya za yy av bw xv n7 c7 nx cx ny cy nz cz ax ay az a7 vy va vb t0 t4 t8 t9 t10 t11 t12 t13 t14 t15 t16 t17 t18 t19 t20 t21 t22 t23 t24 t25 t26 t27 t28 t29 t30 t31 t32 t33 t34 t35 t36 t37 t38 t39 t40 t41 ds l a w1→Region.ready .any tw5O l=[]→tw5F w gP gR ya za yy av bw xv n7 c7 nx cx ny cy nz cz ax ay az a7 vy va vb t0 t4 t8 t9 t10 t11 t12 t13 t14 t15 t16 t17 t18 t19 t20 t21 t22 t23 t24 t25 t26 t27 t28 t29 t30 t31 t32 t33 t34 t35 t36 t37 t38 t39 t40 t41 ds a w1:=by
 simp only [tw5O,findR,Tryz.f127,Option.bind_some,Option.or,Option.getD,Nat.reduceEqDiff,if_true,if_false,reduceIte];rintro l a w1 hI hr;rcases hI with ⟨rfl,hF⟩ | hI
 ·exact hF
 obtain⟨j0,j1,j2,j3,j4,j5,j6,j7,j8,j9,j10,j11,j12,j13,j14,j15,j16,j17,j18,j19,j20,x0,x1,x2,x3,x4,x5,x6,x7,x8,x9,x10,x11,x12,x13,x14,x15,x16,x17,x18,x19,x20,rfl,rfl,hB,h0,h1,h2,h3,h4,h5,h6,h7,h8,h9,h10,h11,h12,h13,h14,h15,h16,h17,h18,h19,h20⟩:=hI;have hn:=fun i=>List.eq_nil_iff_forall_not_mem.1 hr i
 clear hr;cases j0;exact(ab hn 0).elim
 cases j1;exact(ab hn 1).elim
 cases j2;exact(ab hn 2).elim
 cases j3;exact(ab hn 3).elim
 cases j4;exact(ab hn 4).elim
 cases j5;exact(ab hn 5).elim
 cases j6;exact(ab hn 6).elim
 cases j7;exact(ab hn 7).elim
 cases j8;exact(ab hn 8).elim
 cases j9;exact(ab hn 9).elim
 cases j10;exact(ab hn 10).elim
 cases j11;exact(ab hn 11).elim
 cases j12;exact(ab hn 12).elim
 cases j13;exact(ab hn 13).elim
 cases j14;exact(ab hn 14).elim
 cases j15;exact(ab hn 15).elim
 cases j16;exact(ab hn 16).elim
 cases j17;exact(ab hn 17).elim
 cases j18;exact(ab hn 18).elim
 cases j19;exact(ab hn 19).elim
 cases j20;exact(ab hn 20).elim
 exact absurd (mem_ready.2 ⟨rfl,_,rfl,by simp [Region.binds]⟩) (hn 21)
theorem tw5 (gP gR ya za yy av bw xv n7 c7:Nat)(nx cx ny cy nz cz:Nat)(ax ay az:Option Addr)(a7:Option Addr)(vy va vb:Value)(w:World)(KP:Bk 150 w gP #[.slice ax nx cx,.slice ay ny cy,.slice az nz cz])(KR:Bk 150 w gR #[.slice none 0 0,.slice none 0 0,.slice none 0 0])(HY:ya<big)(HZ:za<big)(NY:NV w (.slice ay ny cy) ya)(NZ:NV w (.slice az nz cz) za)(HYY:yy<big)(HA:av<big)(HBW:bw<big)(HX:xv<big)(NYY:NV w vy yy)(NA:NV w va av)(NB:NV w vb bw)(N7:NV w (.slice a7 n7 c7) xv) {K:Act→World→Prop} 
  (h:∀(y0 y1 y2 y3 y4 y5 y6 y7 y8 y9 y10 y11 y12 y13 y14 y15 y16 y17 y18 y19 y20:Value) (w1:World) (hb:Below w.heap.size w w1) (hn11:NV w1 y11 (sj (mj bw (sj av xv)) (mj 8 (mj yy yy)))) (hn19:NV w1 y19 (mj (aj ya ya) za)),K {tmps:=#[t0,.pointer (some ⟨gP,0,none⟩),.pointer (some ⟨gR,0,none⟩),vy,t4,va,vb,.slice a7 n7 c7,t8,t9,t10,t11,t12,t13,t14,t15,t16,t17,t18,t19,t20,t21,t22,t23,t24,t25,t26,t27,t28,t29,t30,t31,t32,t33,t34,t35,t36,t37,t38,t39,t40,t41,y0,y1,y2,y3,y4,y5,y6,y7,y8,y9,y10,y11,y12,y13,y14,y15,y16,y17,y18,y19,y20],defers:=ds} (World.setCell (World.setCell (World.setCell w1 ⟨gR,0,none⟩ (.slice a7 n7 c7)) ⟨gR,1,none⟩ (y11)) ⟨gR,2,none⟩ (y19))) :
  (Code.region 5 tw5O true).wp Tryz.prog (Exit.then K Q) {tmps:=#[t0,.pointer (some ⟨gP,0,none⟩),.pointer (some ⟨gR,0,none⟩),vy,t4,va,vb,.slice a7 n7 c7,t8,t9,t10,t11,t12,t13,t14,t15,t16,t17,t18,t19,t20,t21,t22,t23,t24,t25,t26,t27,t28,t29,t30,t31,t32,t33,t34,t35,t36,t37,t38,t39,t40,t41,t42,t43,t44,t45,t46,t47,t48,t49,t50,t51,t52,t53,t54,t55,t56,t57,t58,t59,t60,t61,t62],defers:=ds} w:=by
 have hsz:tw5O.size=22:=by kernel_rfl
 refine wp_region_any (show Tryz.prog.follows .mixedOrders=true from by kernel_rfl) ?_;rw [hsz];refine wpAny_inv (I:=tw5I w gP gR ya za yy av bw xv n7 c7 nx cx ny cy nz cz ax ay az a7 vy va vb t0 t4 t8 t9 t10 t11 t12 t13 t14 t15 t16 t17 t18 t19 t20 t21 t22 t23 t24 t25 t26 t27 t28 t29 t30 t31 t32 t33 t34 t35 t36 t37 t38 t39 t40 t41 ds) (tw5_steps gP gR ya za yy av bw xv n7 c7 nx cx ny cy nz cz ax ay az a7 vy va vb w KP KR HY HZ NY NZ HYY HA HBW HX NYY NA NB N7) (fun l a w' hI hr=>?_) 22 _ _ _ (by decide) ?_
 ·obtain⟨y0,y1,y2,y3,y4,y5,y6,y7,y8,y9,y10,y11,y12,y13,y14,y15,y16,y17,y18,y19,y20,wm,rfl,hb,rfl,hn11,hn19⟩:=tw5_fin gP gR ya za yy av bw xv n7 c7 nx cx ny cy nz cz ax ay az a7 vy va vb w l a w' hI hr;exact h _ _ _ _ _ _ _ _ _ _ _ _ _ _ _ _ _ _ _ _ _ _ hb hn11 hn19
 ·exact .inr ⟨false,false,false,false,false,false,false,false,false,false,false,false,false,false,false,false,false,false,false,false,false,t42,t43,t44,t45,t46,t47,t48,t49,t50,t51,t52,t53,t54,t55,t56,t57,t58,t59,t60,t61,t62,rfl,rfl,⟨rfl,rfl,rfl,Nat.le_refl _,fun _ _=>rfl⟩,(fun h=>by cases h),(fun h=>by cases h),(fun h=>by cases h),(fun h=>by cases h),(fun h=>by cases h),(fun h=>by cases h),(fun h=>by cases h),(fun h=>by cases h),(fun h=>by cases h),(fun h=>by cases h),(fun h=>by cases h),(fun h=>by cases h),(fun h=>by cases h),(fun h=>by cases h),(fun h=>by cases h),(fun h=>by cases h),(fun h=>by cases h),(fun h=>by cases h),(fun h=>by cases h),(fun h=>by cases h),(fun h=>by cases h)⟩
end Ref
end Go.Proofs.YtpggkfdijmnmiaaGreat
