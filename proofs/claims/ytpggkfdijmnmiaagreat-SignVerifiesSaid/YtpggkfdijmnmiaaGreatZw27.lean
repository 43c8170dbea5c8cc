/- The double of a point, as the reference tells it: the walk.  -/
import Derived.Test.YtpggkfdijmnmiaaGreatZw26
import Derived.Test.YtpggkfdijmnmiaaGreatZw18
set_option linter.unusedVariables false
set_option linter.unusedSimpArgs false
set_option maxRecDepth 100000
namespace Go.Proofs.YtpggkfdijmnmiaaGreat
namespace Ref
open Go.RowKit Go.Proofs.YtpggkfdijmnmiaaGreat.Digits Limbs Curve
def Nw (B:Nat)(t:TypeId)(cs:Array Value)(w:World)(x:Value): Prop:=∃g,x = .pointer (some ⟨g,0,none⟩)∧B≤g∧Bk t w g cs
theorem Nw.below {B:Nat}{t:TypeId}{cs:Array Value}{w w':World}{x:Value}(h:Nw B t cs w x)(hb:Below w.heap.size w w'): Nw B t cs w' x:=by
 obtain⟨g,h1,h2,h3⟩:=h;exact⟨g,h1,h2,h3.below hb⟩
end Ref
namespace Ref
open Go.RowKit Go.Proofs.YtpggkfdijmnmiaaGreat.Digits Limbs Curve
open Go.Lib renaming hid→Φ
set_option maxHeartbeats 16000000
variable {t0 t3 t4 t5 t6 t7 t8 t9 t10 t11:Value}{ds:List Deferred}{Q:Exit→Act→World→Prop}
def RP (w:World)(v:Value)(p:Po): Prop:=∃ax nx cx ay ny cy,v = .agg #[.bool p.i,.slice ax nx cx,.slice ay ny cy]∧(p.i=false→NV w (.slice ax nx cx) p.x∧NV w (.slice ay ny cy) p.y)
theorem RP.below {w w':World}{v:Value}{p:Po}(h:RP w v p)(hb:Below w.heap.size w w'): RP w' v p:=by
 obtain⟨ax,nx,cx,ay,ny,cy,h1,h2⟩:=h;exact⟨ax,nx,cx,ay,ny,cy,h1,fun h=>⟨(h2 h).1.below hb,(h2 h).2.below hb⟩⟩
theorem NV.shape {w:World}{v:Value}{n:Nat}(h:NV w v n): ∃a l c,v = .slice a l c:=by
 obtain⟨r,⟨g,cap,rfl,_⟩,_⟩:=h;exact⟨_,_,_,rfl⟩
theorem qk {f:FuncId}{args:Array Value}{W:World}{p:Po}(B:Nat)(w:World)(h:Calls Tryz.prog f args W fun e w'=>∃v',e = .returned v'∧RP w' v' p∧Below W.heap.size W w')(hb:Below B w W)(hB:B≤w.heap.size):
  Calls Tryz.prog f args W fun e w'=>∃v',e = .returned v'∧RP w' v' p∧Below B w w'∧Below W.heap.size W w':=
 h.mono fun _ _ ⟨v',h1,h2,h3⟩=>⟨v',h1,h2,hb.trans (h3.mono (Nat.le_trans hB hb.size)),h3⟩
def in1F (w0:World)(gP gR ux uy:Nat)(pi:Bool)(t0:Value)(ds:List Deferred)(a:Act)(w:World): Prop:=
 ∃y0 y1 y2 y3 y4 y5 y6 y7 y8:Value,∃wm:World,a={tmps:=#[t0,.pointer (some ⟨gP,0,none⟩),.pointer (some ⟨gR,0,none⟩),y0,y1,y2,y3,y4,y5,y6,y7,y8],defers:=ds}∧Below w0.heap.size w0 wm∧w=(World.setCell (World.setCell (World.setCell wm ⟨gR,0,none⟩ (.bool pi)) ⟨gR,1,none⟩ (y4)) ⟨gR,2,none⟩ (y7))∧NV wm y4 (ux)∧NV wm y7 (uy)
def in1I (w0:World)(gP gR ux uy:Nat)(pi:Bool)(t0:Value)(ds:List Deferred)(l:Array Bool)(a:Act)(w:World): Prop:=
 (l=#[true,true,true,true,true,true,true,true,true,true]∧in1F w0 gP gR ux uy pi t0 ds a w)∨(∃j0 j1 j2 j3 j4 j5 j6 j7 j8:Bool,∃x0 x1 x2 x3 x4 x5 x6 x7 x8:Value,l=#[j0,j1,j2,j3,j4,j5,j6,j7,j8,false]∧a={tmps:=#[t0,.pointer (some ⟨gP,0,none⟩),.pointer (some ⟨gR,0,none⟩),x0,x1,x2,x3,x4,x5,x6,x7,x8],defers:=ds}∧Below w0.heap.size w0 w∧
 (j0=true→x0 = .pointer (some ⟨gP,8,none⟩))∧(j1=true→x1 = .bool pi)∧(j2=true→x2 = .pointer (some ⟨gP,0,none⟩))∧(j3=true→x3 = .agg #[υ ux 0,υ ux 1,υ ux 2,υ ux 3])∧(j4=true→NV w x4 (ux))∧(j5=true→x5 = .pointer (some ⟨gP,4,none⟩))∧(j6=true→x6 = .agg #[υ uy 0,υ uy 1,υ uy 2,υ uy 3])∧(j7=true→NV w x7 (uy))∧(j8=true→x8 = .agg #[.bool pi,x4,x7]∧j4=true∧j7=true))
noncomputable def in1O:Array Oper:=(Tryz.f67.body.bind fun c=>findR c 1).getD #[]
theorem in1_steps (gP gR ux uy:Nat)(pi:Bool)(w:World)(KP:Bk 26 w gP #[υ ux 0,υ ux 1,υ ux 2,υ ux 3,υ uy 0,υ uy 1,υ uy 2,υ uy 3,.bool pi])(KR:Bk 72 w gR #[.bool false,.slice none 0 0,.slice none 0 0])(HX:Hid (∀w,Calls Tryz.prog 45 #[.agg #[υ ux 0,υ ux 1,υ ux 2,υ ux 3]] w fun e w'=>∃v',e = .returned v'∧Nr w w' v' ux))(HY:Hid (∀w,Calls Tryz.prog 45 #[.agg #[υ uy 0,υ uy 1,υ uy 2,υ uy 3]] w fun e w'=>∃v',e = .returned v'∧Nr w w' v' uy))
  :
  ∀l a w',in1I w gP gR ux uy pi t0 ds l a w'→∀i∈Region.ready .any in1O l,wpOp Tryz.prog in1O Q i (fun a' w''=>in1I w gP gR ux uy pi t0 ds (l.setIfInBounds i true) a' w'') a w':=by
 simp only [in1O,findR,Tryz.f67,Option.bind_some,Option.or,Option.getD,Nat.reduceEqDiff,if_true,if_false,reduceIte];rintro l a w' hI i hi;rw [mem_ready] at hi;obtain⟨hu,oo,ho,hd⟩:=hi;have hin:i<10:=by
  have:=(Array.getElem?_eq_some_iff.1 ho).1
  simpa using this
 have hcase:i=0∨i=1∨i=2∨i=3∨i=4∨i=5∨i=6∨i=7∨i=8∨i=9:=by omega
 rcases hI with ⟨rfl,hF⟩ | hI
 ·exfalso
  rcases hcase with rfl | rfl | rfl | rfl | rfl | rfl | rfl | rfl | rfl | rfl<;>simp at hu
 obtain⟨j0,j1,j2,j3,j4,j5,j6,j7,j8,x0,x1,x2,x3,x4,x5,x6,x7,x8,rfl,rfl,hB,h0,h1,h2,h3,h4,h5,h6,h7,h8⟩:=hI;replace h0:=Φ h0;replace h1:=Φ h1;replace h2:=Φ h2;replace h3:=Φ h3;replace h4:=Φ h4;replace h5:=Φ h5;replace h6:=Φ h6;replace h7:=Φ h7;replace h8:=Φ h8;rcases hcase with rfl | rfl | rfl | rfl | rfl | rfl | rfl | rfl | rfl | rfl
 all_goals obtain rfl:=Option.some.inj ho
 all_goals simp [Region.binds] at hu hd
 ·clear hd;refine wpOp_of rfl rfl ?_;go_simp;unfold in1I;exact .inr ⟨true,j1,j2,j3,j4,j5,j6,j7,j8,_,x1,x2,x3,x4,x5,x6,x7,x8,rfl,rfl,hB,fun _=>rfl,h1.out,h2.out,h3.out,h4.out,h5.out,h6.out,h7.out,h8.out⟩
 ·have d0:j0=true:=by simp [hd]
  obtain rfl:=h0.out d0;subst d0;clear hd;refine wpOp_of rfl rfl ?_;have i8:w'.cell? ⟨gP,8,none⟩=some (.bool pi):=(KP.below hB).cell 8;go_simp;unfold in1I;exact .inr ⟨true,true,j2,j3,j4,j5,j6,j7,j8,_,_,x2,x3,x4,x5,x6,x7,x8,rfl,rfl,hB,h0.out,fun _=>rfl,h2.out,h3.out,h4.out,h5.out,h6.out,h7.out,h8.out⟩
 ·clear hd;refine wpOp_of rfl rfl ?_;go_simp;unfold in1I;exact .inr ⟨j0,j1,true,j3,j4,j5,j6,j7,j8,x0,x1,_,x3,x4,x5,x6,x7,x8,rfl,rfl,hB,h0.out,h1.out,fun _=>rfl,h3.out,h4.out,h5.out,h6.out,h7.out,h8.out⟩
 ·have d2:j2=true:=by simp [hd]
  obtain rfl:=h2.out d2;subst d2;clear hd;refine wpOp_of rfl rfl ?_;have i0:w'.cell? ⟨gP,0,none⟩=some (υ ux 0):=(KP.below hB).cell 0;have i1:w'.cell? ⟨gP,1,none⟩=some (υ ux 1):=(KP.below hB).cell 1;have i2:w'.cell? ⟨gP,2,none⟩=some (υ ux 2):=(KP.below hB).cell 2;have i3:w'.cell? ⟨gP,3,none⟩=some (υ ux 3):=(KP.below hB).cell 3;go_simp;unfold in1I;exact .inr ⟨j0,j1,true,true,j4,j5,j6,j7,j8,x0,x1,_,_,x4,x5,x6,x7,x8,rfl,rfl,hB,h0.out,h1.out,h2.out,fun _=>rfl,h4.out,h5.out,h6.out,h7.out,h8.out⟩
 ·have d3:j3=true:=by simp [hd]
  obtain rfl:=h3.out d3;subst d3;clear hd;refine wpOp_of rfl rfl ?_;go_simp;go_at_call 45;refine(nk w.heap.size w (HX.out _) hB (Nat.le_refl _)).mono ?_;rintro e w2 ⟨v',rfl,hn',hB2,hb2⟩;unfold in1I;exact .inr ⟨j0,j1,j2,true,true,j5,j6,j7,j8,x0,x1,x2,_,_,x5,x6,x7,x8,rfl,rfl,hB2,h0.out,h1.out,h2.out,h3.out,fun _=>hn',h5.out,h6.out,fun hj=>(h7.out hj).below hb2,fun hj=>absurd (h8.out hj).2.1 (by simp [hu])⟩
 ·clear hd;refine wpOp_of rfl rfl ?_;go_simp;unfold in1I;exact .inr ⟨j0,j1,j2,j3,j4,true,j6,j7,j8,x0,x1,x2,x3,x4,_,x6,x7,x8,rfl,rfl,hB,h0.out,h1.out,h2.out,h3.out,h4.out,fun _=>rfl,h6.out,h7.out,h8.out⟩
 ·have d5:j5=true:=by simp [hd]
  obtain rfl:=h5.out d5;subst d5;clear hd;refine wpOp_of rfl rfl ?_;have i4:w'.cell? ⟨gP,4,none⟩=some (υ uy 0):=(KP.below hB).cell 4;have i5:w'.cell? ⟨gP,5,none⟩=some (υ uy 1):=(KP.below hB).cell 5;have i6:w'.cell? ⟨gP,6,none⟩=some (υ uy 2):=(KP.below hB).cell 6;have i7:w'.cell? ⟨gP,7,none⟩=some (υ uy 3):=(KP.below hB).cell 7;go_simp;unfold in1I;exact .inr ⟨j0,j1,j2,j3,j4,true,true,j7,j8,x0,x1,x2,x3,x4,_,_,x7,x8,rfl,rfl,hB,h0.out,h1.out,h2.out,h3.out,h4.out,h5.out,fun _=>rfl,h7.out,h8.out⟩
 ·have d4:j4=true:=by simp [hd]
  have d6:j6=true:=by simp [hd]
  obtain rfl:=h6.out d6;subst d4 d6;clear hd;refine wpOp_of rfl rfl ?_;go_simp;go_at_call 45;refine(nk w.heap.size w (HY.out _) hB (Nat.le_refl _)).mono ?_;rintro e w2 ⟨v',rfl,hn',hB2,hb2⟩;unfold in1I;exact .inr ⟨j0,j1,j2,j3,true,j5,true,true,j8,x0,x1,x2,x3,x4,x5,_,_,x8,rfl,rfl,hB2,h0.out,h1.out,h2.out,h3.out,fun hj=>(h4.out hj).below hb2,h5.out,h6.out,fun _=>hn',fun hj=>absurd (h8.out hj).2.2 (by simp [hu])⟩
 ·have d1:j1=true:=by simp [hd]
  have d4:j4=true:=by simp [hd]
  have d7:j7=true:=by simp [hd]
  obtain rfl:=h1.out d1;subst d1 d4 d7;clear hd;refine wpOp_of rfl rfl ?_;obtain⟨sa4,sn4,sc4,es4⟩:=(h4.out rfl).shape;subst es4;obtain⟨sa7,sn7,sc7,es7⟩:=(h7.out rfl).shape;subst es7;go_simp;unfold in1I;exact .inr ⟨j0,true,j2,j3,true,j5,j6,true,true,x0,_,x2,x3,_,x5,x6,_,_,rfl,rfl,hB,h0.out,h1.out,h2.out,h3.out,h4.out,h5.out,h6.out,h7.out,fun _=>⟨rfl,rfl,rfl⟩⟩
 ·have d0:j0=true:=by simp [hd]
  have d1:j1=true:=by simp [hd]
  have d2:j2=true:=by simp [hd]
  have d3:j3=true:=by simp [hd]
  have d4:j4=true:=by simp [hd]
  have d5:j5=true:=by simp [hd]
  have d6:j6=true:=by simp [hd]
  have d7:j7=true:=by simp [hd]
  have d8:j8=true:=by simp [hd]
  obtain rfl:=h0.out d0;obtain rfl:=h1.out d1;obtain rfl:=h2.out d2;obtain rfl:=h3.out d3;obtain rfl:=h5.out d5;obtain rfl:=h6.out d6;have e8:=(h8.out d8).1;subst e8;subst d0 d1;subst d2 d3;subst d4 d5;subst d6 d7 d8;clear hd;refine wpOp_of rfl rfl ?_;obtain⟨sa4,sn4,sc4,es4⟩:=(h4.out rfl).shape;subst es4;obtain⟨sa7,sn7,sc7,es7⟩:=(h7.out rfl).shape;subst es7;have c0:=(KR.below hB).cell 0;have f0:=(KR.below hB).fro 0;have c1:=(KR.below hB).cell 1;have f1:=(KR.below hB).fro 1;have c2:=(KR.below hB).cell 2;have f2:=(KR.below hB).fro 2;go_simp;unfold in1I in1F;exact .inl ⟨rfl,_,_,_,_,_,_,_,_,_,_,rfl,hB,rfl,h4.out rfl,h7.out rfl⟩
theorem in1_fin (gP gR ux uy:Nat)(pi:Bool)(w:World) : ∀l a w1,in1I w gP gR ux uy pi t0 ds l a w1→Region.ready .any in1O l=[]→in1F w gP gR ux uy pi t0 ds a w1:=by
 simp only [in1O,findR,Tryz.f67,Option.bind_some,Option.or,Option.getD,Nat.reduceEqDiff,if_true,if_false,reduceIte];rintro l a w1 hI hr;rcases hI with ⟨rfl,hF⟩ | hI
 ·exact hF
 obtain⟨j0,j1,j2,j3,j4,j5,j6,j7,j8,x0,x1,x2,x3,x4,x5,x6,x7,x8,rfl,rfl,hB,h0,h1,h2,h3,h4,h5,h6,h7,h8⟩:=hI;have hn:=fun i=>List.eq_nil_iff_forall_not_mem.1 hr i
 clear hr;cases j0;exact(ab hn 0).elim
 cases j1;exact(ab hn 1).elim
 cases j2;exact(ab hn 2).elim
 cases j3;exact(ab hn 3).elim
 cases j4;exact(ab hn 4).elim
 cases j5;exact(ab hn 5).elim
 cases j6;exact(ab hn 6).elim
 cases j7;exact(ab hn 7).elim
 cases j8;exact(ab hn 8).elim
 exact absurd (mem_ready.2 ⟨rfl,_,rfl,by simp [Region.binds]⟩) (hn 9)
theorem in1 (gP gR ux uy:Nat)(pi:Bool)(w:World)(KP:Bk 26 w gP #[υ ux 0,υ ux 1,υ ux 2,υ ux 3,υ uy 0,υ uy 1,υ uy 2,υ uy 3,.bool pi])(KR:Bk 72 w gR #[.bool false,.slice none 0 0,.slice none 0 0])(HX:Hid (∀w,Calls Tryz.prog 45 #[.agg #[υ ux 0,υ ux 1,υ ux 2,υ ux 3]] w fun e w'=>∃v',e = .returned v'∧Nr w w' v' ux))(HY:Hid (∀w,Calls Tryz.prog 45 #[.agg #[υ uy 0,υ uy 1,υ uy 2,υ uy 3]] w fun e w'=>∃v',e = .returned v'∧Nr w w' v' uy)) {K:Act→World→Prop} 
  (h:∀(y0 y1 y2 y3 y4 y5 y6 y7 y8:Value) (w1:World) (hb:Below w.heap.size w w1) (hn4:NV w1 y4 (ux)) (hn7:NV w1 y7 (uy)),K {tmps:=#[t0,.pointer (some ⟨gP,0,none⟩),.pointer (some ⟨gR,0,none⟩),y0,y1,y2,y3,y4,y5,y6,y7,y8],defers:=ds} (World.setCell (World.setCell (World.setCell w1 ⟨gR,0,none⟩ (.bool pi)) ⟨gR,1,none⟩ (y4)) ⟨gR,2,none⟩ (y7))) :
  (Code.region 1 in1O true).wp Tryz.prog (Exit.then K Q) {tmps:=#[t0,.pointer (some ⟨gP,0,none⟩),.pointer (some ⟨gR,0,none⟩),t3,t4,t5,t6,t7,t8,t9,t10,t11],defers:=ds} w:=by
 have hsz:in1O.size=10:=by kernel_rfl
 refine wp_region_any (show Tryz.prog.follows .mixedOrders=true from by kernel_rfl) ?_;rw [hsz];refine wpAny_inv (I:=in1I w gP gR ux uy pi t0 ds) (in1_steps gP gR ux uy pi w KP KR HX HY) (fun l a w' hI hr=>?_) 10 _ _ _ (by decide) ?_
 ·obtain⟨y0,y1,y2,y3,y4,y5,y6,y7,y8,wm,rfl,hb,rfl,hn4,hn7⟩:=in1_fin gP gR ux uy pi w l a w' hI hr;exact h _ _ _ _ _ _ _ _ _ _ hb hn4 hn7
 ·exact .inr ⟨false,false,false,false,false,false,false,false,false,t3,t4,t5,t6,t7,t8,t9,t10,t11,rfl,rfl,⟨rfl,rfl,rfl,Nat.le_refl _,fun _ _=>rfl⟩,(fun h=>by cases h),(fun h=>by cases h),(fun h=>by cases h),(fun h=>by cases h),(fun h=>by cases h),(fun h=>by cases h),(fun h=>by cases h),(fun h=>by cases h),(fun h=>by cases h)⟩
def op3F (w0:World)(gP gR x y nx cx ny cy:Nat)(ax ay:Option Addr)(t0 t3 t4 t5:Value)(ds:List Deferred)(a:Act)(w:World): Prop:=
 ∃y0 y1 y2 y3 y4 y5:Value,∃wm:World,a={tmps:=#[t0,.pointer (some ⟨gP,0,none⟩),.pointer (some ⟨gR,0,none⟩),t3,t4,t5,y0,y1,y2,y3,y4,y5],defers:=ds}∧Below w0.heap.size w0 wm∧w=(World.setCell (World.setCell (World.setCell wm ⟨gR,0,none⟩ (.bool false)) ⟨gR,1,none⟩ (.slice ax nx cx)) ⟨gR,2,none⟩ (y4))∧NV wm y4 (ngj y)
def op3I (w0:World)(gP gR x y nx cx ny cy:Nat)(ax ay:Option Addr)(t0 t3 t4 t5:Value)(ds:List Deferred)(l:Array Bool)(a:Act)(w:World): Prop:=
 (l=#[true,true,true,true,true,true,true]∧op3F w0 gP gR x y nx cx ny cy ax ay t0 t3 t4 t5 ds a w)∨(∃j0 j1 j2 j3 j4 j5:Bool,∃x0 x1 x2 x3 x4 x5:Value,l=#[j0,j1,j2,j3,j4,j5,false]∧a={tmps:=#[t0,.pointer (some ⟨gP,0,none⟩),.pointer (some ⟨gR,0,none⟩),t3,t4,t5,x0,x1,x2,x3,x4,x5],defers:=ds}∧Below w0.heap.size w0 w∧
 (j0=true→x0 = .pointer (some ⟨gP,1,none⟩))∧(j1=true→x1 = .slice ax nx cx)∧(j2=true→x2 = .pointer (some ⟨gP,2,none⟩))∧(j3=true→x3 = .slice ay ny cy)∧(j4=true→NV w x4 (ngj y))∧(j5=true→x5 = .agg #[.bool false,.slice ax nx cx,x4]∧j4=true))
noncomputable def op3O:Array Oper:=(Tryz.f126.body.bind fun c=>findR c 3).getD #[]
theorem op3_steps (gP gR x y nx cx ny cy:Nat)(ax ay:Option Addr)(w:World)(KP:Bk 72 w gP #[.bool false,.slice ax nx cx,.slice ay ny cy])(KR:Bk 72 w gR #[.bool false,.slice none 0 0,.slice none 0 0])(HB:y<big)(NY:NV w (.slice ay ny cy) y)
  :
  ∀l a w',op3I w gP gR x y nx cx ny cy ax ay t0 t3 t4 t5 ds l a w'→∀i∈Region.ready .any op3O l,wpOp Tryz.prog op3O Q i (fun a' w''=>op3I w gP gR x y nx cx ny cy ax ay t0 t3 t4 t5 ds (l.setIfInBounds i true) a' w'') a w':=by
 simp only [op3O,findR,Tryz.f126,Option.bind_some,Option.or,Option.getD,Nat.reduceEqDiff,if_true,if_false,reduceIte];rintro l a w' hI i hi;rw [mem_ready] at hi;obtain⟨hu,oo,ho,hd⟩:=hi;have hin:i<7:=by
  have:=(Array.getElem?_eq_some_iff.1 ho).1
  simpa using this
 have hcase:i=0∨i=1∨i=2∨i=3∨i=4∨i=5∨i=6:=by omega
 rcases hI with ⟨rfl,hF⟩ | hI
 ·exfalso
  rcases hcase with rfl | rfl | rfl | rfl | rfl | rfl | rfl<;>simp at hu
 obtain⟨j0,j1,j2,j3,j4,j5,x0,x1,x2,x3,x4,x5,rfl,rfl,hB,h0,h1,h2,h3,h4,h5⟩:=hI;replace h0:=Φ h0;replace h1:=Φ h1;replace h2:=Φ h2;replace h3:=Φ h3;replace h4:=Φ h4;replace h5:=Φ h5;rcases hcase with rfl | rfl | rfl | rfl | rfl | rfl | rfl
 all_goals obtain rfl:=Option.some.inj ho
 all_goals simp [Region.binds] at hu hd
 ·clear hd;refine wpOp_of rfl rfl ?_;go_simp;unfold op3I;exact .inr ⟨true,j1,j2,j3,j4,j5,_,x1,x2,x3,x4,x5,rfl,rfl,hB,fun _=>rfl,h1.out,h2.out,h3.out,h4.out,h5.out⟩
 ·have d0:j0=true:=by simp [hd]
  obtain rfl:=h0.out d0;subst d0;clear hd;refine wpOp_of rfl rfl ?_;have i1:w'.cell? ⟨gP,1,none⟩=some (.slice ax nx cx):=(KP.below hB).cell 1;go_simp;unfold op3I;exact .inr ⟨true,true,j2,j3,j4,j5,_,_,x2,x3,x4,x5,rfl,rfl,hB,h0.out,fun _=>rfl,h2.out,h3.out,h4.out,h5.out⟩
 ·clear hd;refine wpOp_of rfl rfl ?_;go_simp;unfold op3I;exact .inr ⟨j0,j1,true,j3,j4,j5,x0,x1,_,x3,x4,x5,rfl,rfl,hB,h0.out,h1.out,fun _=>rfl,h3.out,h4.out,h5.out⟩
 ·have d2:j2=true:=by simp [hd]
  obtain rfl:=h2.out d2;subst d2;clear hd;refine wpOp_of rfl rfl ?_;have i2:w'.cell? ⟨gP,2,none⟩=some (.slice ay ny cy):=(KP.below hB).cell 2;go_simp;unfold op3I;exact .inr ⟨j0,j1,true,true,j4,j5,x0,x1,_,_,x4,x5,rfl,rfl,hB,h0.out,h1.out,h2.out,fun _=>rfl,h4.out,h5.out⟩
 ·have d3:j3=true:=by simp [hd]
  obtain rfl:=h3.out d3;subst d3;clear hd;refine wpOp_of rfl rfl ?_;go_simp;go_at_call 159;refine(nk w.heap.size w (opp_c _ _ y HB (NY.below hB)) hB (Nat.le_refl _)).mono ?_;rintro e w2 ⟨v',rfl,hn',hB2,hb2⟩;unfold op3I;exact .inr ⟨j0,j1,j2,true,true,j5,x0,x1,x2,_,_,x5,rfl,rfl,hB2,h0.out,h1.out,h2.out,h3.out,fun _=>hn',fun hj=>absurd (h5.out hj).2 (by simp [hu])⟩
 ·have d1:j1=true:=by simp [hd]
  have d4:j4=true:=by simp [hd]
  obtain rfl:=h1.out d1;subst d1 d4;clear hd;refine wpOp_of rfl rfl ?_;obtain⟨sa4,sn4,sc4,es4⟩:=(h4.out rfl).shape;subst es4;go_simp;unfold op3I;exact .inr ⟨j0,true,j2,j3,true,true,x0,_,x2,x3,_,_,rfl,rfl,hB,h0.out,h1.out,h2.out,h3.out,h4.out,fun _=>⟨rfl,rfl⟩⟩
 ·have d0:j0=true:=by simp [hd]
  have d1:j1=true:=by simp [hd]
  have d2:j2=true:=by simp [hd]
  have d3:j3=true:=by simp [hd]
  have d4:j4=true:=by simp [hd]
  have d5:j5=true:=by simp [hd]
  obtain rfl:=h0.out d0;obtain rfl:=h1.out d1;obtain rfl:=h2.out d2;obtain rfl:=h3.out d3;have e5:=(h5.out d5).1;subst e5;subst d0 d1;subst d2 d3;subst d4 d5;clear hd;refine wpOp_of rfl rfl ?_;obtain⟨sa4,sn4,sc4,es4⟩:=(h4.out rfl).shape;subst es4;have c0:=(KR.below hB).cell 0;have f0:=(KR.below hB).fro 0;have c1:=(KR.below hB).cell 1;have f1:=(KR.below hB).fro 1;have c2:=(KR.below hB).cell 2;have f2:=(KR.below hB).fro 2;go_simp;unfold op3I op3F;exact .inl ⟨rfl,_,_,_,_,_,_,_,rfl,hB,rfl,h4.out rfl⟩
theorem op3_fin (gP gR x y nx cx ny cy:Nat)(ax ay:Option Addr)(w:World) : ∀l a w1,op3I w gP gR x y nx cx ny cy ax ay t0 t3 t4 t5 ds l a w1→Region.ready .any op3O l=[]→op3F w gP gR x y nx cx ny cy ax ay t0 t3 t4 t5 ds a w1:=by
 simp only [op3O,findR,Tryz.f126,Option.bind_some,Option.or,Option.getD,Nat.reduceEqDiff,if_true,if_false,reduceIte];rintro l a w1 hI hr;rcases hI with ⟨rfl,hF⟩ | hI
 ·exact hF
 obtain⟨j0,j1,j2,j3,j4,j5,x0,x1,x2,x3,x4,x5,rfl,rfl,hB,h0,h1,h2,h3,h4,h5⟩:=hI;have hn:=fun i=>List.eq_nil_iff_forall_not_mem.1 hr i
 clear hr;cases j0;exact(ab hn 0).elim
 cases j1;exact(ab hn 1).elim
 cases j2;exact(ab hn 2).elim
 cases j3;exact(ab hn 3).elim
 cases j4;exact(ab hn 4).elim
 cases j5;exact(ab hn 5).elim
 exact absurd (mem_ready.2 ⟨rfl,_,rfl,by simp [Region.binds]⟩) (hn 6)
theorem op3 (gP gR x y nx cx ny cy:Nat)(ax ay:Option Addr)(w:World)(KP:Bk 72 w gP #[.bool false,.slice ax nx cx,.slice ay ny cy])(KR:Bk 72 w gR #[.bool false,.slice none 0 0,.slice none 0 0])(HB:y<big)(NY:NV w (.slice ay ny cy) y) {K:Act→World→Prop} 
  (h:∀(y0 y1 y2 y3 y4 y5:Value) (w1:World) (hb:Below w.heap.size w w1) (hn4:NV w1 y4 (ngj y)),K {tmps:=#[t0,.pointer (some ⟨gP,0,none⟩),.pointer (some ⟨gR,0,none⟩),t3,t4,t5,y0,y1,y2,y3,y4,y5],defers:=ds} (World.setCell (World.setCell (World.setCell w1 ⟨gR,0,none⟩ (.bool false)) ⟨gR,1,none⟩ (.slice ax nx cx)) ⟨gR,2,none⟩ (y4))) :
  (Code.region 3 op3O true).wp Tryz.prog (Exit.then K Q) {tmps:=#[t0,.pointer (some ⟨gP,0,none⟩),.pointer (some ⟨gR,0,none⟩),t3,t4,t5,t6,t7,t8,t9,t10,t11],defers:=ds} w:=by
 have hsz:op3O.size=7:=by kernel_rfl
 refine wp_region_any (show Tryz.prog.follows .mixedOrders=true from by kernel_rfl) ?_;rw [hsz];refine wpAny_inv (I:=op3I w gP gR x y nx cx ny cy ax ay t0 t3 t4 t5 ds) (op3_steps gP gR x y nx cx ny cy ax ay w KP KR HB NY) (fun l a w' hI hr=>?_) 7 _ _ _ (by decide) ?_
 ·obtain⟨y0,y1,y2,y3,y4,y5,wm,rfl,hb,rfl,hn4⟩:=op3_fin gP gR x y nx cx ny cy ax ay w l a w' hI hr;exact h _ _ _ _ _ _ _ hb hn4
 ·exact .inr ⟨false,false,false,false,false,false,t6,t7,t8,t9,t10,t11,rfl,rfl,⟨rfl,rfl,rfl,Nat.le_refl _,fun _ _=>rfl⟩,(fun h=>by cases h),(fun h=>by cases h),(fun h=>by cases h),(fun h=>by cases h),(fun h=>by cases h),(fun h=>by cases h)⟩
end Ref
namespace Ref
open Go.RowKit Go.Proofs.YtpggkfdijmnmiaaGreat.Digits Limbs Curve
open Go.Lib renaming hid→Φ
set_option maxHeartbeats 16000000
theorem u64p:Tryz.prog.underlying 72=some (.struct (Tryz.prog.fieldsOf 72)):=by kernel_rfl
theorem i64p:(Tryz.prog.info? 72).map (·.size)=some 3:=by kernel_rfl
theorem ret_cell64 {fn:Func}{R:Ending→World→Prop}{a:Act}{w:World}{p:Tmp}(h:fn.results=#[.cell p 72])(g:Nat)(x y z:Value)(hp:a.tmps.getD p undef = .pointer (some ⟨g,0,none⟩))(hk:Bk 72 w g #[x,y,z])(hd:a.defers=[])(hR:R (.returned (.agg #[x,y,z])) w): bodyPost Tryz.prog fn R .ret a w:=
 bodyPost_ret (v:= .agg #[x,y,z]) (results_cell_row h a.tmps w g 72 #[x,y,z] (0,0) _ hp hk u64p rfl i64p) hd hR
theorem Bk.cells3 {t:TypeId}{w:World}{g:Nat}{a b c:Value}(h:Bk t w g #[a,b,c]): w.cell? ⟨g,0,none⟩=some a∧w.cell? ⟨g,1,none⟩=some b∧w.cell? ⟨g,2,none⟩=some c:=⟨h.cell 0,h.cell 1,h.cell 2⟩
theorem Bk.fros3 {t:TypeId}{w:World}{g:Nat}{cs:Array Value}(h:Bk t w g cs): w.frozen? ⟨g,0,none⟩=false∧w.frozen? ⟨g,1,none⟩=false∧w.frozen? ⟨g,2,none⟩=false:=⟨h.fro 0,h.fro 1,h.fro 2⟩
theorem Bk.put3 {t:TypeId}{w:World}{g:Nat}{a b c d e f:Value}(h:Bk t w g #[a,b,c]): Bk t (((w.setCell ⟨g,0,none⟩ d).setCell ⟨g,1,none⟩ e).setCell ⟨g,2,none⟩ f) g #[d,e,f]:=
 Bk.same (i:=2) (v:=f) (Bk.same (i:=1) (v:=e) (Bk.same (i:=0) (v:=d) h))
theorem NV.except {w w':World}{v:Value}{n gR:Nat}{t:TypeId}{cs:Array Value}(h:NV w v n)(hk:Bk t w gR cs)(hno:∀(i:Nat) (z:Int),cs[i]?≠some (Value.int .u32 z))(hs:w.heap.size≤w'.heap.size)(ho:∀g,g≠gR→w'.heap[g]?=w.heap[g]?): NV w' v n:=by
 obtain⟨r,⟨g,cap,h1,h2,h3,h4,h5⟩,h6⟩:=h;refine⟨r,⟨g,cap,h1,h2,h3,Nat.lt_of_lt_of_le h4 hs,fun i hi=>?_⟩,h6⟩;have hc:=h5 i hi;have hne:g≠gR:=by
  rintro rfl
  have:=hk.cell i
  rw [hc] at this;exact hno i _ this.symm
 rw [World.cell?_of_block (w:=w) (ho g hne)];exact hc
theorem no3 {b:Bool}{ax ay:Option Addr}{nx cx ny cy:Nat}: ∀(i:Nat) (z:Int),(#[.bool b,.slice ax nx cx,.slice ay ny cy]:Array Value)[i]?≠some (Value.int .u32 z):=by
 intro i z;rcases i with _ | _ | _ | i<;>simp
theorem put3_ex {w:World}{v:Value}{n g:Nat}{b:Bool}{ax ay:Option Addr}{nx cx ny cy:Nat}{d e f:Value}(h:NV w v n)(hk:Bk 72 w g #[.bool b,.slice ax nx cx,.slice ay ny cy]): NV (((w.setCell ⟨g,0,none⟩ d).setCell ⟨g,1,none⟩ e).setCell ⟨g,2,none⟩ f) v n:=
 h.except hk no3 (by simp) (fun g' hn=>(heap_setCell_other _ _ _ _ hn).trans ((heap_setCell_other _ _ _ _ hn).trans (heap_setCell_other _ _ _ _ hn)))
theorem in7 (p:Po)(hp:p.ok)(w:World): Calls Tryz.prog 67 #[p.v] w fun e w'=>∃v',e = .returned v'∧RP w' v' p∧Below w.heap.size w w':=by
 obtain⟨ux,uy,pi⟩:=p;have HX:=Φ (fun w=>in_any ux hp.1 w);have HY:=Φ (fun w=>in_any uy hp.2 w);clear hp;unfold Po.v;simp only [pn,nv,num] at HX HY ⊢;go_enter Tryz.func67,Tryz.ntmps67;go_wp2_with fail;have KP:Hid (Bk 26 ((w.alloc (.cells #[υ ux 0,υ ux 1,υ ux 2,υ ux 3,υ uy 0,υ uy 1,υ uy 2,υ uy 3,.bool pi] 26)).alloc (.cells #[.bool false,.slice none 0 0,.slice none 0 0] 72)) w.heap.size #[υ ux 0,υ ux 1,υ ux 2,υ ux 3,υ uy 0,υ uy 1,υ uy 2,υ uy 3,.bool pi]):=Φ (Bk.alloc (Bk.new rfl));have KR:Hid (Bk 72 ((w.alloc (.cells #[υ ux 0,υ ux 1,υ ux 2,υ ux 3,υ uy 0,υ uy 1,υ uy 2,υ uy 3,.bool pi] 26)).alloc (.cells #[.bool false,.slice none 0 0,.slice none 0 0] 72)) (w.heap.size+1) #[.bool false,.slice none 0 0,.slice none 0 0]):=Φ (Bk.new (by simp));have HB:Hid (Below w.heap.size w ((w.alloc (.cells #[υ ux 0,υ ux 1,υ ux 2,υ ux 3,υ uy 0,υ uy 1,υ uy 2,υ uy 3,.bool pi] 26)).alloc (.cells #[.bool false,.slice none 0 0,.slice none 0 0] 72))):=Φ (by go_grown);obtain⟨gR,hgR⟩:∃g,g=w.heap.size+1:=⟨_,rfl⟩;rw [← hgR] at KR ⊢;have HG:=Φ (show w.heap.size≤gR by omega);clear hgR;generalize ((w.alloc (.cells #[υ ux 0,υ ux 1,υ ux 2,υ ux 3,υ uy 0,υ uy 1,υ uy 2,υ uy 3,.bool pi] 26)).alloc (.cells #[.bool false,.slice none 0 0,.slice none 0 0] 72))=w0 at KP KR HB ⊢;refine in1 w.heap.size gR ux uy pi w0 KP.out KR.out HX HY ?_;intros;rename_i y4 y5 y6 y7 y8 w1 hb1 hn4 hn7;obtain⟨a4,l4,c4,rfl⟩:=hn4.shape;obtain⟨a7,l7,c7,rfl⟩:=hn7.shape;have K1:=Φ (KR.out.below hb1);have HB1:=Φ (HB.out.trans (hb1.mono HB.out.size));have HN:=Φ (And.intro (put3_ex (d:= .bool pi) (e:= .slice a4 l4 c4) (f:= .slice a7 l7 c7) hn4 K1.out) (put3_ex (d:= .bool pi) (e:= .slice a4 l4 c4) (f:= .slice a7 l7 c7) hn7 K1.out));clear hb1 hn4 hn7 KP KR HB;go_wp2_with fail;refine ret_cell64 rfl gR (.bool pi) (.slice a4 l4 c4) (.slice a7 l7 c7) rfl (Bk.put3 K1.out) rfl ⟨_,rfl,⟨_,_,_,_,_,_,rfl,fun _=>HN.out⟩,?_⟩;have hb:=HB1.out;have hg:=HG.out
 go_grown
theorem opp7 (v:Value)(p:Po)(hy:p.y<big)(w:World)(h:RP w v p): Calls Tryz.prog 126 #[v] w fun e w'=>∃v',e = .returned v'∧RP w' v' p.neg∧Below w.heap.size w w':=by
 obtain⟨x,y,pi⟩:=p;obtain⟨ax,nx,cx,ay,ny,cy,rfl,hn⟩:=h;unfold Po.neg;cases pi
 ·obtain⟨hnx,hny⟩:=hn rfl;have NX:=Φ hnx;have NY:=Φ hny;have HYB:=Φ hy;clear hn hnx hny hy;go_enter Tryz.func126,Tryz.ntmps126;go_wp2_with fail;have KP:Hid (Bk 72 ((w.alloc (.cells #[.bool false,.slice ax nx cx,.slice ay ny cy] 72)).alloc (.cells #[.bool false,.slice none 0 0,.slice none 0 0] 72)) w.heap.size #[.bool false,.slice ax nx cx,.slice ay ny cy]):=Φ (Bk.alloc (Bk.new rfl));have KR:Hid (Bk 72 ((w.alloc (.cells #[.bool false,.slice ax nx cx,.slice ay ny cy] 72)).alloc (.cells #[.bool false,.slice none 0 0,.slice none 0 0] 72)) (w.heap.size+1) #[.bool false,.slice none 0 0,.slice none 0 0]):=Φ (Bk.new (by simp));have HB:Hid (Below w.heap.size w ((w.alloc (.cells #[.bool false,.slice ax nx cx,.slice ay ny cy] 72)).alloc (.cells #[.bool false,.slice none 0 0,.slice none 0 0] 72))):=Φ (by go_grown);obtain⟨gR,hgR⟩:∃g,g=w.heap.size+1:=⟨_,rfl⟩;rw [← hgR] at KR ⊢;have HG:=Φ (show w.heap.size≤gR by omega);clear hgR;generalize ((w.alloc (.cells #[.bool false,.slice ax nx cx,.slice ay ny cy] 72)).alloc (.cells #[.bool false,.slice none 0 0,.slice none 0 0] 72))=w0 at KP KR HB ⊢;obtain⟨a0,a1,a2⟩:=Bk.cells3 KP.out;go_wp2_with fail;clear a0 a1 a2;refine op3 w.heap.size gR x y nx cx ny cy ax ay w0 KP.out KR.out HYB.out (NY.out.below HB.out) ?_;intros;rename_i y0 y1 y2 y3 y4 y5 w1 hb1 hn4;obtain⟨a4,l4,c4,rfl⟩:=hn4.shape;have K1:=Φ (KR.out.below hb1);have HB1:=Φ (HB.out.trans (hb1.mono HB.out.size));have HN:=Φ (And.intro (put3_ex (d:= .bool false) (e:= .slice ax nx cx) (f:= .slice a4 l4 c4) ((NX.out.below HB.out).below hb1) K1.out) (put3_ex (d:= .bool false) (e:= .slice ax nx cx) (f:= .slice a4 l4 c4) hn4 K1.out));clear hb1 hn4 KP KR HB;go_wp2_with fail;refine ret_cell64 rfl gR (.bool false) (.slice ax nx cx) (.slice a4 l4 c4) rfl (Bk.put3 K1.out) rfl ⟨_,rfl,⟨_,_,_,_,_,_,rfl,fun _=>HN.out⟩,?_⟩;have hb:=HB1.out;have hg:=HG.out
  go_grown
 ·clear hn hy;go_enter Tryz.func126,Tryz.ntmps126;go_wp2_with fail;refine ret_cell64 rfl (w.heap.size+1) (.bool true) (.slice ax nx cx) (.slice ay ny cy) rfl (Bk.new (by simp)) rfl ⟨_,rfl,⟨_,_,_,_,_,_,rfl,fun h=>by cases h⟩,?_⟩
  go_grown
end Ref
namespace Ref
open Go.RowKit Go.Proofs.YtpggkfdijmnmiaaGreat.Digits Limbs Curve
open Go.Lib renaming hid→Φ
def Po.same (p q:Po): Bool:=(p.i&&q.i)||(!p.i&&!q.i&&decide (p.x=q.x)&&decide (p.y=q.y))
set_option maxHeartbeats 16000000 in
theorem same7 (v u:Value)(p q:Po)(w:World)(h:RP w v p)(k:RP w u q): Calls Tryz.prog 125 #[v,u] w fun e w'=>e = .returned (.bool (Po.same p q))∧Below w.heap.size w w':=by
 obtain⟨x,y,pi⟩:=p;obtain⟨x',y',qi⟩:=q;obtain⟨ax,nx,cx,ay,ny,cy,rfl,hn⟩:=h;obtain⟨bx,mx,dx,bb,my,dy,rfl,hm⟩:=k;unfold Po.same;cases pi
 ·cases qi
  ·obtain⟨hnx,hny⟩:=hn rfl;obtain⟨hmx,hmy⟩:=hm rfl;have NX:=Φ hnx;have NY:=Φ hny;have MX:=Φ hmx;have MY:=Φ hmy;clear hn hm hnx hny hmx hmy;have hcx:=cmp_eq0 x x';have hcy:=cmp_eq0 y y';have HCX:=Φ (fun w h k=>cmp_nv (.slice ax nx cx) (.slice bx mx dx) w x x' h k);have HCY:=Φ (fun w h k=>cmp_nv (.slice ay ny cy) (.slice bb my dy) w y y' h k)
   by_cases hx:x=x'
   ·rw [decide_eq_true hx] at hcx ⊢;generalize decide (y=y')=res at hcy ⊢;generalize cmpN x x'=cm at HCX hcx;generalize cmpN y y'=cn at HCY hcy;clear hx;go_enter Tryz.func125,Tryz.ntmps125;go_wp2_with fail;have KP:Hid (Bk 72 ((w.alloc (.cells #[.bool false,.slice ax nx cx,.slice ay ny cy] 72)).alloc (.cells #[.bool false,.slice bx mx dx,.slice bb my dy] 72)) w.heap.size #[.bool false,.slice ax nx cx,.slice ay ny cy]):=Φ (Bk.alloc (Bk.new rfl));have KQ:Hid (Bk 72 ((w.alloc (.cells #[.bool false,.slice ax nx cx,.slice ay ny cy] 72)).alloc (.cells #[.bool false,.slice bx mx dx,.slice bb my dy] 72)) (w.heap.size+1) #[.bool false,.slice bx mx dx,.slice bb my dy]):=Φ (Bk.new (by simp));have HB:Hid (Below w.heap.size w ((w.alloc (.cells #[.bool false,.slice ax nx cx,.slice ay ny cy] 72)).alloc (.cells #[.bool false,.slice bx mx dx,.slice bb my dy] 72))):=Φ (by go_grown);obtain⟨gq,hgq⟩:∃g,g=w.heap.size+1:=⟨_,rfl⟩;rw [← hgq] at KQ ⊢;clear hgq;generalize ((w.alloc (.cells #[.bool false,.slice ax nx cx,.slice ay ny cy] 72)).alloc (.cells #[.bool false,.slice bx mx dx,.slice bb my dy] 72))=w0 at KP KQ HB ⊢;obtain⟨a0,a1,a2⟩:=Bk.cells3 KP.out;obtain⟨b0,b1,b2⟩:=Bk.cells3 KQ.out;go_wp2_with fail;clear a0 a1 a2 b0 b1 b2;have HC:=Φ (HCX.out w0 (NX.out.below HB.out) (MX.out.below HB.out));refine HC.out.mono ?_;rintro e w1 ⟨rfl,hs⟩;replace KP:=Φ (KP.out.below hs.below0);replace KQ:=Φ (KQ.out.below hs.below0);replace HB:=Φ (hs.below HB.out);clear hs HC;obtain⟨a0,a1,a2⟩:=Bk.cells3 KP.out;obtain⟨b0,b1,b2⟩:=Bk.cells3 KQ.out;go_wp2_with fail;clear a0 a1 a2 b0 b1 b2;have HC:=Φ (HCY.out w1 (NY.out.below HB.out) (MY.out.below HB.out));refine HC.out.mono ?_;rintro e w2 ⟨rfl,hs⟩;replace HB:=Φ (hs.below HB.out);clear hs HC;go_wp2_with fail;go_ret;exact⟨by simp,HB.out⟩
   ·rw [decide_eq_false hx] at hcx ⊢;generalize cmpN x x'=cm at HCX hcx;clear hx;go_enter Tryz.func125,Tryz.ntmps125;go_wp2_with fail;have KP:Hid (Bk 72 ((w.alloc (.cells #[.bool false,.slice ax nx cx,.slice ay ny cy] 72)).alloc (.cells #[.bool false,.slice bx mx dx,.slice bb my dy] 72)) w.heap.size #[.bool false,.slice ax nx cx,.slice ay ny cy]):=Φ (Bk.alloc (Bk.new rfl));have KQ:Hid (Bk 72 ((w.alloc (.cells #[.bool false,.slice ax nx cx,.slice ay ny cy] 72)).alloc (.cells #[.bool false,.slice bx mx dx,.slice bb my dy] 72)) (w.heap.size+1) #[.bool false,.slice bx mx dx,.slice bb my dy]):=Φ (Bk.new (by simp));have HB:Hid (Below w.heap.size w ((w.alloc (.cells #[.bool false,.slice ax nx cx,.slice ay ny cy] 72)).alloc (.cells #[.bool false,.slice bx mx dx,.slice bb my dy] 72))):=Φ (by go_grown);obtain⟨gq,hgq⟩:∃g,g=w.heap.size+1:=⟨_,rfl⟩;rw [← hgq] at KQ ⊢;clear hgq;generalize ((w.alloc (.cells #[.bool false,.slice ax nx cx,.slice ay ny cy] 72)).alloc (.cells #[.bool false,.slice bx mx dx,.slice bb my dy] 72))=w0 at KP KQ HB ⊢;obtain⟨a0,a1,a2⟩:=Bk.cells3 KP.out;obtain⟨b0,b1,b2⟩:=Bk.cells3 KQ.out;go_wp2_with fail;clear a0 a1 a2 b0 b1 b2;have HC:=Φ (HCX.out w0 (NX.out.below HB.out) (MX.out.below HB.out));refine HC.out.mono ?_;rintro e w1 ⟨rfl,hs⟩;replace KP:=Φ (KP.out.below hs.below0);replace KQ:=Φ (KQ.out.below hs.below0);replace HB:=Φ (hs.below HB.out);clear hs HC;obtain⟨a0,a1,a2⟩:=Bk.cells3 KP.out;obtain⟨b0,b1,b2⟩:=Bk.cells3 KQ.out;go_wp2_with fail;go_ret;exact⟨by simp,HB.out⟩
  ·clear hn hm;go_enter Tryz.func125,Tryz.ntmps125;go_wp2_with fail;have KP:Hid (Bk 72 ((w.alloc (.cells #[.bool false,.slice ax nx cx,.slice ay ny cy] 72)).alloc (.cells #[.bool true,.slice bx mx dx,.slice bb my dy] 72)) w.heap.size #[.bool false,.slice ax nx cx,.slice ay ny cy]):=Φ (Bk.alloc (Bk.new rfl));have KQ:Hid (Bk 72 ((w.alloc (.cells #[.bool false,.slice ax nx cx,.slice ay ny cy] 72)).alloc (.cells #[.bool true,.slice bx mx dx,.slice bb my dy] 72)) (w.heap.size+1) #[.bool true,.slice bx mx dx,.slice bb my dy]):=Φ (Bk.new (by simp));have HB:Hid (Below w.heap.size w ((w.alloc (.cells #[.bool false,.slice ax nx cx,.slice ay ny cy] 72)).alloc (.cells #[.bool true,.slice bx mx dx,.slice bb my dy] 72))):=Φ (by go_grown);obtain⟨gq,hgq⟩:∃g,g=w.heap.size+1:=⟨_,rfl⟩;rw [← hgq] at KQ ⊢;clear hgq;generalize ((w.alloc (.cells #[.bool false,.slice ax nx cx,.slice ay ny cy] 72)).alloc (.cells #[.bool true,.slice bx mx dx,.slice bb my dy] 72))=w0 at KP KQ HB ⊢;obtain⟨a0,a1,a2⟩:=Bk.cells3 KP.out;obtain⟨b0,b1,b2⟩:=Bk.cells3 KQ.out;go_wp2_with fail;go_ret;exact⟨rfl,HB.out⟩
 ·cases qi
  ·clear hn hm;go_enter Tryz.func125,Tryz.ntmps125;go_wp2_with fail;have KP:Hid (Bk 72 ((w.alloc (.cells #[.bool true,.slice ax nx cx,.slice ay ny cy] 72)).alloc (.cells #[.bool false,.slice bx mx dx,.slice bb my dy] 72)) w.heap.size #[.bool true,.slice ax nx cx,.slice ay ny cy]):=Φ (Bk.alloc (Bk.new rfl));have KQ:Hid (Bk 72 ((w.alloc (.cells #[.bool true,.slice ax nx cx,.slice ay ny cy] 72)).alloc (.cells #[.bool false,.slice bx mx dx,.slice bb my dy] 72)) (w.heap.size+1) #[.bool false,.slice bx mx dx,.slice bb my dy]):=Φ (Bk.new (by simp));have HB:Hid (Below w.heap.size w ((w.alloc (.cells #[.bool true,.slice ax nx cx,.slice ay ny cy] 72)).alloc (.cells #[.bool false,.slice bx mx dx,.slice bb my dy] 72))):=Φ (by go_grown);obtain⟨gq,hgq⟩:∃g,g=w.heap.size+1:=⟨_,rfl⟩;rw [← hgq] at KQ ⊢;clear hgq;generalize ((w.alloc (.cells #[.bool true,.slice ax nx cx,.slice ay ny cy] 72)).alloc (.cells #[.bool false,.slice bx mx dx,.slice bb my dy] 72))=w0 at KP KQ HB ⊢;obtain⟨a0,a1,a2⟩:=Bk.cells3 KP.out;obtain⟨b0,b1,b2⟩:=Bk.cells3 KQ.out;go_wp2_with fail;go_ret;exact⟨rfl,HB.out⟩
  ·clear hn hm;go_enter Tryz.func125,Tryz.ntmps125;go_wp2_with fail;have KP:Hid (Bk 72 ((w.alloc (.cells #[.bool true,.slice ax nx cx,.slice ay ny cy] 72)).alloc (.cells #[.bool true,.slice bx mx dx,.slice bb my dy] 72)) w.heap.size #[.bool true,.slice ax nx cx,.slice ay ny cy]):=Φ (Bk.alloc (Bk.new rfl));have KQ:Hid (Bk 72 ((w.alloc (.cells #[.bool true,.slice ax nx cx,.slice ay ny cy] 72)).alloc (.cells #[.bool true,.slice bx mx dx,.slice bb my dy] 72)) (w.heap.size+1) #[.bool true,.slice bx mx dx,.slice bb my dy]):=Φ (Bk.new (by simp));have HB:Hid (Below w.heap.size w ((w.alloc (.cells #[.bool true,.slice ax nx cx,.slice ay ny cy] 72)).alloc (.cells #[.bool true,.slice bx mx dx,.slice bb my dy] 72))):=Φ (by go_grown);obtain⟨gq,hgq⟩:∃g,g=w.heap.size+1:=⟨_,rfl⟩;rw [← hgq] at KQ ⊢;clear hgq;generalize ((w.alloc (.cells #[.bool true,.slice ax nx cx,.slice ay ny cy] 72)).alloc (.cells #[.bool true,.slice bx mx dx,.slice bb my dy] 72))=w0 at KP KQ HB ⊢;obtain⟨a0,a1,a2⟩:=Bk.cells3 KP.out;obtain⟨b0,b1,b2⟩:=Bk.cells3 KQ.out;go_wp2_with fail;go_ret;exact⟨rfl,HB.out⟩
end Ref
namespace Ref
open Go.RowKit Go.Proofs.YtpggkfdijmnmiaaGreat.Digits Limbs Curve
open Go.Lib renaming hid→Φ
set_option maxHeartbeats 16000000
variable {t0 t1 t3 t5 t6 t7 t8 t9 t10 t11 t12 t13 t14 t15 t16 t17 t18 t19 t20 t21 t22 t23 t24 t25 t26 t27 t28 t29 t30 t31 t32 t33 t34 t35 t36 t37 t38 t39 t40 t41 t42 t43 t44 t45 t46 t47 t48 t49 t50 t51 t52 t53 t54 t55 t56 t57 t58 t59 t60 t61 t62 t63 t64 t65 t66 t67 t68 t69 t70 t71 t72 t73:Value}{ds:List Deferred}{Q:Exit→Act→World→Prop}
def su5F (w0:World)(gP gQ gR xa ya xb yb:Nat)(nx cx ny cy mx dx my dy:Nat)(ax ay bx bb:Option Addr)(t0 t1 t5 t6 t7 t8 t9 t10 t11 t12 t13 t14 t15 t16 t22 t23 t24 t25 t26 t27 t28 t29 t30 t31 t32 t33 t34 t35 t36 t37 t38 t39 t40 t41 t42 t43 t44 t45 t46 t47 t48 t49 t50 t51 t52 t53 t54 t55 t56 t57 t58 t59 t60 t61 t62 t63 t64 t65 t66 t67 t68 t69 t70 t71 t72 t73:Value)(ds:List Deferred)(a:Act)(w:World): Prop:=
 ∃y0 y1 y2 y3:Value,∃wm:World,a={tmps:=#[t0,t1,.pointer (some ⟨gP,0,none⟩),.pointer (some ⟨gQ,0,none⟩),.pointer (some ⟨gR,0,none⟩),t5,t6,t7,t8,t9,t10,t11,t12,t13,t14,t15,t16,.bool (Po.same (Po.mk xa ya false) (Po.mk xb yb false).neg),y0,y1,y2,y3,t22,t23,t24,t25,t26,t27,t28,t29,t30,t31,t32,t33,t34,t35,t36,t37,t38,t39,t40,t41,t42,t43,t44,t45,t46,t47,t48,t49,t50,t51,t52,t53,t54,t55,t56,t57,t58,t59,t60,t61,t62,t63,t64,t65,t66,t67,t68,t69,t70,t71,t72,t73],defers:=ds}∧Below w0.heap.size w0 wm∧w=wm
def su5I (w0:World)(gP gQ gR xa ya xb yb:Nat)(nx cx ny cy mx dx my dy:Nat)(ax ay bx bb:Option Addr)(t0 t1 t5 t6 t7 t8 t9 t10 t11 t12 t13 t14 t15 t16 t22 t23 t24 t25 t26 t27 t28 t29 t30 t31 t32 t33 t34 t35 t36 t37 t38 t39 t40 t41 t42 t43 t44 t45 t46 t47 t48 t49 t50 t51 t52 t53 t54 t55 t56 t57 t58 t59 t60 t61 t62 t63 t64 t65 t66 t67 t68 t69 t70 t71 t72 t73:Value)(ds:List Deferred)(l:Array Bool)(a:Act)(w:World): Prop:=
 ∃j0 j1 j2 j3 j4:Bool,∃x0 x1 x2 x3 x4:Value,l=#[j0,j1,j2,j3,j4]∧a={tmps:=#[t0,t1,.pointer (some ⟨gP,0,none⟩),.pointer (some ⟨gQ,0,none⟩),.pointer (some ⟨gR,0,none⟩),t5,t6,t7,t8,t9,t10,t11,t12,t13,t14,t15,t16,x4,x0,x1,x2,x3,t22,t23,t24,t25,t26,t27,t28,t29,t30,t31,t32,t33,t34,t35,t36,t37,t38,t39,t40,t41,t42,t43,t44,t45,t46,t47,t48,t49,t50,t51,t52,t53,t54,t55,t56,t57,t58,t59,t60,t61,t62,t63,t64,t65,t66,t67,t68,t69,t70,t71,t72,t73],defers:=ds}∧Below w0.heap.size w0 w∧
 (j0=true→x0 = .agg #[.bool false,.slice ax nx cx,.slice ay ny cy])∧(j1=true→x1 = .agg #[.bool false,.slice bx mx dx,.slice bb my dy])∧(j2=true→RP w x2 ((Po.mk xb yb false).neg))∧(j3=true→x3 = .bool (Po.same (Po.mk xa ya false) (Po.mk xb yb false).neg))∧(j4=true→x4 = .bool (Po.same (Po.mk xa ya false) (Po.mk xb yb false).neg))
noncomputable def su5O:Array Oper:=(Tryz.f66.body.bind fun c=>findR c 5).getD #[]
theorem su5_steps (gP gQ gR xa ya xb yb:Nat)(nx cx ny cy mx dx my dy:Nat)(ax ay bx bb:Option Addr)(w:World)(KP:Bk 72 w gP #[.bool false,.slice ax nx cx,.slice ay ny cy])(KQ:Bk 72 w gQ #[.bool false,.slice bx mx dx,.slice bb my dy])(HY:yb<big)(HP:RP w (.agg #[.bool false,.slice ax nx cx,.slice ay ny cy]) (Po.mk xa ya false))(HQ:RP w (.agg #[.bool false,.slice bx mx dx,.slice bb my dy]) (Po.mk xb yb false))
  :
  ∀l a w',su5I w gP gQ gR xa ya xb yb nx cx ny cy mx dx my dy ax ay bx bb t0 t1 t5 t6 t7 t8 t9 t10 t11 t12 t13 t14 t15 t16 t22 t23 t24 t25 t26 t27 t28 t29 t30 t31 t32 t33 t34 t35 t36 t37 t38 t39 t40 t41 t42 t43 t44 t45 t46 t47 t48 t49 t50 t51 t52 t53 t54 t55 t56 t57 t58 t59 t60 t61 t62 t63 t64 t65 t66 t67 t68 t69 t70 t71 t72 t73 ds l a w'→∀i∈Region.ready .any su5O l,wpOp Tryz.prog su5O Q i (fun a' w''=>su5I w gP gQ gR xa ya xb yb nx cx ny cy mx dx my dy ax ay bx bb t0 t1 t5 t6 t7 t8 t9 t10 t11 t12 t13 t14 t15 t16 t22 t23 t24 t25 t26 t27 t28 t29 t30 t31 t32 t33 t34 t35 t36 t37 t38 t39 t40 t41 t42 t43 t44 t45 t46 t47 t48 t49 t50 t51 t52 t53 t54 t55 t56 t57 t58 t59 t60 t61 t62 t63 t64 t65 t66 t67 t68 t69 t70 t71 t72 t73 ds (l.setIfInBounds i true) a' w'') a w':=by
 simp only [su5O,findR,Tryz.f66,Option.bind_some,Option.or,Option.getD,Nat.reduceEqDiff,if_true,if_false,reduceIte];rintro l a w' hI i hi;rw [mem_ready] at hi;obtain⟨hu,oo,ho,hd⟩:=hi;have hin:i<5:=by
  have:=(Array.getElem?_eq_some_iff.1 ho).1
  simpa using this
 have hcase:i=0∨i=1∨i=2∨i=3∨i=4:=by omega
 obtain⟨j0,j1,j2,j3,j4,x0,x1,x2,x3,x4,rfl,rfl,hB,h0,h1,h2,h3,h4⟩:=hI;replace h0:=Φ h0;replace h1:=Φ h1;replace h2:=Φ h2;replace h3:=Φ h3;replace h4:=Φ h4;rcases hcase with rfl | rfl | rfl | rfl | rfl
 all_goals obtain rfl:=Option.some.inj ho
 all_goals simp [Region.binds] at hu hd
 ·clear hd;refine wpOp_of rfl rfl ?_;have i0:w'.cell? ⟨gP,0,none⟩=some (.bool false):=(KP.below hB).cell 0;have i1:w'.cell? ⟨gP,1,none⟩=some (.slice ax nx cx):=(KP.below hB).cell 1;have i2:w'.cell? ⟨gP,2,none⟩=some (.slice ay ny cy):=(KP.below hB).cell 2;go_simp;unfold su5I;exact⟨true,j1,j2,j3,j4,_,x1,x2,x3,x4,rfl,rfl,hB,fun _=>rfl,h1.out,h2.out,h3.out,h4.out⟩
 ·clear hd;refine wpOp_of rfl rfl ?_;have i0:w'.cell? ⟨gQ,0,none⟩=some (.bool false):=(KQ.below hB).cell 0;have i1:w'.cell? ⟨gQ,1,none⟩=some (.slice bx mx dx):=(KQ.below hB).cell 1;have i2:w'.cell? ⟨gQ,2,none⟩=some (.slice bb my dy):=(KQ.below hB).cell 2;go_simp;unfold su5I;exact⟨j0,true,j2,j3,j4,x0,_,x2,x3,x4,rfl,rfl,hB,h0.out,fun _=>rfl,h2.out,h3.out,h4.out⟩
 ·have d1:j1=true:=by simp [hd]
  obtain rfl:=h1.out d1;subst d1;clear hd;refine wpOp_of rfl rfl ?_;go_simp;go_at_call 126;refine(qk w.heap.size w (opp7 _ (Po.mk xb yb false) HY _ (HQ.below hB)) hB (Nat.le_refl _)).mono ?_;rintro e w2 ⟨v',rfl,hn',hB2,hb2⟩;unfold su5I;exact⟨j0,true,true,j3,j4,x0,_,_,x3,x4,rfl,rfl,hB2,h0.out,h1.out,fun _=>hn',h3.out,h4.out⟩
 ·have d0:j0=true:=by simp [hd]
  have d2:j2=true:=by simp [hd]
  obtain rfl:=h0.out d0;subst d0 d2;clear hd;refine wpOp_of rfl rfl ?_;go_simp;go_at_call 125;refine(keep w.heap.size w (same7 _ _ (Po.mk xa ya false) (Po.mk xb yb false).neg _ (HP.below hB) (h2.out rfl)) hB (Nat.le_refl _)).mono ?_;rintro e w2 ⟨rfl,hB2,hb2⟩;unfold su5I;exact⟨true,j1,true,true,j4,_,x1,x2,_,x4,rfl,rfl,hB2,h0.out,h1.out,fun hj=>(h2.out hj).below hb2,fun _=>rfl,h4.out⟩
 ·have d3:j3=true:=by simp [hd]
  obtain rfl:=h3.out d3;subst d3;clear hd;refine wpOp_of rfl rfl ?_;go_simp;unfold su5I;exact⟨j0,j1,j2,true,true,x0,x1,x2,_,_,rfl,rfl,hB,h0.out,h1.out,h2.out,h3.out,fun _=>rfl⟩
theorem su5_fin (gP gQ gR xa ya xb yb:Nat)(nx cx ny cy mx dx my dy:Nat)(ax ay bx bb:Option Addr)(w:World) : ∀l a w1,su5I w gP gQ gR xa ya xb yb nx cx ny cy mx dx my dy ax ay bx bb t0 t1 t5 t6 t7 t8 t9 t10 t11 t12 t13 t14 t15 t16 t22 t23 t24 t25 t26 t27 t28 t29 t30 t31 t32 t33 t34 t35 t36 t37 t38 t39 t40 t41 t42 t43 t44 t45 t46 t47 t48 t49 t50 t51 t52 t53 t54 t55 t56 t57 t58 t59 t60 t61 t62 t63 t64 t65 t66 t67 t68 t69 t70 t71 t72 t73 ds l a w1→Region.ready .any su5O l=[]→su5F w gP gQ gR xa ya xb yb nx cx ny cy mx dx my dy ax ay bx bb t0 t1 t5 t6 t7 t8 t9 t10 t11 t12 t13 t14 t15 t16 t22 t23 t24 t25 t26 t27 t28 t29 t30 t31 t32 t33 t34 t35 t36 t37 t38 t39 t40 t41 t42 t43 t44 t45 t46 t47 t48 t49 t50 t51 t52 t53 t54 t55 t56 t57 t58 t59 t60 t61 t62 t63 t64 t65 t66 t67 t68 t69 t70 t71 t72 t73 ds a w1:=by
 simp only [su5O,findR,Tryz.f66,Option.bind_some,Option.or,Option.getD,Nat.reduceEqDiff,if_true,if_false,reduceIte];rintro l a w1 hI hr;obtain⟨j0,j1,j2,j3,j4,x0,x1,x2,x3,x4,rfl,rfl,hB,h0,h1,h2,h3,h4⟩:=hI;have hn:=fun i=>List.eq_nil_iff_forall_not_mem.1 hr i
 clear hr;cases j0;exact(ab hn 0).elim
 cases j1;exact(ab hn 1).elim
 cases j2;exact(ab hn 2).elim
 cases j3;exact(ab hn 3).elim
 cases j4;exact(ab hn 4).elim
 obtain rfl:=h4 rfl;exact⟨_,_,_,_,w1,rfl,hB,rfl⟩
theorem su5 (gP gQ gR xa ya xb yb:Nat)(nx cx ny cy mx dx my dy:Nat)(ax ay bx bb:Option Addr)(w:World)(KP:Bk 72 w gP #[.bool false,.slice ax nx cx,.slice ay ny cy])(KQ:Bk 72 w gQ #[.bool false,.slice bx mx dx,.slice bb my dy])(HY:yb<big)(HP:RP w (.agg #[.bool false,.slice ax nx cx,.slice ay ny cy]) (Po.mk xa ya false))(HQ:RP w (.agg #[.bool false,.slice bx mx dx,.slice bb my dy]) (Po.mk xb yb false)) {K:Act→World→Prop} 
  (h:∀(y0 y1 y2 y3:Value) (w1:World) (hb:Below w.heap.size w w1),K {tmps:=#[t0,t1,.pointer (some ⟨gP,0,none⟩),.pointer (some ⟨gQ,0,none⟩),.pointer (some ⟨gR,0,none⟩),t5,t6,t7,t8,t9,t10,t11,t12,t13,t14,t15,t16,.bool (Po.same (Po.mk xa ya false) (Po.mk xb yb false).neg),y0,y1,y2,y3,t22,t23,t24,t25,t26,t27,t28,t29,t30,t31,t32,t33,t34,t35,t36,t37,t38,t39,t40,t41,t42,t43,t44,t45,t46,t47,t48,t49,t50,t51,t52,t53,t54,t55,t56,t57,t58,t59,t60,t61,t62,t63,t64,t65,t66,t67,t68,t69,t70,t71,t72,t73],defers:=ds} w1) :
  (Code.region 5 su5O true).wp Tryz.prog (Exit.then K Q) {tmps:=#[t0,t1,.pointer (some ⟨gP,0,none⟩),.pointer (some ⟨gQ,0,none⟩),.pointer (some ⟨gR,0,none⟩),t5,t6,t7,t8,t9,t10,t11,t12,t13,t14,t15,t16,t17,t18,t19,t20,t21,t22,t23,t24,t25,t26,t27,t28,t29,t30,t31,t32,t33,t34,t35,t36,t37,t38,t39,t40,t41,t42,t43,t44,t45,t46,t47,t48,t49,t50,t51,t52,t53,t54,t55,t56,t57,t58,t59,t60,t61,t62,t63,t64,t65,t66,t67,t68,t69,t70,t71,t72,t73],defers:=ds} w:=by
 have hsz:su5O.size=5:=by kernel_rfl
 refine wp_region_any (show Tryz.prog.follows .mixedOrders=true from by kernel_rfl) ?_;rw [hsz];refine wpAny_inv (I:=su5I w gP gQ gR xa ya xb yb nx cx ny cy mx dx my dy ax ay bx bb t0 t1 t5 t6 t7 t8 t9 t10 t11 t12 t13 t14 t15 t16 t22 t23 t24 t25 t26 t27 t28 t29 t30 t31 t32 t33 t34 t35 t36 t37 t38 t39 t40 t41 t42 t43 t44 t45 t46 t47 t48 t49 t50 t51 t52 t53 t54 t55 t56 t57 t58 t59 t60 t61 t62 t63 t64 t65 t66 t67 t68 t69 t70 t71 t72 t73 ds) (su5_steps gP gQ gR xa ya xb yb nx cx ny cy mx dx my dy ax ay bx bb w KP KQ HY HP HQ) (fun l a w' hI hr=>?_) 5 _ _ _ (by decide) ?_
 ·obtain⟨y0,y1,y2,y3,wm,rfl,hb,rfl⟩:=su5_fin gP gQ gR xa ya xb yb nx cx ny cy mx dx my dy ax ay bx bb w l a w' hI hr;exact h _ _ _ _ _ hb
 ·exact⟨false,false,false,false,false,t18,t19,t20,t21,t17,rfl,rfl,⟨rfl,rfl,rfl,Nat.le_refl _,fun _ _=>rfl⟩,(fun h=>by cases h),(fun h=>by cases h),(fun h=>by cases h),(fun h=>by cases h),(fun h=>by cases h)⟩
def su7F (w0:World)(gP gQ gR xa ya xb yb:Nat)(nx cx ny cy mx dx my dy:Nat)(ax ay bx bb:Option Addr)(t0 t1 t7 t8 t9 t10 t11 t12 t13 t14 t15 t16 t17 t18 t19 t20 t21 t22 t33 t34 t35 t36 t37 t38 t39 t40 t41 t42 t43 t44 t45 t46 t47 t48 t49 t50 t51 t52 t53 t54 t55 t56 t57 t58 t59 t60 t61 t62 t63 t64 t65 t66 t67 t68 t69 t70 t71 t72 t73:Value)(ds:List Deferred)(a:Act)(w:World): Prop:=
 ∃y0 y1 y2 y3 y4 y5 y6 y7 y8 y9 y10 y11:Value,∃wm:World,a={tmps:=#[t0,t1,.pointer (some ⟨gP,0,none⟩),.pointer (some ⟨gQ,0,none⟩),.pointer (some ⟨gR,0,none⟩),y10,y11,t7,t8,t9,t10,t11,t12,t13,t14,t15,t16,t17,t18,t19,t20,t21,t22,y0,y1,y2,y3,y4,y5,y6,y7,y8,y9,t33,t34,t35,t36,t37,t38,t39,t40,t41,t42,t43,t44,t45,t46,t47,t48,t49,t50,t51,t52,t53,t54,t55,t56,t57,t58,t59,t60,t61,t62,t63,t64,t65,t66,t67,t68,t69,t70,t71,t72,t73],defers:=ds}∧Below w0.heap.size w0 wm∧w=wm∧NV wm y10 (sj yb ya)∧NV wm y11 (sj xb xa)
def su7I (w0:World)(gP gQ gR xa ya xb yb:Nat)(nx cx ny cy mx dx my dy:Nat)(ax ay bx bb:Option Addr)(t0 t1 t7 t8 t9 t10 t11 t12 t13 t14 t15 t16 t17 t18 t19 t20 t21 t22 t33 t34 t35 t36 t37 t38 t39 t40 t41 t42 t43 t44 t45 t46 t47 t48 t49 t50 t51 t52 t53 t54 t55 t56 t57 t58 t59 t60 t61 t62 t63 t64 t65 t66 t67 t68 t69 t70 t71 t72 t73:Value)(ds:List Deferred)(l:Array Bool)(a:Act)(w:World): Prop:=
 ∃j0 j1 j2 j3 j4 j5 j6 j7 j8 j9 j10 j11:Bool,∃x0 x1 x2 x3 x4 x5 x6 x7 x8 x9 x10 x11:Value,l=#[j0,j1,j2,j3,j4,j5,j6,j7,j8,j9,j10,j11]∧a={tmps:=#[t0,t1,.pointer (some ⟨gP,0,none⟩),.pointer (some ⟨gQ,0,none⟩),.pointer (some ⟨gR,0,none⟩),x10,x11,t7,t8,t9,t10,t11,t12,t13,t14,t15,t16,t17,t18,t19,t20,t21,t22,x0,x1,x2,x3,x4,x5,x6,x7,x8,x9,t33,t34,t35,t36,t37,t38,t39,t40,t41,t42,t43,t44,t45,t46,t47,t48,t49,t50,t51,t52,t53,t54,t55,t56,t57,t58,t59,t60,t61,t62,t63,t64,t65,t66,t67,t68,t69,t70,t71,t72,t73],defers:=ds}∧Below w0.heap.size w0 w∧
 (j0=true→x0 = .pointer (some ⟨gQ,2,none⟩))∧(j1=true→x1 = .slice bb my dy)∧(j2=true→x2 = .pointer (some ⟨gP,2,none⟩))∧(j3=true→x3 = .slice ay ny cy)∧(j4=true→NV w x4 (sj yb ya))∧(j5=true→x5 = .pointer (some ⟨gQ,1,none⟩))∧(j6=true→x6 = .slice bx mx dx)∧(j7=true→x7 = .pointer (some ⟨gP,1,none⟩))∧(j8=true→x8 = .slice ax nx cx)∧(j9=true→NV w x9 (sj xb xa))∧(j10=true→NV w x10 (sj yb ya))∧(j11=true→NV w x11 (sj xb xa))
noncomputable def su7O:Array Oper:=(Tryz.f66.body.bind fun c=>findR c 7).getD #[]
theorem su7_steps (gP gQ gR xa ya xb yb:Nat)(nx cx ny cy mx dx my dy:Nat)(ax ay bx bb:Option Addr)(w:World)(KP:Bk 72 w gP #[.bool false,.slice ax nx cx,.slice ay ny cy])(KQ:Bk 72 w gQ #[.bool false,.slice bx mx dx,.slice bb my dy])(HB1:xa<big)(HB2:ya<big)(HB3:xb<big)(HB4:yb<big)(N1:NV w (.slice ax nx cx) xa)(N2:NV w (.slice ay ny cy) ya)(N3:NV w (.slice bx mx dx) xb)(N4:NV w (.slice bb my dy) yb)
  :
  ∀l a w',su7I w gP gQ gR xa ya xb yb nx cx ny cy mx dx my dy ax ay bx bb t0 t1 t7 t8 t9 t10 t11 t12 t13 t14 t15 t16 t17 t18 t19 t20 t21 t22 t33 t34 t35 t36 t37 t38 t39 t40 t41 t42 t43 t44 t45 t46 t47 t48 t49 t50 t51 t52 t53 t54 t55 t56 t57 t58 t59 t60 t61 t62 t63 t64 t65 t66 t67 t68 t69 t70 t71 t72 t73 ds l a w'→∀i∈Region.ready .any su7O l,wpOp Tryz.prog su7O Q i (fun a' w''=>su7I w gP gQ gR xa ya xb yb nx cx ny cy mx dx my dy ax ay bx bb t0 t1 t7 t8 t9 t10 t11 t12 t13 t14 t15 t16 t17 t18 t19 t20 t21 t22 t33 t34 t35 t36 t37 t38 t39 t40 t41 t42 t43 t44 t45 t46 t47 t48 t49 t50 t51 t52 t53 t54 t55 t56 t57 t58 t59 t60 t61 t62 t63 t64 t65 t66 t67 t68 t69 t70 t71 t72 t73 ds (l.setIfInBounds i true) a' w'') a w':=by
 simp only [su7O,findR,Tryz.f66,Option.bind_some,Option.or,Option.getD,Nat.reduceEqDiff,if_true,if_false,reduceIte];rintro l a w' hI i hi;rw [mem_ready] at hi;obtain⟨hu,oo,ho,hd⟩:=hi;have hin:i<12:=by
  have:=(Array.getElem?_eq_some_iff.1 ho).1
  simpa using this
 have hcase:i=0∨i=1∨i=2∨i=3∨i=4∨i=5∨i=6∨i=7∨i=8∨i=9∨i=10∨i=11:=by omega
 obtain⟨j0,j1,j2,j3,j4,j5,j6,j7,j8,j9,j10,j11,x0,x1,x2,x3,x4,x5,x6,x7,x8,x9,x10,x11,rfl,rfl,hB,h0,h1,h2,h3,h4,h5,h6,h7,h8,h9,h10,h11⟩:=hI;replace h0:=Φ h0;replace h1:=Φ h1;replace h2:=Φ h2;replace h3:=Φ h3;replace h4:=Φ h4;replace h5:=Φ h5;replace h6:=Φ h6;replace h7:=Φ h7;replace h8:=Φ h8;replace h9:=Φ h9;replace h10:=Φ h10;replace h11:=Φ h11;rcases hcase with rfl | rfl | rfl | rfl | rfl | rfl | rfl | rfl | rfl | rfl | rfl | rfl
 all_goals obtain rfl:=Option.some.inj ho
 all_goals simp [Region.binds] at hu hd
 ·clear hd;refine wpOp_of rfl rfl ?_;go_simp;unfold su7I;exact⟨true,j1,j2,j3,j4,j5,j6,j7,j8,j9,j10,j11,_,x1,x2,x3,x4,x5,x6,x7,x8,x9,x10,x11,rfl,rfl,hB,fun _=>rfl,h1.out,h2.out,h3.out,h4.out,h5.out,h6.out,h7.out,h8.out,h9.out,h10.out,h11.out⟩
 ·have d0:j0=true:=by simp [hd]
  obtain rfl:=h0.out d0;subst d0;clear hd;refine wpOp_of rfl rfl ?_;have i2:w'.cell? ⟨gQ,2,none⟩=some (.slice bb my dy):=(KQ.below hB).cell 2;go_simp;unfold su7I;exact⟨true,true,j2,j3,j4,j5,j6,j7,j8,j9,j10,j11,_,_,x2,x3,x4,x5,x6,x7,x8,x9,x10,x11,rfl,rfl,hB,h0.out,fun _=>rfl,h2.out,h3.out,h4.out,h5.out,h6.out,h7.out,h8.out,h9.out,h10.out,h11.out⟩
 ·clear hd;refine wpOp_of rfl rfl ?_;go_simp;unfold su7I;exact⟨j0,j1,true,j3,j4,j5,j6,j7,j8,j9,j10,j11,x0,x1,_,x3,x4,x5,x6,x7,x8,x9,x10,x11,rfl,rfl,hB,h0.out,h1.out,fun _=>rfl,h3.out,h4.out,h5.out,h6.out,h7.out,h8.out,h9.out,h10.out,h11.out⟩
 ·have d2:j2=true:=by simp [hd]
  obtain rfl:=h2.out d2;subst d2;clear hd;refine wpOp_of rfl rfl ?_;have i2:w'.cell? ⟨gP,2,none⟩=some (.slice ay ny cy):=(KP.below hB).cell 2;go_simp;unfold su7I;exact⟨j0,j1,true,true,j4,j5,j6,j7,j8,j9,j10,j11,x0,x1,_,_,x4,x5,x6,x7,x8,x9,x10,x11,rfl,rfl,hB,h0.out,h1.out,h2.out,fun _=>rfl,h4.out,h5.out,h6.out,h7.out,h8.out,h9.out,h10.out,h11.out⟩
 ·have d1:j1=true:=by simp [hd]
  have d3:j3=true:=by simp [hd]
  obtain rfl:=h1.out d1;obtain rfl:=h3.out d3;subst d1 d3;clear hd;refine wpOp_of rfl rfl ?_;go_simp;go_at_call 116;refine(nk w.heap.size w (minus_nv' _ _ _ yb ya HB4 HB2 (N4.below hB) (N2.below hB)) hB (Nat.le_refl _)).mono ?_;rintro e w2 ⟨v',rfl,hn',hB2,hb2⟩;unfold su7I;exact⟨j0,true,j2,true,true,j5,j6,j7,j8,j9,j10,j11,x0,_,x2,_,_,x5,x6,x7,x8,x9,x10,x11,rfl,rfl,hB2,h0.out,h1.out,h2.out,h3.out,fun _=>hn',h5.out,h6.out,h7.out,h8.out,fun hj=>(h9.out hj).below hb2,fun hj=>(h10.out hj).below hb2,fun hj=>(h11.out hj).below hb2⟩
 ·clear hd;refine wpOp_of rfl rfl ?_;go_simp;unfold su7I;exact⟨j0,j1,j2,j3,j4,true,j6,j7,j8,j9,j10,j11,x0,x1,x2,x3,x4,_,x6,x7,x8,x9,x10,x11,rfl,rfl,hB,h0.out,h1.out,h2.out,h3.out,h4.out,fun _=>rfl,h6.out,h7.out,h8.out,h9.out,h10.out,h11.out⟩
 ·have d5:j5=true:=by simp [hd]
  obtain rfl:=h5.out d5;subst d5;clear hd;refine wpOp_of rfl rfl ?_;have i1:w'.cell? ⟨gQ,1,none⟩=some (.slice bx mx dx):=(KQ.below hB).cell 1;go_simp;unfold su7I;exact⟨j0,j1,j2,j3,j4,true,true,j7,j8,j9,j10,j11,x0,x1,x2,x3,x4,_,_,x7,x8,x9,x10,x11,rfl,rfl,hB,h0.out,h1.out,h2.out,h3.out,h4.out,h5.out,fun _=>rfl,h7.out,h8.out,h9.out,h10.out,h11.out⟩
 ·clear hd;refine wpOp_of rfl rfl ?_;go_simp;unfold su7I;exact⟨j0,j1,j2,j3,j4,j5,j6,true,j8,j9,j10,j11,x0,x1,x2,x3,x4,x5,x6,_,x8,x9,x10,x11,rfl,rfl,hB,h0.out,h1.out,h2.out,h3.out,h4.out,h5.out,h6.out,fun _=>rfl,h8.out,h9.out,h10.out,h11.out⟩
 ·have d7:j7=true:=by simp [hd]
  obtain rfl:=h7.out d7;subst d7;clear hd;refine wpOp_of rfl rfl ?_;have i1:w'.cell? ⟨gP,1,none⟩=some (.slice ax nx cx):=(KP.below hB).cell 1;go_simp;unfold su7I;exact⟨j0,j1,j2,j3,j4,j5,j6,true,true,j9,j10,j11,x0,x1,x2,x3,x4,x5,x6,_,_,x9,x10,x11,rfl,rfl,hB,h0.out,h1.out,h2.out,h3.out,h4.out,h5.out,h6.out,h7.out,fun _=>rfl,h9.out,h10.out,h11.out⟩
 ·have d4:j4=true:=by simp [hd]
  have d6:j6=true:=by simp [hd]
  have d8:j8=true:=by simp [hd]
  obtain rfl:=h6.out d6;obtain rfl:=h8.out d8;subst d4 d6 d8;clear hd;refine wpOp_of rfl rfl ?_;go_simp;go_at_call 116;refine(nk w.heap.size w (minus_nv' _ _ _ xb xa HB3 HB1 (N3.below hB) (N1.below hB)) hB (Nat.le_refl _)).mono ?_;rintro e w2 ⟨v',rfl,hn',hB2,hb2⟩;unfold su7I;exact⟨j0,j1,j2,j3,true,j5,true,j7,true,true,j10,j11,x0,x1,x2,x3,x4,x5,_,x7,_,_,x10,x11,rfl,rfl,hB2,h0.out,h1.out,h2.out,h3.out,fun hj=>(h4.out hj).below hb2,h5.out,h6.out,h7.out,h8.out,fun _=>hn',fun hj=>(h10.out hj).below hb2,fun hj=>(h11.out hj).below hb2⟩
 ·have d0:j0=true:=by simp [hd]
  have d1:j1=true:=by simp [hd]
  have d2:j2=true:=by simp [hd]
  have d3:j3=true:=by simp [hd]
  have d4:j4=true:=by simp [hd]
  have d9:j9=true:=by simp [hd]
  obtain rfl:=h0.out d0;obtain rfl:=h1.out d1;obtain rfl:=h2.out d2;obtain rfl:=h3.out d3;subst d0 d1;subst d2 d3;subst d4 d9;clear hd;refine wpOp_of rfl rfl ?_;go_simp;unfold su7I;exact⟨true,true,true,true,true,j5,j6,j7,j8,true,true,j11,_,_,_,_,x4,x5,x6,x7,x8,x9,_,x11,rfl,rfl,hB,h0.out,h1.out,h2.out,h3.out,h4.out,h5.out,h6.out,h7.out,h8.out,h9.out,fun _=>h4.out rfl,h11.out⟩
 ·have d0:j0=true:=by simp [hd]
  have d1:j1=true:=by simp [hd]
  have d2:j2=true:=by simp [hd]
  have d3:j3=true:=by simp [hd]
  have d4:j4=true:=by simp [hd]
  have d5:j5=true:=by simp [hd]
  have d6:j6=true:=by simp [hd]
  have d7:j7=true:=by simp [hd]
  have d8:j8=true:=by simp [hd]
  have d9:j9=true:=by simp [hd]
  have d10:j10=true:=by simp [hd]
  obtain rfl:=h0.out d0;obtain rfl:=h1.out d1;obtain rfl:=h2.out d2;obtain rfl:=h3.out d3;obtain rfl:=h5.out d5;obtain rfl:=h6.out d6;obtain rfl:=h7.out d7;obtain rfl:=h8.out d8;subst d0 d1;subst d2 d3;subst d4 d5;subst d6 d7;subst d8 d9 d10;clear hd;refine wpOp_of rfl rfl ?_;go_simp;unfold su7I;exact⟨true,true,true,true,true,true,true,true,true,true,true,true,_,_,_,_,x4,_,_,_,_,x9,x10,_,rfl,rfl,hB,h0.out,h1.out,h2.out,h3.out,h4.out,h5.out,h6.out,h7.out,h8.out,h9.out,h10.out,fun _=>h9.out rfl⟩
theorem su7_fin (gP gQ gR xa ya xb yb:Nat)(nx cx ny cy mx dx my dy:Nat)(ax ay bx bb:Option Addr)(w:World) : ∀l a w1,su7I w gP gQ gR xa ya xb yb nx cx ny cy mx dx my dy ax ay bx bb t0 t1 t7 t8 t9 t10 t11 t12 t13 t14 t15 t16 t17 t18 t19 t20 t21 t22 t33 t34 t35 t36 t37 t38 t39 t40 t41 t42 t43 t44 t45 t46 t47 t48 t49 t50 t51 t52 t53 t54 t55 t56 t57 t58 t59 t60 t61 t62 t63 t64 t65 t66 t67 t68 t69 t70 t71 t72 t73 ds l a w1→Region.ready .any su7O l=[]→su7F w gP gQ gR xa ya xb yb nx cx ny cy mx dx my dy ax ay bx bb t0 t1 t7 t8 t9 t10 t11 t12 t13 t14 t15 t16 t17 t18 t19 t20 t21 t22 t33 t34 t35 t36 t37 t38 t39 t40 t41 t42 t43 t44 t45 t46 t47 t48 t49 t50 t51 t52 t53 t54 t55 t56 t57 t58 t59 t60 t61 t62 t63 t64 t65 t66 t67 t68 t69 t70 t71 t72 t73 ds a w1:=by
 simp only [su7O,findR,Tryz.f66,Option.bind_some,Option.or,Option.getD,Nat.reduceEqDiff,if_true,if_false,reduceIte];rintro l a w1 hI hr;obtain⟨j0,j1,j2,j3,j4,j5,j6,j7,j8,j9,j10,j11,x0,x1,x2,x3,x4,x5,x6,x7,x8,x9,x10,x11,rfl,rfl,hB,h0,h1,h2,h3,h4,h5,h6,h7,h8,h9,h10,h11⟩:=hI;have hn:=fun i=>List.eq_nil_iff_forall_not_mem.1 hr i
 clear hr;cases j0;exact(ab hn 0).elim
 cases j1;exact(ab hn 1).elim
 cases j2;exact(ab hn 2).elim
 cases j3;exact(ab hn 3).elim
 cases j4;exact(ab hn 4).elim
 cases j5;exact(ab hn 5).elim
 cases j6;exact(ab hn 6).elim
 cases j7;exact(ab hn 7).elim
 cases j8;exact(ab hn 8).elim
 cases j9;exact(ab hn 9).elim
 cases j10;exact(ab hn 10).elim
 cases j11;exact(ab hn 11).elim
 exact⟨_,_,_,_,_,_,_,_,_,_,_,_,w1,rfl,hB,rfl,h10 rfl,h11 rfl⟩
theorem su7 (gP gQ gR xa ya xb yb:Nat)(nx cx ny cy mx dx my dy:Nat)(ax ay bx bb:Option Addr)(w:World)(KP:Bk 72 w gP #[.bool false,.slice ax nx cx,.slice ay ny cy])(KQ:Bk 72 w gQ #[.bool false,.slice bx mx dx,.slice bb my dy])(HB1:xa<big)(HB2:ya<big)(HB3:xb<big)(HB4:yb<big)(N1:NV w (.slice ax nx cx) xa)(N2:NV w (.slice ay ny cy) ya)(N3:NV w (.slice bx mx dx) xb)(N4:NV w (.slice bb my dy) yb) {K:Act→World→Prop} 
  (h:∀(y0 y1 y2 y3 y4 y5 y6 y7 y8 y9 y10 y11:Value) (w1:World) (hb:Below w.heap.size w w1) (hn10:NV w1 y10 (sj yb ya)) (hn11:NV w1 y11 (sj xb xa)),K {tmps:=#[t0,t1,.pointer (some ⟨gP,0,none⟩),.pointer (some ⟨gQ,0,none⟩),.pointer (some ⟨gR,0,none⟩),y10,y11,t7,t8,t9,t10,t11,t12,t13,t14,t15,t16,t17,t18,t19,t20,t21,t22,y0,y1,y2,y3,y4,y5,y6,y7,y8,y9,t33,t34,t35,t36,t37,t38,t39,t40,t41,t42,t43,t44,t45,t46,t47,t48,t49,t50,t51,t52,t53,t54,t55,t56,t57,t58,t59,t60,t61,t62,t63,t64,t65,t66,t67,t68,t69,t70,t71,t72,t73],defers:=ds} w1) :
  (Code.region 7 su7O true).wp Tryz.prog (Exit.then K Q) {tmps:=#[t0,t1,.pointer (some ⟨gP,0,none⟩),.pointer (some ⟨gQ,0,none⟩),.pointer (some ⟨gR,0,none⟩),t5,t6,t7,t8,t9,t10,t11,t12,t13,t14,t15,t16,t17,t18,t19,t20,t21,t22,t23,t24,t25,t26,t27,t28,t29,t30,t31,t32,t33,t34,t35,t36,t37,t38,t39,t40,t41,t42,t43,t44,t45,t46,t47,t48,t49,t50,t51,t52,t53,t54,t55,t56,t57,t58,t59,t60,t61,t62,t63,t64,t65,t66,t67,t68,t69,t70,t71,t72,t73],defers:=ds} w:=by
 have hsz:su7O.size=12:=by kernel_rfl
 refine wp_region_any (show Tryz.prog.follows .mixedOrders=true from by kernel_rfl) ?_;rw [hsz];refine wpAny_inv (I:=su7I w gP gQ gR xa ya xb yb nx cx ny cy mx dx my dy ax ay bx bb t0 t1 t7 t8 t9 t10 t11 t12 t13 t14 t15 t16 t17 t18 t19 t20 t21 t22 t33 t34 t35 t36 t37 t38 t39 t40 t41 t42 t43 t44 t45 t46 t47 t48 t49 t50 t51 t52 t53 t54 t55 t56 t57 t58 t59 t60 t61 t62 t63 t64 t65 t66 t67 t68 t69 t70 t71 t72 t73 ds) (su7_steps gP gQ gR xa ya xb yb nx cx ny cy mx dx my dy ax ay bx bb w KP KQ HB1 HB2 HB3 HB4 N1 N2 N3 N4) (fun l a w' hI hr=>?_) 12 _ _ _ (by decide) ?_
 ·obtain⟨y0,y1,y2,y3,y4,y5,y6,y7,y8,y9,y10,y11,wm,rfl,hb,rfl,hn10,hn11⟩:=su7_fin gP gQ gR xa ya xb yb nx cx ny cy mx dx my dy ax ay bx bb w l a w' hI hr;exact h _ _ _ _ _ _ _ _ _ _ _ _ _ hb hn10 hn11
 ·exact⟨false,false,false,false,false,false,false,false,false,false,false,false,t23,t24,t25,t26,t27,t28,t29,t30,t31,t32,t5,t6,rfl,rfl,⟨rfl,rfl,rfl,Nat.le_refl _,fun _ _=>rfl⟩,(fun h=>by cases h),(fun h=>by cases h),(fun h=>by cases h),(fun h=>by cases h),(fun h=>by cases h),(fun h=>by cases h),(fun h=>by cases h),(fun h=>by cases h),(fun h=>by cases h),(fun h=>by cases h),(fun h=>by cases h),(fun h=>by cases h)⟩
def su12F (w0:World)(gP gQ gR xa xb s:Nat)(nyb myb:Value)(nx cx mx dx:Nat)(ax bx:Option Addr)(vs:Value)(t0 t1 t5 t6 t9 t10 t11 t12 t13 t14 t15 t16 t17 t18 t19 t20 t21 t22 t23 t24 t25 t26 t27 t28 t29 t30 t31 t32 t33 t34 t35 t36 t37 t38 t39 t40 t41 t42 t43 t44 t45 t46 t47 t48 t49 t50 t51 t52 t53 t63 t64 t65 t66 t67 t68 t69 t70 t71 t72 t73:Value)(ds:List Deferred)(a:Act)(w:World): Prop:=
 ∃y0 y1 y2 y3 y4 y5 y6 y7 y8 y9:Value,∃wm:World,a={tmps:=#[t0,t1,.pointer (some ⟨gP,0,none⟩),.pointer (some ⟨gQ,0,none⟩),.pointer (some ⟨gR,0,none⟩),t5,t6,vs,y9,t9,t10,t11,t12,t13,t14,t15,t16,t17,t18,t19,t20,t21,t22,t23,t24,t25,t26,t27,t28,t29,t30,t31,t32,t33,t34,t35,t36,t37,t38,t39,t40,t41,t42,t43,t44,t45,t46,t47,t48,t49,t50,t51,t52,t53,y0,y1,y2,y3,y4,y5,y6,y7,y8,t63,t64,t65,t66,t67,t68,t69,t70,t71,t72,t73],defers:=ds}∧Below w0.heap.size w0 wm∧w=wm∧NV wm y9 (sj (sj (mj s s) xa) xb)
def su12I (w0:World)(gP gQ gR xa xb s:Nat)(nyb myb:Value)(nx cx mx dx:Nat)(ax bx:Option Addr)(vs:Value)(t0 t1 t5 t6 t9 t10 t11 t12 t13 t14 t15 t16 t17 t18 t19 t20 t21 t22 t23 t24 t25 t26 t27 t28 t29 t30 t31 t32 t33 t34 t35 t36 t37 t38 t39 t40 t41 t42 t43 t44 t45 t46 t47 t48 t49 t50 t51 t52 t53 t63 t64 t65 t66 t67 t68 t69 t70 t71 t72 t73:Value)(ds:List Deferred)(l:Array Bool)(a:Act)(w:World): Prop:=
 ∃j0 j1 j2 j3 j4 j5 j6 j7 j8 j9:Bool,∃x0 x1 x2 x3 x4 x5 x6 x7 x8 x9:Value,l=#[j0,j1,j2,j3,j4,j5,j6,j7,j8,j9]∧a={tmps:=#[t0,t1,.pointer (some ⟨gP,0,none⟩),.pointer (some ⟨gQ,0,none⟩),.pointer (some ⟨gR,0,none⟩),t5,t6,vs,x9,t9,t10,t11,t12,t13,t14,t15,t16,t17,t18,t19,t20,t21,t22,t23,t24,t25,t26,t27,t28,t29,t30,t31,t32,t33,t34,t35,t36,t37,t38,t39,t40,t41,t42,t43,t44,t45,t46,t47,t48,t49,t50,t51,t52,t53,x0,x1,x2,x3,x4,x5,x6,x7,x8,t63,t64,t65,t66,t67,t68,t69,t70,t71,t72,t73],defers:=ds}∧Below w0.heap.size w0 w∧
 (j0=true→x0=vs)∧(j1=true→x1=vs)∧(j2=true→NV w x2 (mj s s))∧(j3=true→x3 = .pointer (some ⟨gP,1,none⟩))∧(j4=true→x4 = .slice ax nx cx)∧(j5=true→NV w x5 (sj (mj s s) xa))∧(j6=true→x6 = .pointer (some ⟨gQ,1,none⟩))∧(j7=true→x7 = .slice bx mx dx)∧(j8=true→NV w x8 (sj (sj (mj s s) xa) xb))∧(j9=true→NV w x9 (sj (sj (mj s s) xa) xb))
noncomputable def su12O:Array Oper:=(Tryz.f66.body.bind fun c=>findR c 12).getD #[]
theorem su12_steps (gP gQ gR xa xb s:Nat)(nyb myb:Value)(nx cx mx dx:Nat)(ax bx:Option Addr)(vs:Value)(w:World)(KP:Bk 72 w gP #[.bool false,.slice ax nx cx,nyb])(KQ:Bk 72 w gQ #[.bool false,.slice bx mx dx,myb])(HB1:xa<big)(HB3:xb<big)(HS:s<big)(N1:NV w (.slice ax nx cx) xa)(N3:NV w (.slice bx mx dx) xb)(NS:NV w vs s)
  :
  ∀l a w',su12I w gP gQ gR xa xb s nyb myb nx cx mx dx ax bx vs t0 t1 t5 t6 t9 t10 t11 t12 t13 t14 t15 t16 t17 t18 t19 t20 t21 t22 t23 t24 t25 t26 t27 t28 t29 t30 t31 t32 t33 t34 t35 t36 t37 t38 t39 t40 t41 t42 t43 t44 t45 t46 t47 t48 t49 t50 t51 t52 t53 t63 t64 t65 t66 t67 t68 t69 t70 t71 t72 t73 ds l a w'→∀i∈Region.ready .any su12O l,wpOp Tryz.prog su12O Q i (fun a' w''=>su12I w gP gQ gR xa xb s nyb myb nx cx mx dx ax bx vs t0 t1 t5 t6 t9 t10 t11 t12 t13 t14 t15 t16 t17 t18 t19 t20 t21 t22 t23 t24 t25 t26 t27 t28 t29 t30 t31 t32 t33 t34 t35 t36 t37 t38 t39 t40 t41 t42 t43 t44 t45 t46 t47 t48 t49 t50 t51 t52 t53 t63 t64 t65 t66 t67 t68 t69 t70 t71 t72 t73 ds (l.setIfInBounds i true) a' w'') a w':=by
 simp only [su12O,findR,Tryz.f66,Option.bind_some,Option.or,Option.getD,Nat.reduceEqDiff,if_true,if_false,reduceIte];rintro l a w' hI i hi;rw [mem_ready] at hi;obtain⟨hu,oo,ho,hd⟩:=hi;have hin:i<10:=by
  have:=(Array.getElem?_eq_some_iff.1 ho).1
  simpa using this
 have hcase:i=0∨i=1∨i=2∨i=3∨i=4∨i=5∨i=6∨i=7∨i=8∨i=9:=by omega
 obtain⟨j0,j1,j2,j3,j4,j5,j6,j7,j8,j9,x0,x1,x2,x3,x4,x5,x6,x7,x8,x9,rfl,rfl,hB,h0,h1,h2,h3,h4,h5,h6,h7,h8,h9⟩:=hI;replace h0:=Φ h0;replace h1:=Φ h1;replace h2:=Φ h2;replace h3:=Φ h3;replace h4:=Φ h4;replace h5:=Φ h5;replace h6:=Φ h6;replace h7:=Φ h7;replace h8:=Φ h8;replace h9:=Φ h9;rcases hcase with rfl | rfl | rfl | rfl | rfl | rfl | rfl | rfl | rfl | rfl
 all_goals obtain rfl:=Option.some.inj ho
 all_goals simp [Region.binds] at hu hd
 ·clear hd;refine wpOp_of rfl rfl ?_;go_simp;unfold su12I;exact⟨true,j1,j2,j3,j4,j5,j6,j7,j8,j9,_,x1,x2,x3,x4,x5,x6,x7,x8,x9,rfl,rfl,hB,fun _=>rfl,h1.out,h2.out,h3.out,h4.out,h5.out,h6.out,h7.out,h8.out,h9.out⟩
 ·clear hd;refine wpOp_of rfl rfl ?_;go_simp;unfold su12I;exact⟨j0,true,j2,j3,j4,j5,j6,j7,j8,j9,x0,_,x2,x3,x4,x5,x6,x7,x8,x9,rfl,rfl,hB,h0.out,fun _=>rfl,h2.out,h3.out,h4.out,h5.out,h6.out,h7.out,h8.out,h9.out⟩
 ·have d0:j0=true:=by simp [hd]
  have d1:j1=true:=by simp [hd]
  obtain rfl:=h0.out d0;obtain rfl:=h1.out d1;subst d0 d1;clear hd;refine wpOp_of rfl rfl ?_;go_simp;go_at_call 117;refine(nk w.heap.size w (times_nv _ _ _ s s HS HS (NS.below hB) (NS.below hB)) hB (Nat.le_refl _)).mono ?_;rintro e w2 ⟨v',rfl,hn',hB2,hb2⟩;unfold su12I;exact⟨true,true,true,j3,j4,j5,j6,j7,j8,j9,_,_,_,x3,x4,x5,x6,x7,x8,x9,rfl,rfl,hB2,h0.out,h1.out,fun _=>hn',h3.out,h4.out,fun hj=>(h5.out hj).below hb2,h6.out,h7.out,fun hj=>(h8.out hj).below hb2,fun hj=>(h9.out hj).below hb2⟩
 ·clear hd;refine wpOp_of rfl rfl ?_;go_simp;unfold su12I;exact⟨j0,j1,j2,true,j4,j5,j6,j7,j8,j9,x0,x1,x2,_,x4,x5,x6,x7,x8,x9,rfl,rfl,hB,h0.out,h1.out,h2.out,fun _=>rfl,h4.out,h5.out,h6.out,h7.out,h8.out,h9.out⟩
 ·have d3:j3=true:=by simp [hd]
  obtain rfl:=h3.out d3;subst d3;clear hd;refine wpOp_of rfl rfl ?_;have i1:w'.cell? ⟨gP,1,none⟩=some (.slice ax nx cx):=(KP.below hB).cell 1;go_simp;unfold su12I;exact⟨j0,j1,j2,true,true,j5,j6,j7,j8,j9,x0,x1,x2,_,_,x5,x6,x7,x8,x9,rfl,rfl,hB,h0.out,h1.out,h2.out,h3.out,fun _=>rfl,h5.out,h6.out,h7.out,h8.out,h9.out⟩
 ·have d2:j2=true:=by simp [hd]
  have d4:j4=true:=by simp [hd]
  obtain rfl:=h4.out d4;subst d2 d4;clear hd;refine wpOp_of rfl rfl ?_;go_simp;go_at_call 116;refine(nk w.heap.size w (minus_nv' _ _ _ (mj s s) xa (mj_b _ _) HB1 (h2.out rfl) (N1.below hB)) hB (Nat.le_refl _)).mono ?_;rintro e w2 ⟨v',rfl,hn',hB2,hb2⟩;unfold su12I;exact⟨j0,j1,true,j3,true,true,j6,j7,j8,j9,x0,x1,x2,x3,_,_,x6,x7,x8,x9,rfl,rfl,hB2,h0.out,h1.out,fun hj=>(h2.out hj).below hb2,h3.out,h4.out,fun _=>hn',h6.out,h7.out,fun hj=>(h8.out hj).below hb2,fun hj=>(h9.out hj).below hb2⟩
 ·clear hd;refine wpOp_of rfl rfl ?_;go_simp;unfold su12I;exact⟨j0,j1,j2,j3,j4,j5,true,j7,j8,j9,x0,x1,x2,x3,x4,x5,_,x7,x8,x9,rfl,rfl,hB,h0.out,h1.out,h2.out,h3.out,h4.out,h5.out,fun _=>rfl,h7.out,h8.out,h9.out⟩
 ·have d6:j6=true:=by simp [hd]
  obtain rfl:=h6.out d6;subst d6;clear hd;refine wpOp_of rfl rfl ?_;have i1:w'.cell? ⟨gQ,1,none⟩=some (.slice bx mx dx):=(KQ.below hB).cell 1;go_simp;unfold su12I;exact⟨j0,j1,j2,j3,j4,j5,true,true,j8,j9,x0,x1,x2,x3,x4,x5,_,_,x8,x9,rfl,rfl,hB,h0.out,h1.out,h2.out,h3.out,h4.out,h5.out,h6.out,fun _=>rfl,h8.out,h9.out⟩
 ·have d5:j5=true:=by simp [hd]
  have d7:j7=true:=by simp [hd]
  obtain rfl:=h7.out d7;subst d5 d7;clear hd;refine wpOp_of rfl rfl ?_;go_simp;go_at_call 116;refine(nk w.heap.size w (minus_nv' _ _ _ (sj (mj s s) xa) xb (sj_b _ _) HB3 (h5.out rfl) (N3.below hB)) hB (Nat.le_refl _)).mono ?_;rintro e w2 ⟨v',rfl,hn',hB2,hb2⟩;unfold su12I;exact⟨j0,j1,j2,j3,j4,true,j6,true,true,j9,x0,x1,x2,x3,x4,x5,x6,_,_,x9,rfl,rfl,hB2,h0.out,h1.out,fun hj=>(h2.out hj).below hb2,h3.out,h4.out,fun hj=>(h5.out hj).below hb2,h6.out,h7.out,fun _=>hn',fun hj=>(h9.out hj).below hb2⟩
 ·have d0:j0=true:=by simp [hd]
  have d1:j1=true:=by simp [hd]
  have d2:j2=true:=by simp [hd]
  have d3:j3=true:=by simp [hd]
  have d4:j4=true:=by simp [hd]
  have d5:j5=true:=by simp [hd]
  have d6:j6=true:=by simp [hd]
  have d7:j7=true:=by simp [hd]
  have d8:j8=true:=by simp [hd]
  obtain rfl:=h0.out d0;obtain rfl:=h1.out d1;obtain rfl:=h3.out d3;obtain rfl:=h4.out d4;obtain rfl:=h6.out d6;obtain rfl:=h7.out d7;subst d0 d1;subst d2 d3;subst d4 d5;subst d6 d7 d8;clear hd;refine wpOp_of rfl rfl ?_;go_simp;unfold su12I;exact⟨true,true,true,true,true,true,true,true,true,true,_,_,x2,_,_,x5,_,_,x8,_,rfl,rfl,hB,h0.out,h1.out,h2.out,h3.out,h4.out,h5.out,h6.out,h7.out,h8.out,fun _=>h8.out rfl⟩
theorem su12_fin (gP gQ gR xa xb s:Nat)(nyb myb:Value)(nx cx mx dx:Nat)(ax bx:Option Addr)(vs:Value)(w:World) : ∀l a w1,su12I w gP gQ gR xa xb s nyb myb nx cx mx dx ax bx vs t0 t1 t5 t6 t9 t10 t11 t12 t13 t14 t15 t16 t17 t18 t19 t20 t21 t22 t23 t24 t25 t26 t27 t28 t29 t30 t31 t32 t33 t34 t35 t36 t37 t38 t39 t40 t41 t42 t43 t44 t45 t46 t47 t48 t49 t50 t51 t52 t53 t63 t64 t65 t66 t67 t68 t69 t70 t71 t72 t73 ds l a w1→Region.ready .any su12O l=[]→su12F w gP gQ gR xa xb s nyb myb nx cx mx dx ax bx vs t0 t1 t5 t6 t9 t10 t11 t12 t13 t14 t15 t16 t17 t18 t19 t20 t21 t22 t23 t24 t25 t26 t27 t28 t29 t30 t31 t32 t33 t34 t35 t36 t37 t38 t39 t40 t41 t42 t43 t44 t45 t46 t47 t48 t49 t50 t51 t52 t53 t63 t64 t65 t66 t67 t68 t69 t70 t71 t72 t73 ds a w1:=by
 simp only [su12O,findR,Tryz.f66,Option.bind_some,Option.or,Option.getD,Nat.reduceEqDiff,if_true,if_false,reduceIte];rintro l a w1 hI hr;obtain⟨j0,j1,j2,j3,j4,j5,j6,j7,j8,j9,x0,x1,x2,x3,x4,x5,x6,x7,x8,x9,rfl,rfl,hB,h0,h1,h2,h3,h4,h5,h6,h7,h8,h9⟩:=hI;have hn:=fun i=>List.eq_nil_iff_forall_not_mem.1 hr i
 clear hr;cases j0;exact(ab hn 0).elim
 cases j1;exact(ab hn 1).elim
 cases j2;exact(ab hn 2).elim
 cases j3;exact(ab hn 3).elim
 cases j4;exact(ab hn 4).elim
 cases j5;exact(ab hn 5).elim
 cases j6;exact(ab hn 6).elim
 cases j7;exact(ab hn 7).elim
 cases j8;exact(ab hn 8).elim
 cases j9;exact(ab hn 9).elim
 exact⟨_,_,_,_,_,_,_,_,_,_,w1,rfl,hB,rfl,h9 rfl⟩
theorem su12 (gP gQ gR xa xb s:Nat)(nyb myb:Value)(nx cx mx dx:Nat)(ax bx:Option Addr)(vs:Value)(w:World)(KP:Bk 72 w gP #[.bool false,.slice ax nx cx,nyb])(KQ:Bk 72 w gQ #[.bool false,.slice bx mx dx,myb])(HB1:xa<big)(HB3:xb<big)(HS:s<big)(N1:NV w (.slice ax nx cx) xa)(N3:NV w (.slice bx mx dx) xb)(NS:NV w vs s) {K:Act→World→Prop} 
  (h:∀(y0 y1 y2 y3 y4 y5 y6 y7 y8 y9:Value) (w1:World) (hb:Below w.heap.size w w1) (hn9:NV w1 y9 (sj (sj (mj s s) xa) xb)),K {tmps:=#[t0,t1,.pointer (some ⟨gP,0,none⟩),.pointer (some ⟨gQ,0,none⟩),.pointer (some ⟨gR,0,none⟩),t5,t6,vs,y9,t9,t10,t11,t12,t13,t14,t15,t16,t17,t18,t19,t20,t21,t22,t23,t24,t25,t26,t27,t28,t29,t30,t31,t32,t33,t34,t35,t36,t37,t38,t39,t40,t41,t42,t43,t44,t45,t46,t47,t48,t49,t50,t51,t52,t53,y0,y1,y2,y3,y4,y5,y6,y7,y8,t63,t64,t65,t66,t67,t68,t69,t70,t71,t72,t73],defers:=ds} w1) :
  (Code.region 12 su12O true).wp Tryz.prog (Exit.then K Q) {tmps:=#[t0,t1,.pointer (some ⟨gP,0,none⟩),.pointer (some ⟨gQ,0,none⟩),.pointer (some ⟨gR,0,none⟩),t5,t6,vs,t8,t9,t10,t11,t12,t13,t14,t15,t16,t17,t18,t19,t20,t21,t22,t23,t24,t25,t26,t27,t28,t29,t30,t31,t32,t33,t34,t35,t36,t37,t38,t39,t40,t41,t42,t43,t44,t45,t46,t47,t48,t49,t50,t51,t52,t53,t54,t55,t56,t57,t58,t59,t60,t61,t62,t63,t64,t65,t66,t67,t68,t69,t70,t71,t72,t73],defers:=ds} w:=by
 have hsz:su12O.size=10:=by kernel_rfl
 refine wp_region_any (show Tryz.prog.follows .mixedOrders=true from by kernel_rfl) ?_;rw [hsz];refine wpAny_inv (I:=su12I w gP gQ gR xa xb s nyb myb nx cx mx dx ax bx vs t0 t1 t5 t6 t9 t10 t11 t12 t13 t14 t15 t16 t17 t18 t19 t20 t21 t22 t23 t24 t25 t26 t27 t28 t29 t30 t31 t32 t33 t34 t35 t36 t37 t38 t39 t40 t41 t42 t43 t44 t45 t46 t47 t48 t49 t50 t51 t52 t53 t63 t64 t65 t66 t67 t68 t69 t70 t71 t72 t73 ds) (su12_steps gP gQ gR xa xb s nyb myb nx cx mx dx ax bx vs w KP KQ HB1 HB3 HS N1 N3 NS) (fun l a w' hI hr=>?_) 10 _ _ _ (by decide) ?_
 ·obtain⟨y0,y1,y2,y3,y4,y5,y6,y7,y8,y9,wm,rfl,hb,rfl,hn9⟩:=su12_fin gP gQ gR xa xb s nyb myb nx cx mx dx ax bx vs w l a w' hI hr;exact h _ _ _ _ _ _ _ _ _ _ _ hb hn9
 ·exact⟨false,false,false,false,false,false,false,false,false,false,t54,t55,t56,t57,t58,t59,t60,t61,t62,t8,rfl,rfl,⟨rfl,rfl,rfl,Nat.le_refl _,fun _ _=>rfl⟩,(fun h=>by cases h),(fun h=>by cases h),(fun h=>by cases h),(fun h=>by cases h),(fun h=>by cases h),(fun h=>by cases h),(fun h=>by cases h),(fun h=>by cases h),(fun h=>by cases h),(fun h=>by cases h)⟩
def su13F (w0:World)(gP gR xa ya s xc nx cx ny cy n8 c8:Nat)(ax ay a8:Option Addr)(vs:Value)(t0 t1 t3 t5 t6 t9 t10 t11 t12 t13 t14 t15 t16 t17 t18 t19 t20 t21 t22 t23 t24 t25 t26 t27 t28 t29 t30 t31 t32 t33 t34 t35 t36 t37 t38 t39 t40 t41 t42 t43 t44 t45 t46 t47 t48 t49 t50 t51 t52 t53 t54 t55 t56 t57 t58 t59 t60 t61 t62:Value)(ds:List Deferred)(a:Act)(w:World): Prop:=
 ∃y0 y1 y2 y3 y4 y5 y6 y7 y8 y9 y10:Value,∃wm:World,a={tmps:=#[t0,t1,.pointer (some ⟨gP,0,none⟩),t3,.pointer (some ⟨gR,0,none⟩),t5,t6,vs,.slice a8 n8 c8,t9,t10,t11,t12,t13,t14,t15,t16,t17,t18,t19,t20,t21,t22,t23,t24,t25,t26,t27,t28,t29,t30,t31,t32,t33,t34,t35,t36,t37,t38,t39,t40,t41,t42,t43,t44,t45,t46,t47,t48,t49,t50,t51,t52,t53,t54,t55,t56,t57,t58,t59,t60,t61,t62,y0,y1,y2,y3,y4,y5,y6,y7,y8,y9,y10],defers:=ds}∧Below w0.heap.size w0 wm∧w=(World.setCell (World.setCell (World.setCell wm ⟨gR,0,none⟩ (.bool false)) ⟨gR,1,none⟩ (.slice a8 n8 c8)) ⟨gR,2,none⟩ (y9))∧NV wm y9 (sj (mj s (sj xa xc)) ya)
def su13I (w0:World)(gP gR xa ya s xc nx cx ny cy n8 c8:Nat)(ax ay a8:Option Addr)(vs:Value)(t0 t1 t3 t5 t6 t9 t10 t11 t12 t13 t14 t15 t16 t17 t18 t19 t20 t21 t22 t23 t24 t25 t26 t27 t28 t29 t30 t31 t32 t33 t34 t35 t36 t37 t38 t39 t40 t41 t42 t43 t44 t45 t46 t47 t48 t49 t50 t51 t52 t53 t54 t55 t56 t57 t58 t59 t60 t61 t62:Value)(ds:List Deferred)(l:Array Bool)(a:Act)(w:World): Prop:=
 (l=#[true,true,true,true,true,true,true,true,true,true,true,true]∧su13F w0 gP gR xa ya s xc nx cx ny cy n8 c8 ax ay a8 vs t0 t1 t3 t5 t6 t9 t10 t11 t12 t13 t14 t15 t16 t17 t18 t19 t20 t21 t22 t23 t24 t25 t26 t27 t28 t29 t30 t31 t32 t33 t34 t35 t36 t37 t38 t39 t40 t41 t42 t43 t44 t45 t46 t47 t48 t49 t50 t51 t52 t53 t54 t55 t56 t57 t58 t59 t60 t61 t62 ds a w)∨(∃j0 j1 j2 j3 j4 j5 j6 j7 j8 j9 j10:Bool,∃x0 x1 x2 x3 x4 x5 x6 x7 x8 x9 x10:Value,l=#[j0,j1,j2,j3,j4,j5,j6,j7,j8,j9,j10,false]∧a={tmps:=#[t0,t1,.pointer (some ⟨gP,0,none⟩),t3,.pointer (some ⟨gR,0,none⟩),t5,t6,vs,.slice a8 n8 c8,t9,t10,t11,t12,t13,t14,t15,t16,t17,t18,t19,t20,t21,t22,t23,t24,t25,t26,t27,t28,t29,t30,t31,t32,t33,t34,t35,t36,t37,t38,t39,t40,t41,t42,t43,t44,t45,t46,t47,t48,t49,t50,t51,t52,t53,t54,t55,t56,t57,t58,t59,t60,t61,t62,x0,x1,x2,x3,x4,x5,x6,x7,x8,x9,x10],defers:=ds}∧Below w0.heap.size w0 w∧
 (j0=true→x0 = .slice a8 n8 c8)∧(j1=true→x1=vs)∧(j2=true→x2 = .pointer (some ⟨gP,1,none⟩))∧(j3=true→x3 = .slice ax nx cx)∧(j4=true→x4 = .slice a8 n8 c8)∧(j5=true→NV w x5 (sj xa xc))∧(j6=true→NV w x6 (mj s (sj xa xc)))∧(j7=true→x7 = .pointer (some ⟨gP,2,none⟩))∧(j8=true→x8 = .slice ay ny cy)∧(j9=true→NV w x9 (sj (mj s (sj xa xc)) ya))∧(j10=true→x10 = .agg #[.bool false,.slice a8 n8 c8,x9]∧j9=true))
noncomputable def su13O:Array Oper:=(Tryz.f66.body.bind fun c=>findR c 13).getD #[]
theorem su13_steps (gP gR xa ya s xc nx cx ny cy n8 c8:Nat)(ax ay a8:Option Addr)(vs:Value)(w:World)(KP:Bk 72 w gP #[.bool false,.slice ax nx cx,.slice ay ny cy])(KR:Bk 72 w gR #[.bool false,.slice none 0 0,.slice none 0 0])(HB1:xa<big)(HB2:ya<big)(HS:s<big)(H3:xc<big)(N1:NV w (.slice ax nx cx) xa)(N2:NV w (.slice ay ny cy) ya)(NS:NV w vs s)(N8:NV w (.slice a8 n8 c8) xc)
  :
  ∀l a w',su13I w gP gR xa ya s xc nx cx ny cy n8 c8 ax ay a8 vs t0 t1 t3 t5 t6 t9 t10 t11 t12 t13 t14 t15 t16 t17 t18 t19 t20 t21 t22 t23 t24 t25 t26 t27 t28 t29 t30 t31 t32 t33 t34 t35 t36 t37 t38 t39 t40 t41 t42 t43 t44 t45 t46 t47 t48 t49 t50 t51 t52 t53 t54 t55 t56 t57 t58 t59 t60 t61 t62 ds l a w'→∀i∈Region.ready .any su13O l,wpOp Tryz.prog su13O Q i (fun a' w''=>su13I w gP gR xa ya s xc nx cx ny cy n8 c8 ax ay a8 vs t0 t1 t3 t5 t6 t9 t10 t11 t12 t13 t14 t15 t16 t17 t18 t19 t20 t21 t22 t23 t24 t25 t26 t27 t28 t29 t30 t31 t32 t33 t34 t35 t36 t37 t38 t39 t40 t41 t42 t43 t44 t45 t46 t47 t48 t49 t50 t51 t52 t53 t54 t55 t56 t57 t58 t59 t60 t61 t62 ds (l.setIfInBounds i true) a' w'') a w':=by
 simp only [su13O,findR,Tryz.f66,Option.bind_some,Option.or,Option.getD,Nat.reduceEqDiff,if_true,if_false,reduceIte];rintro l a w' hI i hi;rw [mem_ready] at hi;obtain⟨hu,oo,ho,hd⟩:=hi;have hin:i<12:=by
  have:=(Array.getElem?_eq_some_iff.1 ho).1
  simpa using this
 have hcase:i=0∨i=1∨i=2∨i=3∨i=4∨i=5∨i=6∨i=7∨i=8∨i=9∨i=10∨i=11:=by omega
 rcases hI with ⟨rfl,hF⟩ | hI
 ·exfalso
  rcases hcase with rfl | rfl | rfl | rfl | rfl | rfl | rfl | rfl | rfl | rfl | rfl | rfl<;>simp at hu
 obtain⟨j0,j1,j2,j3,j4,j5,j6,j7,j8,j9,j10,x0,x1,x2,x3,x4,x5,x6,x7,x8,x9,x10,rfl,rfl,hB,h0,h1,h2,h3,h4,h5,h6,h7,h8,h9,h10⟩:=hI;replace h0:=Φ h0;replace h1:=Φ h1;replace h2:=Φ h2;replace h3:=Φ h3;replace h4:=Φ h4;replace h5:=Φ h5;replace h6:=Φ h6;replace h7:=Φ h7;replace h8:=Φ h8;replace h9:=Φ h9;replace h10:=Φ h10;rcases hcase with rfl | rfl | rfl | rfl | rfl | rfl | rfl | rfl | rfl | rfl | rfl | rfl
 all_goals obtain rfl:=Option.some.inj ho
 all_goals simp [Region.binds] at hu hd
 ·clear hd;refine wpOp_of rfl rfl ?_;go_simp;unfold su13I;exact .inr ⟨true,j1,j2,j3,j4,j5,j6,j7,j8,j9,j10,_,x1,x2,x3,x4,x5,x6,x7,x8,x9,x10,rfl,rfl,hB,fun _=>rfl,h1.out,h2.out,h3.out,h4.out,h5.out,h6.out,h7.out,h8.out,h9.out,h10.out⟩
 ·clear hd;refine wpOp_of rfl rfl ?_;go_simp;unfold su13I;exact .inr ⟨j0,true,j2,j3,j4,j5,j6,j7,j8,j9,j10,x0,_,x2,x3,x4,x5,x6,x7,x8,x9,x10,rfl,rfl,hB,h0.out,fun _=>rfl,h2.out,h3.out,h4.out,h5.out,h6.out,h7.out,h8.out,h9.out,h10.out⟩
 ·clear hd;refine wpOp_of rfl rfl ?_;go_simp;unfold su13I;exact .inr ⟨j0,j1,true,j3,j4,j5,j6,j7,j8,j9,j10,x0,x1,_,x3,x4,x5,x6,x7,x8,x9,x10,rfl,rfl,hB,h0.out,h1.out,fun _=>rfl,h3.out,h4.out,h5.out,h6.out,h7.out,h8.out,h9.out,h10.out⟩
 ·have d2:j2=true:=by simp [hd]
  obtain rfl:=h2.out d2;subst d2;clear hd;refine wpOp_of rfl rfl ?_;have i1:w'.cell? ⟨gP,1,none⟩=some (.slice ax nx cx):=(KP.below hB).cell 1;go_simp;unfold su13I;exact .inr ⟨j0,j1,true,true,j4,j5,j6,j7,j8,j9,j10,x0,x1,_,_,x4,x5,x6,x7,x8,x9,x10,rfl,rfl,hB,h0.out,h1.out,h2.out,fun _=>rfl,h4.out,h5.out,h6.out,h7.out,h8.out,h9.out,h10.out⟩
 ·clear hd;refine wpOp_of rfl rfl ?_;go_simp;unfold su13I;exact .inr ⟨j0,j1,j2,j3,true,j5,j6,j7,j8,j9,j10,x0,x1,x2,x3,_,x5,x6,x7,x8,x9,x10,rfl,rfl,hB,h0.out,h1.out,h2.out,h3.out,fun _=>rfl,h5.out,h6.out,h7.out,h8.out,h9.out,h10.out⟩
 ·have d3:j3=true:=by simp [hd]
  have d4:j4=true:=by simp [hd]
  obtain rfl:=h3.out d3;obtain rfl:=h4.out d4;subst d3 d4;clear hd;refine wpOp_of rfl rfl ?_;go_simp;go_at_call 116;refine(nk w.heap.size w (minus_nv' _ _ _ xa xc HB1 H3 (N1.below hB) (N8.below hB)) hB (Nat.le_refl _)).mono ?_;rintro e w2 ⟨v',rfl,hn',hB2,hb2⟩;unfold su13I;exact .inr ⟨j0,j1,j2,true,true,true,j6,j7,j8,j9,j10,x0,x1,x2,_,_,_,x6,x7,x8,x9,x10,rfl,rfl,hB2,h0.out,h1.out,h2.out,h3.out,h4.out,fun _=>hn',fun hj=>(h6.out hj).below hb2,h7.out,h8.out,fun hj=>(h9.out hj).below hb2,h10.out⟩
 ·have d1:j1=true:=by simp [hd]
  have d5:j5=true:=by simp [hd]
  obtain rfl:=h1.out d1;subst d1 d5;clear hd;refine wpOp_of rfl rfl ?_;go_simp;go_at_call 117;refine(nk w.heap.size w (times_nv _ _ _ s (sj xa xc) HS (sj_b _ _) (NS.below hB) (h5.out rfl)) hB (Nat.le_refl _)).mono ?_;rintro e w2 ⟨v',rfl,hn',hB2,hb2⟩;unfold su13I;exact .inr ⟨j0,true,j2,j3,j4,true,true,j7,j8,j9,j10,x0,_,x2,x3,x4,x5,_,x7,x8,x9,x10,rfl,rfl,hB2,h0.out,h1.out,h2.out,h3.out,h4.out,fun hj=>(h5.out hj).below hb2,fun _=>hn',h7.out,h8.out,fun hj=>(h9.out hj).below hb2,h10.out⟩
 ·clear hd;refine wpOp_of rfl rfl ?_;go_simp;unfold su13I;exact .inr ⟨j0,j1,j2,j3,j4,j5,j6,true,j8,j9,j10,x0,x1,x2,x3,x4,x5,x6,_,x8,x9,x10,rfl,rfl,hB,h0.out,h1.out,h2.out,h3.out,h4.out,h5.out,h6.out,fun _=>rfl,h8.out,h9.out,h10.out⟩
 ·have d7:j7=true:=by simp [hd]
  obtain rfl:=h7.out d7;subst d7;clear hd;refine wpOp_of rfl rfl ?_;have i2:w'.cell? ⟨gP,2,none⟩=some (.slice ay ny cy):=(KP.below hB).cell 2;go_simp;unfold su13I;exact .inr ⟨j0,j1,j2,j3,j4,j5,j6,true,true,j9,j10,x0,x1,x2,x3,x4,x5,x6,_,_,x9,x10,rfl,rfl,hB,h0.out,h1.out,h2.out,h3.out,h4.out,h5.out,h6.out,h7.out,fun _=>rfl,h9.out,h10.out⟩
 ·have d6:j6=true:=by simp [hd]
  have d8:j8=true:=by simp [hd]
  obtain rfl:=h8.out d8;subst d6 d8;clear hd;refine wpOp_of rfl rfl ?_;go_simp;go_at_call 116;refine(nk w.heap.size w (minus_nv' _ _ _ (mj s (sj xa xc)) ya (mj_b _ _) HB2 (h6.out rfl) (N2.below hB)) hB (Nat.le_refl _)).mono ?_;rintro e w2 ⟨v',rfl,hn',hB2,hb2⟩;unfold su13I;exact .inr ⟨j0,j1,j2,j3,j4,j5,true,j7,true,true,j10,x0,x1,x2,x3,x4,x5,x6,x7,_,_,x10,rfl,rfl,hB2,h0.out,h1.out,h2.out,h3.out,h4.out,fun hj=>(h5.out hj).below hb2,fun hj=>(h6.out hj).below hb2,h7.out,h8.out,fun _=>hn',fun hj=>absurd (h10.out hj).2 (by simp [hu])⟩
 ·have d0:j0=true:=by simp [hd]
  have d9:j9=true:=by simp [hd]
  obtain rfl:=h0.out d0;subst d0 d9;clear hd;refine wpOp_of rfl rfl ?_;obtain⟨sa9,sn9,sc9,es9⟩:=(h9.out rfl).shape;subst es9;go_simp;unfold su13I;exact .inr ⟨true,j1,j2,j3,j4,j5,j6,j7,j8,true,true,_,x1,x2,x3,x4,x5,x6,x7,x8,_,_,rfl,rfl,hB,h0.out,h1.out,h2.out,h3.out,h4.out,h5.out,h6.out,h7.out,h8.out,h9.out,fun _=>⟨rfl,rfl⟩⟩
 ·have d0:j0=true:=by simp [hd]
  have d1:j1=true:=by simp [hd]
  have d2:j2=true:=by simp [hd]
  have d3:j3=true:=by simp [hd]
  have d4:j4=true:=by simp [hd]
  have d5:j5=true:=by simp [hd]
  have d6:j6=true:=by simp [hd]
  have d7:j7=true:=by simp [hd]
  have d8:j8=true:=by simp [hd]
  have d9:j9=true:=by simp [hd]
  have d10:j10=true:=by simp [hd]
  obtain rfl:=h0.out d0;obtain rfl:=h1.out d1;obtain rfl:=h2.out d2;obtain rfl:=h3.out d3;obtain rfl:=h4.out d4;obtain rfl:=h7.out d7;obtain rfl:=h8.out d8;have e10:=(h10.out d10).1;subst e10;subst d0 d1;subst d2 d3;subst d4 d5;subst d6 d7;subst d8 d9 d10;clear hd;refine wpOp_of rfl rfl ?_;obtain⟨sa9,sn9,sc9,es9⟩:=(h9.out rfl).shape;subst es9;have c0:=(KR.below hB).cell 0;have f0:=(KR.below hB).fro 0;have c1:=(KR.below hB).cell 1;have f1:=(KR.below hB).fro 1;have c2:=(KR.below hB).cell 2;have f2:=(KR.below hB).fro 2;go_simp;unfold su13I su13F;exact .inl ⟨rfl,_,_,_,_,_,x5,x6,_,_,_,_,_,rfl,hB,rfl,h9.out rfl⟩
theorem su13_fin (gP gR xa ya s xc nx cx ny cy n8 c8:Nat)(ax ay a8:Option Addr)(vs:Value)(w:World) : ∀l a w1,su13I w gP gR xa ya s xc nx cx ny cy n8 c8 ax ay a8 vs t0 t1 t3 t5 t6 t9 t10 t11 t12 t13 t14 t15 t16 t17 t18 t19 t20 t21 t22 t23 t24 t25 t26 t27 t28 t29 t30 t31 t32 t33 t34 t35 t36 t37 t38 t39 t40 t41 t42 t43 t44 t45 t46 t47 t48 t49 t50 t51 t52 t53 t54 t55 t56 t57 t58 t59 t60 t61 t62 ds l a w1→Region.ready .any su13O l=[]→su13F w gP gR xa ya s xc nx cx ny cy n8 c8 ax ay a8 vs t0 t1 t3 t5 t6 t9 t10 t11 t12 t13 t14 t15 t16 t17 t18 t19 t20 t21 t22 t23 t24 t25 t26 t27 t28 t29 t30 t31 t32 t33 t34 t35 t36 t37 t38 t39 t40 t41 t42 t43 t44 t45 t46 t47 t48 t49 t50 t51 t52 t53 t54 t55 t56 t57 t58 t59 t60 t61 t62 ds a w1:=by
 simp only [su13O,findR,Tryz.f66,Option.bind_some,Option.or,Option.getD,Nat.reduceEqDiff,if_true,if_false,reduceIte];rintro l a w1 hI hr;rcases hI with ⟨rfl,hF⟩ | hI
 ·exact hF
 obtain⟨j0,j1,j2,j3,j4,j5,j6,j7,j8,j9,j10,x0,x1,x2,x3,x4,x5,x6,x7,x8,x9,x10,rfl,rfl,hB,h0,h1,h2,h3,h4,h5,h6,h7,h8,h9,h10⟩:=hI;have hn:=fun i=>List.eq_nil_iff_forall_not_mem.1 hr i
 clear hr;cases j0;exact(ab hn 0).elim
 cases j1;exact(ab hn 1).elim
 cases j2;exact(ab hn 2).elim
 cases j3;exact(ab hn 3).elim
 cases j4;exact(ab hn 4).elim
 cases j5;exact(ab hn 5).elim
 cases j6;exact(ab hn 6).elim
 cases j7;exact(ab hn 7).elim
 cases j8;exact(ab hn 8).elim
 cases j9;exact(ab hn 9).elim
 cases j10;exact(ab hn 10).elim
 exact absurd (mem_ready.2 ⟨rfl,_,rfl,by simp [Region.binds]⟩) (hn 11)
theorem su13 (gP gR xa ya s xc nx cx ny cy n8 c8:Nat)(ax ay a8:Option Addr)(vs:Value)(w:World)(KP:Bk 72 w gP #[.bool false,.slice ax nx cx,.slice ay ny cy])(KR:Bk 72 w gR #[.bool false,.slice none 0 0,.slice none 0 0])(HB1:xa<big)(HB2:ya<big)(HS:s<big)(H3:xc<big)(N1:NV w (.slice ax nx cx) xa)(N2:NV w (.slice ay ny cy) ya)(NS:NV w vs s)(N8:NV w (.slice a8 n8 c8) xc) {K:Act→World→Prop} 
  (h:∀(y0 y1 y2 y3 y4 y5 y6 y7 y8 y9 y10:Value) (w1:World) (hb:Below w.heap.size w w1) (hn9:NV w1 y9 (sj (mj s (sj xa xc)) ya)),K {tmps:=#[t0,t1,.pointer (some ⟨gP,0,none⟩),t3,.pointer (some ⟨gR,0,none⟩),t5,t6,vs,.slice a8 n8 c8,t9,t10,t11,t12,t13,t14,t15,t16,t17,t18,t19,t20,t21,t22,t23,t24,t25,t26,t27,t28,t29,t30,t31,t32,t33,t34,t35,t36,t37,t38,t39,t40,t41,t42,t43,t44,t45,t46,t47,t48,t49,t50,t51,t52,t53,t54,t55,t56,t57,t58,t59,t60,t61,t62,y0,y1,y2,y3,y4,y5,y6,y7,y8,y9,y10],defers:=ds} (World.setCell (World.setCell (World.setCell w1 ⟨gR,0,none⟩ (.bool false)) ⟨gR,1,none⟩ (.slice a8 n8 c8)) ⟨gR,2,none⟩ (y9))) :
  (Code.region 13 su13O true).wp Tryz.prog (Exit.then K Q) {tmps:=#[t0,t1,.pointer (some ⟨gP,0,none⟩),t3,.pointer (some ⟨gR,0,none⟩),t5,t6,vs,.slice a8 n8 c8,t9,t10,t11,t12,t13,t14,t15,t16,t17,t18,t19,t20,t21,t22,t23,t24,t25,t26,t27,t28,t29,t30,t31,t32,t33,t34,t35,t36,t37,t38,t39,t40,t41,t42,t43,t44,t45,t46,t47,t48,t49,t50,t51,t52,t53,t54,t55,t56,t57,t58,t59,t60,t61,t62,t63,t64,t65,t66,t67,t68,t69,t70,t71,t72,t73],defers:=ds} w:=by
 have hsz:su13O.size=12:=by kernel_rfl
 refine wp_region_any (show Tryz.prog.follows .mixedOrders=true from by kernel_rfl) ?_;rw [hsz];refine wpAny_inv (I:=su13I w gP gR xa ya s xc nx cx ny cy n8 c8 ax ay a8 vs t0 t1 t3 t5 t6 t9 t10 t11 t12 t13 t14 t15 t16 t17 t18 t19 t20 t21 t22 t23 t24 t25 t26 t27 t28 t29 t30 t31 t32 t33 t34 t35 t36 t37 t38 t39 t40 t41 t42 t43 t44 t45 t46 t47 t48 t49 t50 t51 t52 t53 t54 t55 t56 t57 t58 t59 t60 t61 t62 ds) (su13_steps gP gR xa ya s xc nx cx ny cy n8 c8 ax ay a8 vs w KP KR HB1 HB2 HS H3 N1 N2 NS N8) (fun l a w' hI hr=>?_) 12 _ _ _ (by decide) ?_
 ·obtain⟨y0,y1,y2,y3,y4,y5,y6,y7,y8,y9,y10,wm,rfl,hb,rfl,hn9⟩:=su13_fin gP gR xa ya s xc nx cx ny cy n8 c8 ax ay a8 vs w l a w' hI hr;exact h _ _ _ _ _ _ _ _ _ _ _ _ hb hn9
 ·exact .inr ⟨false,false,false,false,false,false,false,false,false,false,false,t63,t64,t65,t66,t67,t68,t69,t70,t71,t72,t73,rfl,rfl,⟨rfl,rfl,rfl,Nat.le_refl _,fun _ _=>rfl⟩,(fun h=>by cases h),(fun h=>by cases h),(fun h=>by cases h),(fun h=>by cases h),(fun h=>by cases h),(fun h=>by cases h),(fun h=>by cases h),(fun h=>by cases h),(fun h=>by cases h),(fun h=>by cases h),(fun h=>by cases h)⟩
end Ref
namespace Ref
open Go.RowKit Go.Proofs.YtpggkfdijmnmiaaGreat.Digits Limbs Curve
set_option maxHeartbeats 16000000
def upR (p q:Po): Nat:=if Po.same p q=true then sj (mj 3 (mj p.x p.x)) 3 else sj q.y p.y
def downR (p q:Po): Nat:=if Po.same p q=true then aj p.y p.y else sj q.x p.x
def slR (p q:Po): Nat:=mj (upR p q) (iN (downR p q))
def xR (p q:Po): Nat:=sj (sj (mj (slR p q) (slR p q)) p.x) q.x
def yR (p q:Po): Nat:=sj (mj (slR p q) (sj p.x (xR p q))) p.y
theorem c_ngj (y:Nat): c (ngj y) = - c y:=by unfold ngj;rw [mPP,c_mod,c_opp]
theorem ne_c {a:Nat}(h:c a≠0): a % mP≠0:=fun h0=>h (by
 have:c a=c 0:=c_eq.2 (by rw [← mPP,h0];rfl)
 rw [this];rfl)
theorem toAff (x y:Nat): toPt ⟨x,y,false⟩ = .aff (c x) (c y):=rfl
theorem m3_x (x:Fin PP): 3*(x*x) - 3=3*(x*x) + -3:=by grobner
theorem sum_aff (iv:Fin PP→Fin PP)(a xa ya xb yb:Fin PP): sum iv a (.aff xa ya) (.aff xb yb)=if xa=xb∧ya = -yb then .far else .aff (slope iv a xa ya xb yb*slope iv a xa ya xb yb - xa - xb) (slope iv a xa ya xb yb*(xa - (slope iv a xa ya xb yb*slope iv a xa ya xb yb - xa - xb)) - ya):=rfl
theorem sum_ref {xa ya xb yb:Nat}(hp:(Po.mk xa ya false).on=true)(hq:(Po.mk xb yb false).on=true)(hn:Po.same (Po.mk xa ya false) (Po.mk xb yb false).neg=false):
  downR (Po.mk xa ya false) (Po.mk xb yb false) % mP≠0∧(Po.mk xa ya false).add (Po.mk xb yb false)=⟨xR (Po.mk xa ya false) (Po.mk xb yb false),yR (Po.mk xa ya false) (Po.mk xb yb false),false⟩:=by
 obtain⟨hxa,hya⟩:=on_lt hp;obtain⟨hxb,hyb⟩:=on_lt hq;have o1:=(on_iff hp).1;have o2:=(on_iff hq).1;rw [toAff] at o1 o2;have e1:c ya*c ya=c xa*c xa*c xa+aP*c xa+bP:=o1;have e2:c yb*c yb=c xb*c xb*c xb+aP*c xb+bP:=o2;have hnot:¬(c xa=c xb∧c ya = - c yb):=by
  rintro⟨h1,h2⟩;have h3:=c_inj hxa hxb h1;rw [← c_ngj] at h2;have h4:=c_inj hya (ngj_p yb) h2;subst h3;subst h4;simp [Po.same,Po.neg] at hn
 have hsame:Po.same (Po.mk xa ya false) (Po.mk xb yb false)=decide (c xa=c xb):=by
  by_cases h:c xa=c xb
  ·have h3:=c_inj hxa hxb h;subst h3;have h5:=same_y fit e1 e2 (fun h=>hnot ⟨rfl,h.2⟩);have h4:=c_inj hya hyb h5;subst h4;simp [Po.same]
  ·have:xa≠xb:=fun h'=>h (by rw [h'])
   simp [Po.same,this,h]
 have hsl:c (slR (Po.mk xa ya false) (Po.mk xb yb false))=slope inv aP (c xa) (c ya) (c xb) (c yb)∧downR (Po.mk xa ya false) (Po.mk xb yb false) % mP≠0:=by
  unfold slR upR downR slope;rw [hsame]
  by_cases h:c xa=c xb
  ·rw [decide_eq_true h,if_pos rfl,if_pos rfl,if_pos h];refine⟨?_,ne_c ?_⟩
   ·rw [c_mj,c_iN,c_sj,c_mj,c_mj,c_aj,c_three,m3_x];rfl
   ·rw [c_aj];exact fit.yy e1
  ·rw [decide_eq_false h,if_neg (by decide),if_neg (by decide),if_neg h];refine⟨?_,ne_c ?_⟩
   ·rw [c_mj,c_iN,c_sj,c_sj]
   ·rw [c_sj];exact sub_of_ne h
 refine⟨hsl.2,?_⟩;rw [add_is hp hq,toAff,toAff,sum_aff,if_neg hnot];have hX:c (xR (Po.mk xa ya false) (Po.mk xb yb false))=slope inv aP (c xa) (c ya) (c xb) (c yb)*slope inv aP (c xa) (c ya) (c xb) (c yb) - c xa - c xb:=by
  unfold xR;rw [c_sj,c_sj,c_mj,hsl.1]
 have hY:c (yR (Po.mk xa ya false) (Po.mk xb yb false))=slope inv aP (c xa) (c ya) (c xb) (c yb)*(c xa - (slope inv aP (c xa) (c ya) (c xb) (c yb)*slope inv aP (c xa) (c ya) (c xb) (c yb) - c xa - c xb)) - c ya:=by
  unfold yR;rw [c_sj,c_mj,c_sj,hX,hsl.1]
 rw [← hX] at hY ⊢;rw [← hY];have v1:xR (Po.mk xa ya false) (Po.mk xb yb false)=(c (xR (Po.mk xa ya false) (Po.mk xb yb false))).val:=val_of (sj_p _ _) rfl;have v2:yR (Po.mk xa ya false) (Po.mk xb yb false)=(c (yR (Po.mk xa ya false) (Po.mk xb yb false))).val:=val_of (sj_p _ _) rfl
 show(⟨_,_,_⟩:Po)=_
 rw [← v1,← v2]
theorem sum_opp {xa ya xb yb:Nat}(hp:(Po.mk xa ya false).on=true)(hq:(Po.mk xb yb false).on=true)(hn:Po.same (Po.mk xa ya false) (Po.mk xb yb false).neg=true):
  (Po.mk xa ya false).add (Po.mk xb yb false)=⟨0,0,true⟩:=by
 have h:xa=xb∧ya=ngj yb:=by
  have h':=hn;simp [Po.same,Po.neg] at h';exact⟨of_decide_eq_true h'.1,of_decide_eq_true h'.2⟩
 rw [add_is hp hq,toAff,toAff,sum_aff,if_pos ⟨by rw [h.1],by rw [h.2,c_ngj]⟩];rfl
theorem add_far {p q:Po}(hp:p.on=true)(hq:q.on=true): (p.i=true→p.add q=q)∧(q.i=true→p.add q=p):=by
 have a:=add_is hp hq;constructor
 ·intro h;rw [a,show toPt p = .far from by unfold toPt;rw [if_pos h],far_sum,(on_iff hq).2.1]
 ·intro h;rw [a,show toPt q = .far from by unfold toPt;rw [if_pos h],sum_far,(on_iff hp).2.1]
theorem Bk.cellsA3 {t:TypeId}{w:World}{g:Nat}{a b c:Value}(h:Bk t w g #[a,b,c]): (∀o,(w.alloc o).cell? ⟨g,0,none⟩=some a)∧(∀o,(w.alloc o).cell? ⟨g,1,none⟩=some b)∧(∀o,(w.alloc o).cell? ⟨g,2,none⟩=some c):=⟨fun o=>(Bk.alloc h).cell 0,fun o=>(Bk.alloc h).cell 1,fun o=>(Bk.alloc h).cell 2⟩
theorem inv_c (v:Value)(w:World)(a:Nat)(ha:a<big)(h0:a % mP≠0)(h:NV w v a): Calls Tryz.prog 64 #[.int .i64 0,v] w fun e w'=>∃v',e = .returned v'∧Nr w w' v' (iN a):=by
 have:=inverse_is 0 v w a ha (by rw [md0];exact h0) h
 rwa [md0] at this
theorem sum7_p (xa ya xb yb:Nat)(qi:Bool)(nx cx ny cy mx dx my dy:Nat)(ax ay bx bb:Option Addr)(w:World)(hm:qi=false→NV w (.slice bx mx dx) xb∧NV w (.slice bb my dy) yb): Calls Tryz.prog 66 #[.agg #[.bool true,.slice ax nx cx,.slice ay ny cy],.agg #[.bool qi,.slice bx mx dx,.slice bb my dy]] w fun e w'=>∃v',e = .returned v'∧RP w' v' ⟨xb,yb,qi⟩∧Below w.heap.size w w':=by
 have hb:Below w.heap.size w (((w.alloc (.cells #[.bool true,.slice ax nx cx,.slice ay ny cy] 72)).alloc (.cells #[.bool qi,.slice bx mx dx,.slice bb my dy] 72)).alloc (.cells #[.bool qi,.slice bx mx dx,.slice bb my dy] 72)):=by go_grown
 have HB:=Lib.hid hb;clear hb;go_enter Tryz.func66,Tryz.ntmps66;go_wp2_with fail;refine ret_cell64 rfl (w.heap.size+1+1) (.bool qi) (.slice bx mx dx) (.slice bb my dy) rfl (Bk.new (by simp)) rfl ⟨_,rfl,⟨_,_,_,_,_,_,rfl,fun h=>⟨(hm h).1.below HB.out,(hm h).2.below HB.out⟩⟩,HB.out⟩
theorem sum7_q (xa ya xb yb:Nat)(nx cx ny cy mx dx my dy:Nat)(ax ay bx bb:Option Addr)(w:World)(hn:NV w (.slice ax nx cx) xa∧NV w (.slice ay ny cy) ya): Calls Tryz.prog 66 #[.agg #[.bool false,.slice ax nx cx,.slice ay ny cy],.agg #[.bool true,.slice bx mx dx,.slice bb my dy]] w fun e w'=>∃v',e = .returned v'∧RP w' v' ⟨xa,ya,false⟩∧Below w.heap.size w w':=by
 have hb:Below w.heap.size w (((w.alloc (.cells #[.bool false,.slice ax nx cx,.slice ay ny cy] 72)).alloc (.cells #[.bool true,.slice bx mx dx,.slice bb my dy] 72)).alloc (.cells #[.bool false,.slice ax nx cx,.slice ay ny cy] 72)):=by go_grown
 have HB:=Lib.hid hb;clear hb;go_enter Tryz.func66,Tryz.ntmps66;go_wp2_with fail;refine ret_cell64 rfl (w.heap.size+1+1) (.bool false) (.slice ax nx cx) (.slice ay ny cy) rfl (Bk.new (by simp)) rfl ⟨_,rfl,⟨_,_,_,_,_,_,rfl,fun h=>⟨hn.1.below HB.out,hn.2.below HB.out⟩⟩,HB.out⟩
end Ref
namespace Ref
open Go.RowKit Go.Proofs.YtpggkfdijmnmiaaGreat.Digits Limbs Curve
open Go.Lib renaming hid→Φ
set_option maxHeartbeats 16000000 in
theorem sum7_dbl (xa ya xb yb up dn s:Nat)(nx cx ny cy mx dx my dy:Nat)(ax ay bx bb:Option Addr)(hp:(Po.mk xa ya false).on=true)(hq:(Po.mk xb yb false).on=true)(w:World)(hn1:NV w (.slice ax nx cx) xa)(hn2:NV w (.slice ay ny cy) ya)(hm1:NV w (.slice bx mx dx) xb)(hm2:NV w (.slice bb my dy) yb)(hs:Po.same (Po.mk xa ya false) (Po.mk xb yb false).neg=false)(hs2:Po.same (Po.mk xa ya false) (Po.mk xb yb false)=true)(hup:up=sj (mj 3 (mj xa xa)) 3)(hdn:dn=aj ya ya)(hd0:dn % mP≠0)(hsl:s=mj up (iN dn)): Calls Tryz.prog 66 #[.agg #[.bool false,.slice ax nx cx,.slice ay ny cy],.agg #[.bool false,.slice bx mx dx,.slice bb my dy]] w fun e w'=>∃v',e = .returned v'∧RP w' v' ⟨sj (sj (mj s s) xa) xb,sj (mj s (sj xa (sj (sj (mj s s) xa) xb))) ya,false⟩∧Below w.heap.size w w':=by
 have HS:=Φ hs;have HS2:=Φ hs2;have HU:=Φ hup;have HD:=Φ hdn;have HSL:=Φ hsl;have HDN:Hid (dn<big∧dn % mP≠0):=Φ ⟨by rw [hdn];exact aj_b _ _,hd0⟩;have HUP:Hid (up<big):=Φ (by rw [hup];exact sj_b _ _);have HSB:Hid (s<big):=Φ (by rw [hsl];exact mj_b _ _);clear hs2 hup hdn hd0 hsl;have NX:=Φ hn1;have NY:=Φ hn2;have MX:=Φ hm1;have MY:=Φ hm2;have HBG:Hid (xa<big∧ya<big∧xb<big∧yb<big):=Φ ⟨mp_big (on_lt hp).1,mp_big (on_lt hp).2,mp_big (on_lt hq).1,mp_big (on_lt hq).2⟩;clear hn1 hn2 hm1 hm2 hp hq;clear hs;go_enter Tryz.func66,Tryz.ntmps66;go_wp2_with fail;have KP:Hid (Bk 72 (((w.alloc (.cells #[.bool false,.slice ax nx cx,.slice ay ny cy] 72)).alloc (.cells #[.bool false,.slice bx mx dx,.slice bb my dy] 72)).alloc (.cells #[.bool false,.slice none 0 0,.slice none 0 0] 72)) w.heap.size #[.bool false,.slice ax nx cx,.slice ay ny cy]):=Φ (Bk.alloc (Bk.alloc (Bk.new rfl)));have KQ:Hid (Bk 72 (((w.alloc (.cells #[.bool false,.slice ax nx cx,.slice ay ny cy] 72)).alloc (.cells #[.bool false,.slice bx mx dx,.slice bb my dy] 72)).alloc (.cells #[.bool false,.slice none 0 0,.slice none 0 0] 72)) (w.heap.size+1) #[.bool false,.slice bx mx dx,.slice bb my dy]):=Φ (Bk.alloc (Bk.new (by simp)));have KR:Hid (Bk 72 (((w.alloc (.cells #[.bool false,.slice ax nx cx,.slice ay ny cy] 72)).alloc (.cells #[.bool false,.slice bx mx dx,.slice bb my dy] 72)).alloc (.cells #[.bool false,.slice none 0 0,.slice none 0 0] 72)) (w.heap.size+1+1) #[.bool false,.slice none 0 0,.slice none 0 0]):=Φ (Bk.new (by simp));have HB:Hid (Below w.heap.size w (((w.alloc (.cells #[.bool false,.slice ax nx cx,.slice ay ny cy] 72)).alloc (.cells #[.bool false,.slice bx mx dx,.slice bb my dy] 72)).alloc (.cells #[.bool false,.slice none 0 0,.slice none 0 0] 72))):=Φ (by go_grown);obtain⟨gQ,hgQ⟩:∃g,g=w.heap.size+1:=⟨_,rfl⟩;rw [← hgQ] at KQ KR ⊢;obtain⟨gR,hgR⟩:∃g,g=gQ+1:=⟨_,rfl⟩;rw [← hgR] at KR ⊢;have HG:=Φ (show w.heap.size≤gR by omega);clear hgR hgQ;generalize (((w.alloc (.cells #[.bool false,.slice ax nx cx,.slice ay ny cy] 72)).alloc (.cells #[.bool false,.slice bx mx dx,.slice bb my dy] 72)).alloc (.cells #[.bool false,.slice none 0 0,.slice none 0 0] 72))=w0 at KP KQ KR HB ⊢;replace NX:=Φ (NX.out.below HB.out);replace NY:=Φ (NY.out.below HB.out);replace MX:=Φ (MX.out.below HB.out);replace MY:=Φ (MY.out.below HB.out);obtain⟨a0,a1,a2⟩:=Bk.cells3 KP.out;obtain⟨b0,b1,b2⟩:=Bk.cells3 KQ.out;go_wp2_with fail;clear a0 a1 a2 b0 b1 b2;refine su5 w.heap.size gQ gR xa ya xb yb nx cx ny cy mx dx my dy ax ay bx bb w0 KP.out KQ.out HBG.out.2.2.2 ⟨_,_,_,_,_,_,rfl,fun _=>⟨NX.out,NY.out⟩⟩ ⟨_,_,_,_,_,_,rfl,fun _=>⟨MX.out,MY.out⟩⟩ ?_;intros;rename_i w1 hb1;rw [HS.out];replace KP:=Φ (KP.out.below hb1);replace KQ:=Φ (KQ.out.below hb1);replace KR:=Φ (KR.out.below hb1);replace NX:=Φ (NX.out.below hb1);replace NY:=Φ (NY.out.below hb1);replace MX:=Φ (MX.out.below hb1);replace MY:=Φ (MY.out.below hb1);replace HB:=Φ (HB.out.trans (hb1.mono HB.out.size));clear hb1;go_wp2_with fail;refine su7 w.heap.size gQ gR xa ya xb yb nx cx ny cy mx dx my dy ax ay bx bb w1 KP.out KQ.out HBG.out.1 HBG.out.2.1 HBG.out.2.2.1 HBG.out.2.2.2 NX.out NY.out MX.out MY.out ?_;intros;rename_i vu vd w2 hb1 hnu hnd;have NU:=Φ hnu;have ND:=Φ hnd;clear hnu hnd;replace KP:=Φ (KP.out.below hb1);replace KQ:=Φ (KQ.out.below hb1);replace KR:=Φ (KR.out.below hb1);replace NX:=Φ (NX.out.below hb1);replace NY:=Φ (NY.out.below hb1);replace MX:=Φ (MX.out.below hb1);replace MY:=Φ (MY.out.below hb1);replace HB:=Φ (HB.out.trans (hb1.mono HB.out.size));clear hb1;obtain⟨a0,a1,a2⟩:=Bk.cells3 KP.out;obtain⟨b0,b1,b2⟩:=Bk.cells3 KQ.out;go_wp2_with fail;clear a0 a1 a2 b0 b1 b2;refine(keep w.heap.size w (same7 _ _ (Po.mk xa ya false) (Po.mk xb yb false) _ ⟨_,_,_,_,_,_,rfl,fun _=>⟨NX.out,NY.out⟩⟩ ⟨_,_,_,_,_,_,rfl,fun _=>⟨MX.out,MY.out⟩⟩) HB.out (Nat.le_refl _)).mono ?_;rintro e w3 ⟨rfl,hb,hk⟩;replace KP:=Φ (KP.out.below hk);replace KQ:=Φ (KQ.out.below hk);replace KR:=Φ (KR.out.below hk);replace NX:=Φ (NX.out.below hk);replace NY:=Φ (NY.out.below hk);replace MX:=Φ (MX.out.below hk);replace MY:=Φ (MY.out.below hk);replace NU:=Φ (NU.out.below hk);replace ND:=Φ (ND.out.below hk);replace HB:=Φ hb;clear hb hk;rw [HS2.out];clear NU ND;obtain⟨a0,a1,a2⟩:=Bk.cellsA3 KP.out;go_wp2_with fail;clear a0 a1 a2;have NL:=Φ (three_nv w3);have hal:=al_below w3 (.cells #[.int .u32 3] 111);replace KP:=Φ (KP.out.below hal);replace KQ:=Φ (KQ.out.below hal);replace KR:=Φ (KR.out.below hal);replace NX:=Φ (NX.out.below hal);replace NY:=Φ (NY.out.below hal);replace MX:=Φ (MX.out.below hal);replace MY:=Φ (MY.out.below hal);replace HB:=Φ (HB.out.trans (hal.mono HB.out.size));clear hal;refine(nk w.heap.size w (times_nv _ _ _ xa xa HBG.out.1 HBG.out.1 NX.out NX.out) HB.out (Nat.le_refl _)).mono ?_;rintro e w4 ⟨va,rfl,hn,hb,hk⟩;replace KP:=Φ (KP.out.below hk);replace KQ:=Φ (KQ.out.below hk);replace KR:=Φ (KR.out.below hk);replace NX:=Φ (NX.out.below hk);replace NY:=Φ (NY.out.below hk);replace MX:=Φ (MX.out.below hk);replace MY:=Φ (MY.out.below hk);replace NL:=Φ (NL.out.below hk);have NA:=Φ hn;replace HB:=Φ hb;clear hn hb hk;go_wp2_with fail;refine(nk w.heap.size w (times_nv _ _ _ 3 (mj xa xa) (by decide +kernel) (mj_b _ _) NL.out NA.out) HB.out (Nat.le_refl _)).mono ?_;rintro e w5 ⟨vb,rfl,hn,hb,hk⟩;replace KP:=Φ (KP.out.below hk);replace KQ:=Φ (KQ.out.below hk);replace KR:=Φ (KR.out.below hk);replace NX:=Φ (NX.out.below hk);replace NY:=Φ (NY.out.below hk);replace MX:=Φ (MX.out.below hk);replace MY:=Φ (MY.out.below hk);replace NL:=Φ (NL.out.below hk);replace NA:=Φ (NA.out.below hk);have NB:=Φ hn;replace HB:=Φ hb;clear hn hb hk;go_wp2_with fail;clear NL NA;have NL:=Φ (three_nv w5);have hal:=al_below w5 (.cells #[.int .u32 3] 111);replace KP:=Φ (KP.out.below hal);replace KQ:=Φ (KQ.out.below hal);replace KR:=Φ (KR.out.below hal);replace NX:=Φ (NX.out.below hal);replace NY:=Φ (NY.out.below hal);replace MX:=Φ (MX.out.below hal);replace MY:=Φ (MY.out.below hal);replace NB:=Φ (NB.out.below hal);replace HB:=Φ (HB.out.trans (hal.mono HB.out.size));clear hal;refine(nk w.heap.size w (minus_nv' _ _ _ (mj 3 (mj xa xa)) 3 (mj_b _ _) (by decide +kernel) NB.out NL.out) HB.out (Nat.le_refl _)).mono ?_;rintro e w6 ⟨vc,rfl,hn,hb,hk⟩;replace KP:=Φ (KP.out.below hk);replace KQ:=Φ (KQ.out.below hk);replace KR:=Φ (KR.out.below hk);replace NX:=Φ (NX.out.below hk);replace NY:=Φ (NY.out.below hk);replace MX:=Φ (MX.out.below hk);replace MY:=Φ (MY.out.below hk);replace NB:=Φ (NB.out.below hk);replace NL:=Φ (NL.out.below hk);have NU:=Φ hn;replace HB:=Φ hb;clear hn hb hk;clear NL NB;rw [← HU.out] at NU;obtain⟨a0,a1,a2⟩:=Bk.cells3 KP.out;go_wp2_with fail;clear a0 a1 a2;refine(nk w.heap.size w (plus_nv' _ _ _ ya ya HBG.out.2.1 HBG.out.2.1 NY.out NY.out) HB.out (Nat.le_refl _)).mono ?_;rintro e w7 ⟨ve,rfl,hn,hb,hk⟩;replace KP:=Φ (KP.out.below hk);replace KQ:=Φ (KQ.out.below hk);replace KR:=Φ (KR.out.below hk);replace NX:=Φ (NX.out.below hk);replace NY:=Φ (NY.out.below hk);replace MX:=Φ (MX.out.below hk);replace MY:=Φ (MY.out.below hk);replace NU:=Φ (NU.out.below hk);have ND:=Φ hn;replace HB:=Φ hb;clear hn hb hk;rw [← HD.out] at ND;go_wp2_with fail;refine(nk w.heap.size w (inv_c _ _ dn HDN.out.1 HDN.out.2 ND.out) HB.out (Nat.le_refl _)).mono ?_;rintro e w8 ⟨vi,rfl,hn,hb,hk⟩;replace KP:=Φ (KP.out.below hk);replace KQ:=Φ (KQ.out.below hk);replace KR:=Φ (KR.out.below hk);replace NX:=Φ (NX.out.below hk);replace NY:=Φ (NY.out.below hk);replace MX:=Φ (MX.out.below hk);replace MY:=Φ (MY.out.below hk);replace NU:=Φ (NU.out.below hk);replace ND:=Φ (ND.out.below hk);have NI:=Φ hn;replace HB:=Φ hb;clear hn hb hk;go_wp2_with fail;refine(nk w.heap.size w (times_nv _ _ _ up (iN dn) HUP.out (mp_big (Nat.mod_lt _ (by decide +kernel))) NU.out NI.out) HB.out (Nat.le_refl _)).mono ?_;rintro e w9 ⟨vs,rfl,hn,hb,hk⟩;replace KP:=Φ (KP.out.below hk);replace KQ:=Φ (KQ.out.below hk);replace KR:=Φ (KR.out.below hk);replace NX:=Φ (NX.out.below hk);replace NY:=Φ (NY.out.below hk);replace MX:=Φ (MX.out.below hk);replace MY:=Φ (MY.out.below hk);replace NU:=Φ (NU.out.below hk);replace ND:=Φ (ND.out.below hk);replace NI:=Φ (NI.out.below hk);have NS:=Φ hn;replace HB:=Φ hb;clear hn hb hk;rw [← HSL.out] at NS;clear NU ND NI;go_wp2_with fail;refine su12 w.heap.size gQ gR xa xb s (.slice ay ny cy) (.slice bb my dy) nx cx mx dx ax bx vs w9 KP.out KQ.out HBG.out.1 HBG.out.2.2.1 HSB.out NX.out MX.out NS.out ?_;intros;rename_i v8 w12 hb1 hn8;obtain⟨a8,n8,c8,rfl⟩:=hn8.shape;have N8:=Φ hn8;clear hn8;replace KP:=Φ (KP.out.below hb1);replace KQ:=Φ (KQ.out.below hb1);replace KR:=Φ (KR.out.below hb1);replace NX:=Φ (NX.out.below hb1);replace NY:=Φ (NY.out.below hb1);replace MX:=Φ (MX.out.below hb1);replace MY:=Φ (MY.out.below hb1);replace NS:=Φ (NS.out.below hb1);replace HB:=Φ (HB.out.trans (hb1.mono HB.out.size));clear hb1;go_wp2_with fail;refine su13 w.heap.size gR xa ya s (sj (sj (mj s s) xa) xb) nx cx ny cy n8 c8 ax ay a8 vs w12 KP.out KR.out HBG.out.1 HBG.out.2.1 HSB.out (sj_b _ _) NX.out NY.out NS.out N8.out ?_;intros;rename_i v9 v10 w13 hb1 hn9;obtain⟨a9,n9,c9,rfl⟩:=hn9.shape;have N9:=Φ hn9;clear hn9;replace KP:=Φ (KP.out.below hb1);replace KQ:=Φ (KQ.out.below hb1);replace KR:=Φ (KR.out.below hb1);replace N8:=Φ (N8.out.below hb1);replace HB:=Φ (HB.out.trans (hb1.mono HB.out.size));clear hb1;have HN:=Φ (And.intro (put3_ex (d:= .bool false) (e:= .slice a8 n8 c8) (f:= .slice a9 n9 c9) N8.out KR.out) (put3_ex (d:= .bool false) (e:= .slice a8 n8 c8) (f:= .slice a9 n9 c9) N9.out KR.out));go_wp2_with fail;refine ret_cell64 rfl gR (.bool false) (.slice a8 n8 c8) (.slice a9 n9 c9) rfl (Bk.put3 KR.out) rfl ⟨_,rfl,⟨_,_,_,_,_,_,rfl,fun _=>HN.out⟩,?_⟩;have hb:=HB.out;have hg:=HG.out
 go_grown
end Ref
end Go.Proofs.YtpggkfdijmnmiaaGreat
