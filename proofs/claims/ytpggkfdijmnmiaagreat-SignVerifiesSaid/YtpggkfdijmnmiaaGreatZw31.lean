/- The drawn regions of the document's Verify, and of the law's -/
import Derived.Test.YtpggkfdijmnmiaaGreatZw27
set_option linter.unusedVariables false
set_option linter.unusedSimpArgs false
set_option maxRecDepth 100000
namespace Go.Proofs.YtpggkfdijmnmiaaGreat
namespace Pl
open Go.RowKit Go.Sort Limbs Ref
set_option maxHeartbeats 16000000
variable {t0 t1 t2 t3 t4 t5 t6 t7 t8 t9 t10 t11 t12 t13 t14 t15 t16 t17 t18 t19 t20 t21 t22 t23 t24 t25 t26 t27 t28 t29 t30 t31 t32 t33 t34 t35 t36 t37 t38 t39 t40 t41 t42 t43 t44 t45 t46 t47 t48 t49 t50 t51 t52 t53 t54 t55 t56 t57 t58 t59 t60 t61 t62:Value}{ds:List Deferred}{Q:Exit→Act→World→Prop}
theorem k_fa72_0 {T:Array Value} {w:World}{ty:TypeId}{dst:Option Tmp}{s:Nat}{ps af g}{b:Nat}(e:T.getD s undef = .pointer (some ⟨b,0,none⟩)): Oper.wp Tryz.prog ⟨dst,.fieldAddr 72 (.tmp s) 0,ty,ps,af,g⟩ ⟨T,ds⟩ w (fun a' w''=>a'=Act.put ⟨T,ds⟩ dst (.pointer (some ⟨b,0,none⟩))∧w''=w) Q:=by
 go_simp
theorem k_fa72_1 {T:Array Value} {w:World}{ty:TypeId}{dst:Option Tmp}{s:Nat}{ps af g}{b:Nat}(e:T.getD s undef = .pointer (some ⟨b,0,none⟩)): Oper.wp Tryz.prog ⟨dst,.fieldAddr 72 (.tmp s) 1,ty,ps,af,g⟩ ⟨T,ds⟩ w (fun a' w''=>a'=Act.put ⟨T,ds⟩ dst (.pointer (some ⟨b,1,none⟩))∧w''=w) Q:=by
 go_simp
theorem k_ld4 {T:Array Value} {w:World}{ty:TypeId}{dst:Option Tmp}{s:Nat}{ps af g}{b o:Nat}{v:Value}(h:w.cell? ⟨b,o,none⟩=some v)(e:T.getD s undef = .pointer (some ⟨b,o,none⟩)): Oper.wp Tryz.prog ⟨dst,.load 4 (.tmp s),ty,ps,af,g⟩ ⟨T,ds⟩ w (fun a' w''=>a'=Act.put ⟨T,ds⟩ dst v∧w''=w) Q:=by
 go_simp
theorem k_ld70 {T:Array Value} {w:World}{ty:TypeId}{dst:Option Tmp}{s:Nat}{ps af g}{b o:Nat}{v:Value}(h:w.cell? ⟨b,o,none⟩=some v)(e:T.getD s undef = .pointer (some ⟨b,o,none⟩)): Oper.wp Tryz.prog ⟨dst,.load 70 (.tmp s),ty,ps,af,g⟩ ⟨T,ds⟩ w (fun a' w''=>a'=Act.put ⟨T,ds⟩ dst v∧w''=w) Q:=by
 go_simp
noncomputable def vRO:Array Oper:=(Tryz.f17.body.bind fun c=>findR c 3).getD #[]
def vR_m:List (List Nat):=[[],[],[],[],[],[2],[2,5],[2,5]]
theorem vR (PW:Bool→Bool→Value→Value→World→Prop)(SB:ByteArray)(w:World)  (cl2:∀(y2 y5:Value) (w:World),PW false false y2 y5 w→Calls Tryz.prog 57 #[.string (SB.extract 0 32)] w fun e w1=>∃v,e = .returned v∧PW true false v y5 w1)(cl5:∀(y2 y5:Value) (w:World),PW true false y2 y5 w→Calls Tryz.prog 57 #[.string (SB.extract 32 64)] w fun e w1=>∃v,e = .returned v∧PW true true y2 v w1)(hz:SB.size=64) (w0:PW false false t25 t28 w.drew) 
  (h:∀(y2 y5:Value) (w1:World),PW true true y2 y5 w1→Q .normal {tmps:=#[t0,t1,.string SB,t3,t4,t5,t6,y2,y5,t9,t10,t11,t12,t13,t14,t15,t16,t17,t18,t19,t20,t21,t22,.string SB,.string (SB.extract 0 32),y2,.string SB,.string (SB.extract 32 64),y5,t29,t30,t31,t32,t33,t34,t35,t36,t37,t38,t39,t40,t41,t42,t43,t44,t45,t46,t47,t48,t49,t50,t51,t52,t53,t54,t55,t56,t57,t58,t59,t60,t61,t62],defers:=ds} w1) :
  (Code.region 3 vRO true).wp Tryz.prog Q {tmps:=#[t0,t1,.string SB,t3,t4,t5,t6,t7,t8,t9,t10,t11,t12,t13,t14,t15,t16,t17,t18,t19,t20,t21,t22,t23,t24,t25,t26,t27,t28,t29,t30,t31,t32,t33,t34,t35,t36,t37,t38,t39,t40,t41,t42,t43,t44,t45,t46,t47,t48,t49,t50,t51,t52,t53,t54,t55,t56,t57,t58,t59,t60,t61,t62],defers:=ds} w:=by
 have hsz:vRO.size=8:=by kernel_rfl
 generalize hT:List.toArray _=T0;have hs:T0.size=63:=by subst hT;rfl
 have g2:T0.getD 2 undef = .string SB:=by subst hT;rfl
 obtain⟨W,hV⟩:∃W:List ((Nat×(Value→Value)) ⊕ Value),W=[.inr (.string SB),.inr (.string (SB.extract 0 32)),.inl (2,id),.inr (.string SB),.inr (.string (SB.extract 32 64)),.inl (5,id),.inl (2,id),.inl (5,id)]:=⟨_,rfl⟩;refine wp_plan (by kernel_rfl) T0 ds [2,5] vR_m (mkV W) (fun dx yx wx=>PW (dx 2) (dx 5) (yx 2) (yx 5) wx) w (by rw [hs];kernel_rfl) (by kernel_rfl) (by kernel_rfl) (by rw [hsz];decide) (fun cx hc ix hne ha yx vx=>mkV_fix (by rw [hV];kernel_rfl) hne ha yx vx) (?key) (fun cx hc ox ho dx yx Tx wx hd hdb hda hK hW=>?_) ⟨fun k=>if k=2 then t25 else if k=5 then t28 else undef,w0⟩ (fun dx yx wx hd hW=>?_)
 case key=>
  rw [hsz];refine all_step (all_step (all_step (all_step (all_step (all_step (all_step (all_step all_zero ?_) ?_) ?_) ?_) ?_) ?_) ?_) ?_
  all_goals
   intro ox ho hic dx yx Tx wx hdb hK hW;replace hdb:=Lib.hid hdb
  ·exact pl0 23 2 9 ho hK g2 fun ps af e=>k_mv e
  ·obtain⟨ps,af,rfl⟩:=core (some 24) (.slice 9 (.tmp 23) none (some (.const (Value.int IntKind.i64 32))) none) 9 none ho;have e23:Tx.getD 23 undef = .string SB:=hK.is 0 ho;exact wpOp_plain ho rfl (by subst hV;go_simp;try rfl)
  ·exact absurd (by decide) hic
  ·exact pl0 26 2 9 ho hK g2 fun ps af e=>k_mv e
  ·obtain⟨ps,af,rfl⟩:=core (some 27) (.slice 9 (.tmp 26) (some (.const (Value.int IntKind.i64 32))) none none) 9 none ho;have e26:Tx.getD 26 undef = .string SB:=hK.is 3 ho;exact wpOp_plain ho rfl (by subst hV;go_simp;try rfl)
  ·exact absurd (by decide) hic
  ·exact pl1 7 25 2 70 ho hK fun ps af e=>k_as e
  ·exact pl1 8 28 5 70 ho hK fun ps af e=>k_as e
 ·have hcase:cx=2∨cx=5:=by simpa using hc
  rcases hcase with rfl | rfl
  ·obtain⟨ps,af,rfl⟩:=core (some 25) (.call {callee:= .value (.func 57),args:=#[.tmp 24],argTypes:=#[9]}) 70 none ho;have e24:Tx.getD 24 undef = .string (SB.extract 0 32):=hK.is 1 ho;have hW1:PW (dx 2) (dx 5) (yx 2) (yx 5) wx:=hW;have f5:=hq hda 5;clear hdb hda;rw [hd,f5.out] at hW1;clear hd hW hc;refine wpOp_plain ho rfl ?_;go_simp;go_at_call 57;refine(cl2 _ _ _ hW1).mono ?_;rintro ex w2 ⟨vx,rfl,hW2⟩;subst hV;refine⟨vx,rfl,?_⟩
   simpa [updB,upd,f5.out] using hW2
  ·obtain⟨ps,af,rfl⟩:=core (some 28) (.call {callee:= .value (.func 57),args:=#[.tmp 27],argTypes:=#[9]}) 70 none ho;have e27:Tx.getD 27 undef = .string (SB.extract 32 64):=hK.is 4 ho;have hW1:PW (dx 2) (dx 5) (yx 2) (yx 5) wx:=hW;have f2:=hq hdb 2;clear hdb hda;rw [hd,f2.out] at hW1;clear hd hW hc;refine wpOp_plain ho rfl ?_;go_simp;go_at_call 57;refine(cl5 _ _ _ hW1).mono ?_;rintro ex w2 ⟨vx,rfl,hW2⟩;subst hV;refine⟨vx,rfl,?_⟩
   simpa [updB,upd,f2.out] using hW2
 ·have hW1:PW (dx 2) (dx 5) (yx 2) (yx 5) wx:=hW;rw [hd 2 (by decide),hd 5 (by decide)] at hW1;have hQ:=h _ _ _ hW1;rw [hsz];subst hV hT;refine cast (congrArg (fun Tx=>Q .normal ⟨Tx,ds⟩ wx) ?_) hQ
  kernel_rfl
noncomputable def vPO:Array Oper:=(Tryz.f17.body.bind fun c=>findR c 7).getD #[]
def vP_m:List (List Nat):=[[],[],[],[1],[1,3],[],[1,3,4],[],[],[1,3,4,6],[1,3,4,6,9],[1,3,4,6,9,10],[],[1,3,4,6,9,10,11,12]]
theorem vP (PW:Bool→Bool→Bool→Bool→Bool→Bool→Bool→Bool→Bool→Value→Value→Value→Value→Value→Value→Value→Value→World→Prop)(gq x y:Nat)(i:Bool)(sb:ByteArray)(rv iv:Value)(w:World)  (cl1:∀(b12:Bool) (y1 y3 y4 y6 y9 y10 y11 y12:Value) (w:World),PW false false false false false false false b12 false y1 y3 y4 y6 y9 y10 y11 y12 w→Calls Tryz.prog 52 #[.string sb] w fun e w1=>∃v,e = .returned v∧PW true false false false false false false b12 false v y3 y4 y6 y9 y10 y11 y12 w1)(cl3:∀(b12:Bool) (y1 y3 y4 y6 y9 y10 y11 y12:Value) (w:World),PW true false false false false false false b12 false y1 y3 y4 y6 y9 y10 y11 y12 w→Calls Tryz.prog 65 #[.int .i64 1,y1,iv] w fun e w1=>∃v,e = .returned v∧PW true true false false false false false b12 false y1 v y4 y6 y9 y10 y11 y12 w1)(cl4:∀(b12:Bool) (y1 y3 y4 y6 y9 y10 y11 y12:Value) (w:World),PW true true false false false false false b12 false y1 y3 y4 y6 y9 y10 y11 y12 w→Calls Tryz.prog 44 #[y3] w fun e w1=>∃v,e = .returned v∧PW true true true false false false false b12 false y1 y3 v y6 y9 y10 y11 y12 w1)(cl6:∀(b12:Bool) (y1 y3 y4 y6 y9 y10 y11 y12:Value) (w:World),PW true true true false false false false b12 false y1 y3 y4 y6 y9 y10 y11 y12 w→Calls Tryz.prog 67 #[.agg #[υ x 0,υ x 1,υ x 2,υ x 3,υ y 0,υ y 1,υ y 2,υ y 3,.bool i]] w fun e w1=>∃v,e = .returned v∧PW true true true true false false false b12 false y1 y3 y4 v y9 y10 y11 y12 w1)(cl9:∀(b12:Bool) (y1 y3 y4 y6 y9 y10 y11 y12:Value) (w:World),PW true true true true false false false b12 false y1 y3 y4 y6 y9 y10 y11 y12 w→Calls Tryz.prog 65 #[.int .i64 1,rv,iv] w fun e w1=>∃v,e = .returned v∧PW true true true true true false false b12 false y1 y3 y4 y6 v y10 y11 y12 w1)(cl10:∀(b12:Bool) (y1 y3 y4 y6 y9 y10 y11 y12:Value) (w:World),PW true true true true true false false b12 false y1 y3 y4 y6 y9 y10 y11 y12 w→Calls Tryz.prog 68 #[y6,y9] w fun e w1=>∃v,e = .returned v∧PW true true true true true true false b12 false y1 y3 y4 y6 y9 v y11 y12 w1)(cl11:∀(b12:Bool) (y1 y3 y4 y6 y9 y10 y11 y12:Value) (w:World),PW true true true true true true false b12 false y1 y3 y4 y6 y9 y10 y11 y12 w→Calls Tryz.prog 66 #[y4,y10] w fun e w1=>∃v,e = .returned v∧PW true true true true true true true b12 false y1 y3 y4 y6 y9 y10 v y12 w1)(cl12:∀(b1 b3 b4 b6 b9 b10 b11:Bool) (y1 y3 y4 y6 y9 y10 y11 y12:Value) (w:World),PW b1 b3 b4 b6 b9 b10 b11 false false y1 y3 y4 y6 y9 y10 y11 y12 w→PW b1 b3 b4 b6 b9 b10 b11 true false y1 y3 y4 y6 y9 y10 y11 (.pointer (some ⟨w.heap.size,0,none⟩)) (w.alloc (.cells #[.bool false,.slice none 0 0,.slice none 0 0] 72)))(cl13:∀(y1 y3 y4 y6 y9 y10 y11 y12:Value) (w:World),PW true true true true true true true true false y1 y3 y4 y6 y9 y10 y11 y12 w→∃(g:Nat) (d0 d1 d2:Value) (i:Bool) (a1 a2:Option Addr) (n1 k1 n2 k2:Nat),y12 = .pointer (some ⟨g,0,none⟩)∧y11 = .agg #[.bool i,.slice a1 n1 k1,.slice a2 n2 k2]∧Bk 72 w g #[d0,d1,d2]∧PW true true true true true true true true true y1 y3 y4 y6 y9 y10 y11 y12 (((w.setCell ⟨g,0,none⟩ (.bool i)).setCell ⟨g,1,none⟩ (.slice a1 n1 k1)).setCell ⟨g,2,none⟩ (.slice a2 n2 k2)))(lq:∀(b1 b3 b4 b6 b9 b10 b11 b12 b13:Bool) (y1 y3 y4 y6 y9 y10 y11 y12:Value) (w:World),PW b1 b3 b4 b6 b9 b10 b11 b12 b13 y1 y3 y4 y6 y9 y10 y11 y12 w→w.cell? ⟨gq,0,none⟩=some (υ x 0)∧w.cell? ⟨gq,1,none⟩=some (υ x 1)∧w.cell? ⟨gq,2,none⟩=some (υ x 2)∧w.cell? ⟨gq,3,none⟩=some (υ x 3)∧w.cell? ⟨gq,4,none⟩=some (υ y 0)∧w.cell? ⟨gq,5,none⟩=some (υ y 1)∧w.cell? ⟨gq,6,none⟩=some (υ y 2)∧w.cell? ⟨gq,7,none⟩=some (υ y 3)∧w.cell? ⟨gq,8,none⟩=some (.bool i)) (w0:PW false false false false false false false false false t40 t42 t43 t45 t48 t49 t50 t10 w.drew) 
  (h:∀(y1 y3 y4 y6 y9 y10 y11 y12:Value) (w1:World),PW true true true true true true true true true y1 y3 y4 y6 y9 y10 y11 y12 w1→Q .normal {tmps:=#[t0,.string sb,t2,.pointer (some ⟨gq,0,none⟩),t4,t5,t6,rv,t8,iv,y12,t11,t12,t13,t14,t15,t16,t17,t18,t19,t20,t21,t22,t23,t24,t25,t26,t27,t28,t29,t30,t31,t32,t33,t34,t35,t36,t37,t38,.string sb,y1,iv,y3,y4,.agg #[υ x 0,υ x 1,υ x 2,υ x 3,υ y 0,υ y 1,υ y 2,υ y 3,.bool i],y6,rv,iv,y9,y10,y11,t51,t52,t53,t54,t55,t56,t57,t58,t59,t60,t61,t62],defers:=ds} w1) :
  (Code.region 7 vPO true).wp Tryz.prog Q {tmps:=#[t0,.string sb,t2,.pointer (some ⟨gq,0,none⟩),t4,t5,t6,rv,t8,iv,t10,t11,t12,t13,t14,t15,t16,t17,t18,t19,t20,t21,t22,t23,t24,t25,t26,t27,t28,t29,t30,t31,t32,t33,t34,t35,t36,t37,t38,t39,t40,t41,t42,t43,t44,t45,t46,t47,t48,t49,t50,t51,t52,t53,t54,t55,t56,t57,t58,t59,t60,t61,t62],defers:=ds} w:=by
 have hsz:vPO.size=14:=by kernel_rfl
 generalize hT:List.toArray _=T0;have hs:T0.size=63:=by subst hT;rfl
 have g1:T0.getD 1 undef = .string sb:=by subst hT;rfl
 have g3:T0.getD 3 undef = .pointer (some ⟨gq,0,none⟩):=by subst hT;rfl
 have g7:T0.getD 7 undef=rv:=by subst hT;rfl
 have g9:T0.getD 9 undef=iv:=by subst hT;rfl
 obtain⟨W,hV⟩:∃W:List ((Nat×(Value→Value)) ⊕ Value),W=[.inr (.string sb),.inl (1,id),.inr (iv),.inl (3,id),.inl (4,id),.inr (.agg #[υ x 0,υ x 1,υ x 2,υ x 3,υ y 0,υ y 1,υ y 2,υ y 3,.bool i]),.inl (6,id),.inr (rv),.inr (iv),.inl (9,id),.inl (10,id),.inl (11,id),.inl (12,id),.inr undef]:=⟨_,rfl⟩;refine wp_plan (by kernel_rfl) T0 ds [1,3,4,6,9,10,11,12,13] vP_m (mkV W) (fun dx yx wx=>PW (dx 1) (dx 3) (dx 4) (dx 6) (dx 9) (dx 10) (dx 11) (dx 12) (dx 13) (yx 1) (yx 3) (yx 4) (yx 6) (yx 9) (yx 10) (yx 11) (yx 12) wx) w (by rw [hs];kernel_rfl) (by kernel_rfl) (by kernel_rfl) (by rw [hsz];decide) (fun cx hc ix hne ha yx vx=>mkV_fix (by rw [hV];kernel_rfl) hne ha yx vx) (?key) (fun cx hc ox ho dx yx Tx wx hd hdb hda hK hW=>?_) ⟨fun k=>if k=1 then t40 else if k=3 then t42 else if k=4 then t43 else if k=6 then t45 else if k=9 then t48 else if k=10 then t49 else if k=11 then t50 else if k=12 then t10 else undef,w0⟩ (fun dx yx wx hd hW=>?_)
 case key=>
  rw [hsz];refine all_step (all_step (all_step (all_step (all_step (all_step (all_step (all_step (all_step (all_step (all_step (all_step (all_step (all_step all_zero ?_) ?_) ?_) ?_) ?_) ?_) ?_) ?_) ?_) ?_) ?_) ?_) ?_) ?_
  all_goals
   intro ox ho hic dx yx Tx wx hdb hK hW;replace hdb:=Lib.hid hdb
  ·exact pl0 39 1 9 ho hK g1 fun ps af e=>k_mv e
  ·exact absurd (by decide) hic
  ·exact pl0 41 9 70 ho hK g9 fun ps af e=>k_mv e
  ·exact absurd (by decide) hic
  ·exact absurd (by decide) hic
  ·obtain⟨ps,af,rfl⟩:=core (some 44) (.load 26 (.tmp 3)) 26 none ho;have e3:Tx.getD 3 undef = .pointer (some ⟨gq,0,none⟩):=hK.of (by kernel_rfl) g3;obtain⟨hlq0,hlq1,hlq2,hlq3,hlq4,hlq5,hlq6,hlq7,hlq8⟩:=lq _ _ _ _ _ _ _ _ _ _ _ _ _ _ _ _ _ _ hW;exact wpOp_plain ho rfl (by subst hV;go_simp;try rfl)
  ·exact absurd (by decide) hic
  ·exact pl0 46 7 70 ho hK g7 fun ps af e=>k_mv e
  ·exact pl0 47 9 70 ho hK g9 fun ps af e=>k_mv e
  ·exact absurd (by decide) hic
  ·exact absurd (by decide) hic
  ·exact absurd (by decide) hic
  ·exact absurd (by decide) hic
  ·exact absurd (by decide) hic
 ·have hcase:cx=1∨cx=3∨cx=4∨cx=6∨cx=9∨cx=10∨cx=11∨cx=12∨cx=13:=by simpa using hc
  rcases hcase with rfl | rfl | rfl | rfl | rfl | rfl | rfl | rfl | rfl
  ·obtain⟨ps,af,rfl⟩:=core (some 40) (.call {callee:= .value (.func 52),args:=#[.tmp 39],argTypes:=#[9]}) 70 none ho;have e39:Tx.getD 39 undef = .string sb:=hK.is 0 ho;have hW1:PW (dx 1) (dx 3) (dx 4) (dx 6) (dx 9) (dx 10) (dx 11) (dx 12) (dx 13) (yx 1) (yx 3) (yx 4) (yx 6) (yx 9) (yx 10) (yx 11) (yx 12) wx:=hW;have f3:=hq hda 3;have f4:=hq hda 4;have f6:=hq hda 6;have f9:=hq hda 9;have f10:=hq hda 10;have f11:=hq hda 11;have f13:=hq hda 13;clear hdb hda;rw [hd,f3.out,f4.out,f6.out,f9.out,f10.out,f11.out,f13.out] at hW1;clear hd hW hc;refine wpOp_plain ho rfl ?_;go_simp;go_at_call 52;refine(cl1 _ _ _ _ _ _ _ _ _ _ hW1).mono ?_;rintro ex w2 ⟨vx,rfl,hW2⟩;subst hV;refine⟨vx,rfl,?_⟩
   simpa [updB,upd,f3.out,f4.out,f6.out,f9.out,f10.out,f11.out,f13.out] using hW2
  ·obtain⟨ps,af,rfl⟩:=core (some 42) (.call {callee:= .value (.func 65),args:=#[.const (Value.int IntKind.i64 1),.tmp 40,.tmp 41],argTypes:=#[3,70,70]}) 70 none ho;have e40:Tx.getD 40 undef=yx 1:=hK.is 1 ho;have e41:Tx.getD 41 undef=iv:=hK.is 2 ho;have hW1:PW (dx 1) (dx 3) (dx 4) (dx 6) (dx 9) (dx 10) (dx 11) (dx 12) (dx 13) (yx 1) (yx 3) (yx 4) (yx 6) (yx 9) (yx 10) (yx 11) (yx 12) wx:=hW;have f1:=hq hdb 1;have f4:=hq hda 4;have f6:=hq hda 6;have f9:=hq hda 9;have f10:=hq hda 10;have f11:=hq hda 11;have f13:=hq hda 13;clear hdb hda;rw [hd,f1.out,f4.out,f6.out,f9.out,f10.out,f11.out,f13.out] at hW1;clear hd hW hc;refine wpOp_plain ho rfl ?_;go_simp;go_at_call 65;refine(cl3 _ _ _ _ _ _ _ _ _ _ hW1).mono ?_;rintro ex w2 ⟨vx,rfl,hW2⟩;subst hV;refine⟨vx,rfl,?_⟩
   simpa [updB,upd,f1.out,f4.out,f6.out,f9.out,f10.out,f11.out,f13.out] using hW2
  ·obtain⟨ps,af,rfl⟩:=core (some 43) (.call {callee:= .value (.func 44),args:=#[.tmp 42],argTypes:=#[70]}) 72 none ho;have e42:Tx.getD 42 undef=yx 3:=hK.is 3 ho;have hW1:PW (dx 1) (dx 3) (dx 4) (dx 6) (dx 9) (dx 10) (dx 11) (dx 12) (dx 13) (yx 1) (yx 3) (yx 4) (yx 6) (yx 9) (yx 10) (yx 11) (yx 12) wx:=hW;have f1:=hq hdb 1;have f3:=hq hdb 3;have f6:=hq hda 6;have f9:=hq hda 9;have f10:=hq hda 10;have f11:=hq hda 11;have f13:=hq hda 13;clear hdb hda;rw [hd,f1.out,f3.out,f6.out,f9.out,f10.out,f11.out,f13.out] at hW1;clear hd hW hc;refine wpOp_plain ho rfl ?_;go_simp;go_at_call 44;refine(cl4 _ _ _ _ _ _ _ _ _ _ hW1).mono ?_;rintro ex w2 ⟨vx,rfl,hW2⟩;subst hV;refine⟨vx,rfl,?_⟩
   simpa [updB,upd,f1.out,f3.out,f6.out,f9.out,f10.out,f11.out,f13.out] using hW2
  ·obtain⟨ps,af,rfl⟩:=core (some 45) (.call {callee:= .value (.func 67),args:=#[.tmp 44],argTypes:=#[26]}) 72 none ho;have e44:Tx.getD 44 undef = .agg #[υ x 0,υ x 1,υ x 2,υ x 3,υ y 0,υ y 1,υ y 2,υ y 3,.bool i]:=hK.is 5 ho;have hW1:PW (dx 1) (dx 3) (dx 4) (dx 6) (dx 9) (dx 10) (dx 11) (dx 12) (dx 13) (yx 1) (yx 3) (yx 4) (yx 6) (yx 9) (yx 10) (yx 11) (yx 12) wx:=hW;have f1:=hq hdb 1;have f3:=hq hdb 3;have f4:=hq hdb 4;have f9:=hq hda 9;have f10:=hq hda 10;have f11:=hq hda 11;have f13:=hq hda 13;clear hdb hda;rw [hd,f1.out,f3.out,f4.out,f9.out,f10.out,f11.out,f13.out] at hW1;clear hd hW hc;refine wpOp_plain ho rfl ?_;go_simp;go_at_call 67;refine(cl6 _ _ _ _ _ _ _ _ _ _ hW1).mono ?_;rintro ex w2 ⟨vx,rfl,hW2⟩;subst hV;refine⟨vx,rfl,?_⟩
   simpa [updB,upd,f1.out,f3.out,f4.out,f9.out,f10.out,f11.out,f13.out] using hW2
  ·obtain⟨ps,af,rfl⟩:=core (some 48) (.call {callee:= .value (.func 65),args:=#[.const (Value.int IntKind.i64 1),.tmp 46,.tmp 47],argTypes:=#[3,70,70]}) 70 none ho;have e46:Tx.getD 46 undef=rv:=hK.is 7 ho;have e47:Tx.getD 47 undef=iv:=hK.is 8 ho;have hW1:PW (dx 1) (dx 3) (dx 4) (dx 6) (dx 9) (dx 10) (dx 11) (dx 12) (dx 13) (yx 1) (yx 3) (yx 4) (yx 6) (yx 9) (yx 10) (yx 11) (yx 12) wx:=hW;have f1:=hq hdb 1;have f3:=hq hdb 3;have f4:=hq hdb 4;have f6:=hq hdb 6;have f10:=hq hda 10;have f11:=hq hda 11;have f13:=hq hda 13;clear hdb hda;rw [hd,f1.out,f3.out,f4.out,f6.out,f10.out,f11.out,f13.out] at hW1;clear hd hW hc;refine wpOp_plain ho rfl ?_;go_simp;go_at_call 65;refine(cl9 _ _ _ _ _ _ _ _ _ _ hW1).mono ?_;rintro ex w2 ⟨vx,rfl,hW2⟩;subst hV;refine⟨vx,rfl,?_⟩
   simpa [updB,upd,f1.out,f3.out,f4.out,f6.out,f10.out,f11.out,f13.out] using hW2
  ·obtain⟨ps,af,rfl⟩:=core (some 49) (.call {callee:= .value (.func 68),args:=#[.tmp 45,.tmp 48],argTypes:=#[72,70]}) 72 none ho;have e45:Tx.getD 45 undef=yx 6:=hK.is 6 ho;have e48:Tx.getD 48 undef=yx 9:=hK.is 9 ho;have hW1:PW (dx 1) (dx 3) (dx 4) (dx 6) (dx 9) (dx 10) (dx 11) (dx 12) (dx 13) (yx 1) (yx 3) (yx 4) (yx 6) (yx 9) (yx 10) (yx 11) (yx 12) wx:=hW;have f1:=hq hdb 1;have f3:=hq hdb 3;have f4:=hq hdb 4;have f6:=hq hdb 6;have f9:=hq hdb 9;have f11:=hq hda 11;have f13:=hq hda 13;clear hdb hda;rw [hd,f1.out,f3.out,f4.out,f6.out,f9.out,f11.out,f13.out] at hW1;clear hd hW hc;refine wpOp_plain ho rfl ?_;go_simp;go_at_call 68;refine(cl10 _ _ _ _ _ _ _ _ _ _ hW1).mono ?_;rintro ex w2 ⟨vx,rfl,hW2⟩;subst hV;refine⟨vx,rfl,?_⟩
   simpa [updB,upd,f1.out,f3.out,f4.out,f6.out,f9.out,f11.out,f13.out] using hW2
  ·obtain⟨ps,af,rfl⟩:=core (some 50) (.call {callee:= .value (.func 66),args:=#[.tmp 43,.tmp 49],argTypes:=#[72,72]}) 72 none ho;have e43:Tx.getD 43 undef=yx 4:=hK.is 4 ho;have e49:Tx.getD 49 undef=yx 10:=hK.is 10 ho;have hW1:PW (dx 1) (dx 3) (dx 4) (dx 6) (dx 9) (dx 10) (dx 11) (dx 12) (dx 13) (yx 1) (yx 3) (yx 4) (yx 6) (yx 9) (yx 10) (yx 11) (yx 12) wx:=hW;have f1:=hq hdb 1;have f3:=hq hdb 3;have f4:=hq hdb 4;have f6:=hq hdb 6;have f9:=hq hdb 9;have f10:=hq hdb 10;have f13:=hq hda 13;clear hdb hda;rw [hd,f1.out,f3.out,f4.out,f6.out,f9.out,f10.out,f13.out] at hW1;clear hd hW hc;refine wpOp_plain ho rfl ?_;go_simp;go_at_call 66;refine(cl11 _ _ _ _ _ _ _ _ _ _ hW1).mono ?_;rintro ex w2 ⟨vx,rfl,hW2⟩;subst hV;refine⟨vx,rfl,?_⟩
   simpa [updB,upd,f1.out,f3.out,f4.out,f6.out,f9.out,f10.out,f13.out] using hW2
  ·obtain⟨ps,af,rfl⟩:=core (some 10) (.alloc 72) 0 none ho;have hW1:PW (dx 1) (dx 3) (dx 4) (dx 6) (dx 9) (dx 10) (dx 11) (dx 12) (dx 13) (yx 1) (yx 3) (yx 4) (yx 6) (yx 9) (yx 10) (yx 11) (yx 12) wx:=hW;have f13:=hq hda 13;clear hdb hda;rw [hd,f13.out] at hW1;clear hd hW hc;have hW2:=cl12 _ _ _ _ _ _ _ _ _ _ _ _ _ _ _ _ hW1;subst hV;refine wpOp_plain ho rfl ?_;go_simp;refine⟨_,rfl,?_⟩
   simpa [updB,upd,f13.out] using hW2
  ·obtain⟨ps,af,rfl⟩:=core none (.store 72 (.tmp 10) (.tmp 50)) 0 none ho;have e10:Tx.getD 10 undef=yx 12:=hK.is 12 ho;have e50:Tx.getD 50 undef=yx 11:=hK.is 11 ho;have hW1:PW (dx 1) (dx 3) (dx 4) (dx 6) (dx 9) (dx 10) (dx 11) (dx 12) (dx 13) (yx 1) (yx 3) (yx 4) (yx 6) (yx 9) (yx 10) (yx 11) (yx 12) wx:=hW;have f1:=hq hdb 1;have f3:=hq hdb 3;have f4:=hq hdb 4;have f6:=hq hdb 6;have f9:=hq hdb 9;have f10:=hq hdb 10;have f11:=hq hdb 11;have f12:=hq hdb 12;clear hdb hda;rw [hd,f1.out,f3.out,f4.out,f6.out,f9.out,f10.out,f11.out,f12.out] at hW1;clear hd hW hc;obtain⟨g,d0,d1,d2,i,a1,a2,n1,k1,n2,k2,e6,e7,hk,hW2⟩:=cl13 _ _ _ _ _ _ _ _ _ hW1;rw [e6] at e10;rw [e7] at e50;obtain⟨c0,c1,c2⟩:=Bk.cells3 hk;obtain⟨z0,z1,z2⟩:=Bk.fros3 hk;subst hV;refine wpOp_plain ho rfl ?_;go_simp
   simpa [updB,upd,f1.out,f3.out,f4.out,f6.out,f9.out,f10.out,f11.out,f12.out] using hW2
 ·have hW1:PW (dx 1) (dx 3) (dx 4) (dx 6) (dx 9) (dx 10) (dx 11) (dx 12) (dx 13) (yx 1) (yx 3) (yx 4) (yx 6) (yx 9) (yx 10) (yx 11) (yx 12) wx:=hW;rw [hd 1 (by decide),hd 3 (by decide),hd 4 (by decide),hd 6 (by decide),hd 9 (by decide),hd 10 (by decide),hd 11 (by decide),hd 12 (by decide),hd 13 (by decide)] at hW1;have hQ:=h _ _ _ _ _ _ _ _ _ hW1;rw [hsz];subst hV hT;refine cast (congrArg (fun Tx=>Q .normal ⟨Tx,ds⟩ wx) ?_) hQ
  kernel_rfl
noncomputable def vEO:Array Oper:=(Tryz.f17.body.bind fun c=>findR c 8).getD #[]
def vE_m:List (List Nat):=[[],[],[],[],[],[],[],[6],[],[6,7],[6,7,9],[6,7,9],[6,7,9]]
theorem vE (PW:Bool→Bool→Bool→Value→Value→World→Prop)(gp:Nat)(rv sx:Value)(c:Int)(z:Bool)(w:World)  (l0:∀(b6 b7 b9:Bool) (y6 y7:Value) (w:World),PW b6 b7 b9 y6 y7 w→w.cell? ⟨gp,0,none⟩=some (.bool false))(l1:∀(b6 b7 b9:Bool) (y6 y7:Value) (w:World),PW b6 b7 b9 y6 y7 w→w.cell? ⟨gp,1,none⟩=some (sx))(cl6:∀(y6 y7:Value) (w:World),PW false false false y6 y7 w→Calls Tryz.prog 71 #[.int .i64 1] w fun e w1=>∃v,e = .returned v∧PW true false false v y7 w1)(cl7:∀(y6 y7:Value) (w:World),PW true false false y6 y7 w→Calls Tryz.prog 70 #[sx,y6] w fun e w1=>∃v,e = .returned v∧PW true true false y6 v w1)(cl9:∀(y6 y7:Value) (w:World),PW true true false y6 y7 w→Calls Tryz.prog 69 #[y7,rv] w fun e w1=>e = .returned (.int .i64 c)∧PW true true true y6 y7 w1)(hc:(c == 0)=z) (w0:PW false false false t57 t58 w.drew) 
  (h:∀(y6 y7:Value) (w1:World),PW true true true y6 y7 w1→Q .normal {tmps:=#[t0,t1,t2,t3,t4,t5,.bool z,rv,t8,t9,.pointer (some ⟨gp,0,none⟩),t11,t12,t13,t14,t15,t16,t17,t18,t19,t20,t21,t22,t23,t24,t25,t26,t27,t28,t29,t30,t31,t32,t33,t34,t35,t36,t37,t38,t39,t40,t41,t42,t43,t44,t45,t46,t47,t48,t49,t50,.pointer (some ⟨gp,0,none⟩),.bool false,.bool true,.bool true,.pointer (some ⟨gp,1,none⟩),sx,y6,y7,rv,.int .i64 c,.bool z,.bool z],defers:=ds} w1) :
  (Code.region 8 vEO true).wp Tryz.prog Q {tmps:=#[t0,t1,t2,t3,t4,t5,t6,rv,t8,t9,.pointer (some ⟨gp,0,none⟩),t11,t12,t13,t14,t15,t16,t17,t18,t19,t20,t21,t22,t23,t24,t25,t26,t27,t28,t29,t30,t31,t32,t33,t34,t35,t36,t37,t38,t39,t40,t41,t42,t43,t44,t45,t46,t47,t48,t49,t50,t51,t52,t53,t54,t55,t56,t57,t58,t59,t60,t61,t62],defers:=ds} w:=by
 have hsz:vEO.size=13:=by kernel_rfl
 generalize hT:List.toArray _=T0;have hs:T0.size=63:=by subst hT;rfl
 have g7:T0.getD 7 undef=rv:=by subst hT;rfl
 have g10:T0.getD 10 undef = .pointer (some ⟨gp,0,none⟩):=by subst hT;rfl
 obtain⟨W,hV⟩:∃W:List ((Nat×(Value→Value)) ⊕ Value),W=[.inr (.pointer (some ⟨gp,0,none⟩)),.inr (.bool false),.inr (.bool true),.inr (.bool true),.inr (.pointer (some ⟨gp,1,none⟩)),.inr (sx),.inl (6,id),.inl (7,id),.inr (rv),.inr (.int .i64 c),.inr (.bool z),.inr (.bool z),.inr (.bool z)]:=⟨_,rfl⟩;refine wp_plan (by kernel_rfl) T0 ds [6,7,9] vE_m (mkV W) (fun dx yx wx=>PW (dx 6) (dx 7) (dx 9) (yx 6) (yx 7) wx) w (by rw [hs];kernel_rfl) (by kernel_rfl) (by kernel_rfl) (by rw [hsz];decide) (fun cx hc ix hne ha yx vx=>mkV_fix (by rw [hV];kernel_rfl) hne ha yx vx) (?key) (fun cx hc ox ho dx yx Tx wx hd hdb hda hK hW=>?_) ⟨fun k=>if k=6 then t57 else if k=7 then t58 else undef,w0⟩ (fun dx yx wx hd hW=>?_)
 case key=>
  rw [hsz];refine all_step (all_step (all_step (all_step (all_step (all_step (all_step (all_step (all_step (all_step (all_step (all_step (all_step all_zero ?_) ?_) ?_) ?_) ?_) ?_) ?_) ?_) ?_) ?_) ?_) ?_) ?_
  all_goals
   intro ox ho hic dx yx Tx wx hdb hK hW;replace hdb:=Lib.hid hdb
  ·exact pl0 51 10 0 ho hK g10 fun ps af e=>k_fa72_0 e
  ·exact pl1 52 51 0 4 ho hK fun ps af e=>k_ld4 (l0 _ _ _ _ _ _ hW) e
  ·obtain⟨ps,af,rfl⟩:=core (some 53) (.unOp UnOp.not 4 (.tmp 52)) 4 none ho;have e52:Tx.getD 52 undef = .bool false:=hK.is 1 ho;exact wpOp_plain ho rfl (by subst hV;go_simp;try rfl)
  ·exact pl1 54 53 2 4 ho hK fun ps af e=>k_mv e
  ·exact pg0 3 54 true 55 10 0 ho hK g10 fun ps af e=>k_fa72_1 e
  ·exact pg1 3 54 true 56 55 4 70 ho hK fun ps af e=>k_ld70 (l1 _ _ _ _ _ _ hW) e
  ·exact absurd (by decide) hic
  ·exact absurd (by decide) hic
  ·exact pg0 3 54 true 59 7 70 ho hK g7 fun ps af e=>k_mv e
  ·exact absurd (by decide) hic
  ·obtain⟨ps,af,rfl⟩:=core (some 61) (.binOp BinOp.eql 3 (.tmp 60) (.const (Value.int IntKind.i64 0)) 3) 4 (some (3,true)) ho;have e60:Tx.getD 60 undef = .int .i64 c:=hK.is 9 ho;exact wpOp_want ho ((wanted_of (d:=54) (b:=true) rfl (by kernel_rfl) (hK.is 3 ho)).trans rfl) (by subst hV;go_simp;try rfl)
  ·obtain⟨ps,af,rfl⟩:=core (some 62) (.pick (.tmp 54) (.tmp 61) (.const (Value.bool false))) 4 none ho;have e54:Tx.getD 54 undef = .bool true:=hK.is 3 ho;have e61:Tx.getD 61 undef = .bool z:=hK.is 10 ho;exact wpOp_plain ho rfl (by subst hV;go_simp;try rfl)
  ·exact pl1 6 62 11 4 ho hK fun ps af e=>k_as e
 ·have hcase:cx=6∨cx=7∨cx=9:=by simpa using hc
  rcases hcase with rfl | rfl | rfl
  ·obtain⟨ps,af,rfl⟩:=core (some 57) (.call {callee:= .value (.func 71),args:=#[.const (Value.int IntKind.i64 1)],argTypes:=#[3]}) 70 (some (3,true)) ho;have hW1:PW (dx 6) (dx 7) (dx 9) (yx 6) (yx 7) wx:=hW;have f7:=hq hda 7;have f9:=hq hda 9;clear hdb hda;rw [hd,f7.out,f9.out] at hW1;clear hd hW hc;refine wpOp_want ho ((wanted_of (d:=54) (b:=true) rfl (by kernel_rfl) (hK.is 3 ho)).trans rfl) ?_;go_simp;go_at_call 71;refine(cl6 _ _ _ hW1).mono ?_;rintro ex w2 ⟨vx,rfl,hW2⟩;subst hV;refine⟨vx,rfl,?_⟩
   simpa [updB,upd,f7.out,f9.out] using hW2
  ·obtain⟨ps,af,rfl⟩:=core (some 58) (.call {callee:= .value (.func 70),args:=#[.tmp 56,.tmp 57],argTypes:=#[70,70]}) 70 (some (3,true)) ho;have e56:Tx.getD 56 undef=sx:=hK.is 5 ho;have e57:Tx.getD 57 undef=yx 6:=hK.is 6 ho;have hW1:PW (dx 6) (dx 7) (dx 9) (yx 6) (yx 7) wx:=hW;have f6:=hq hdb 6;have f9:=hq hda 9;clear hdb hda;rw [hd,f6.out,f9.out] at hW1;clear hd hW hc;refine wpOp_want ho ((wanted_of (d:=54) (b:=true) rfl (by kernel_rfl) (hK.is 3 ho)).trans rfl) ?_;go_simp;go_at_call 70;refine(cl7 _ _ _ hW1).mono ?_;rintro ex w2 ⟨vx,rfl,hW2⟩;subst hV;refine⟨vx,rfl,?_⟩
   simpa [updB,upd,f6.out,f9.out] using hW2
  ·obtain⟨ps,af,rfl⟩:=core (some 60) (.call {callee:= .value (.func 69),args:=#[.tmp 58,.tmp 59],argTypes:=#[70,70]}) 3 (some (3,true)) ho;have e58:Tx.getD 58 undef=yx 7:=hK.is 7 ho;have e59:Tx.getD 59 undef=rv:=hK.is 8 ho;have hW1:PW (dx 6) (dx 7) (dx 9) (yx 6) (yx 7) wx:=hW;have f6:=hq hdb 6;have f7:=hq hdb 7;clear hdb hda;rw [hd,f6.out,f7.out] at hW1;clear hd hW hc;refine wpOp_want ho ((wanted_of (d:=54) (b:=true) rfl (by kernel_rfl) (hK.is 3 ho)).trans rfl) ?_;go_simp;go_at_call 69;refine(cl9 _ _ _ hW1).mono ?_;rintro ex w2 ⟨rfl,hW2⟩;subst hV
   first | refine⟨undef,rfl,?_⟩ | refine⟨⟨undef,rfl⟩,?_⟩
   simpa [updB,upd,f6.out,f7.out] using hW2
 ·have hW1:PW (dx 6) (dx 7) (dx 9) (yx 6) (yx 7) wx:=hW;rw [hd 6 (by decide),hd 7 (by decide),hd 9 (by decide)] at hW1;have hQ:=h _ _ _ hW1;rw [hsz];subst hV hT;refine cast (congrArg (fun Tx=>Q .normal ⟨Tx,ds⟩ wx) ?_) hQ
  kernel_rfl
noncomputable def vLO:Array Oper:=(Tryz.f5.body.bind fun c=>findR c 1).getD #[]
def vL_m:List (List Nat):=[[],[0],[0],[0],[0],[0],[0],[0],[0],[0,5],[0,5,9],[0,5,9],[0,5,9]]
theorem vL (PW:Bool→Bool→Bool→World→Prop)(gq x y:Nat)(i r:Bool)(sb SB:ByteArray)(w:World)  (cl0:∀(w:World),PW false false false w→Calls Tryz.prog 13 #[] w fun e w1=>e = .returned (.bool true)∧PW true false false  w1)(cl5:∀(w:World),PW true false false w→Calls Tryz.prog 16 #[.agg #[υ x 0,υ x 1,υ x 2,υ x 3,υ y 0,υ y 1,υ y 2,υ y 3,.bool i],.string sb,.string SB] w fun e w1=>e = .returned (.bool r)∧PW true true false  w1)(cl9:∀(w:World),PW true true false w→Calls Tryz.prog 17 #[.agg #[υ x 0,υ x 1,υ x 2,υ x 3,υ y 0,υ y 1,υ y 2,υ y 3,.bool i],.string sb,.string SB] w fun e w1=>e = .returned (.bool r)∧PW true true true  w1)(lq:∀(b0 b5 b9:Bool) (w:World),PW b0 b5 b9  w→w.cell? ⟨gq,0,none⟩=some (υ x 0)∧w.cell? ⟨gq,1,none⟩=some (υ x 1)∧w.cell? ⟨gq,2,none⟩=some (υ x 2)∧w.cell? ⟨gq,3,none⟩=some (υ x 3)∧w.cell? ⟨gq,4,none⟩=some (υ y 0)∧w.cell? ⟨gq,5,none⟩=some (υ y 1)∧w.cell? ⟨gq,6,none⟩=some (υ y 2)∧w.cell? ⟨gq,7,none⟩=some (υ y 3)∧w.cell? ⟨gq,8,none⟩=some (.bool i)) (w0:PW false false false  w.drew) 
  (h:∀(w1:World),PW true true true  w1→Q .normal {tmps:=#[t0,.string sb,.string SB,.pointer (some ⟨gq,0,none⟩),t4,t5,.bool true,.bool true,.bool true,.agg #[υ x 0,υ x 1,υ x 2,υ x 3,υ y 0,υ y 1,υ y 2,υ y 3,.bool i],.string sb,.string SB,.bool r,.agg #[υ x 0,υ x 1,υ x 2,υ x 3,υ y 0,υ y 1,υ y 2,υ y 3,.bool i],.string sb,.string SB,.bool r,.bool true,.bool true],defers:=ds} w1) :
  (Code.region 1 vLO true).wp Tryz.prog Q {tmps:=#[t0,.string sb,.string SB,.pointer (some ⟨gq,0,none⟩),t4,t5,t6,t7,t8,t9,t10,t11,t12,t13,t14,t15,t16,t17,t18],defers:=ds} w:=by
 have hsz:vLO.size=13:=by kernel_rfl
 generalize hT:List.toArray _=T0;have hs:T0.size=19:=by subst hT;rfl
 have g1:T0.getD 1 undef = .string sb:=by subst hT;rfl
 have g2:T0.getD 2 undef = .string SB:=by subst hT;rfl
 have g3:T0.getD 3 undef = .pointer (some ⟨gq,0,none⟩):=by subst hT;rfl
 obtain⟨W,hV⟩:∃W:List ((Nat×(Value→Value)) ⊕ Value),W=[.inr (.bool true),.inr (.bool true),.inr (.agg #[υ x 0,υ x 1,υ x 2,υ x 3,υ y 0,υ y 1,υ y 2,υ y 3,.bool i]),.inr (.string sb),.inr (.string SB),.inr (.bool r),.inr (.agg #[υ x 0,υ x 1,υ x 2,υ x 3,υ y 0,υ y 1,υ y 2,υ y 3,.bool i]),.inr (.string sb),.inr (.string SB),.inr (.bool r),.inr (.bool true),.inr (.bool true),.inr (.bool true)]:=⟨_,rfl⟩;refine wp_plan (by kernel_rfl) T0 ds [0,5,9] vL_m (mkV W) (fun dx yx wx=>PW (dx 0) (dx 5) (dx 9)  wx) w (by rw [hs];kernel_rfl) (by kernel_rfl) (by kernel_rfl) (by rw [hsz];decide) (fun cx hc ix hne ha yx vx=>mkV_fix (by rw [hV];kernel_rfl) hne ha yx vx) (?key) (fun cx hc ox ho dx yx Tx wx hd hdb hda hK hW=>?_) ⟨fun k=>undef,w0⟩ (fun dx yx wx hd hW=>?_)
 case key=>
  rw [hsz];refine all_step (all_step (all_step (all_step (all_step (all_step (all_step (all_step (all_step (all_step (all_step (all_step (all_step all_zero ?_) ?_) ?_) ?_) ?_) ?_) ?_) ?_) ?_) ?_) ?_) ?_) ?_
  all_goals
   intro ox ho hic dx yx Tx wx hdb hK hW;replace hdb:=Lib.hid hdb
  ·exact absurd (by decide) hic
  ·exact pl1 8 7 0 4 ho hK fun ps af e=>k_mv e
  ·obtain⟨ps,af,rfl⟩:=core (some 9) (.load 26 (.tmp 3)) 26 (some (1,true)) ho;have e3:Tx.getD 3 undef = .pointer (some ⟨gq,0,none⟩):=hK.of (by kernel_rfl) g3;obtain⟨hlq0,hlq1,hlq2,hlq3,hlq4,hlq5,hlq6,hlq7,hlq8⟩:=lq _ _ _ _ hW;exact wpOp_want ho ((wanted_of (d:=8) (b:=true) rfl (by kernel_rfl) (hK.is 1 ho)).trans rfl) (by subst hV;go_simp;try rfl)
  ·exact pg0 1 8 true 10 1 9 ho hK g1 fun ps af e=>k_mv e
  ·exact pg0 1 8 true 11 2 9 ho hK g2 fun ps af e=>k_mv e
  ·exact absurd (by decide) hic
  ·obtain⟨ps,af,rfl⟩:=core (some 13) (.load 26 (.tmp 3)) 26 (some (1,true)) ho;have e3:Tx.getD 3 undef = .pointer (some ⟨gq,0,none⟩):=hK.of (by kernel_rfl) g3;obtain⟨hlq0,hlq1,hlq2,hlq3,hlq4,hlq5,hlq6,hlq7,hlq8⟩:=lq _ _ _ _ hW;exact wpOp_want ho ((wanted_of (d:=8) (b:=true) rfl (by kernel_rfl) (hK.is 1 ho)).trans rfl) (by subst hV;go_simp;try rfl)
  ·exact pg0 1 8 true 14 1 9 ho hK g1 fun ps af e=>k_mv e
  ·exact pg0 1 8 true 15 2 9 ho hK g2 fun ps af e=>k_mv e
  ·exact absurd (by decide) hic
  ·obtain⟨ps,af,rfl⟩:=core (some 17) (.binOp BinOp.eql 4 (.tmp 12) (.tmp 16) 4) 4 (some (1,true)) ho;have e12:Tx.getD 12 undef = .bool r:=hK.is 5 ho;have e16:Tx.getD 16 undef = .bool r:=hK.is 9 ho;exact wpOp_want ho ((wanted_of (d:=8) (b:=true) rfl (by kernel_rfl) (hK.is 1 ho)).trans rfl) (by subst hV;go_simp;try rfl)
  ·obtain⟨ps,af,rfl⟩:=core (some 18) (.pick (.tmp 8) (.tmp 17) (.const (Value.bool false))) 4 none ho;have e8:Tx.getD 8 undef = .bool true:=hK.is 1 ho;have e17:Tx.getD 17 undef = .bool true:=hK.is 10 ho;exact wpOp_plain ho rfl (by subst hV;go_simp;try rfl)
  ·exact pl1 6 18 11 4 ho hK fun ps af e=>k_as e
 ·have hcase:cx=0∨cx=5∨cx=9:=by simpa using hc
  rcases hcase with rfl | rfl | rfl
  ·obtain⟨ps,af,rfl⟩:=core (some 7) (.call {callee:= .value (.func 13),args:=#[],argTypes:=#[]}) 4 none ho;have hW1:PW (dx 0) (dx 5) (dx 9)  wx:=hW;have f5:=hq hda 5;have f9:=hq hda 9;clear hdb hda;rw [hd,f5.out,f9.out] at hW1;clear hd hW hc;refine wpOp_plain ho rfl ?_;go_simp;go_at_call 13;refine(cl0 _ hW1).mono ?_;rintro ex w2 ⟨rfl,hW2⟩;subst hV
   first | refine⟨undef,rfl,?_⟩ | refine⟨⟨undef,rfl⟩,?_⟩
   simpa [updB,upd,f5.out,f9.out] using hW2
  ·obtain⟨ps,af,rfl⟩:=core (some 12) (.call {callee:= .value (.func 16),args:=#[.tmp 9,.tmp 10,.tmp 11],argTypes:=#[26,9,9]}) 4 (some (1,true)) ho;have e9:Tx.getD 9 undef = .agg #[υ x 0,υ x 1,υ x 2,υ x 3,υ y 0,υ y 1,υ y 2,υ y 3,.bool i]:=hK.is 2 ho;have e10:Tx.getD 10 undef = .string sb:=hK.is 3 ho;have e11:Tx.getD 11 undef = .string SB:=hK.is 4 ho;have hW1:PW (dx 0) (dx 5) (dx 9)  wx:=hW;have f0:=hq hdb 0;have f9:=hq hda 9;clear hdb hda;rw [hd,f0.out,f9.out] at hW1;clear hd hW hc;refine wpOp_want ho ((wanted_of (d:=8) (b:=true) rfl (by kernel_rfl) (hK.is 1 ho)).trans rfl) ?_;go_simp;go_at_call 16;refine(cl5 _ hW1).mono ?_;rintro ex w2 ⟨rfl,hW2⟩;subst hV
   first | refine⟨undef,rfl,?_⟩ | refine⟨⟨undef,rfl⟩,?_⟩
   simpa [updB,upd,f0.out,f9.out] using hW2
  ·obtain⟨ps,af,rfl⟩:=core (some 16) (.call {callee:= .value (.func 17),args:=#[.tmp 13,.tmp 14,.tmp 15],argTypes:=#[26,9,9]}) 4 (some (1,true)) ho;have e13:Tx.getD 13 undef = .agg #[υ x 0,υ x 1,υ x 2,υ x 3,υ y 0,υ y 1,υ y 2,υ y 3,.bool i]:=hK.is 6 ho;have e14:Tx.getD 14 undef = .string sb:=hK.is 7 ho;have e15:Tx.getD 15 undef = .string SB:=hK.is 8 ho;have hW1:PW (dx 0) (dx 5) (dx 9)  wx:=hW;have f0:=hq hdb 0;have f5:=hq hdb 5;clear hdb hda;rw [hd,f0.out,f5.out] at hW1;clear hd hW hc;refine wpOp_want ho ((wanted_of (d:=8) (b:=true) rfl (by kernel_rfl) (hK.is 1 ho)).trans rfl) ?_;go_simp;go_at_call 17;refine(cl9 _ hW1).mono ?_;rintro ex w2 ⟨rfl,hW2⟩;subst hV
   first | refine⟨undef,rfl,?_⟩ | refine⟨⟨undef,rfl⟩,?_⟩
   simpa [updB,upd,f0.out,f5.out] using hW2
 ·have hW1:PW (dx 0) (dx 5) (dx 9)  wx:=hW;rw [hd 0 (by decide),hd 5 (by decide),hd 9 (by decide)] at hW1;have hQ:=h _ hW1;rw [hsz];subst hV hT;refine cast (congrArg (fun Tx=>Q .normal ⟨Tx,ds⟩ wx) ?_) hQ
  kernel_rfl
end Pl
end Go.Proofs.YtpggkfdijmnmiaaGreat
