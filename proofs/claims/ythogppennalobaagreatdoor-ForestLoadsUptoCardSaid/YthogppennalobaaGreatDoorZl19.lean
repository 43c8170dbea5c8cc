/- the document: May -/
import Derived.Test.YthogppennalobaaGreatDoorZl18
import Derived.Test.YthogppennalobaaGreatDoorZl13
set_option linter.unusedVariables false
set_option linter.unusedSimpArgs false
set_option maxRecDepth 100000
namespace Go.Proofs.YthogppennalobaaGreatDoor
open Go.RowKit Go.Sort Forest Pl
noncomputable def rma1O:Array Oper:=(Tryz.f73.body.bind fun c=>findR c 1).getD #[]
def rma1V (g:Nat)(p:Int)(n:Nd)(sa aa:Option Addr)(sc ac:Nat)(b2 b6 b7 b11 b12 b16 b17 b18 b22 b26 b27 b28 b29 b33 b37 b38 b39 b40:Bool): List Value:=[.pointer (some ⟨g,1,none⟩),.int .i64 n.kind,.bool b2,.bool b2,gv (true&&(b2 == false)) (.pointer (some ⟨g,1,none⟩)),gv (true&&(b2 == false)) (.int .i64 n.kind),gv (true&&(b2 == false)) (.bool b6),.bool b7,.bool b7,gv (true&&(b7 == false)) (.pointer (some ⟨g,2,none⟩)),gv (true&&(b7 == false)) (.int .i64 p),gv (true&&(b7 == false)) (.bool b11),.bool b12,.bool b12,gv (true&&(b12 == false)) (.pointer (some ⟨g,3,none⟩)),gv (true&&(b12 == false)) (.string ⟨n.subject.toArray⟩),gv (true&&(b12 == false)) (.bool b16),gv (true&&(b12 == false)) (.bool b17),.bool b18,.bool b18,gv (true&&(b18 == false)) (.pointer (some ⟨g,4,none⟩)),gv (true&&(b18 == false)) (.string ⟨n.client.toArray⟩),gv (true&&(b18 == false)) (.bool b22),gv (true&&(b18 == false)) (.bool b22),gv ((true&&(b18 == false))&&(b22 == true)) (.pointer (some ⟨g,4,none⟩)),gv ((true&&(b18 == false))&&(b22 == true)) (.string ⟨n.client.toArray⟩),gv ((true&&(b18 == false))&&(b22 == true)) (.bool b26),gv ((true&&(b18 == false))&&(b22 == true)) (.bool b27),gv (true&&(b18 == false)) (.bool b28),.bool b29,.bool b29,gv (true&&(b29 == false)) (.pointer (some ⟨g,5,none⟩)),gv (true&&(b29 == false)) (.string ⟨n.audience.toArray⟩),gv (true&&(b29 == false)) (.bool b33),gv (true&&(b29 == false)) (.bool b33),gv ((true&&(b29 == false))&&(b33 == true)) (.pointer (some ⟨g,5,none⟩)),gv ((true&&(b29 == false))&&(b33 == true)) (.string ⟨n.audience.toArray⟩),gv ((true&&(b29 == false))&&(b33 == true)) (.bool b37),gv ((true&&(b29 == false))&&(b33 == true)) (.bool b38),gv (true&&(b29 == false)) (.bool b39),.bool b40]
set_option maxHeartbeats 4000000 in
theorem rma1 {g:Nat}{p:Int}{n:Nd}{sa aa:Option Addr}{sc ac:Nat}  {W:World→Prop}{b2 b6 b7 b11 b12 b16 b17 b18 b22 b26 b27 b28 b29 b33 b37 b38 b39 b40:Bool}(hb2:b2=decide (n.kind<1))(hb6:b6=decide (5<n.kind))(hb7:b7=(b2||b6))(hb11:b11=decide (p<0))(hb12:b12=(b7||b11))(hb17:b17 = !(b16))(hb18:b18=(b12||b17))(hb22:b22=(!(n.client == [])))(hb27:b27 = !(b26))(hb28:b28=(b22&&b27))(hb29:b29=(b18||b28))(hb33:b33=(!(n.audience == [])))(hb38:b38 = !(b37))(hb39:b39=(b33&&b38))(hb40:b40=(b29||b39))(k1:∀w',W w'→w'.cell? ⟨g,1,none⟩=some (.int .i64 n.kind))(k2:∀w',W w'→w'.cell? ⟨g,2,none⟩=some (.int .i64 p))(k3:∀w',W w'→w'.cell? ⟨g,3,none⟩=some (.string ⟨n.subject.toArray⟩))(k4:∀w',W w'→w'.cell? ⟨g,4,none⟩=some (.string ⟨n.client.toArray⟩))(k5:∀w',W w'→w'.cell? ⟨g,5,none⟩=some (.string ⟨n.audience.toArray⟩))(cl16:b12=false→∀w',W w'→Calls Tryz.prog 113 #[.string ⟨n.subject.toArray⟩] w' fun e w''=>e = .returned (.bool b16)∧W w'')(cl26:b22=true→∀w',W w'→Calls Tryz.prog 114 #[.string ⟨n.client.toArray⟩] w' fun e w''=>e = .returned (.bool b26)∧W w'')(cl37:b33=true→∀w',W w'→Calls Tryz.prog 115 #[.string ⟨n.audience.toArray⟩] w' fun e w''=>e = .returned (.bool b37)∧W w''){t0 t3 t4 t5 t6 t7 t8 t9 t10 t11 t12 t13 t14 t15 t16 t17 t18 t19 t20 t21 t22 t23 t24 t25 t26 t27 t28 t29 t30 t31 t32 t33 t34 t35 t36 t37 t38 t39 t40 t41 t42 t43 t44 t45 t46 t47 t48 t49 t50 t51 t52 t53 t54 t55 t56 t57 t58 t59 t60 t61 t62 t63 t64 t65 t66 t67 t68 t69 t70 t71 t72 t73 t74 t75 t76 t77 t78 t79 t80 t81 t82 t83 t84 t85 t86 t87 t88 t89 t90 t91 t92 t93 t94 t95 t96 t97 t98 t99 t100 t101 t102 t103 t104 t105 t106 t107 t108 t109 t110 t111 t112 t113 t114 t115 t116 t117:Value}{ds:List Deferred}{Q:Exit→Act→World→Prop}{w:World}(h0:W w)
  (h:∀(z5 z6 z7 z8 z9 z10 z11 z12 z13 z14 z15 z16 z17 z18 z19 z20 z21 z22 z23 z24 z25 z26 z27 z28 z29 z30 z31 z32 z33 z34 z35 z36 z37 z38 z39 z40 z41 z42 z43 z44:Value) (w1:World),W w1→Q .normal {tmps:=#[t0,.pointer (some ⟨g,0,none⟩),.bool false,t3,t4,z5,z6,z7,z8,z9,z10,z11,z12,z13,z14,z15,z16,z17,z18,z19,z20,z21,z22,z23,z24,z25,z26,z27,z28,z29,z30,z31,z32,z33,z34,z35,z36,z37,z38,z39,z40,z41,z42,z43,z44,.bool b40,t46,t47,t48,t49,t50,t51,t52,t53,t54,t55,t56,t57,t58,t59,t60,t61,t62,t63,t64,t65,t66,t67,t68,t69,t70,t71,t72,t73,t74,t75,t76,t77,t78,t79,t80,t81,t82,t83,t84,t85,t86,t87,t88,t89,t90,t91,t92,t93,t94,t95,t96,t97,t98,t99,t100,t101,t102,t103,t104,t105,t106,t107,t108,t109,t110,t111,t112,t113,t114,t115,t116,t117],defers:=ds} w1) :
  (Code.region 1 rma1O false).wp Tryz.prog Q {tmps:=#[t0,.pointer (some ⟨g,0,none⟩),.bool false,t3,t4,t5,t6,t7,t8,t9,t10,t11,t12,t13,t14,t15,t16,t17,t18,t19,t20,t21,t22,t23,t24,t25,t26,t27,t28,t29,t30,t31,t32,t33,t34,t35,t36,t37,t38,t39,t40,t41,t42,t43,t44,t45,t46,t47,t48,t49,t50,t51,t52,t53,t54,t55,t56,t57,t58,t59,t60,t61,t62,t63,t64,t65,t66,t67,t68,t69,t70,t71,t72,t73,t74,t75,t76,t77,t78,t79,t80,t81,t82,t83,t84,t85,t86,t87,t88,t89,t90,t91,t92,t93,t94,t95,t96,t97,t98,t99,t100,t101,t102,t103,t104,t105,t106,t107,t108,t109,t110,t111,t112,t113,t114,t115,t116,t117],defers:=ds} w:=by
 have hsz:rma1O.size=41:=by kernel_rfl
 generalize hT0:List.toArray _=T0
 have hs:T0.size=118:=by subst hT0;rfl
 have g1:T0.getD 1 undef = .pointer (some ⟨g,0,none⟩):=by subst hT0;rfl
 refine seq_plan T0 ds (lv (rma1V g p n sa aa sc ac b2 b6 b7 b11 b12 b16 b17 b18 b22 b26 b27 b28 b29 b33 b37 b38 b39 b40)) W w (by rw [hs];kernel_rfl) ?_ h0 ?_
 ·rw [hsz]
  refine all_step (all_step (all_step (all_step (all_step (all_step (all_step (all_step (all_step (all_step (all_step (all_step (all_step (all_step (all_step (all_step (all_step (all_step (all_step (all_step (all_step (all_step (all_step (all_step (all_step (all_step (all_step (all_step (all_step (all_step (all_step (all_step (all_step (all_step (all_step (all_step (all_step (all_step (all_step (all_step (all_step all_zero ?_) ?_) ?_) ?_) ?_) ?_) ?_) ?_) ?_) ?_) ?_) ?_) ?_) ?_) ?_) ?_) ?_) ?_) ?_) ?_) ?_) ?_) ?_) ?_) ?_) ?_) ?_) ?_) ?_) ?_) ?_) ?_) ?_) ?_) ?_) ?_) ?_) ?_) ?_) ?_) ?_
  all_goals
   intro o ho T w hK hW
  ·refine sq (x:= .pointer (some ⟨g,1,none⟩)) (some 5) (.fieldAddr 31 (.tmp 1) 1) 0 ho (by kernel_rfl) rfl ?_
   intro ps af
   have e1:T.getD 1 undef = .pointer (some ⟨g,0,none⟩):=hK.old (by kernel_rfl) g1
   exact j_fa31_1 e1 ⟨rfl,hW⟩
  ·refine sq (x:= .int .i64 n.kind) (some 6) (.load 3 (.tmp 5)) 3 ho (by kernel_rfl) rfl ?_
   intro ps af
   have e5:T.getD 5 undef = .pointer (some ⟨g,1,none⟩):=hK.at 0 (by decide) (by kernel_rfl) rfl
   exact j_ld3 (k1 _ hW) e5 ⟨rfl,hW⟩
  ·refine sq (x:= .bool b2) (some 7) (.binOp BinOp.lss 3 (.tmp 6) (.const (Value.int IntKind.i64 1)) 3) 4 ho (by kernel_rfl) rfl ?_
   intro ps af
   have e6:T.getD 6 undef = .int .i64 n.kind:=hK.at 1 (by decide) (by kernel_rfl) rfl
   exact j_lss e6 hb2 ⟨rfl,hW⟩
  ·refine sq (x:= .bool b2) (some 8) (.move (.tmp 7)) 4 ho (by kernel_rfl) rfl ?_
   intro ps af
   have e7:T.getD 7 undef = .bool b2:=hK.at 2 (by decide) (by kernel_rfl) rfl
   exact j_mv e7 ⟨rfl,hW⟩
  ·have hT:T.getD 8 undef=gv true (.bool b2):=hK.at 3 (by decide) (by kernel_rfl) rfl
   refine sg (x:= .pointer (some ⟨g,1,none⟩)) 3 8 false (some 9) (.fieldAddr 31 (.tmp 1) 1) 0 ho (by kernel_rfl) (by kernel_rfl) hT rfl hW ?_
   intro hg he ps af
   subst he
   have e1:T.getD 1 undef = .pointer (some ⟨g,0,none⟩):=hK.old (by kernel_rfl) g1
   exact j_fa31_1 e1 ⟨rfl,hW⟩
  ·have hT:T.getD 8 undef=gv true (.bool b2):=hK.at 3 (by decide) (by kernel_rfl) rfl
   refine sg (x:= .int .i64 n.kind) 3 8 false (some 10) (.load 3 (.tmp 9)) 3 ho (by kernel_rfl) (by kernel_rfl) hT rfl hW ?_
   intro hg he ps af
   subst he
   have e9:T.getD 9 undef = .pointer (some ⟨g,1,none⟩):=hK.at 4 (by decide) (by kernel_rfl) rfl
   exact j_ld3 (k1 _ hW) e9 ⟨rfl,hW⟩
  ·have hT:T.getD 8 undef=gv true (.bool b2):=hK.at 3 (by decide) (by kernel_rfl) rfl
   refine sg (x:= .bool b6) 3 8 false (some 11) (.binOp BinOp.gtr 3 (.tmp 10) (.const (Value.int IntKind.i64 5)) 3) 4 ho (by kernel_rfl) (by kernel_rfl) hT rfl hW ?_
   intro hg he ps af
   subst he
   have e10:T.getD 10 undef = .int .i64 n.kind:=hK.at 5 (by decide) (by kernel_rfl) rfl
   exact j_gtr e10 hb6 ⟨rfl,hW⟩
  ·refine sq (x:= .bool b7) (some 12) (.pick (.tmp 8) (.const (Value.bool true)) (.tmp 11)) 4 ho (by kernel_rfl) rfl ?_
   intro ps af
   have e8:T.getD 8 undef = .bool b2:=hK.at 3 (by decide) (by kernel_rfl) rfl
   refine j_pick e8 ?_ ⟨rfl,hW⟩
   rcases Bool.eq_false_or_eq_true b2 with hx | hx
   ·rw [hx,if_pos rfl]
    simp only [hb7,hx,Bool.false_and,Bool.true_or]
    rfl
   ·have es:T.getD 11 undef=gv (true&&(b2 == false)) (.bool b6):=hK.at 6 (by decide) (by kernel_rfl) rfl
    rw [hx,if_neg (by decide)]
    refine es.trans ?_
    simp only [hb7,hx,gv,Bool.true_and,Bool.and_true,Bool.false_or,beq_self_eq_true,Bool.true_or,if_true]
  ·refine sq (x:= .bool b7) (some 13) (.move (.tmp 12)) 4 ho (by kernel_rfl) rfl ?_
   intro ps af
   have e12:T.getD 12 undef = .bool b7:=hK.at 7 (by decide) (by kernel_rfl) rfl
   exact j_mv e12 ⟨rfl,hW⟩
  ·have hT:T.getD 13 undef=gv true (.bool b7):=hK.at 8 (by decide) (by kernel_rfl) rfl
   refine sg (x:= .pointer (some ⟨g,2,none⟩)) 8 13 false (some 14) (.fieldAddr 31 (.tmp 1) 2) 0 ho (by kernel_rfl) (by kernel_rfl) hT rfl hW ?_
   intro hg he ps af
   subst he
   have e1:T.getD 1 undef = .pointer (some ⟨g,0,none⟩):=hK.old (by kernel_rfl) g1
   exact j_fa31_2 e1 ⟨rfl,hW⟩
  ·have hT:T.getD 13 undef=gv true (.bool b7):=hK.at 8 (by decide) (by kernel_rfl) rfl
   refine sg (x:= .int .i64 p) 8 13 false (some 15) (.load 3 (.tmp 14)) 3 ho (by kernel_rfl) (by kernel_rfl) hT rfl hW ?_
   intro hg he ps af
   subst he
   have e14:T.getD 14 undef = .pointer (some ⟨g,2,none⟩):=hK.at 9 (by decide) (by kernel_rfl) rfl
   exact j_ld3 (k2 _ hW) e14 ⟨rfl,hW⟩
  ·have hT:T.getD 13 undef=gv true (.bool b7):=hK.at 8 (by decide) (by kernel_rfl) rfl
   refine sg (x:= .bool b11) 8 13 false (some 16) (.binOp BinOp.lss 3 (.tmp 15) (.const (Value.int IntKind.i64 0)) 3) 4 ho (by kernel_rfl) (by kernel_rfl) hT rfl hW ?_
   intro hg he ps af
   subst he
   have e15:T.getD 15 undef = .int .i64 p:=hK.at 10 (by decide) (by kernel_rfl) rfl
   exact j_lss e15 hb11 ⟨rfl,hW⟩
  ·refine sq (x:= .bool b12) (some 17) (.pick (.tmp 13) (.const (Value.bool true)) (.tmp 16)) 4 ho (by kernel_rfl) rfl ?_
   intro ps af
   have e13:T.getD 13 undef = .bool b7:=hK.at 8 (by decide) (by kernel_rfl) rfl
   refine j_pick e13 ?_ ⟨rfl,hW⟩
   rcases Bool.eq_false_or_eq_true b7 with hx | hx
   ·rw [hx,if_pos rfl]
    simp only [hb12,hx,Bool.false_and,Bool.true_or]
    rfl
   ·have es:T.getD 16 undef=gv (true&&(b7 == false)) (.bool b11):=hK.at 11 (by decide) (by kernel_rfl) rfl
    rw [hx,if_neg (by decide)]
    refine es.trans ?_
    simp only [hb12,hx,gv,Bool.true_and,Bool.and_true,Bool.false_or,beq_self_eq_true,Bool.true_or,if_true]
  ·refine sq (x:= .bool b12) (some 18) (.move (.tmp 17)) 4 ho (by kernel_rfl) rfl ?_
   intro ps af
   have e17:T.getD 17 undef = .bool b12:=hK.at 12 (by decide) (by kernel_rfl) rfl
   exact j_mv e17 ⟨rfl,hW⟩
  ·have hT:T.getD 18 undef=gv true (.bool b12):=hK.at 13 (by decide) (by kernel_rfl) rfl
   refine sg (x:= .pointer (some ⟨g,3,none⟩)) 13 18 false (some 19) (.fieldAddr 31 (.tmp 1) 3) 0 ho (by kernel_rfl) (by kernel_rfl) hT rfl hW ?_
   intro hg he ps af
   subst he
   have e1:T.getD 1 undef = .pointer (some ⟨g,0,none⟩):=hK.old (by kernel_rfl) g1
   exact j_fa31_3 e1 ⟨rfl,hW⟩
  ·have hT:T.getD 18 undef=gv true (.bool b12):=hK.at 13 (by decide) (by kernel_rfl) rfl
   refine sg (x:= .string ⟨n.subject.toArray⟩) 13 18 false (some 20) (.load 9 (.tmp 19)) 9 ho (by kernel_rfl) (by kernel_rfl) hT rfl hW ?_
   intro hg he ps af
   subst he
   have e19:T.getD 19 undef = .pointer (some ⟨g,3,none⟩):=hK.at 14 (by decide) (by kernel_rfl) rfl
   exact j_ld9 (k3 _ hW) e19 ⟨rfl,hW⟩
  ·have hT:T.getD 18 undef=gv true (.bool b12):=hK.at 13 (by decide) (by kernel_rfl) rfl
   refine sg (x:= .bool b16) 13 18 false (some 21) (.call {callee:= .value (.func 113),args:=#[.tmp 20],argTypes:=#[9]}) 4 ho (by kernel_rfl) (by kernel_rfl) hT rfl hW ?_
   intro hg he ps af
   subst he
   have e20:T.getD 20 undef = .string ⟨n.subject.toArray⟩:=hK.at 15 (by decide) (by kernel_rfl) rfl
   have hcl:=cl16 rfl _ hW
   go_simp
   go_at_call 113
   refine hcl.mono ?_
   rintro ex w2 ⟨rfl,hW2⟩
   exact⟨rfl,hW2⟩
  ·have hT:T.getD 18 undef=gv true (.bool b12):=hK.at 13 (by decide) (by kernel_rfl) rfl
   refine sg (x:= .bool b17) 13 18 false (some 22) (.unOp UnOp.not 4 (.tmp 21)) 4 ho (by kernel_rfl) (by kernel_rfl) hT rfl hW ?_
   intro hg he ps af
   subst he
   have e21:T.getD 21 undef = .bool b16:=hK.at 16 (by decide) (by kernel_rfl) rfl
   exact j_not e21 hb17 ⟨rfl,hW⟩
  ·refine sq (x:= .bool b18) (some 23) (.pick (.tmp 18) (.const (Value.bool true)) (.tmp 22)) 4 ho (by kernel_rfl) rfl ?_
   intro ps af
   have e18:T.getD 18 undef = .bool b12:=hK.at 13 (by decide) (by kernel_rfl) rfl
   refine j_pick e18 ?_ ⟨rfl,hW⟩
   rcases Bool.eq_false_or_eq_true b12 with hx | hx
   ·rw [hx,if_pos rfl]
    simp only [hb18,hx,Bool.false_and,Bool.true_or]
    rfl
   ·have es:T.getD 22 undef=gv (true&&(b12 == false)) (.bool b17):=hK.at 17 (by decide) (by kernel_rfl) rfl
    rw [hx,if_neg (by decide)]
    refine es.trans ?_
    simp only [hb18,hx,gv,Bool.true_and,Bool.and_true,Bool.false_or,beq_self_eq_true,Bool.true_or,if_true]
  ·refine sq (x:= .bool b18) (some 24) (.move (.tmp 23)) 4 ho (by kernel_rfl) rfl ?_
   intro ps af
   have e23:T.getD 23 undef = .bool b18:=hK.at 18 (by decide) (by kernel_rfl) rfl
   exact j_mv e23 ⟨rfl,hW⟩
  ·have hT:T.getD 24 undef=gv true (.bool b18):=hK.at 19 (by decide) (by kernel_rfl) rfl
   refine sg (x:= .pointer (some ⟨g,4,none⟩)) 19 24 false (some 25) (.fieldAddr 31 (.tmp 1) 4) 0 ho (by kernel_rfl) (by kernel_rfl) hT rfl hW ?_
   intro hg he ps af
   subst he
   have e1:T.getD 1 undef = .pointer (some ⟨g,0,none⟩):=hK.old (by kernel_rfl) g1
   exact j_fa31_4 e1 ⟨rfl,hW⟩
  ·have hT:T.getD 24 undef=gv true (.bool b18):=hK.at 19 (by decide) (by kernel_rfl) rfl
   refine sg (x:= .string ⟨n.client.toArray⟩) 19 24 false (some 26) (.load 9 (.tmp 25)) 9 ho (by kernel_rfl) (by kernel_rfl) hT rfl hW ?_
   intro hg he ps af
   subst he
   have e25:T.getD 25 undef = .pointer (some ⟨g,4,none⟩):=hK.at 20 (by decide) (by kernel_rfl) rfl
   exact j_ld9 (k4 _ hW) e25 ⟨rfl,hW⟩
  ·have hT:T.getD 24 undef=gv true (.bool b18):=hK.at 19 (by decide) (by kernel_rfl) rfl
   refine sg (x:= .bool b22) 19 24 false (some 27) (.binOp BinOp.neq 9 (.tmp 26) (.const (Value.string {data:=#[]})) 9) 4 ho (by kernel_rfl) (by kernel_rfl) hT rfl hW ?_
   intro hg he ps af
   subst he
   have e26:T.getD 26 undef = .string ⟨n.client.toArray⟩:=hK.at 21 (by decide) (by kernel_rfl) rfl
   exact j_neqe e26 hb22 ⟨rfl,hW⟩
  ·have hT:T.getD 24 undef=gv true (.bool b18):=hK.at 19 (by decide) (by kernel_rfl) rfl
   refine sg (x:= .bool b22) 19 24 false (some 28) (.move (.tmp 27)) 4 ho (by kernel_rfl) (by kernel_rfl) hT rfl hW ?_
   intro hg he ps af
   subst he
   have e27:T.getD 27 undef = .bool b22:=hK.at 22 (by decide) (by kernel_rfl) rfl
   exact j_mv e27 ⟨rfl,hW⟩
  ·have hT:T.getD 28 undef=gv (true&&(b18 == false)) (.bool b22):=hK.at 23 (by decide) (by kernel_rfl) rfl
   refine sg (x:= .pointer (some ⟨g,4,none⟩)) 23 28 true (some 29) (.fieldAddr 31 (.tmp 1) 4) 0 ho (by kernel_rfl) (by kernel_rfl) hT rfl hW ?_
   intro hg he ps af
   obtain rfl:b18=false:=by simpa using hg
   subst he
   have e1:T.getD 1 undef = .pointer (some ⟨g,0,none⟩):=hK.old (by kernel_rfl) g1
   exact j_fa31_4 e1 ⟨rfl,hW⟩
  ·have hT:T.getD 28 undef=gv (true&&(b18 == false)) (.bool b22):=hK.at 23 (by decide) (by kernel_rfl) rfl
   refine sg (x:= .string ⟨n.client.toArray⟩) 23 28 true (some 30) (.load 9 (.tmp 29)) 9 ho (by kernel_rfl) (by kernel_rfl) hT rfl hW ?_
   intro hg he ps af
   obtain rfl:b18=false:=by simpa using hg
   subst he
   have e29:T.getD 29 undef = .pointer (some ⟨g,4,none⟩):=hK.at 24 (by decide) (by kernel_rfl) rfl
   exact j_ld9 (k4 _ hW) e29 ⟨rfl,hW⟩
  ·have hT:T.getD 28 undef=gv (true&&(b18 == false)) (.bool b22):=hK.at 23 (by decide) (by kernel_rfl) rfl
   refine sg (x:= .bool b26) 23 28 true (some 31) (.call {callee:= .value (.func 114),args:=#[.tmp 30],argTypes:=#[9]}) 4 ho (by kernel_rfl) (by kernel_rfl) hT rfl hW ?_
   intro hg he ps af
   obtain rfl:b18=false:=by simpa using hg
   subst he
   have e30:T.getD 30 undef = .string ⟨n.client.toArray⟩:=hK.at 25 (by decide) (by kernel_rfl) rfl
   have hcl:=cl26 rfl _ hW
   go_simp
   go_at_call 114
   refine hcl.mono ?_
   rintro ex w2 ⟨rfl,hW2⟩
   exact⟨rfl,hW2⟩
  ·have hT:T.getD 28 undef=gv (true&&(b18 == false)) (.bool b22):=hK.at 23 (by decide) (by kernel_rfl) rfl
   refine sg (x:= .bool b27) 23 28 true (some 32) (.unOp UnOp.not 4 (.tmp 31)) 4 ho (by kernel_rfl) (by kernel_rfl) hT rfl hW ?_
   intro hg he ps af
   obtain rfl:b18=false:=by simpa using hg
   subst he
   have e31:T.getD 31 undef = .bool b26:=hK.at 26 (by decide) (by kernel_rfl) rfl
   exact j_not e31 hb27 ⟨rfl,hW⟩
  ·have hT:T.getD 24 undef=gv true (.bool b18):=hK.at 19 (by decide) (by kernel_rfl) rfl
   refine sg (x:= .bool b28) 19 24 false (some 33) (.pick (.tmp 28) (.tmp 32) (.const (Value.bool false))) 4 ho (by kernel_rfl) (by kernel_rfl) hT rfl hW ?_
   intro hg he ps af
   subst he
   have e28:T.getD 28 undef = .bool b22:=hK.at 23 (by decide) (by kernel_rfl) rfl
   refine j_pick e28 ?_ ⟨rfl,hW⟩
   rcases Bool.eq_false_or_eq_true b22 with hx | hx
   ·have es:T.getD 32 undef=gv ((true&&(false == false))&&(b22 == true)) (.bool b27):=hK.at 27 (by decide) (by kernel_rfl) rfl
    rw [hx,if_pos rfl]
    refine es.trans ?_
    simp only [hb28,hx,gv,Bool.true_and,Bool.and_true,Bool.false_or,beq_self_eq_true,Bool.true_or,if_true]
   ·rw [hx,if_neg (by decide)]
    simp only [hb28,hx,Bool.false_and,Bool.true_or]
    rfl
  ·refine sq (x:= .bool b29) (some 34) (.pick (.tmp 24) (.const (Value.bool true)) (.tmp 33)) 4 ho (by kernel_rfl) rfl ?_
   intro ps af
   have e24:T.getD 24 undef = .bool b18:=hK.at 19 (by decide) (by kernel_rfl) rfl
   refine j_pick e24 ?_ ⟨rfl,hW⟩
   rcases Bool.eq_false_or_eq_true b18 with hx | hx
   ·rw [hx,if_pos rfl]
    simp only [hb29,hx,Bool.false_and,Bool.true_or]
    rfl
   ·have es:T.getD 33 undef=gv (true&&(b18 == false)) (.bool b28):=hK.at 28 (by decide) (by kernel_rfl) rfl
    rw [hx,if_neg (by decide)]
    refine es.trans ?_
    simp only [hb29,hx,gv,Bool.true_and,Bool.and_true,Bool.false_or,beq_self_eq_true,Bool.true_or,if_true]
  ·refine sq (x:= .bool b29) (some 35) (.move (.tmp 34)) 4 ho (by kernel_rfl) rfl ?_
   intro ps af
   have e34:T.getD 34 undef = .bool b29:=hK.at 29 (by decide) (by kernel_rfl) rfl
   exact j_mv e34 ⟨rfl,hW⟩
  ·have hT:T.getD 35 undef=gv true (.bool b29):=hK.at 30 (by decide) (by kernel_rfl) rfl
   refine sg (x:= .pointer (some ⟨g,5,none⟩)) 30 35 false (some 36) (.fieldAddr 31 (.tmp 1) 5) 0 ho (by kernel_rfl) (by kernel_rfl) hT rfl hW ?_
   intro hg he ps af
   subst he
   have e1:T.getD 1 undef = .pointer (some ⟨g,0,none⟩):=hK.old (by kernel_rfl) g1
   exact j_fa31_5 e1 ⟨rfl,hW⟩
  ·have hT:T.getD 35 undef=gv true (.bool b29):=hK.at 30 (by decide) (by kernel_rfl) rfl
   refine sg (x:= .string ⟨n.audience.toArray⟩) 30 35 false (some 37) (.load 9 (.tmp 36)) 9 ho (by kernel_rfl) (by kernel_rfl) hT rfl hW ?_
   intro hg he ps af
   subst he
   have e36:T.getD 36 undef = .pointer (some ⟨g,5,none⟩):=hK.at 31 (by decide) (by kernel_rfl) rfl
   exact j_ld9 (k5 _ hW) e36 ⟨rfl,hW⟩
  ·have hT:T.getD 35 undef=gv true (.bool b29):=hK.at 30 (by decide) (by kernel_rfl) rfl
   refine sg (x:= .bool b33) 30 35 false (some 38) (.binOp BinOp.neq 9 (.tmp 37) (.const (Value.string {data:=#[]})) 9) 4 ho (by kernel_rfl) (by kernel_rfl) hT rfl hW ?_
   intro hg he ps af
   subst he
   have e37:T.getD 37 undef = .string ⟨n.audience.toArray⟩:=hK.at 32 (by decide) (by kernel_rfl) rfl
   exact j_neqe e37 hb33 ⟨rfl,hW⟩
  ·have hT:T.getD 35 undef=gv true (.bool b29):=hK.at 30 (by decide) (by kernel_rfl) rfl
   refine sg (x:= .bool b33) 30 35 false (some 39) (.move (.tmp 38)) 4 ho (by kernel_rfl) (by kernel_rfl) hT rfl hW ?_
   intro hg he ps af
   subst he
   have e38:T.getD 38 undef = .bool b33:=hK.at 33 (by decide) (by kernel_rfl) rfl
   exact j_mv e38 ⟨rfl,hW⟩
  ·have hT:T.getD 39 undef=gv (true&&(b29 == false)) (.bool b33):=hK.at 34 (by decide) (by kernel_rfl) rfl
   refine sg (x:= .pointer (some ⟨g,5,none⟩)) 34 39 true (some 40) (.fieldAddr 31 (.tmp 1) 5) 0 ho (by kernel_rfl) (by kernel_rfl) hT rfl hW ?_
   intro hg he ps af
   obtain rfl:b29=false:=by simpa using hg
   subst he
   have e1:T.getD 1 undef = .pointer (some ⟨g,0,none⟩):=hK.old (by kernel_rfl) g1
   exact j_fa31_5 e1 ⟨rfl,hW⟩
  ·have hT:T.getD 39 undef=gv (true&&(b29 == false)) (.bool b33):=hK.at 34 (by decide) (by kernel_rfl) rfl
   refine sg (x:= .string ⟨n.audience.toArray⟩) 34 39 true (some 41) (.load 9 (.tmp 40)) 9 ho (by kernel_rfl) (by kernel_rfl) hT rfl hW ?_
   intro hg he ps af
   obtain rfl:b29=false:=by simpa using hg
   subst he
   have e40:T.getD 40 undef = .pointer (some ⟨g,5,none⟩):=hK.at 35 (by decide) (by kernel_rfl) rfl
   exact j_ld9 (k5 _ hW) e40 ⟨rfl,hW⟩
  ·have hT:T.getD 39 undef=gv (true&&(b29 == false)) (.bool b33):=hK.at 34 (by decide) (by kernel_rfl) rfl
   refine sg (x:= .bool b37) 34 39 true (some 42) (.call {callee:= .value (.func 115),args:=#[.tmp 41],argTypes:=#[9]}) 4 ho (by kernel_rfl) (by kernel_rfl) hT rfl hW ?_
   intro hg he ps af
   obtain rfl:b29=false:=by simpa using hg
   subst he
   have e41:T.getD 41 undef = .string ⟨n.audience.toArray⟩:=hK.at 36 (by decide) (by kernel_rfl) rfl
   have hcl:=cl37 rfl _ hW
   go_simp
   go_at_call 115
   refine hcl.mono ?_
   rintro ex w2 ⟨rfl,hW2⟩
   exact⟨rfl,hW2⟩
  ·have hT:T.getD 39 undef=gv (true&&(b29 == false)) (.bool b33):=hK.at 34 (by decide) (by kernel_rfl) rfl
   refine sg (x:= .bool b38) 34 39 true (some 43) (.unOp UnOp.not 4 (.tmp 42)) 4 ho (by kernel_rfl) (by kernel_rfl) hT rfl hW ?_
   intro hg he ps af
   obtain rfl:b29=false:=by simpa using hg
   subst he
   have e42:T.getD 42 undef = .bool b37:=hK.at 37 (by decide) (by kernel_rfl) rfl
   exact j_not e42 hb38 ⟨rfl,hW⟩
  ·have hT:T.getD 35 undef=gv true (.bool b29):=hK.at 30 (by decide) (by kernel_rfl) rfl
   refine sg (x:= .bool b39) 30 35 false (some 44) (.pick (.tmp 39) (.tmp 43) (.const (Value.bool false))) 4 ho (by kernel_rfl) (by kernel_rfl) hT rfl hW ?_
   intro hg he ps af
   subst he
   have e39:T.getD 39 undef = .bool b33:=hK.at 34 (by decide) (by kernel_rfl) rfl
   refine j_pick e39 ?_ ⟨rfl,hW⟩
   rcases Bool.eq_false_or_eq_true b33 with hx | hx
   ·have es:T.getD 43 undef=gv ((true&&(false == false))&&(b33 == true)) (.bool b38):=hK.at 38 (by decide) (by kernel_rfl) rfl
    rw [hx,if_pos rfl]
    refine es.trans ?_
    simp only [hb39,hx,gv,Bool.true_and,Bool.and_true,Bool.false_or,beq_self_eq_true,Bool.true_or,if_true]
   ·rw [hx,if_neg (by decide)]
    simp only [hb39,hx,Bool.false_and,Bool.true_or]
    rfl
  ·refine sq (x:= .bool b40) (some 45) (.pick (.tmp 35) (.const (Value.bool true)) (.tmp 44)) 4 ho (by kernel_rfl) rfl ?_
   intro ps af
   have e35:T.getD 35 undef = .bool b29:=hK.at 30 (by decide) (by kernel_rfl) rfl
   refine j_pick e35 ?_ ⟨rfl,hW⟩
   rcases Bool.eq_false_or_eq_true b29 with hx | hx
   ·rw [hx,if_pos rfl]
    simp only [hb40,hx,Bool.false_and,Bool.true_or]
    rfl
   ·have es:T.getD 44 undef=gv (true&&(b29 == false)) (.bool b39):=hK.at 39 (by decide) (by kernel_rfl) rfl
    rw [hx,if_neg (by decide)]
    refine es.trans ?_
    simp only [hb40,hx,gv,Bool.true_and,Bool.and_true,Bool.false_or,beq_self_eq_true,Bool.true_or,if_true]
 ·intro w1 hW
  have hQ:=h (.pointer (some ⟨g,1,none⟩)) (.int .i64 n.kind) (.bool b2) (.bool b2) (gv (true&&(b2 == false)) (.pointer (some ⟨g,1,none⟩))) (gv (true&&(b2 == false)) (.int .i64 n.kind)) (gv (true&&(b2 == false)) (.bool b6)) (.bool b7) (.bool b7) (gv (true&&(b7 == false)) (.pointer (some ⟨g,2,none⟩))) (gv (true&&(b7 == false)) (.int .i64 p)) (gv (true&&(b7 == false)) (.bool b11)) (.bool b12) (.bool b12) (gv (true&&(b12 == false)) (.pointer (some ⟨g,3,none⟩))) (gv (true&&(b12 == false)) (.string ⟨n.subject.toArray⟩)) (gv (true&&(b12 == false)) (.bool b16)) (gv (true&&(b12 == false)) (.bool b17)) (.bool b18) (.bool b18) (gv (true&&(b18 == false)) (.pointer (some ⟨g,4,none⟩))) (gv (true&&(b18 == false)) (.string ⟨n.client.toArray⟩)) (gv (true&&(b18 == false)) (.bool b22)) (gv (true&&(b18 == false)) (.bool b22)) (gv ((true&&(b18 == false))&&(b22 == true)) (.pointer (some ⟨g,4,none⟩))) (gv ((true&&(b18 == false))&&(b22 == true)) (.string ⟨n.client.toArray⟩)) (gv ((true&&(b18 == false))&&(b22 == true)) (.bool b26)) (gv ((true&&(b18 == false))&&(b22 == true)) (.bool b27)) (gv (true&&(b18 == false)) (.bool b28)) (.bool b29) (.bool b29) (gv (true&&(b29 == false)) (.pointer (some ⟨g,5,none⟩))) (gv (true&&(b29 == false)) (.string ⟨n.audience.toArray⟩)) (gv (true&&(b29 == false)) (.bool b33)) (gv (true&&(b29 == false)) (.bool b33)) (gv ((true&&(b29 == false))&&(b33 == true)) (.pointer (some ⟨g,5,none⟩))) (gv ((true&&(b29 == false))&&(b33 == true)) (.string ⟨n.audience.toArray⟩)) (gv ((true&&(b29 == false))&&(b33 == true)) (.bool b37)) (gv ((true&&(b29 == false))&&(b33 == true)) (.bool b38)) (gv (true&&(b29 == false)) (.bool b39)) w1 hW
  rw [hsz]
  subst hT0
  refine cast (congrArg (fun Tx=>Q .normal ⟨Tx,ds⟩ w1) ?_) hQ
  kernel_rfl
noncomputable def rma8O:Array Oper:=(Tryz.f73.body.bind fun c=>findR c 8).getD #[]
def rma8V (g:Nat)(p:Int)(n:Nd)(sa aa:Option Addr)(sc ac:Nat)(b2 b6 b7 b11 b12 b16 b17:Bool): List Value:=[.pointer (some ⟨g,7,none⟩),.int .i64 n.born,.bool b2,.bool b2,gv (true&&(b2 == true)) (.pointer (some ⟨g,7,none⟩)),gv (true&&(b2 == true)) (.int .i64 n.born),gv (true&&(b2 == true)) (.bool b6),.bool b7,.bool b7,gv (true&&(b7 == true)) (.pointer (some ⟨g,8,none⟩)),gv (true&&(b7 == true)) (.int .i64 n.exp),gv (true&&(b7 == true)) (.bool b11),.bool b12,.bool b12,gv (true&&(b12 == true)) (.pointer (some ⟨g,8,none⟩)),gv (true&&(b12 == true)) (.int .i64 n.exp),gv (true&&(b12 == true)) (.bool b16),.bool b17,.bool b17]
set_option maxHeartbeats 4000000 in
theorem rma8 {g:Nat}{p:Int}{n:Nd}{sa aa:Option Addr}{sc ac:Nat}  {W:World→Prop}{b2 b6 b7 b11 b12 b16 b17:Bool}(hb2:b2=decide (0≤n.born))(hb6:b6=decide (n.born≤1099511627776))(hb7:b7=(b2&&b6))(hb11:b11=decide (0≤n.exp))(hb12:b12=(b7&&b11))(hb16:b16=decide (n.exp≤1099511627776))(hb17:b17=(b12&&b16))(k7:∀w',W w'→w'.cell? ⟨g,7,none⟩=some (.int .i64 n.born))(k8:∀w',W w'→w'.cell? ⟨g,8,none⟩=some (.int .i64 n.exp)){t0 t2 t3 t4 t5 t6 t7 t8 t9 t10 t11 t12 t13 t14 t15 t16 t17 t18 t19 t20 t21 t22 t23 t24 t25 t26 t27 t28 t29 t30 t31 t32 t33 t34 t35 t36 t37 t38 t39 t40 t41 t42 t43 t44 t45 t46 t47 t48 t49 t50 t51 t52 t53 t54 t55 t56 t57 t58 t59 t60 t61 t62 t63 t64 t65 t66 t67 t68 t69 t70 t71 t72 t73 t74 t75 t76 t77 t78 t79 t80 t81 t82 t83 t84 t85 t86 t87 t88 t89 t90 t91 t92 t93 t94 t95 t96 t97 t98 t99 t100 t101 t102 t103 t104 t105 t106 t107 t108 t109 t110 t111 t112 t113 t114 t115 t116 t117:Value}{ds:List Deferred}{Q:Exit→Act→World→Prop}{w:World}(h0:W w)
  (h:∀(z60 z61 z62 z63 z64 z65 z66 z67 z68 z69 z70 z71 z72 z73 z74 z75 z76 z77:Value) (w1:World),W w1→Q .normal {tmps:=#[t0,.pointer (some ⟨g,0,none⟩),t2,t3,.bool b17,t5,t6,t7,t8,t9,t10,t11,t12,t13,t14,t15,t16,t17,t18,t19,t20,t21,t22,t23,t24,t25,t26,t27,t28,t29,t30,t31,t32,t33,t34,t35,t36,t37,t38,t39,t40,t41,t42,t43,t44,t45,t46,t47,t48,t49,t50,t51,t52,t53,t54,t55,t56,t57,t58,t59,z60,z61,z62,z63,z64,z65,z66,z67,z68,z69,z70,z71,z72,z73,z74,z75,z76,z77,t78,t79,t80,t81,t82,t83,t84,t85,t86,t87,t88,t89,t90,t91,t92,t93,t94,t95,t96,t97,t98,t99,t100,t101,t102,t103,t104,t105,t106,t107,t108,t109,t110,t111,t112,t113,t114,t115,t116,t117],defers:=ds} w1) :
  (Code.region 8 rma8O false).wp Tryz.prog Q {tmps:=#[t0,.pointer (some ⟨g,0,none⟩),t2,t3,t4,t5,t6,t7,t8,t9,t10,t11,t12,t13,t14,t15,t16,t17,t18,t19,t20,t21,t22,t23,t24,t25,t26,t27,t28,t29,t30,t31,t32,t33,t34,t35,t36,t37,t38,t39,t40,t41,t42,t43,t44,t45,t46,t47,t48,t49,t50,t51,t52,t53,t54,t55,t56,t57,t58,t59,t60,t61,t62,t63,t64,t65,t66,t67,t68,t69,t70,t71,t72,t73,t74,t75,t76,t77,t78,t79,t80,t81,t82,t83,t84,t85,t86,t87,t88,t89,t90,t91,t92,t93,t94,t95,t96,t97,t98,t99,t100,t101,t102,t103,t104,t105,t106,t107,t108,t109,t110,t111,t112,t113,t114,t115,t116,t117],defers:=ds} w:=by
 have hsz:rma8O.size=19:=by kernel_rfl
 generalize hT0:List.toArray _=T0
 have hs:T0.size=118:=by subst hT0;rfl
 have g1:T0.getD 1 undef = .pointer (some ⟨g,0,none⟩):=by subst hT0;rfl
 refine seq_plan T0 ds (lv (rma8V g p n sa aa sc ac b2 b6 b7 b11 b12 b16 b17)) W w (by rw [hs];kernel_rfl) ?_ h0 ?_
 ·rw [hsz]
  refine all_step (all_step (all_step (all_step (all_step (all_step (all_step (all_step (all_step (all_step (all_step (all_step (all_step (all_step (all_step (all_step (all_step (all_step (all_step all_zero ?_) ?_) ?_) ?_) ?_) ?_) ?_) ?_) ?_) ?_) ?_) ?_) ?_) ?_) ?_) ?_) ?_) ?_) ?_
  all_goals
   intro o ho T w hK hW
  ·refine sq (x:= .pointer (some ⟨g,7,none⟩)) (some 60) (.fieldAddr 31 (.tmp 1) 7) 0 ho (by kernel_rfl) rfl ?_
   intro ps af
   have e1:T.getD 1 undef = .pointer (some ⟨g,0,none⟩):=hK.old (by kernel_rfl) g1
   exact j_fa31_7 e1 ⟨rfl,hW⟩
  ·refine sq (x:= .int .i64 n.born) (some 61) (.load 3 (.tmp 60)) 3 ho (by kernel_rfl) rfl ?_
   intro ps af
   have e60:T.getD 60 undef = .pointer (some ⟨g,7,none⟩):=hK.at 0 (by decide) (by kernel_rfl) rfl
   exact j_ld3 (k7 _ hW) e60 ⟨rfl,hW⟩
  ·refine sq (x:= .bool b2) (some 62) (.binOp BinOp.geq 3 (.tmp 61) (.const (Value.int IntKind.i64 0)) 3) 4 ho (by kernel_rfl) rfl ?_
   intro ps af
   have e61:T.getD 61 undef = .int .i64 n.born:=hK.at 1 (by decide) (by kernel_rfl) rfl
   exact j_geq e61 hb2 ⟨rfl,hW⟩
  ·refine sq (x:= .bool b2) (some 63) (.move (.tmp 62)) 4 ho (by kernel_rfl) rfl ?_
   intro ps af
   have e62:T.getD 62 undef = .bool b2:=hK.at 2 (by decide) (by kernel_rfl) rfl
   exact j_mv e62 ⟨rfl,hW⟩
  ·have hT:T.getD 63 undef=gv true (.bool b2):=hK.at 3 (by decide) (by kernel_rfl) rfl
   refine sg (x:= .pointer (some ⟨g,7,none⟩)) 3 63 true (some 64) (.fieldAddr 31 (.tmp 1) 7) 0 ho (by kernel_rfl) (by kernel_rfl) hT rfl hW ?_
   intro hg he ps af
   subst he
   have e1:T.getD 1 undef = .pointer (some ⟨g,0,none⟩):=hK.old (by kernel_rfl) g1
   exact j_fa31_7 e1 ⟨rfl,hW⟩
  ·have hT:T.getD 63 undef=gv true (.bool b2):=hK.at 3 (by decide) (by kernel_rfl) rfl
   refine sg (x:= .int .i64 n.born) 3 63 true (some 65) (.load 3 (.tmp 64)) 3 ho (by kernel_rfl) (by kernel_rfl) hT rfl hW ?_
   intro hg he ps af
   subst he
   have e64:T.getD 64 undef = .pointer (some ⟨g,7,none⟩):=hK.at 4 (by decide) (by kernel_rfl) rfl
   exact j_ld3 (k7 _ hW) e64 ⟨rfl,hW⟩
  ·have hT:T.getD 63 undef=gv true (.bool b2):=hK.at 3 (by decide) (by kernel_rfl) rfl
   refine sg (x:= .bool b6) 3 63 true (some 66) (.binOp BinOp.leq 3 (.tmp 65) (.const (Value.int IntKind.i64 1099511627776)) 3) 4 ho (by kernel_rfl) (by kernel_rfl) hT rfl hW ?_
   intro hg he ps af
   subst he
   have e65:T.getD 65 undef = .int .i64 n.born:=hK.at 5 (by decide) (by kernel_rfl) rfl
   exact j_leq e65 hb6 ⟨rfl,hW⟩
  ·refine sq (x:= .bool b7) (some 67) (.pick (.tmp 63) (.tmp 66) (.const (Value.bool false))) 4 ho (by kernel_rfl) rfl ?_
   intro ps af
   have e63:T.getD 63 undef = .bool b2:=hK.at 3 (by decide) (by kernel_rfl) rfl
   refine j_pick e63 ?_ ⟨rfl,hW⟩
   rcases Bool.eq_false_or_eq_true b2 with hx | hx
   ·have es:T.getD 66 undef=gv (true&&(b2 == true)) (.bool b6):=hK.at 6 (by decide) (by kernel_rfl) rfl
    rw [hx,if_pos rfl]
    refine es.trans ?_
    simp only [hb7,hx,gv,Bool.true_and,Bool.and_true,Bool.false_or,beq_self_eq_true,Bool.true_or,if_true]
   ·rw [hx,if_neg (by decide)]
    simp only [hb7,hx,Bool.false_and,Bool.true_or]
    rfl
  ·refine sq (x:= .bool b7) (some 68) (.move (.tmp 67)) 4 ho (by kernel_rfl) rfl ?_
   intro ps af
   have e67:T.getD 67 undef = .bool b7:=hK.at 7 (by decide) (by kernel_rfl) rfl
   exact j_mv e67 ⟨rfl,hW⟩
  ·have hT:T.getD 68 undef=gv true (.bool b7):=hK.at 8 (by decide) (by kernel_rfl) rfl
   refine sg (x:= .pointer (some ⟨g,8,none⟩)) 8 68 true (some 69) (.fieldAddr 31 (.tmp 1) 8) 0 ho (by kernel_rfl) (by kernel_rfl) hT rfl hW ?_
   intro hg he ps af
   subst he
   have e1:T.getD 1 undef = .pointer (some ⟨g,0,none⟩):=hK.old (by kernel_rfl) g1
   exact j_fa31_8 e1 ⟨rfl,hW⟩
  ·have hT:T.getD 68 undef=gv true (.bool b7):=hK.at 8 (by decide) (by kernel_rfl) rfl
   refine sg (x:= .int .i64 n.exp) 8 68 true (some 70) (.load 3 (.tmp 69)) 3 ho (by kernel_rfl) (by kernel_rfl) hT rfl hW ?_
   intro hg he ps af
   subst he
   have e69:T.getD 69 undef = .pointer (some ⟨g,8,none⟩):=hK.at 9 (by decide) (by kernel_rfl) rfl
   exact j_ld3 (k8 _ hW) e69 ⟨rfl,hW⟩
  ·have hT:T.getD 68 undef=gv true (.bool b7):=hK.at 8 (by decide) (by kernel_rfl) rfl
   refine sg (x:= .bool b11) 8 68 true (some 71) (.binOp BinOp.geq 3 (.tmp 70) (.const (Value.int IntKind.i64 0)) 3) 4 ho (by kernel_rfl) (by kernel_rfl) hT rfl hW ?_
   intro hg he ps af
   subst he
   have e70:T.getD 70 undef = .int .i64 n.exp:=hK.at 10 (by decide) (by kernel_rfl) rfl
   exact j_geq e70 hb11 ⟨rfl,hW⟩
  ·refine sq (x:= .bool b12) (some 72) (.pick (.tmp 68) (.tmp 71) (.const (Value.bool false))) 4 ho (by kernel_rfl) rfl ?_
   intro ps af
   have e68:T.getD 68 undef = .bool b7:=hK.at 8 (by decide) (by kernel_rfl) rfl
   refine j_pick e68 ?_ ⟨rfl,hW⟩
   rcases Bool.eq_false_or_eq_true b7 with hx | hx
   ·have es:T.getD 71 undef=gv (true&&(b7 == true)) (.bool b11):=hK.at 11 (by decide) (by kernel_rfl) rfl
    rw [hx,if_pos rfl]
    refine es.trans ?_
    simp only [hb12,hx,gv,Bool.true_and,Bool.and_true,Bool.false_or,beq_self_eq_true,Bool.true_or,if_true]
   ·rw [hx,if_neg (by decide)]
    simp only [hb12,hx,Bool.false_and,Bool.true_or]
    rfl
  ·refine sq (x:= .bool b12) (some 73) (.move (.tmp 72)) 4 ho (by kernel_rfl) rfl ?_
   intro ps af
   have e72:T.getD 72 undef = .bool b12:=hK.at 12 (by decide) (by kernel_rfl) rfl
   exact j_mv e72 ⟨rfl,hW⟩
  ·have hT:T.getD 73 undef=gv true (.bool b12):=hK.at 13 (by decide) (by kernel_rfl) rfl
   refine sg (x:= .pointer (some ⟨g,8,none⟩)) 13 73 true (some 74) (.fieldAddr 31 (.tmp 1) 8) 0 ho (by kernel_rfl) (by kernel_rfl) hT rfl hW ?_
   intro hg he ps af
   subst he
   have e1:T.getD 1 undef = .pointer (some ⟨g,0,none⟩):=hK.old (by kernel_rfl) g1
   exact j_fa31_8 e1 ⟨rfl,hW⟩
  ·have hT:T.getD 73 undef=gv true (.bool b12):=hK.at 13 (by decide) (by kernel_rfl) rfl
   refine sg (x:= .int .i64 n.exp) 13 73 true (some 75) (.load 3 (.tmp 74)) 3 ho (by kernel_rfl) (by kernel_rfl) hT rfl hW ?_
   intro hg he ps af
   subst he
   have e74:T.getD 74 undef = .pointer (some ⟨g,8,none⟩):=hK.at 14 (by decide) (by kernel_rfl) rfl
   exact j_ld3 (k8 _ hW) e74 ⟨rfl,hW⟩
  ·have hT:T.getD 73 undef=gv true (.bool b12):=hK.at 13 (by decide) (by kernel_rfl) rfl
   refine sg (x:= .bool b16) 13 73 true (some 76) (.binOp BinOp.leq 3 (.tmp 75) (.const (Value.int IntKind.i64 1099511627776)) 3) 4 ho (by kernel_rfl) (by kernel_rfl) hT rfl hW ?_
   intro hg he ps af
   subst he
   have e75:T.getD 75 undef = .int .i64 n.exp:=hK.at 15 (by decide) (by kernel_rfl) rfl
   exact j_leq e75 hb16 ⟨rfl,hW⟩
  ·refine sq (x:= .bool b17) (some 77) (.pick (.tmp 73) (.tmp 76) (.const (Value.bool false))) 4 ho (by kernel_rfl) rfl ?_
   intro ps af
   have e73:T.getD 73 undef = .bool b12:=hK.at 13 (by decide) (by kernel_rfl) rfl
   refine j_pick e73 ?_ ⟨rfl,hW⟩
   rcases Bool.eq_false_or_eq_true b12 with hx | hx
   ·have es:T.getD 76 undef=gv (true&&(b12 == true)) (.bool b16):=hK.at 16 (by decide) (by kernel_rfl) rfl
    rw [hx,if_pos rfl]
    refine es.trans ?_
    simp only [hb17,hx,gv,Bool.true_and,Bool.and_true,Bool.false_or,beq_self_eq_true,Bool.true_or,if_true]
   ·rw [hx,if_neg (by decide)]
    simp only [hb17,hx,Bool.false_and,Bool.true_or]
    rfl
  ·refine sq (x:= .bool b17) (some 4) (.assign (.tmp 77)) 4 ho (by kernel_rfl) rfl ?_
   intro ps af
   have e77:T.getD 77 undef = .bool b17:=hK.at 17 (by decide) (by kernel_rfl) rfl
   exact j_as e77 ⟨rfl,hW⟩
 ·intro w1 hW
  have hQ:=h (.pointer (some ⟨g,7,none⟩)) (.int .i64 n.born) (.bool b2) (.bool b2) (gv (true&&(b2 == true)) (.pointer (some ⟨g,7,none⟩))) (gv (true&&(b2 == true)) (.int .i64 n.born)) (gv (true&&(b2 == true)) (.bool b6)) (.bool b7) (.bool b7) (gv (true&&(b7 == true)) (.pointer (some ⟨g,8,none⟩))) (gv (true&&(b7 == true)) (.int .i64 n.exp)) (gv (true&&(b7 == true)) (.bool b11)) (.bool b12) (.bool b12) (gv (true&&(b12 == true)) (.pointer (some ⟨g,8,none⟩))) (gv (true&&(b12 == true)) (.int .i64 n.exp)) (gv (true&&(b12 == true)) (.bool b16)) (.bool b17) w1 hW
  rw [hsz]
  subst hT0
  refine cast (congrArg (fun Tx=>Q .normal ⟨Tx,ds⟩ w1) ?_) hQ
  kernel_rfl
noncomputable def rma9O:Array Oper:=(Tryz.f73.body.bind fun c=>findR c 9).getD #[]
def rma9V (g:Nat)(p:Int)(n:Nd)(sa aa:Option Addr)(sc ac:Nat)(tb:Bool)(b4 b5 b10 b11 b15 b16 b20 b21 b26 b27 b32 b33 b38 b39:Bool): List Value:=[.bool tb,.bool tb,gv (true&&(tb == true)) (.pointer (some ⟨g,6,none⟩)),gv (true&&(tb == true)) (.slice sa n.scope.length sc),gv (true&&(tb == true)) (.bool b4),.bool b5,.bool b5,gv (true&&(b5 == true)) (.pointer (some ⟨g,11,none⟩)),gv (true&&(b5 == true)) (.slice aa n.actors.length ac),gv (true&&(b5 == true)) (.int .i64 (n.actors.length:Int)),gv (true&&(b5 == true)) (.bool b10),.bool b11,.bool b11,gv (true&&(b11 == true)) (.pointer (some ⟨g,12,none⟩)),gv (true&&(b11 == true)) (.int .i64 n.level),gv (true&&(b11 == true)) (.bool b15),.bool b16,.bool b16,gv (true&&(b16 == true)) (.pointer (some ⟨g,12,none⟩)),gv (true&&(b16 == true)) (.int .i64 n.level),gv (true&&(b16 == true)) (.bool b20),.bool b21,.bool b21,gv (true&&(b21 == true)) (.pointer (some ⟨g,13,none⟩)),gv (true&&(b21 == true)) (.string ⟨n.secret.toArray⟩),gv (true&&(b21 == true)) (.int .i64 (n.secret.length:Int)),gv (true&&(b21 == true)) (.bool b26),.bool b27,.bool b27,gv (true&&(b27 == true)) (.pointer (some ⟨g,13,none⟩)),gv (true&&(b27 == true)) (.string ⟨n.secret.toArray⟩),gv (true&&(b27 == true)) (.int .i64 (n.secret.length:Int)),gv (true&&(b27 == true)) (.bool b32),.bool b33,.bool b33,gv (true&&(b33 == true)) (.pointer (some ⟨g,14,none⟩)),gv (true&&(b33 == true)) (.string ⟨n.data.toArray⟩),gv (true&&(b33 == true)) (.int .i64 (n.data.length:Int)),gv (true&&(b33 == true)) (.bool b38),.bool b39,.bool b39]
set_option maxHeartbeats 4000000 in
theorem rma9 {g:Nat}{p:Int}{n:Nd}{sa aa:Option Addr}{sc ac:Nat}{tb:Bool}  {W:World→Prop}{b4 b5 b10 b11 b15 b16 b20 b21 b26 b27 b32 b33 b38 b39:Bool}(hb5:b5=(tb&&b4))(hb10:b10=decide ((n.actors.length:Int)≤4))(hb11:b11=(b5&&b10))(hb15:b15=decide (0≤n.level))(hb16:b16=(b11&&b15))(hb20:b20=decide (n.level≤3))(hb21:b21=(b16&&b20))(hb26:b26=decide (1≤(n.secret.length:Int)))(hb27:b27=(b21&&b26))(hb32:b32=decide ((n.secret.length:Int)≤64))(hb33:b33=(b27&&b32))(hb38:b38=decide ((n.data.length:Int)≤256))(hb39:b39=(b33&&b38))(k6:∀w',W w'→w'.cell? ⟨g,6,none⟩=some (.slice sa n.scope.length sc))(k11:∀w',W w'→w'.cell? ⟨g,11,none⟩=some (.slice aa n.actors.length ac))(k12:∀w',W w'→w'.cell? ⟨g,12,none⟩=some (.int .i64 n.level))(k13:∀w',W w'→w'.cell? ⟨g,13,none⟩=some (.string ⟨n.secret.toArray⟩))(k14:∀w',W w'→w'.cell? ⟨g,14,none⟩=some (.string ⟨n.data.toArray⟩))(cl4:tb=true→∀w',W w'→Calls Tryz.prog 116 #[.slice sa n.scope.length sc,.int .i64 16,.int .i64 1] w' fun e w''=>e = .returned (.bool b4)∧W w''){t0 t2 t3 t5 t6 t7 t8 t9 t10 t11 t12 t13 t14 t15 t16 t17 t18 t19 t20 t21 t22 t23 t24 t25 t26 t27 t28 t29 t30 t31 t32 t33 t34 t35 t36 t37 t38 t39 t40 t41 t42 t43 t44 t45 t46 t47 t48 t49 t50 t51 t52 t53 t54 t55 t56 t57 t58 t59 t60 t61 t62 t63 t64 t65 t66 t67 t68 t69 t70 t71 t72 t73 t74 t75 t76 t77 t78 t79 t80 t81 t82 t83 t84 t85 t86 t87 t88 t89 t90 t91 t92 t93 t94 t95 t96 t97 t98 t99 t100 t101 t102 t103 t104 t105 t106 t107 t108 t109 t110 t111 t112 t113 t114 t115 t116 t117:Value}{ds:List Deferred}{Q:Exit→Act→World→Prop}{w:World}(h0:W w)
  (h:∀(z78 z79 z80 z81 z82 z83 z84 z85 z86 z87 z88 z89 z90 z91 z92 z93 z94 z95 z96 z97 z98 z99 z100 z101 z102 z103 z104 z105 z106 z107 z108 z109 z110 z111 z112 z113 z114 z115 z116 z117:Value) (w1:World),W w1→Q .normal {tmps:=#[t0,.pointer (some ⟨g,0,none⟩),.bool b39,t3,.bool tb,t5,t6,t7,t8,t9,t10,t11,t12,t13,t14,t15,t16,t17,t18,t19,t20,t21,t22,t23,t24,t25,t26,t27,t28,t29,t30,t31,t32,t33,t34,t35,t36,t37,t38,t39,t40,t41,t42,t43,t44,t45,t46,t47,t48,t49,t50,t51,t52,t53,t54,t55,t56,t57,t58,t59,t60,t61,t62,t63,t64,t65,t66,t67,t68,t69,t70,t71,t72,t73,t74,t75,t76,t77,z78,z79,z80,z81,z82,z83,z84,z85,z86,z87,z88,z89,z90,z91,z92,z93,z94,z95,z96,z97,z98,z99,z100,z101,z102,z103,z104,z105,z106,z107,z108,z109,z110,z111,z112,z113,z114,z115,z116,z117],defers:=ds} w1) :
  (Code.region 9 rma9O false).wp Tryz.prog Q {tmps:=#[t0,.pointer (some ⟨g,0,none⟩),t2,t3,.bool tb,t5,t6,t7,t8,t9,t10,t11,t12,t13,t14,t15,t16,t17,t18,t19,t20,t21,t22,t23,t24,t25,t26,t27,t28,t29,t30,t31,t32,t33,t34,t35,t36,t37,t38,t39,t40,t41,t42,t43,t44,t45,t46,t47,t48,t49,t50,t51,t52,t53,t54,t55,t56,t57,t58,t59,t60,t61,t62,t63,t64,t65,t66,t67,t68,t69,t70,t71,t72,t73,t74,t75,t76,t77,t78,t79,t80,t81,t82,t83,t84,t85,t86,t87,t88,t89,t90,t91,t92,t93,t94,t95,t96,t97,t98,t99,t100,t101,t102,t103,t104,t105,t106,t107,t108,t109,t110,t111,t112,t113,t114,t115,t116,t117],defers:=ds} w:=by
 have hsz:rma9O.size=41:=by kernel_rfl
 generalize hT0:List.toArray _=T0
 have hs:T0.size=118:=by subst hT0;rfl
 have g1:T0.getD 1 undef = .pointer (some ⟨g,0,none⟩):=by subst hT0;rfl
 have g4:T0.getD 4 undef = .bool tb:=by subst hT0;rfl
 refine seq_plan T0 ds (lv (rma9V g p n sa aa sc ac tb b4 b5 b10 b11 b15 b16 b20 b21 b26 b27 b32 b33 b38 b39)) W w (by rw [hs];kernel_rfl) ?_ h0 ?_
 ·rw [hsz]
  refine all_step (all_step (all_step (all_step (all_step (all_step (all_step (all_step (all_step (all_step (all_step (all_step (all_step (all_step (all_step (all_step (all_step (all_step (all_step (all_step (all_step (all_step (all_step (all_step (all_step (all_step (all_step (all_step (all_step (all_step (all_step (all_step (all_step (all_step (all_step (all_step (all_step (all_step (all_step (all_step (all_step all_zero ?_) ?_) ?_) ?_) ?_) ?_) ?_) ?_) ?_) ?_) ?_) ?_) ?_) ?_) ?_) ?_) ?_) ?_) ?_) ?_) ?_) ?_) ?_) ?_) ?_) ?_) ?_) ?_) ?_) ?_) ?_) ?_) ?_) ?_) ?_) ?_) ?_) ?_) ?_) ?_) ?_
  all_goals
   intro o ho T w hK hW
  ·refine sq (x:= .bool tb) (some 78) (.move (.tmp 4)) 4 ho (by kernel_rfl) rfl ?_
   intro ps af
   have e4:T.getD 4 undef = .bool tb:=hK.old (by kernel_rfl) g4
   exact j_mv e4 ⟨rfl,hW⟩
  ·refine sq (x:= .bool tb) (some 79) (.move (.tmp 78)) 4 ho (by kernel_rfl) rfl ?_
   intro ps af
   have e78:T.getD 78 undef = .bool tb:=hK.at 0 (by decide) (by kernel_rfl) rfl
   exact j_mv e78 ⟨rfl,hW⟩
  ·have hT:T.getD 79 undef=gv true (.bool tb):=hK.at 1 (by decide) (by kernel_rfl) rfl
   refine sg (x:= .pointer (some ⟨g,6,none⟩)) 1 79 true (some 80) (.fieldAddr 31 (.tmp 1) 6) 0 ho (by kernel_rfl) (by kernel_rfl) hT rfl hW ?_
   intro hg he ps af
   subst he
   have e1:T.getD 1 undef = .pointer (some ⟨g,0,none⟩):=hK.old (by kernel_rfl) g1
   exact j_fa31_6 e1 ⟨rfl,hW⟩
  ·have hT:T.getD 79 undef=gv true (.bool tb):=hK.at 1 (by decide) (by kernel_rfl) rfl
   refine sg (x:= .slice sa n.scope.length sc) 1 79 true (some 81) (.load 29 (.tmp 80)) 29 ho (by kernel_rfl) (by kernel_rfl) hT rfl hW ?_
   intro hg he ps af
   subst he
   have e80:T.getD 80 undef = .pointer (some ⟨g,6,none⟩):=hK.at 2 (by decide) (by kernel_rfl) rfl
   exact j_ld29 (k6 _ hW) e80 ⟨rfl,hW⟩
  ·have hT:T.getD 79 undef=gv true (.bool tb):=hK.at 1 (by decide) (by kernel_rfl) rfl
   refine sg (x:= .bool b4) 1 79 true (some 82) (.call {callee:= .value (.func 116),args:=#[.tmp 81,.const (Value.int IntKind.i64 16),.const (Value.int IntKind.i64 1)],argTypes:=#[29,3,3]}) 4 ho (by kernel_rfl) (by kernel_rfl) hT rfl hW ?_
   intro hg he ps af
   subst he
   have e81:T.getD 81 undef = .slice sa n.scope.length sc:=hK.at 3 (by decide) (by kernel_rfl) rfl
   have hcl:=cl4 rfl _ hW
   go_simp
   go_at_call 116
   refine hcl.mono ?_
   rintro ex w2 ⟨rfl,hW2⟩
   exact⟨rfl,hW2⟩
  ·refine sq (x:= .bool b5) (some 83) (.pick (.tmp 79) (.tmp 82) (.const (Value.bool false))) 4 ho (by kernel_rfl) rfl ?_
   intro ps af
   have e79:T.getD 79 undef = .bool tb:=hK.at 1 (by decide) (by kernel_rfl) rfl
   refine j_pick e79 ?_ ⟨rfl,hW⟩
   rcases Bool.eq_false_or_eq_true tb with hx | hx
   ·have es:T.getD 82 undef=gv (true&&(tb == true)) (.bool b4):=hK.at 4 (by decide) (by kernel_rfl) rfl
    rw [hx,if_pos rfl]
    refine es.trans ?_
    simp only [hb5,hx,gv,Bool.true_and,Bool.and_true,Bool.false_or,beq_self_eq_true,Bool.true_or,if_true]
   ·rw [hx,if_neg (by decide)]
    simp only [hb5,hx,Bool.false_and,Bool.true_or]
    rfl
  ·refine sq (x:= .bool b5) (some 84) (.move (.tmp 83)) 4 ho (by kernel_rfl) rfl ?_
   intro ps af
   have e83:T.getD 83 undef = .bool b5:=hK.at 5 (by decide) (by kernel_rfl) rfl
   exact j_mv e83 ⟨rfl,hW⟩
  ·have hT:T.getD 84 undef=gv true (.bool b5):=hK.at 6 (by decide) (by kernel_rfl) rfl
   refine sg (x:= .pointer (some ⟨g,11,none⟩)) 6 84 true (some 85) (.fieldAddr 31 (.tmp 1) 11) 0 ho (by kernel_rfl) (by kernel_rfl) hT rfl hW ?_
   intro hg he ps af
   subst he
   have e1:T.getD 1 undef = .pointer (some ⟨g,0,none⟩):=hK.old (by kernel_rfl) g1
   exact j_fa31_11 e1 ⟨rfl,hW⟩
  ·have hT:T.getD 84 undef=gv true (.bool b5):=hK.at 6 (by decide) (by kernel_rfl) rfl
   refine sg (x:= .slice aa n.actors.length ac) 6 84 true (some 86) (.load 29 (.tmp 85)) 29 ho (by kernel_rfl) (by kernel_rfl) hT rfl hW ?_
   intro hg he ps af
   subst he
   have e85:T.getD 85 undef = .pointer (some ⟨g,11,none⟩):=hK.at 7 (by decide) (by kernel_rfl) rfl
   exact j_ld29 (k11 _ hW) e85 ⟨rfl,hW⟩
  ·have hT:T.getD 84 undef=gv true (.bool b5):=hK.at 6 (by decide) (by kernel_rfl) rfl
   refine sg (x:= .int .i64 (n.actors.length:Int)) 6 84 true (some 87) (.call {callee:= .builtin Builtin.len,args:=#[.tmp 86],argTypes:=#[29]}) 3 ho (by kernel_rfl) (by kernel_rfl) hT rfl hW ?_
   intro hg he ps af
   subst he
   have e86:T.getD 86 undef = .slice aa n.actors.length ac:=hK.at 8 (by decide) (by kernel_rfl) rfl
   exact j_lens29 e86 ⟨rfl,hW⟩
  ·have hT:T.getD 84 undef=gv true (.bool b5):=hK.at 6 (by decide) (by kernel_rfl) rfl
   refine sg (x:= .bool b10) 6 84 true (some 88) (.binOp BinOp.leq 3 (.tmp 87) (.const (Value.int IntKind.i64 4)) 3) 4 ho (by kernel_rfl) (by kernel_rfl) hT rfl hW ?_
   intro hg he ps af
   subst he
   have e87:T.getD 87 undef = .int .i64 (n.actors.length:Int):=hK.at 9 (by decide) (by kernel_rfl) rfl
   exact j_leq e87 hb10 ⟨rfl,hW⟩
  ·refine sq (x:= .bool b11) (some 89) (.pick (.tmp 84) (.tmp 88) (.const (Value.bool false))) 4 ho (by kernel_rfl) rfl ?_
   intro ps af
   have e84:T.getD 84 undef = .bool b5:=hK.at 6 (by decide) (by kernel_rfl) rfl
   refine j_pick e84 ?_ ⟨rfl,hW⟩
   rcases Bool.eq_false_or_eq_true b5 with hx | hx
   ·have es:T.getD 88 undef=gv (true&&(b5 == true)) (.bool b10):=hK.at 10 (by decide) (by kernel_rfl) rfl
    rw [hx,if_pos rfl]
    refine es.trans ?_
    simp only [hb11,hx,gv,Bool.true_and,Bool.and_true,Bool.false_or,beq_self_eq_true,Bool.true_or,if_true]
   ·rw [hx,if_neg (by decide)]
    simp only [hb11,hx,Bool.false_and,Bool.true_or]
    rfl
  ·refine sq (x:= .bool b11) (some 90) (.move (.tmp 89)) 4 ho (by kernel_rfl) rfl ?_
   intro ps af
   have e89:T.getD 89 undef = .bool b11:=hK.at 11 (by decide) (by kernel_rfl) rfl
   exact j_mv e89 ⟨rfl,hW⟩
  ·have hT:T.getD 90 undef=gv true (.bool b11):=hK.at 12 (by decide) (by kernel_rfl) rfl
   refine sg (x:= .pointer (some ⟨g,12,none⟩)) 12 90 true (some 91) (.fieldAddr 31 (.tmp 1) 12) 0 ho (by kernel_rfl) (by kernel_rfl) hT rfl hW ?_
   intro hg he ps af
   subst he
   have e1:T.getD 1 undef = .pointer (some ⟨g,0,none⟩):=hK.old (by kernel_rfl) g1
   exact j_fa31_12 e1 ⟨rfl,hW⟩
  ·have hT:T.getD 90 undef=gv true (.bool b11):=hK.at 12 (by decide) (by kernel_rfl) rfl
   refine sg (x:= .int .i64 n.level) 12 90 true (some 92) (.load 3 (.tmp 91)) 3 ho (by kernel_rfl) (by kernel_rfl) hT rfl hW ?_
   intro hg he ps af
   subst he
   have e91:T.getD 91 undef = .pointer (some ⟨g,12,none⟩):=hK.at 13 (by decide) (by kernel_rfl) rfl
   exact j_ld3 (k12 _ hW) e91 ⟨rfl,hW⟩
  ·have hT:T.getD 90 undef=gv true (.bool b11):=hK.at 12 (by decide) (by kernel_rfl) rfl
   refine sg (x:= .bool b15) 12 90 true (some 93) (.binOp BinOp.geq 3 (.tmp 92) (.const (Value.int IntKind.i64 0)) 3) 4 ho (by kernel_rfl) (by kernel_rfl) hT rfl hW ?_
   intro hg he ps af
   subst he
   have e92:T.getD 92 undef = .int .i64 n.level:=hK.at 14 (by decide) (by kernel_rfl) rfl
   exact j_geq e92 hb15 ⟨rfl,hW⟩
  ·refine sq (x:= .bool b16) (some 94) (.pick (.tmp 90) (.tmp 93) (.const (Value.bool false))) 4 ho (by kernel_rfl) rfl ?_
   intro ps af
   have e90:T.getD 90 undef = .bool b11:=hK.at 12 (by decide) (by kernel_rfl) rfl
   refine j_pick e90 ?_ ⟨rfl,hW⟩
   rcases Bool.eq_false_or_eq_true b11 with hx | hx
   ·have es:T.getD 93 undef=gv (true&&(b11 == true)) (.bool b15):=hK.at 15 (by decide) (by kernel_rfl) rfl
    rw [hx,if_pos rfl]
    refine es.trans ?_
    simp only [hb16,hx,gv,Bool.true_and,Bool.and_true,Bool.false_or,beq_self_eq_true,Bool.true_or,if_true]
   ·rw [hx,if_neg (by decide)]
    simp only [hb16,hx,Bool.false_and,Bool.true_or]
    rfl
  ·refine sq (x:= .bool b16) (some 95) (.move (.tmp 94)) 4 ho (by kernel_rfl) rfl ?_
   intro ps af
   have e94:T.getD 94 undef = .bool b16:=hK.at 16 (by decide) (by kernel_rfl) rfl
   exact j_mv e94 ⟨rfl,hW⟩
  ·have hT:T.getD 95 undef=gv true (.bool b16):=hK.at 17 (by decide) (by kernel_rfl) rfl
   refine sg (x:= .pointer (some ⟨g,12,none⟩)) 17 95 true (some 96) (.fieldAddr 31 (.tmp 1) 12) 0 ho (by kernel_rfl) (by kernel_rfl) hT rfl hW ?_
   intro hg he ps af
   subst he
   have e1:T.getD 1 undef = .pointer (some ⟨g,0,none⟩):=hK.old (by kernel_rfl) g1
   exact j_fa31_12 e1 ⟨rfl,hW⟩
  ·have hT:T.getD 95 undef=gv true (.bool b16):=hK.at 17 (by decide) (by kernel_rfl) rfl
   refine sg (x:= .int .i64 n.level) 17 95 true (some 97) (.load 3 (.tmp 96)) 3 ho (by kernel_rfl) (by kernel_rfl) hT rfl hW ?_
   intro hg he ps af
   subst he
   have e96:T.getD 96 undef = .pointer (some ⟨g,12,none⟩):=hK.at 18 (by decide) (by kernel_rfl) rfl
   exact j_ld3 (k12 _ hW) e96 ⟨rfl,hW⟩
  ·have hT:T.getD 95 undef=gv true (.bool b16):=hK.at 17 (by decide) (by kernel_rfl) rfl
   refine sg (x:= .bool b20) 17 95 true (some 98) (.binOp BinOp.leq 3 (.tmp 97) (.const (Value.int IntKind.i64 3)) 3) 4 ho (by kernel_rfl) (by kernel_rfl) hT rfl hW ?_
   intro hg he ps af
   subst he
   have e97:T.getD 97 undef = .int .i64 n.level:=hK.at 19 (by decide) (by kernel_rfl) rfl
   exact j_leq e97 hb20 ⟨rfl,hW⟩
  ·refine sq (x:= .bool b21) (some 99) (.pick (.tmp 95) (.tmp 98) (.const (Value.bool false))) 4 ho (by kernel_rfl) rfl ?_
   intro ps af
   have e95:T.getD 95 undef = .bool b16:=hK.at 17 (by decide) (by kernel_rfl) rfl
   refine j_pick e95 ?_ ⟨rfl,hW⟩
   rcases Bool.eq_false_or_eq_true b16 with hx | hx
   ·have es:T.getD 98 undef=gv (true&&(b16 == true)) (.bool b20):=hK.at 20 (by decide) (by kernel_rfl) rfl
    rw [hx,if_pos rfl]
    refine es.trans ?_
    simp only [hb21,hx,gv,Bool.true_and,Bool.and_true,Bool.false_or,beq_self_eq_true,Bool.true_or,if_true]
   ·rw [hx,if_neg (by decide)]
    simp only [hb21,hx,Bool.false_and,Bool.true_or]
    rfl
  ·refine sq (x:= .bool b21) (some 100) (.move (.tmp 99)) 4 ho (by kernel_rfl) rfl ?_
   intro ps af
   have e99:T.getD 99 undef = .bool b21:=hK.at 21 (by decide) (by kernel_rfl) rfl
   exact j_mv e99 ⟨rfl,hW⟩
  ·have hT:T.getD 100 undef=gv true (.bool b21):=hK.at 22 (by decide) (by kernel_rfl) rfl
   refine sg (x:= .pointer (some ⟨g,13,none⟩)) 22 100 true (some 101) (.fieldAddr 31 (.tmp 1) 13) 0 ho (by kernel_rfl) (by kernel_rfl) hT rfl hW ?_
   intro hg he ps af
   subst he
   have e1:T.getD 1 undef = .pointer (some ⟨g,0,none⟩):=hK.old (by kernel_rfl) g1
   exact j_fa31_13 e1 ⟨rfl,hW⟩
  ·have hT:T.getD 100 undef=gv true (.bool b21):=hK.at 22 (by decide) (by kernel_rfl) rfl
   refine sg (x:= .string ⟨n.secret.toArray⟩) 22 100 true (some 102) (.load 9 (.tmp 101)) 9 ho (by kernel_rfl) (by kernel_rfl) hT rfl hW ?_
   intro hg he ps af
   subst he
   have e101:T.getD 101 undef = .pointer (some ⟨g,13,none⟩):=hK.at 23 (by decide) (by kernel_rfl) rfl
   exact j_ld9 (k13 _ hW) e101 ⟨rfl,hW⟩
  ·have hT:T.getD 100 undef=gv true (.bool b21):=hK.at 22 (by decide) (by kernel_rfl) rfl
   refine sg (x:= .int .i64 (n.secret.length:Int)) 22 100 true (some 103) (.call {callee:= .builtin Builtin.len,args:=#[.tmp 102],argTypes:=#[9]}) 3 ho (by kernel_rfl) (by kernel_rfl) hT rfl hW ?_
   intro hg he ps af
   subst he
   have e102:T.getD 102 undef = .string ⟨n.secret.toArray⟩:=hK.at 24 (by decide) (by kernel_rfl) rfl
   exact j_lent e102 ⟨rfl,hW⟩
  ·have hT:T.getD 100 undef=gv true (.bool b21):=hK.at 22 (by decide) (by kernel_rfl) rfl
   refine sg (x:= .bool b26) 22 100 true (some 104) (.binOp BinOp.geq 3 (.tmp 103) (.const (Value.int IntKind.i64 1)) 3) 4 ho (by kernel_rfl) (by kernel_rfl) hT rfl hW ?_
   intro hg he ps af
   subst he
   have e103:T.getD 103 undef = .int .i64 (n.secret.length:Int):=hK.at 25 (by decide) (by kernel_rfl) rfl
   exact j_geq e103 hb26 ⟨rfl,hW⟩
  ·refine sq (x:= .bool b27) (some 105) (.pick (.tmp 100) (.tmp 104) (.const (Value.bool false))) 4 ho (by kernel_rfl) rfl ?_
   intro ps af
   have e100:T.getD 100 undef = .bool b21:=hK.at 22 (by decide) (by kernel_rfl) rfl
   refine j_pick e100 ?_ ⟨rfl,hW⟩
   rcases Bool.eq_false_or_eq_true b21 with hx | hx
   ·have es:T.getD 104 undef=gv (true&&(b21 == true)) (.bool b26):=hK.at 26 (by decide) (by kernel_rfl) rfl
    rw [hx,if_pos rfl]
    refine es.trans ?_
    simp only [hb27,hx,gv,Bool.true_and,Bool.and_true,Bool.false_or,beq_self_eq_true,Bool.true_or,if_true]
   ·rw [hx,if_neg (by decide)]
    simp only [hb27,hx,Bool.false_and,Bool.true_or]
    rfl
  ·refine sq (x:= .bool b27) (some 106) (.move (.tmp 105)) 4 ho (by kernel_rfl) rfl ?_
   intro ps af
   have e105:T.getD 105 undef = .bool b27:=hK.at 27 (by decide) (by kernel_rfl) rfl
   exact j_mv e105 ⟨rfl,hW⟩
  ·have hT:T.getD 106 undef=gv true (.bool b27):=hK.at 28 (by decide) (by kernel_rfl) rfl
   refine sg (x:= .pointer (some ⟨g,13,none⟩)) 28 106 true (some 107) (.fieldAddr 31 (.tmp 1) 13) 0 ho (by kernel_rfl) (by kernel_rfl) hT rfl hW ?_
   intro hg he ps af
   subst he
   have e1:T.getD 1 undef = .pointer (some ⟨g,0,none⟩):=hK.old (by kernel_rfl) g1
   exact j_fa31_13 e1 ⟨rfl,hW⟩
  ·have hT:T.getD 106 undef=gv true (.bool b27):=hK.at 28 (by decide) (by kernel_rfl) rfl
   refine sg (x:= .string ⟨n.secret.toArray⟩) 28 106 true (some 108) (.load 9 (.tmp 107)) 9 ho (by kernel_rfl) (by kernel_rfl) hT rfl hW ?_
   intro hg he ps af
   subst he
   have e107:T.getD 107 undef = .pointer (some ⟨g,13,none⟩):=hK.at 29 (by decide) (by kernel_rfl) rfl
   exact j_ld9 (k13 _ hW) e107 ⟨rfl,hW⟩
  ·have hT:T.getD 106 undef=gv true (.bool b27):=hK.at 28 (by decide) (by kernel_rfl) rfl
   refine sg (x:= .int .i64 (n.secret.length:Int)) 28 106 true (some 109) (.call {callee:= .builtin Builtin.len,args:=#[.tmp 108],argTypes:=#[9]}) 3 ho (by kernel_rfl) (by kernel_rfl) hT rfl hW ?_
   intro hg he ps af
   subst he
   have e108:T.getD 108 undef = .string ⟨n.secret.toArray⟩:=hK.at 30 (by decide) (by kernel_rfl) rfl
   exact j_lent e108 ⟨rfl,hW⟩
  ·have hT:T.getD 106 undef=gv true (.bool b27):=hK.at 28 (by decide) (by kernel_rfl) rfl
   refine sg (x:= .bool b32) 28 106 true (some 110) (.binOp BinOp.leq 3 (.tmp 109) (.const (Value.int IntKind.i64 64)) 3) 4 ho (by kernel_rfl) (by kernel_rfl) hT rfl hW ?_
   intro hg he ps af
   subst he
   have e109:T.getD 109 undef = .int .i64 (n.secret.length:Int):=hK.at 31 (by decide) (by kernel_rfl) rfl
   exact j_leq e109 hb32 ⟨rfl,hW⟩
  ·refine sq (x:= .bool b33) (some 111) (.pick (.tmp 106) (.tmp 110) (.const (Value.bool false))) 4 ho (by kernel_rfl) rfl ?_
   intro ps af
   have e106:T.getD 106 undef = .bool b27:=hK.at 28 (by decide) (by kernel_rfl) rfl
   refine j_pick e106 ?_ ⟨rfl,hW⟩
   rcases Bool.eq_false_or_eq_true b27 with hx | hx
   ·have es:T.getD 110 undef=gv (true&&(b27 == true)) (.bool b32):=hK.at 32 (by decide) (by kernel_rfl) rfl
    rw [hx,if_pos rfl]
    refine es.trans ?_
    simp only [hb33,hx,gv,Bool.true_and,Bool.and_true,Bool.false_or,beq_self_eq_true,Bool.true_or,if_true]
   ·rw [hx,if_neg (by decide)]
    simp only [hb33,hx,Bool.false_and,Bool.true_or]
    rfl
  ·refine sq (x:= .bool b33) (some 112) (.move (.tmp 111)) 4 ho (by kernel_rfl) rfl ?_
   intro ps af
   have e111:T.getD 111 undef = .bool b33:=hK.at 33 (by decide) (by kernel_rfl) rfl
   exact j_mv e111 ⟨rfl,hW⟩
  ·have hT:T.getD 112 undef=gv true (.bool b33):=hK.at 34 (by decide) (by kernel_rfl) rfl
   refine sg (x:= .pointer (some ⟨g,14,none⟩)) 34 112 true (some 113) (.fieldAddr 31 (.tmp 1) 14) 0 ho (by kernel_rfl) (by kernel_rfl) hT rfl hW ?_
   intro hg he ps af
   subst he
   have e1:T.getD 1 undef = .pointer (some ⟨g,0,none⟩):=hK.old (by kernel_rfl) g1
   exact j_fa31_14 e1 ⟨rfl,hW⟩
  ·have hT:T.getD 112 undef=gv true (.bool b33):=hK.at 34 (by decide) (by kernel_rfl) rfl
   refine sg (x:= .string ⟨n.data.toArray⟩) 34 112 true (some 114) (.load 9 (.tmp 113)) 9 ho (by kernel_rfl) (by kernel_rfl) hT rfl hW ?_
   intro hg he ps af
   subst he
   have e113:T.getD 113 undef = .pointer (some ⟨g,14,none⟩):=hK.at 35 (by decide) (by kernel_rfl) rfl
   exact j_ld9 (k14 _ hW) e113 ⟨rfl,hW⟩
  ·have hT:T.getD 112 undef=gv true (.bool b33):=hK.at 34 (by decide) (by kernel_rfl) rfl
   refine sg (x:= .int .i64 (n.data.length:Int)) 34 112 true (some 115) (.call {callee:= .builtin Builtin.len,args:=#[.tmp 114],argTypes:=#[9]}) 3 ho (by kernel_rfl) (by kernel_rfl) hT rfl hW ?_
   intro hg he ps af
   subst he
   have e114:T.getD 114 undef = .string ⟨n.data.toArray⟩:=hK.at 36 (by decide) (by kernel_rfl) rfl
   exact j_lent e114 ⟨rfl,hW⟩
  ·have hT:T.getD 112 undef=gv true (.bool b33):=hK.at 34 (by decide) (by kernel_rfl) rfl
   refine sg (x:= .bool b38) 34 112 true (some 116) (.binOp BinOp.leq 3 (.tmp 115) (.const (Value.int IntKind.i64 256)) 3) 4 ho (by kernel_rfl) (by kernel_rfl) hT rfl hW ?_
   intro hg he ps af
   subst he
   have e115:T.getD 115 undef = .int .i64 (n.data.length:Int):=hK.at 37 (by decide) (by kernel_rfl) rfl
   exact j_leq e115 hb38 ⟨rfl,hW⟩
  ·refine sq (x:= .bool b39) (some 117) (.pick (.tmp 112) (.tmp 116) (.const (Value.bool false))) 4 ho (by kernel_rfl) rfl ?_
   intro ps af
   have e112:T.getD 112 undef = .bool b33:=hK.at 34 (by decide) (by kernel_rfl) rfl
   refine j_pick e112 ?_ ⟨rfl,hW⟩
   rcases Bool.eq_false_or_eq_true b33 with hx | hx
   ·have es:T.getD 116 undef=gv (true&&(b33 == true)) (.bool b38):=hK.at 38 (by decide) (by kernel_rfl) rfl
    rw [hx,if_pos rfl]
    refine es.trans ?_
    simp only [hb39,hx,gv,Bool.true_and,Bool.and_true,Bool.false_or,beq_self_eq_true,Bool.true_or,if_true]
   ·rw [hx,if_neg (by decide)]
    simp only [hb39,hx,Bool.false_and,Bool.true_or]
    rfl
  ·refine sq (x:= .bool b39) (some 2) (.assign (.tmp 117)) 4 ho (by kernel_rfl) rfl ?_
   intro ps af
   have e117:T.getD 117 undef = .bool b39:=hK.at 39 (by decide) (by kernel_rfl) rfl
   exact j_as e117 ⟨rfl,hW⟩
 ·intro w1 hW
  have hQ:=h (.bool tb) (.bool tb) (gv (true&&(tb == true)) (.pointer (some ⟨g,6,none⟩))) (gv (true&&(tb == true)) (.slice sa n.scope.length sc)) (gv (true&&(tb == true)) (.bool b4)) (.bool b5) (.bool b5) (gv (true&&(b5 == true)) (.pointer (some ⟨g,11,none⟩))) (gv (true&&(b5 == true)) (.slice aa n.actors.length ac)) (gv (true&&(b5 == true)) (.int .i64 (n.actors.length:Int))) (gv (true&&(b5 == true)) (.bool b10)) (.bool b11) (.bool b11) (gv (true&&(b11 == true)) (.pointer (some ⟨g,12,none⟩))) (gv (true&&(b11 == true)) (.int .i64 n.level)) (gv (true&&(b11 == true)) (.bool b15)) (.bool b16) (.bool b16) (gv (true&&(b16 == true)) (.pointer (some ⟨g,12,none⟩))) (gv (true&&(b16 == true)) (.int .i64 n.level)) (gv (true&&(b16 == true)) (.bool b20)) (.bool b21) (.bool b21) (gv (true&&(b21 == true)) (.pointer (some ⟨g,13,none⟩))) (gv (true&&(b21 == true)) (.string ⟨n.secret.toArray⟩)) (gv (true&&(b21 == true)) (.int .i64 (n.secret.length:Int))) (gv (true&&(b21 == true)) (.bool b26)) (.bool b27) (.bool b27) (gv (true&&(b27 == true)) (.pointer (some ⟨g,13,none⟩))) (gv (true&&(b27 == true)) (.string ⟨n.secret.toArray⟩)) (gv (true&&(b27 == true)) (.int .i64 (n.secret.length:Int))) (gv (true&&(b27 == true)) (.bool b32)) (.bool b33) (.bool b33) (gv (true&&(b33 == true)) (.pointer (some ⟨g,14,none⟩))) (gv (true&&(b33 == true)) (.string ⟨n.data.toArray⟩)) (gv (true&&(b33 == true)) (.int .i64 (n.data.length:Int))) (gv (true&&(b33 == true)) (.bool b38)) (.bool b39) w1 hW
  rw [hsz]
  subst hT0
  refine cast (congrArg (fun Tx=>Q .normal ⟨Tx,ds⟩ w1) ?_) hQ
  kernel_rfl
theorem may_split (p:Int)(n:Nd): mayP p n=(!((((((((((((decide (n.kind<1))||(decide (5<n.kind))))||(decide (p<0))))||(!((prinP n.subject)))))||((((!(n.client == [])))&&(!((nameP n.client)))))))||((((!(n.audience == [])))&&(!((textP n.audience))))))))&&n.actors.all prinP&&(let tb:=(((((((decide (0≤n.born))&&(decide (n.born≤1099511627776))))&&(decide (0≤n.exp))))&&(decide (n.exp≤1099511627776))));((((((((((((((tb&&(n.scope.all scopeP&&riseP n.scope&&decide ((n.scope.length:Int)≤16))))&&(decide ((n.actors.length:Int)≤4))))&&(decide (0≤n.level))))&&(decide (n.level≤3))))&&(decide (1≤(n.secret.length:Int)))))&&(decide ((n.secret.length:Int)≤64))))&&(decide ((n.data.length:Int)≤256)))))):=by
 have e1:decide (n.kind<1) = !decide (1≤n.kind):=by rw [Bool.eq_iff_iff];simp<;>omega
 have e2:decide (5<n.kind) = !decide (n.kind<6):=by rw [Bool.eq_iff_iff];simp<;>omega
 have e3:decide (p<0) = !decide (0≤p):=by rw [Bool.eq_iff_iff];simp<;>omega
 have e4:decide (1≤(n.secret.length:Int)) = !(n.secret == []):=by
  cases n.secret with
  |nil=>rfl
  |cons a l=>rw [decide_eq_true (show(1:Int)≤((a::l).length:Int) by simp;omega)];rfl
 unfold mayP isTimeP
 rw [e1,e2,e3,e4]
 generalize decide (1≤n.kind)=x1
 generalize decide (n.kind<6)=x2
 generalize decide (0≤p)=x3
 generalize prinP n.subject=x4
 generalize (n.client == [])=x5
 generalize nameP n.client=x6
 generalize (n.audience == [])=x7
 generalize textP n.audience=x8
 rw [Bool.eq_iff_iff]
 simp only [Bool.and_eq_true,Bool.or_eq_true,Bool.not_eq_true',Bool.or_eq_false_iff,Bool.not_eq_false',Bool.and_eq_false_iff,Bool.not_eq_true]
 constructor
 ·intro h;simp_all
 ·intro h;simp_all
set_option maxHeartbeats 4000000 in
theorem rmay_any (i p:Int)(n:Nd)(sv av:Value)(hn:Mid n)(hl1:n.scope.length≤140737488355328)(hl2:n.actors.length≤140737488355328)(w:World)(h1:Rd w sv n.scope)(h2:Rd w av n.actors): Calls Tryz.prog 73 #[.agg (inC i p n sv av)] w fun e w'=>e = .returned (.bool (mayP p n))∧Below w.heap.size w w':=by
 have HP:=Lib.hid (fun W=>rprin_any n.subject hn.subject W)
 have HC:=Lib.hid (fun W=>rname_any n.client hn.client W)
 have HA:=Lib.hid (fun W=>rtext_any n.audience hn.audience W)
 have HR:=Lib.hid (fun W (hb:Below w.heap.size w W)=>rrises_any n.scope hn.scope hl1 16 W sv (h1.below hb))
 have HAC:=Lib.hid (fun s (hs:s∈n.actors) W=>rprin_any s (hn.actors s hs) W)
 have HL2:=Lib.hid hl2
 obtain⟨sa,sc,rfl,_⟩:=h1
 obtain⟨aa,ac,rfl,hcA⟩:=h2
 have HCA:=Lib.hid hcA
 clear hn hcA hl1 hl2
 have HK:Hid (Bk 31 (w.alloc (.cells #[.int .i64 i,.int .i64 n.kind,.int .i64 p,.string ⟨n.subject.toArray⟩,.string ⟨n.client.toArray⟩,.string ⟨n.audience.toArray⟩,.slice sa n.scope.length sc,.int .i64 n.born,.int .i64 n.exp,.bool n.dead,.bool n.spent,.slice aa n.actors.length ac,.int .i64 n.level,.string ⟨n.secret.toArray⟩,.string ⟨n.data.toArray⟩] 31)) w.heap.size #[.int .i64 i,.int .i64 n.kind,.int .i64 p,.string ⟨n.subject.toArray⟩,.string ⟨n.client.toArray⟩,.string ⟨n.audience.toArray⟩,.slice sa n.scope.length sc,.int .i64 n.born,.int .i64 n.exp,.bool n.dead,.bool n.spent,.slice aa n.actors.length ac,.int .i64 n.level,.string ⟨n.secret.toArray⟩,.string ⟨n.data.toArray⟩]):=Lib.hid (Bk.new rfl)
 have HW:Hid (Below w.heap.size w (w.alloc (.cells #[.int .i64 i,.int .i64 n.kind,.int .i64 p,.string ⟨n.subject.toArray⟩,.string ⟨n.client.toArray⟩,.string ⟨n.audience.toArray⟩,.slice sa n.scope.length sc,.int .i64 n.born,.int .i64 n.exp,.bool n.dead,.bool n.spent,.slice aa n.actors.length ac,.int .i64 n.level,.string ⟨n.secret.toArray⟩,.string ⟨n.data.toArray⟩] 31))):=Lib.hid (by go_grown)
 obtain⟨R,hR⟩:∃R,R=mayP p n:=⟨_,rfl⟩
 rw [← hR]
 have HS:=Lib.hid (hR.trans (may_split p n))
 clear hR
 obtain⟨v,hv⟩:∃v:Bool,v=(((((((((((decide (n.kind<1))||(decide (5<n.kind))))||(decide (p<0))))||(!((prinP n.subject)))))||((((!(n.client == [])))&&(!((nameP n.client)))))))||((((!(n.audience == [])))&&(!((textP n.audience))))))):=⟨_,rfl⟩
 obtain⟨tb,htb⟩:∃v:Bool,v=(((((((decide (0≤n.born))&&(decide (n.born≤1099511627776))))&&(decide (0≤n.exp))))&&(decide (n.exp≤1099511627776)))):=⟨_,rfl⟩
 rw [← hv,← htb] at HS
 have HV:=Lib.hid hv
 have HTB:=Lib.hid htb
 clear hv htb
 unfold inC txt
 go_enter Tryz.func73,Tryz.ntmps73
 go_upto_region 1 with fail
 refine rma1 (p:=p) (n:=n) (sa:=sa) (sc:=sc) (aa:=aa) (ac:=ac) (W:=fun w2=>Below w.heap.size w w2∧Below (w.alloc (.cells #[.int .i64 i,.int .i64 n.kind,.int .i64 p,.string ⟨n.subject.toArray⟩,.string ⟨n.client.toArray⟩,.string ⟨n.audience.toArray⟩,.slice sa n.scope.length sc,.int .i64 n.born,.int .i64 n.exp,.bool n.dead,.bool n.spent,.slice aa n.actors.length ac,.int .i64 n.level,.string ⟨n.secret.toArray⟩,.string ⟨n.data.toArray⟩] 31)).heap.size (w.alloc (.cells #[.int .i64 i,.int .i64 n.kind,.int .i64 p,.string ⟨n.subject.toArray⟩,.string ⟨n.client.toArray⟩,.string ⟨n.audience.toArray⟩,.slice sa n.scope.length sc,.int .i64 n.born,.int .i64 n.exp,.bool n.dead,.bool n.spent,.slice aa n.actors.length ac,.int .i64 n.level,.string ⟨n.secret.toArray⟩,.string ⟨n.data.toArray⟩] 31)) w2) rfl rfl rfl rfl rfl rfl rfl rfl rfl rfl rfl rfl rfl rfl HV.out (fun w2 h=>cell_below h.2 (HK.out.cell 1)) (fun w2 h=>cell_below h.2 (HK.out.cell 2)) (fun w2 h=>cell_below h.2 (HK.out.cell 3)) (fun w2 h=>cell_below h.2 (HK.out.cell 4)) (fun w2 h=>cell_below h.2 (HK.out.cell 5)) (fun _ w2 h=>(HP.out _).mono fun e w3 h3=>⟨h3.1,h3.2▸h⟩) (fun _ w2 h=>(HC.out _).mono fun e w3 h3=>⟨h3.1,h3.2▸h⟩) (fun _ w2 h=>(HA.out _).mono fun e w3 h3=>⟨h3.1,h3.2▸h⟩) ⟨HW.out,Below.refl _ _⟩ ?_
 intros
 rename_i w1 hw1
 cases v with
 |true=>
  have HF:Hid (R=false):=Lib.hid (by rw [HS.out];rfl)
  have HW1:=Lib.hid hw1.1
  go_wp2_with fail
  go_ret
  exact⟨by rw [HF.out];rfl,HW1.out⟩
 |false=>
  have HW1:=Lib.hid hw1
  clear hw1
  have HB1:Hid (∀o v,(w.alloc (.cells #[.int .i64 i,.int .i64 n.kind,.int .i64 p,.string ⟨n.subject.toArray⟩,.string ⟨n.client.toArray⟩,.string ⟨n.audience.toArray⟩,.slice sa n.scope.length sc,.int .i64 n.born,.int .i64 n.exp,.bool n.dead,.bool n.spent,.slice aa n.actors.length ac,.int .i64 n.level,.string ⟨n.secret.toArray⟩,.string ⟨n.data.toArray⟩] 31)).cell? ⟨w.heap.size,o,none⟩=some v→w1.cell? ⟨w.heap.size,o,none⟩=some v):=Lib.hid fun o v h=>cell_below HW1.out.2 h
  have d11:w1.cell? ⟨w.heap.size,11,none⟩=some (.slice aa n.actors.length ac):=HB1.out _ _ (HK.out.cell 11)
  have HE:Hid (w1.heap.size=w1.heap.size):=Lib.hid rfl
  obtain⟨g,hg⟩:∃g,g=w.heap.size:=⟨_,rfl⟩
  rw [← hg] at d11 ⊢
  have HKg:Hid (Bk 31 (w.alloc (.cells #[.int .i64 i,.int .i64 n.kind,.int .i64 p,.string ⟨n.subject.toArray⟩,.string ⟨n.client.toArray⟩,.string ⟨n.audience.toArray⟩,.slice sa n.scope.length sc,.int .i64 n.born,.int .i64 n.exp,.bool n.dead,.bool n.spent,.slice aa n.actors.length ac,.int .i64 n.level,.string ⟨n.secret.toArray⟩,.string ⟨n.data.toArray⟩] 31)) g #[.int .i64 i,.int .i64 n.kind,.int .i64 p,.string ⟨n.subject.toArray⟩,.string ⟨n.client.toArray⟩,.string ⟨n.audience.toArray⟩,.slice sa n.scope.length sc,.int .i64 n.born,.int .i64 n.exp,.bool n.dead,.bool n.spent,.slice aa n.actors.length ac,.int .i64 n.level,.string ⟨n.secret.toArray⟩,.string ⟨n.data.toArray⟩]):=by rw [hg];exact HK
  clear HK HB1 hg
  go_wp2_with fail
  go_loopw [3] (fun iv wr=>∃k:Nat,k≤n.actors.length∧iv = .int .i64 (k:Int)∧wr=w1∧Hid ((n.actors.take k).all prinP=true)) (fun iv _=>n.actors.length - (intOf iv).toNat)
  case atStart=>exact⟨0,Nat.zero_le _,rfl,rfl,Lib.hid rfl⟩
  case round=>
   obtain⟨k,hk,rfl,rfl,HI⟩:=hrel
   have hl2:=HL2.out
   by_cases hlt:k<n.actors.length
   ·obtain⟨s,hse⟩:∃s,n.actors[k]'hlt=s:=⟨_,rfl⟩
    obtain⟨b,o,rfl,c0⟩:=HCA.out k hlt
    have c1:wr.cell? ⟨b,o+k,none⟩=some (.string ⟨s.toArray⟩):=by rw [cell_below HW1.out.1 c0,hse];rfl
    have HKK:=Lib.hid (HAC.out s (hse▸List.getElem_mem hlt) wr)
    have hltI:(k:Int)<(n.actors.length:Int):=by omega
    have HT:Hid (prinP s=true→(n.actors.take (k+1)).all prinP=true):=Lib.hid (fun h=>by rw [List.take_add_one,List.getElem?_eq_getElem hlt,hse,List.all_append,HI.out];simp [h])
    have HN:Hid (prinP s=false→R=false):=Lib.hid (fun h=>by
     have:n.actors.all prinP=false:=by
      rw [← Bool.not_eq_true,List.all_eq_true]
      intro ha
      have:=ha s (hse▸List.getElem_mem hlt)
      rw [h] at this
      cases this
     rw [HS.out,this];rfl)
    clear c0 hse
    cases hp:prinP s with
    |true=>
     rw [hp] at HKK
     have HY:=Lib.hid (HT.out hp)
     clear hp HT HN
     go_wp2_with fail
     refine HKK.out.mono ?_
     rintro e w2 ⟨rfl,hw⟩
     replace hw:=hw.symm
     subst hw
     go_wp2_with fail
     go_roundw
     case rel=>exact⟨k+1,by omega,by go_num,trivial,HY⟩
     case measure=>simp [intOf];omega
    |false=>
     rw [hp] at HKK
     have HF:=Lib.hid (HN.out hp)
     clear hp HT HN
     go_wp2_with fail
     refine HKK.out.mono ?_
     rintro e w2 ⟨rfl,hw⟩
     replace hw:=hw.symm
     subst hw
     go_wp2_with fail
     go_ret
     exact⟨by rw [HF.out];rfl,HW1.out.1⟩
   ·have hie:k=n.actors.length:=by omega
    have hltI:¬(k:Int)<(n.actors.length:Int):=by omega
    have HAA:Hid (n.actors.all prinP=true):=Lib.hid (by have:=HI.out;rwa [hie,List.take_length] at this)
    clear hie
    go_upto_region 8 with fail
    refine rma8 (p:=p) (n:=n) (sa:=sa) (sc:=sc) (aa:=aa) (ac:=ac) (W:=fun w2=>Below w.heap.size w w2∧Below (w.alloc (.cells #[.int .i64 i,.int .i64 n.kind,.int .i64 p,.string ⟨n.subject.toArray⟩,.string ⟨n.client.toArray⟩,.string ⟨n.audience.toArray⟩,.slice sa n.scope.length sc,.int .i64 n.born,.int .i64 n.exp,.bool n.dead,.bool n.spent,.slice aa n.actors.length ac,.int .i64 n.level,.string ⟨n.secret.toArray⟩,.string ⟨n.data.toArray⟩] 31)).heap.size (w.alloc (.cells #[.int .i64 i,.int .i64 n.kind,.int .i64 p,.string ⟨n.subject.toArray⟩,.string ⟨n.client.toArray⟩,.string ⟨n.audience.toArray⟩,.slice sa n.scope.length sc,.int .i64 n.born,.int .i64 n.exp,.bool n.dead,.bool n.spent,.slice aa n.actors.length ac,.int .i64 n.level,.string ⟨n.secret.toArray⟩,.string ⟨n.data.toArray⟩] 31)) w2) rfl rfl rfl rfl rfl rfl HTB.out (fun w2 h=>cell_below h.2 (HKg.out.cell 7)) (fun w2 h=>cell_below h.2 (HKg.out.cell 8))  HW1.out ?_
    intros
    rename_i w2 hw2
    go_upto_region 9 with fail
    refine rma9 (p:=p) (n:=n) (sa:=sa) (sc:=sc) (aa:=aa) (ac:=ac) (W:=fun w2=>Below w.heap.size w w2∧Below (w.alloc (.cells #[.int .i64 i,.int .i64 n.kind,.int .i64 p,.string ⟨n.subject.toArray⟩,.string ⟨n.client.toArray⟩,.string ⟨n.audience.toArray⟩,.slice sa n.scope.length sc,.int .i64 n.born,.int .i64 n.exp,.bool n.dead,.bool n.spent,.slice aa n.actors.length ac,.int .i64 n.level,.string ⟨n.secret.toArray⟩,.string ⟨n.data.toArray⟩] 31)).heap.size (w.alloc (.cells #[.int .i64 i,.int .i64 n.kind,.int .i64 p,.string ⟨n.subject.toArray⟩,.string ⟨n.client.toArray⟩,.string ⟨n.audience.toArray⟩,.slice sa n.scope.length sc,.int .i64 n.born,.int .i64 n.exp,.bool n.dead,.bool n.spent,.slice aa n.actors.length ac,.int .i64 n.level,.string ⟨n.secret.toArray⟩,.string ⟨n.data.toArray⟩] 31)) w2) rfl rfl rfl rfl rfl rfl rfl rfl rfl rfl rfl rfl rfl (fun w2 h=>cell_below h.2 (HKg.out.cell 6)) (fun w2 h=>cell_below h.2 (HKg.out.cell 11)) (fun w2 h=>cell_below h.2 (HKg.out.cell 12)) (fun w2 h=>cell_below h.2 (HKg.out.cell 13)) (fun w2 h=>cell_below h.2 (HKg.out.cell 14)) (fun _ w2 h=>(HR.out w2 h.1).mono fun e w3 h3=>⟨h3.1,by obtain⟨q,rfl⟩:=h3.2;exact⟨below_drewN h.1 q,below_drewN h.2 q⟩⟩) hw2 ?_
    intros
    rename_i w3 hw3
    have HW3:=Lib.hid hw3.1
    have HF:Hid (R=((((((((((((((tb&&(n.scope.all scopeP&&riseP n.scope&&decide ((n.scope.length:Int)≤16))))&&(decide ((n.actors.length:Int)≤4))))&&(decide (0≤n.level))))&&(decide (n.level≤3))))&&(decide (1≤(n.secret.length:Int)))))&&(decide ((n.secret.length:Int)≤64))))&&(decide ((n.data.length:Int)≤256))))):=Lib.hid (by rw [HS.out,HAA.out];rfl)
    go_wp2_with fail
    go_ret
    exact⟨by rw [HF.out];rfl,HW3.out⟩
end Go.Proofs.YthogppennalobaaGreatDoor
