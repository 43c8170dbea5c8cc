/- mayBe: its one region -/
import Derived.Test.YthogppennalobaaGreatDoorZl13
import Derived.Test.YthogppennalobaaGreatDoorZl05
set_option linter.unusedVariables false
set_option linter.unusedSimpArgs false
set_option maxRecDepth 100000
namespace Go.Proofs.YthogppennalobaaGreatDoor
open Go.RowKit Go.Sort Forest Pl
noncomputable def may1O:Array Oper:=(Tryz.f63.body.bind fun c=>findR c 1).getD #[]
def may1V (g:Nat)(p:Int)(n:Nd)(sa aa:Option Addr)(sc ac:Nat)(b2 b6 b7 b11 b12 b16 b17 b21 b25 b26 b27 b31 b35 b36 b37 b42 b43 b47 b48 b52 b53 b57 b58 b62 b63 b68 b69 b73 b74 b78 b79 b83 b84 b88 b89 b94 b95 b100 b101:Bool): List Value:=[.pointer (some ⟨g,1,none⟩),.int .i64 n.kind,.bool b2,.bool b2,gv (true&&(b2 == true)) (.pointer (some ⟨g,1,none⟩)),gv (true&&(b2 == true)) (.int .i64 n.kind),gv (true&&(b2 == true)) (.bool b6),.bool b7,.bool b7,gv (true&&(b7 == true)) (.pointer (some ⟨g,2,none⟩)),gv (true&&(b7 == true)) (.int .i64 p),gv (true&&(b7 == true)) (.bool b11),.bool b12,.bool b12,gv (true&&(b12 == true)) (.pointer (some ⟨g,3,none⟩)),gv (true&&(b12 == true)) (.string ⟨n.subject.toArray⟩),gv (true&&(b12 == true)) (.bool b16),.bool b17,.bool b17,gv (true&&(b17 == true)) (.pointer (some ⟨g,4,none⟩)),gv (true&&(b17 == true)) (.string ⟨n.client.toArray⟩),gv (true&&(b17 == true)) (.bool b21),gv (true&&(b17 == true)) (.bool b21),gv ((true&&(b17 == true))&&(b21 == false)) (.pointer (some ⟨g,4,none⟩)),gv ((true&&(b17 == true))&&(b21 == false)) (.string ⟨n.client.toArray⟩),gv ((true&&(b17 == true))&&(b21 == false)) (.bool b25),gv (true&&(b17 == true)) (.bool b26),.bool b27,.bool b27,gv (true&&(b27 == true)) (.pointer (some ⟨g,5,none⟩)),gv (true&&(b27 == true)) (.string ⟨n.audience.toArray⟩),gv (true&&(b27 == true)) (.bool b31),gv (true&&(b27 == true)) (.bool b31),gv ((true&&(b27 == true))&&(b31 == false)) (.pointer (some ⟨g,5,none⟩)),gv ((true&&(b27 == true))&&(b31 == false)) (.string ⟨n.audience.toArray⟩),gv ((true&&(b27 == true))&&(b31 == false)) (.bool b35),gv (true&&(b27 == true)) (.bool b36),.bool b37,.bool b37,gv (true&&(b37 == true)) (.pointer (some ⟨g,6,none⟩)),gv (true&&(b37 == true)) (.slice sa n.scope.length sc),gv (true&&(b37 == true)) (.int .i64 (n.scope.length:Int)),gv (true&&(b37 == true)) (.bool b42),.bool b43,.bool b43,gv (true&&(b43 == true)) (.pointer (some ⟨g,6,none⟩)),gv (true&&(b43 == true)) (.slice sa n.scope.length sc),gv (true&&(b43 == true)) (.bool b47),.bool b48,.bool b48,gv (true&&(b48 == true)) (.pointer (some ⟨g,6,none⟩)),gv (true&&(b48 == true)) (.slice sa n.scope.length sc),gv (true&&(b48 == true)) (.bool b52),.bool b53,.bool b53,gv (true&&(b53 == true)) (.pointer (some ⟨g,7,none⟩)),gv (true&&(b53 == true)) (.int .i64 n.born),gv (true&&(b53 == true)) (.bool b57),.bool b58,.bool b58,gv (true&&(b58 == true)) (.pointer (some ⟨g,8,none⟩)),gv (true&&(b58 == true)) (.int .i64 n.exp),gv (true&&(b58 == true)) (.bool b62),.bool b63,.bool b63,gv (true&&(b63 == true)) (.pointer (some ⟨g,11,none⟩)),gv (true&&(b63 == true)) (.slice aa n.actors.length ac),gv (true&&(b63 == true)) (.int .i64 (n.actors.length:Int)),gv (true&&(b63 == true)) (.bool b68),.bool b69,.bool b69,gv (true&&(b69 == true)) (.pointer (some ⟨g,11,none⟩)),gv (true&&(b69 == true)) (.slice aa n.actors.length ac),gv (true&&(b69 == true)) (.bool b73),.bool b74,.bool b74,gv (true&&(b74 == true)) (.pointer (some ⟨g,12,none⟩)),gv (true&&(b74 == true)) (.int .i64 n.level),gv (true&&(b74 == true)) (.bool b78),.bool b79,.bool b79,gv (true&&(b79 == true)) (.pointer (some ⟨g,12,none⟩)),gv (true&&(b79 == true)) (.int .i64 n.level),gv (true&&(b79 == true)) (.bool b83),.bool b84,.bool b84,gv (true&&(b84 == true)) (.pointer (some ⟨g,13,none⟩)),gv (true&&(b84 == true)) (.string ⟨n.secret.toArray⟩),gv (true&&(b84 == true)) (.bool b88),.bool b89,.bool b89,gv (true&&(b89 == true)) (.pointer (some ⟨g,13,none⟩)),gv (true&&(b89 == true)) (.string ⟨n.secret.toArray⟩),gv (true&&(b89 == true)) (.int .i64 (n.secret.length:Int)),gv (true&&(b89 == true)) (.bool b94),.bool b95,.bool b95,gv (true&&(b95 == true)) (.pointer (some ⟨g,14,none⟩)),gv (true&&(b95 == true)) (.string ⟨n.data.toArray⟩),gv (true&&(b95 == true)) (.int .i64 (n.data.length:Int)),gv (true&&(b95 == true)) (.bool b100),.bool b101,.bool b101]
set_option maxHeartbeats 4000000 in
theorem may1 {g:Nat}{p:Int}{n:Nd}{sa aa:Option Addr}{sc ac:Nat}  {W:World→Prop}{b2 b6 b7 b11 b12 b16 b17 b21 b25 b26 b27 b31 b35 b36 b37 b42 b43 b47 b48 b52 b53 b57 b58 b62 b63 b68 b69 b73 b74 b78 b79 b83 b84 b88 b89 b94 b95 b100 b101:Bool}(hb2:b2=decide (1≤n.kind))(hb6:b6=decide (n.kind<6))(hb7:b7=(b2&&b6))(hb11:b11=decide (0≤p))(hb12:b12=(b7&&b11))(hb17:b17=(b12&&b16))(hb21:b21=((n.client == [])))(hb26:b26=(b21||b25))(hb27:b27=(b17&&b26))(hb31:b31=((n.audience == [])))(hb36:b36=(b31||b35))(hb37:b37=(b27&&b36))(hb42:b42=decide ((n.scope.length:Int)≤16))(hb43:b43=(b37&&b42))(hb48:b48=(b43&&b47))(hb53:b53=(b48&&b52))(hb58:b58=(b53&&b57))(hb63:b63=(b58&&b62))(hb68:b68=decide ((n.actors.length:Int)≤4))(hb69:b69=(b63&&b68))(hb74:b74=(b69&&b73))(hb78:b78=decide (0≤n.level))(hb79:b79=(b74&&b78))(hb83:b83=decide (n.level≤3))(hb84:b84=(b79&&b83))(hb88:b88=(!(n.secret == [])))(hb89:b89=(b84&&b88))(hb94:b94=decide ((n.secret.length:Int)≤64))(hb95:b95=(b89&&b94))(hb100:b100=decide ((n.data.length:Int)≤256))(hb101:b101=(b95&&b100))(k1:∀w',W w'→w'.cell? ⟨g,1,none⟩=some (.int .i64 n.kind))(k2:∀w',W w'→w'.cell? ⟨g,2,none⟩=some (.int .i64 p))(k3:∀w',W w'→w'.cell? ⟨g,3,none⟩=some (.string ⟨n.subject.toArray⟩))(k4:∀w',W w'→w'.cell? ⟨g,4,none⟩=some (.string ⟨n.client.toArray⟩))(k5:∀w',W w'→w'.cell? ⟨g,5,none⟩=some (.string ⟨n.audience.toArray⟩))(k6:∀w',W w'→w'.cell? ⟨g,6,none⟩=some (.slice sa n.scope.length sc))(k7:∀w',W w'→w'.cell? ⟨g,7,none⟩=some (.int .i64 n.born))(k8:∀w',W w'→w'.cell? ⟨g,8,none⟩=some (.int .i64 n.exp))(k11:∀w',W w'→w'.cell? ⟨g,11,none⟩=some (.slice aa n.actors.length ac))(k12:∀w',W w'→w'.cell? ⟨g,12,none⟩=some (.int .i64 n.level))(k13:∀w',W w'→w'.cell? ⟨g,13,none⟩=some (.string ⟨n.secret.toArray⟩))(k14:∀w',W w'→w'.cell? ⟨g,14,none⟩=some (.string ⟨n.data.toArray⟩))(cl16:b12=true→∀w',W w'→Calls Tryz.prog 100 #[.string ⟨n.subject.toArray⟩] w' fun e w''=>e = .returned (.bool b16)∧W w'')(cl25:b21=false→∀w',W w'→Calls Tryz.prog 101 #[.string ⟨n.client.toArray⟩] w' fun e w''=>e = .returned (.bool b25)∧W w'')(cl35:b31=false→∀w',W w'→Calls Tryz.prog 102 #[.string ⟨n.audience.toArray⟩] w' fun e w''=>e = .returned (.bool b35)∧W w'')(cl47:b43=true→∀w',W w'→Calls Tryz.prog 103 #[.slice sa n.scope.length sc,.func (.func 104) #[] #[]] w' fun e w''=>e = .returned (.bool b47)∧W w'')(cl52:b48=true→∀w',W w'→Calls Tryz.prog 105 #[.slice sa n.scope.length sc] w' fun e w''=>e = .returned (.bool b52)∧W w'')(cl57:b53=true→∀w',W w'→Calls Tryz.prog 106 #[.int .i64 n.born] w' fun e w''=>e = .returned (.bool b57)∧W w'')(cl62:b58=true→∀w',W w'→Calls Tryz.prog 106 #[.int .i64 n.exp] w' fun e w''=>e = .returned (.bool b62)∧W w'')(cl73:b69=true→∀w',W w'→Calls Tryz.prog 103 #[.slice aa n.actors.length ac,.func (.func 100) #[] #[]] w' fun e w''=>e = .returned (.bool b73)∧W w''){t0 t3 t4 t5 t6 t7 t8 t9 t10 t11 t12 t13 t14 t15 t16 t17 t18 t19 t20 t21 t22 t23 t24 t25 t26 t27 t28 t29 t30 t31 t32 t33 t34 t35 t36 t37 t38 t39 t40 t41 t42 t43 t44 t45 t46 t47 t48 t49 t50 t51 t52 t53 t54 t55 t56 t57 t58 t59 t60 t61 t62 t63 t64 t65 t66 t67 t68 t69 t70 t71 t72 t73 t74 t75 t76 t77 t78 t79 t80 t81 t82 t83 t84 t85 t86 t87 t88 t89 t90 t91 t92 t93 t94 t95 t96 t97 t98 t99 t100 t101 t102 t103 t104:Value}{ds:List Deferred}{Q:Exit→Act→World→Prop}{w:World}(h0:W w)
  (h:∀w1:World,W w1→Q .normal {tmps:=#[t0,.pointer (some ⟨g,0,none⟩),.bool b101,.pointer (some ⟨g,1,none⟩),.int .i64 n.kind,.bool b2,.bool b2,gv (true&&(b2 == true)) (.pointer (some ⟨g,1,none⟩)),gv (true&&(b2 == true)) (.int .i64 n.kind),gv (true&&(b2 == true)) (.bool b6),.bool b7,.bool b7,gv (true&&(b7 == true)) (.pointer (some ⟨g,2,none⟩)),gv (true&&(b7 == true)) (.int .i64 p),gv (true&&(b7 == true)) (.bool b11),.bool b12,.bool b12,gv (true&&(b12 == true)) (.pointer (some ⟨g,3,none⟩)),gv (true&&(b12 == true)) (.string ⟨n.subject.toArray⟩),gv (true&&(b12 == true)) (.bool b16),.bool b17,.bool b17,gv (true&&(b17 == true)) (.pointer (some ⟨g,4,none⟩)),gv (true&&(b17 == true)) (.string ⟨n.client.toArray⟩),gv (true&&(b17 == true)) (.bool b21),gv (true&&(b17 == true)) (.bool b21),gv ((true&&(b17 == true))&&(b21 == false)) (.pointer (some ⟨g,4,none⟩)),gv ((true&&(b17 == true))&&(b21 == false)) (.string ⟨n.client.toArray⟩),gv ((true&&(b17 == true))&&(b21 == false)) (.bool b25),gv (true&&(b17 == true)) (.bool b26),.bool b27,.bool b27,gv (true&&(b27 == true)) (.pointer (some ⟨g,5,none⟩)),gv (true&&(b27 == true)) (.string ⟨n.audience.toArray⟩),gv (true&&(b27 == true)) (.bool b31),gv (true&&(b27 == true)) (.bool b31),gv ((true&&(b27 == true))&&(b31 == false)) (.pointer (some ⟨g,5,none⟩)),gv ((true&&(b27 == true))&&(b31 == false)) (.string ⟨n.audience.toArray⟩),gv ((true&&(b27 == true))&&(b31 == false)) (.bool b35),gv (true&&(b27 == true)) (.bool b36),.bool b37,.bool b37,gv (true&&(b37 == true)) (.pointer (some ⟨g,6,none⟩)),gv (true&&(b37 == true)) (.slice sa n.scope.length sc),gv (true&&(b37 == true)) (.int .i64 (n.scope.length:Int)),gv (true&&(b37 == true)) (.bool b42),.bool b43,.bool b43,gv (true&&(b43 == true)) (.pointer (some ⟨g,6,none⟩)),gv (true&&(b43 == true)) (.slice sa n.scope.length sc),gv (true&&(b43 == true)) (.bool b47),.bool b48,.bool b48,gv (true&&(b48 == true)) (.pointer (some ⟨g,6,none⟩)),gv (true&&(b48 == true)) (.slice sa n.scope.length sc),gv (true&&(b48 == true)) (.bool b52),.bool b53,.bool b53,gv (true&&(b53 == true)) (.pointer (some ⟨g,7,none⟩)),gv (true&&(b53 == true)) (.int .i64 n.born),gv (true&&(b53 == true)) (.bool b57),.bool b58,.bool b58,gv (true&&(b58 == true)) (.pointer (some ⟨g,8,none⟩)),gv (true&&(b58 == true)) (.int .i64 n.exp),gv (true&&(b58 == true)) (.bool b62),.bool b63,.bool b63,gv (true&&(b63 == true)) (.pointer (some ⟨g,11,none⟩)),gv (true&&(b63 == true)) (.slice aa n.actors.length ac),gv (true&&(b63 == true)) (.int .i64 (n.actors.length:Int)),gv (true&&(b63 == true)) (.bool b68),.bool b69,.bool b69,gv (true&&(b69 == true)) (.pointer (some ⟨g,11,none⟩)),gv (true&&(b69 == true)) (.slice aa n.actors.length ac),gv (true&&(b69 == true)) (.bool b73),.bool b74,.bool b74,gv (true&&(b74 == true)) (.pointer (some ⟨g,12,none⟩)),gv (true&&(b74 == true)) (.int .i64 n.level),gv (true&&(b74 == true)) (.bool b78),.bool b79,.bool b79,gv (true&&(b79 == true)) (.pointer (some ⟨g,12,none⟩)),gv (true&&(b79 == true)) (.int .i64 n.level),gv (true&&(b79 == true)) (.bool b83),.bool b84,.bool b84,gv (true&&(b84 == true)) (.pointer (some ⟨g,13,none⟩)),gv (true&&(b84 == true)) (.string ⟨n.secret.toArray⟩),gv (true&&(b84 == true)) (.bool b88),.bool b89,.bool b89,gv (true&&(b89 == true)) (.pointer (some ⟨g,13,none⟩)),gv (true&&(b89 == true)) (.string ⟨n.secret.toArray⟩),gv (true&&(b89 == true)) (.int .i64 (n.secret.length:Int)),gv (true&&(b89 == true)) (.bool b94),.bool b95,.bool b95,gv (true&&(b95 == true)) (.pointer (some ⟨g,14,none⟩)),gv (true&&(b95 == true)) (.string ⟨n.data.toArray⟩),gv (true&&(b95 == true)) (.int .i64 (n.data.length:Int)),gv (true&&(b95 == true)) (.bool b100),.bool b101],defers:=ds} w1) :
  (Code.region 1 may1O false).wp Tryz.prog Q {tmps:=#[t0,.pointer (some ⟨g,0,none⟩),.bool false,t3,t4,t5,t6,t7,t8,t9,t10,t11,t12,t13,t14,t15,t16,t17,t18,t19,t20,t21,t22,t23,t24,t25,t26,t27,t28,t29,t30,t31,t32,t33,t34,t35,t36,t37,t38,t39,t40,t41,t42,t43,t44,t45,t46,t47,t48,t49,t50,t51,t52,t53,t54,t55,t56,t57,t58,t59,t60,t61,t62,t63,t64,t65,t66,t67,t68,t69,t70,t71,t72,t73,t74,t75,t76,t77,t78,t79,t80,t81,t82,t83,t84,t85,t86,t87,t88,t89,t90,t91,t92,t93,t94,t95,t96,t97,t98,t99,t100,t101,t102,t103,t104],defers:=ds} w:=by
 have hsz:may1O.size=103:=by kernel_rfl
 generalize hT0:List.toArray _=T0
 have hs:T0.size=105:=by subst hT0;rfl
 have g1:T0.getD 1 undef = .pointer (some ⟨g,0,none⟩):=by subst hT0;rfl
 refine seq_plan T0 ds (lv (may1V g p n sa aa sc ac b2 b6 b7 b11 b12 b16 b17 b21 b25 b26 b27 b31 b35 b36 b37 b42 b43 b47 b48 b52 b53 b57 b58 b62 b63 b68 b69 b73 b74 b78 b79 b83 b84 b88 b89 b94 b95 b100 b101)) W w (by rw [hs];kernel_rfl) ?_ h0 ?_
 ·rw [hsz]
  refine all_step (all_step (all_step (all_step (all_step (all_step (all_step (all_step (all_step (all_step (all_step (all_step (all_step (all_step (all_step (all_step (all_step (all_step (all_step (all_step (all_step (all_step (all_step (all_step (all_step (all_step (all_step (all_step (all_step (all_step (all_step (all_step (all_step (all_step (all_step (all_step (all_step (all_step (all_step (all_step (all_step (all_step (all_step (all_step (all_step (all_step (all_step (all_step (all_step (all_step (all_step (all_step (all_step (all_step (all_step (all_step (all_step (all_step (all_step (all_step (all_step (all_step (all_step (all_step (all_step (all_step (all_step (all_step (all_step (all_step (all_step (all_step (all_step (all_step (all_step (all_step (all_step (all_step (all_step (all_step (all_step (all_step (all_step (all_step (all_step (all_step (all_step (all_step (all_step (all_step (all_step (all_step (all_step (all_step (all_step (all_step (all_step (all_step (all_step (all_step (all_step (all_step (all_step all_zero ?_) ?_) ?_) ?_) ?_) ?_) ?_) ?_) ?_) ?_) ?_) ?_) ?_) ?_) ?_) ?_) ?_) ?_) ?_) ?_) ?_) ?_) ?_) ?_) ?_) ?_) ?_) ?_) ?_) ?_) ?_) ?_) ?_) ?_) ?_) ?_) ?_) ?_) ?_) ?_) ?_) ?_) ?_) ?_) ?_) ?_) ?_) ?_) ?_) ?_) ?_) ?_) ?_) ?_) ?_) ?_) ?_) ?_) ?_) ?_) ?_) ?_) ?_) ?_) ?_) ?_) ?_) ?_) ?_) ?_) ?_) ?_) ?_) ?_) ?_) ?_) ?_) ?_) ?_) ?_) ?_) ?_) ?_) ?_) ?_) ?_) ?_) ?_) ?_) ?_) ?_) ?_) ?_) ?_) ?_) ?_) ?_) ?_) ?_) ?_) ?_) ?_) ?_
  all_goals
   intro o ho T w hK hW
  ·refine sq (x:= .pointer (some ⟨g,1,none⟩)) (some 3) (.fieldAddr 31 (.tmp 1) 1) 0 ho (by kernel_rfl) rfl ?_
   intro ps af
   have e1:T.getD 1 undef = .pointer (some ⟨g,0,none⟩):=hK.old (by kernel_rfl) g1
   exact j_fa31_1 e1 ⟨rfl,hW⟩
  ·refine sq (x:= .int .i64 n.kind) (some 4) (.load 3 (.tmp 3)) 3 ho (by kernel_rfl) rfl ?_
   intro ps af
   have e3:T.getD 3 undef = .pointer (some ⟨g,1,none⟩):=hK.at 0 (by decide) (by kernel_rfl) rfl
   exact j_ld3 (k1 _ hW) e3 ⟨rfl,hW⟩
  ·refine sq (x:= .bool b2) (some 5) (.binOp BinOp.geq 3 (.tmp 4) (.const (Value.int IntKind.i64 1)) 3) 4 ho (by kernel_rfl) rfl ?_
   intro ps af
   have e4:T.getD 4 undef = .int .i64 n.kind:=hK.at 1 (by decide) (by kernel_rfl) rfl
   exact j_geq e4 hb2 ⟨rfl,hW⟩
  ·refine sq (x:= .bool b2) (some 6) (.move (.tmp 5)) 4 ho (by kernel_rfl) rfl ?_
   intro ps af
   have e5:T.getD 5 undef = .bool b2:=hK.at 2 (by decide) (by kernel_rfl) rfl
   exact j_mv e5 ⟨rfl,hW⟩
  ·have hT:T.getD 6 undef=gv true (.bool b2):=hK.at 3 (by decide) (by kernel_rfl) rfl
   refine sg (x:= .pointer (some ⟨g,1,none⟩)) 3 6 true (some 7) (.fieldAddr 31 (.tmp 1) 1) 0 ho (by kernel_rfl) (by kernel_rfl) hT rfl hW ?_
   intro hg he ps af
   subst he
   have e1:T.getD 1 undef = .pointer (some ⟨g,0,none⟩):=hK.old (by kernel_rfl) g1
   exact j_fa31_1 e1 ⟨rfl,hW⟩
  ·have hT:T.getD 6 undef=gv true (.bool b2):=hK.at 3 (by decide) (by kernel_rfl) rfl
   refine sg (x:= .int .i64 n.kind) 3 6 true (some 8) (.load 3 (.tmp 7)) 3 ho (by kernel_rfl) (by kernel_rfl) hT rfl hW ?_
   intro hg he ps af
   subst he
   have e7:T.getD 7 undef = .pointer (some ⟨g,1,none⟩):=hK.at 4 (by decide) (by kernel_rfl) rfl
   exact j_ld3 (k1 _ hW) e7 ⟨rfl,hW⟩
  ·have hT:T.getD 6 undef=gv true (.bool b2):=hK.at 3 (by decide) (by kernel_rfl) rfl
   refine sg (x:= .bool b6) 3 6 true (some 9) (.binOp BinOp.lss 3 (.tmp 8) (.const (Value.int IntKind.i64 6)) 3) 4 ho (by kernel_rfl) (by kernel_rfl) hT rfl hW ?_
   intro hg he ps af
   subst he
   have e8:T.getD 8 undef = .int .i64 n.kind:=hK.at 5 (by decide) (by kernel_rfl) rfl
   exact j_lss e8 hb6 ⟨rfl,hW⟩
  ·refine sq (x:= .bool b7) (some 10) (.pick (.tmp 6) (.tmp 9) (.const (Value.bool false))) 4 ho (by kernel_rfl) rfl ?_
   intro ps af
   have e6:T.getD 6 undef = .bool b2:=hK.at 3 (by decide) (by kernel_rfl) rfl
   refine j_pick e6 ?_ ⟨rfl,hW⟩
   rcases Bool.eq_false_or_eq_true b2 with hx | hx
   ·have es:T.getD 9 undef=gv (true&&(b2 == true)) (.bool b6):=hK.at 6 (by decide) (by kernel_rfl) rfl
    rw [hx,if_pos rfl]
    refine es.trans ?_
    simp only [hb7,hx,gv,Bool.true_and,Bool.and_true,Bool.false_or,beq_self_eq_true,Bool.true_or,if_true]
   ·rw [hx,if_neg (by decide)]
    simp only [hb7,hx,Bool.false_and,Bool.true_or]
    rfl
  ·refine sq (x:= .bool b7) (some 11) (.move (.tmp 10)) 4 ho (by kernel_rfl) rfl ?_
   intro ps af
   have e10:T.getD 10 undef = .bool b7:=hK.at 7 (by decide) (by kernel_rfl) rfl
   exact j_mv e10 ⟨rfl,hW⟩
  ·have hT:T.getD 11 undef=gv true (.bool b7):=hK.at 8 (by decide) (by kernel_rfl) rfl
   refine sg (x:= .pointer (some ⟨g,2,none⟩)) 8 11 true (some 12) (.fieldAddr 31 (.tmp 1) 2) 0 ho (by kernel_rfl) (by kernel_rfl) hT rfl hW ?_
   intro hg he ps af
   subst he
   have e1:T.getD 1 undef = .pointer (some ⟨g,0,none⟩):=hK.old (by kernel_rfl) g1
   exact j_fa31_2 e1 ⟨rfl,hW⟩
  ·have hT:T.getD 11 undef=gv true (.bool b7):=hK.at 8 (by decide) (by kernel_rfl) rfl
   refine sg (x:= .int .i64 p) 8 11 true (some 13) (.load 3 (.tmp 12)) 3 ho (by kernel_rfl) (by kernel_rfl) hT rfl hW ?_
   intro hg he ps af
   subst he
   have e12:T.getD 12 undef = .pointer (some ⟨g,2,none⟩):=hK.at 9 (by decide) (by kernel_rfl) rfl
   exact j_ld3 (k2 _ hW) e12 ⟨rfl,hW⟩
  ·have hT:T.getD 11 undef=gv true (.bool b7):=hK.at 8 (by decide) (by kernel_rfl) rfl
   refine sg (x:= .bool b11) 8 11 true (some 14) (.binOp BinOp.geq 3 (.tmp 13) (.const (Value.int IntKind.i64 0)) 3) 4 ho (by kernel_rfl) (by kernel_rfl) hT rfl hW ?_
   intro hg he ps af
   subst he
   have e13:T.getD 13 undef = .int .i64 p:=hK.at 10 (by decide) (by kernel_rfl) rfl
   exact j_geq e13 hb11 ⟨rfl,hW⟩
  ·refine sq (x:= .bool b12) (some 15) (.pick (.tmp 11) (.tmp 14) (.const (Value.bool false))) 4 ho (by kernel_rfl) rfl ?_
   intro ps af
   have e11:T.getD 11 undef = .bool b7:=hK.at 8 (by decide) (by kernel_rfl) rfl
   refine j_pick e11 ?_ ⟨rfl,hW⟩
   rcases Bool.eq_false_or_eq_true b7 with hx | hx
   ·have es:T.getD 14 undef=gv (true&&(b7 == true)) (.bool b11):=hK.at 11 (by decide) (by kernel_rfl) rfl
    rw [hx,if_pos rfl]
    refine es.trans ?_
    simp only [hb12,hx,gv,Bool.true_and,Bool.and_true,Bool.false_or,beq_self_eq_true,Bool.true_or,if_true]
   ·rw [hx,if_neg (by decide)]
    simp only [hb12,hx,Bool.false_and,Bool.true_or]
    rfl
  ·refine sq (x:= .bool b12) (some 16) (.move (.tmp 15)) 4 ho (by kernel_rfl) rfl ?_
   intro ps af
   have e15:T.getD 15 undef = .bool b12:=hK.at 12 (by decide) (by kernel_rfl) rfl
   exact j_mv e15 ⟨rfl,hW⟩
  ·have hT:T.getD 16 undef=gv true (.bool b12):=hK.at 13 (by decide) (by kernel_rfl) rfl
   refine sg (x:= .pointer (some ⟨g,3,none⟩)) 13 16 true (some 17) (.fieldAddr 31 (.tmp 1) 3) 0 ho (by kernel_rfl) (by kernel_rfl) hT rfl hW ?_
   intro hg he ps af
   subst he
   have e1:T.getD 1 undef = .pointer (some ⟨g,0,none⟩):=hK.old (by kernel_rfl) g1
   exact j_fa31_3 e1 ⟨rfl,hW⟩
  ·have hT:T.getD 16 undef=gv true (.bool b12):=hK.at 13 (by decide) (by kernel_rfl) rfl
   refine sg (x:= .string ⟨n.subject.toArray⟩) 13 16 true (some 18) (.load 9 (.tmp 17)) 9 ho (by kernel_rfl) (by kernel_rfl) hT rfl hW ?_
   intro hg he ps af
   subst he
   have e17:T.getD 17 undef = .pointer (some ⟨g,3,none⟩):=hK.at 14 (by decide) (by kernel_rfl) rfl
   exact j_ld9 (k3 _ hW) e17 ⟨rfl,hW⟩
  ·have hT:T.getD 16 undef=gv true (.bool b12):=hK.at 13 (by decide) (by kernel_rfl) rfl
   refine sg (x:= .bool b16) 13 16 true (some 19) (.call {callee:= .value (.func 100),args:=#[.tmp 18],argTypes:=#[9]}) 4 ho (by kernel_rfl) (by kernel_rfl) hT rfl hW ?_
   intro hg he ps af
   subst he
   have e18:T.getD 18 undef = .string ⟨n.subject.toArray⟩:=hK.at 15 (by decide) (by kernel_rfl) rfl
   have hcl:=cl16 rfl _ hW
   go_simp
   go_at_call 100
   refine hcl.mono ?_
   rintro ex w2 ⟨rfl,hW2⟩
   exact⟨rfl,hW2⟩
  ·refine sq (x:= .bool b17) (some 20) (.pick (.tmp 16) (.tmp 19) (.const (Value.bool false))) 4 ho (by kernel_rfl) rfl ?_
   intro ps af
   have e16:T.getD 16 undef = .bool b12:=hK.at 13 (by decide) (by kernel_rfl) rfl
   refine j_pick e16 ?_ ⟨rfl,hW⟩
   rcases Bool.eq_false_or_eq_true b12 with hx | hx
   ·have es:T.getD 19 undef=gv (true&&(b12 == true)) (.bool b16):=hK.at 16 (by decide) (by kernel_rfl) rfl
    rw [hx,if_pos rfl]
    refine es.trans ?_
    simp only [hb17,hx,gv,Bool.true_and,Bool.and_true,Bool.false_or,beq_self_eq_true,Bool.true_or,if_true]
   ·rw [hx,if_neg (by decide)]
    simp only [hb17,hx,Bool.false_and,Bool.true_or]
    rfl
  ·refine sq (x:= .bool b17) (some 21) (.move (.tmp 20)) 4 ho (by kernel_rfl) rfl ?_
   intro ps af
   have e20:T.getD 20 undef = .bool b17:=hK.at 17 (by decide) (by kernel_rfl) rfl
   exact j_mv e20 ⟨rfl,hW⟩
  ·have hT:T.getD 21 undef=gv true (.bool b17):=hK.at 18 (by decide) (by kernel_rfl) rfl
   refine sg (x:= .pointer (some ⟨g,4,none⟩)) 18 21 true (some 22) (.fieldAddr 31 (.tmp 1) 4) 0 ho (by kernel_rfl) (by kernel_rfl) hT rfl hW ?_
   intro hg he ps af
   subst he
   have e1:T.getD 1 undef = .pointer (some ⟨g,0,none⟩):=hK.old (by kernel_rfl) g1
   exact j_fa31_4 e1 ⟨rfl,hW⟩
  ·have hT:T.getD 21 undef=gv true (.bool b17):=hK.at 18 (by decide) (by kernel_rfl) rfl
   refine sg (x:= .string ⟨n.client.toArray⟩) 18 21 true (some 23) (.load 9 (.tmp 22)) 9 ho (by kernel_rfl) (by kernel_rfl) hT rfl hW ?_
   intro hg he ps af
   subst he
   have e22:T.getD 22 undef = .pointer (some ⟨g,4,none⟩):=hK.at 19 (by decide) (by kernel_rfl) rfl
   exact j_ld9 (k4 _ hW) e22 ⟨rfl,hW⟩
  ·have hT:T.getD 21 undef=gv true (.bool b17):=hK.at 18 (by decide) (by kernel_rfl) rfl
   refine sg (x:= .bool b21) 18 21 true (some 24) (.binOp BinOp.eql 9 (.tmp 23) (.const (Value.string {data:=#[]})) 9) 4 ho (by kernel_rfl) (by kernel_rfl) hT rfl hW ?_
   intro hg he ps af
   subst he
   have e23:T.getD 23 undef = .string ⟨n.client.toArray⟩:=hK.at 20 (by decide) (by kernel_rfl) rfl
   exact j_eqle e23 hb21 ⟨rfl,hW⟩
  ·have hT:T.getD 21 undef=gv true (.bool b17):=hK.at 18 (by decide) (by kernel_rfl) rfl
   refine sg (x:= .bool b21) 18 21 true (some 25) (.move (.tmp 24)) 4 ho (by kernel_rfl) (by kernel_rfl) hT rfl hW ?_
   intro hg he ps af
   subst he
   have e24:T.getD 24 undef = .bool b21:=hK.at 21 (by decide) (by kernel_rfl) rfl
   exact j_mv e24 ⟨rfl,hW⟩
  ·have hT:T.getD 25 undef=gv (true&&(b17 == true)) (.bool b21):=hK.at 22 (by decide) (by kernel_rfl) rfl
   refine sg (x:= .pointer (some ⟨g,4,none⟩)) 22 25 false (some 26) (.fieldAddr 31 (.tmp 1) 4) 0 ho (by kernel_rfl) (by kernel_rfl) hT rfl hW ?_
   intro hg he ps af
   obtain rfl:b17=true:=by simpa using hg
   subst he
   have e1:T.getD 1 undef = .pointer (some ⟨g,0,none⟩):=hK.old (by kernel_rfl) g1
   exact j_fa31_4 e1 ⟨rfl,hW⟩
  ·have hT:T.getD 25 undef=gv (true&&(b17 == true)) (.bool b21):=hK.at 22 (by decide) (by kernel_rfl) rfl
   refine sg (x:= .string ⟨n.client.toArray⟩) 22 25 false (some 27) (.load 9 (.tmp 26)) 9 ho (by kernel_rfl) (by kernel_rfl) hT rfl hW ?_
   intro hg he ps af
   obtain rfl:b17=true:=by simpa using hg
   subst he
   have e26:T.getD 26 undef = .pointer (some ⟨g,4,none⟩):=hK.at 23 (by decide) (by kernel_rfl) rfl
   exact j_ld9 (k4 _ hW) e26 ⟨rfl,hW⟩
  ·have hT:T.getD 25 undef=gv (true&&(b17 == true)) (.bool b21):=hK.at 22 (by decide) (by kernel_rfl) rfl
   refine sg (x:= .bool b25) 22 25 false (some 28) (.call {callee:= .value (.func 101),args:=#[.tmp 27],argTypes:=#[9]}) 4 ho (by kernel_rfl) (by kernel_rfl) hT rfl hW ?_
   intro hg he ps af
   obtain rfl:b17=true:=by simpa using hg
   subst he
   have e27:T.getD 27 undef = .string ⟨n.client.toArray⟩:=hK.at 24 (by decide) (by kernel_rfl) rfl
   have hcl:=cl25 rfl _ hW
   go_simp
   go_at_call 101
   refine hcl.mono ?_
   rintro ex w2 ⟨rfl,hW2⟩
   exact⟨rfl,hW2⟩
  ·have hT:T.getD 21 undef=gv true (.bool b17):=hK.at 18 (by decide) (by kernel_rfl) rfl
   refine sg (x:= .bool b26) 18 21 true (some 29) (.pick (.tmp 25) (.const (Value.bool true)) (.tmp 28)) 4 ho (by kernel_rfl) (by kernel_rfl) hT rfl hW ?_
   intro hg he ps af
   subst he
   have e25:T.getD 25 undef = .bool b21:=hK.at 22 (by decide) (by kernel_rfl) rfl
   refine j_pick e25 ?_ ⟨rfl,hW⟩
   rcases Bool.eq_false_or_eq_true b21 with hx | hx
   ·rw [hx,if_pos rfl]
    simp only [hb26,hx,Bool.false_and,Bool.true_or]
    rfl
   ·have es:T.getD 28 undef=gv ((true&&(true == true))&&(b21 == false)) (.bool b25):=hK.at 25 (by decide) (by kernel_rfl) rfl
    rw [hx,if_neg (by decide)]
    refine es.trans ?_
    simp only [hb26,hx,gv,Bool.true_and,Bool.and_true,Bool.false_or,beq_self_eq_true,Bool.true_or,if_true]
  ·refine sq (x:= .bool b27) (some 30) (.pick (.tmp 21) (.tmp 29) (.const (Value.bool false))) 4 ho (by kernel_rfl) rfl ?_
   intro ps af
   have e21:T.getD 21 undef = .bool b17:=hK.at 18 (by decide) (by kernel_rfl) rfl
   refine j_pick e21 ?_ ⟨rfl,hW⟩
   rcases Bool.eq_false_or_eq_true b17 with hx | hx
   ·have es:T.getD 29 undef=gv (true&&(b17 == true)) (.bool b26):=hK.at 26 (by decide) (by kernel_rfl) rfl
    rw [hx,if_pos rfl]
    refine es.trans ?_
    simp only [hb27,hx,gv,Bool.true_and,Bool.and_true,Bool.false_or,beq_self_eq_true,Bool.true_or,if_true]
   ·rw [hx,if_neg (by decide)]
    simp only [hb27,hx,Bool.false_and,Bool.true_or]
    rfl
  ·refine sq (x:= .bool b27) (some 31) (.move (.tmp 30)) 4 ho (by kernel_rfl) rfl ?_
   intro ps af
   have e30:T.getD 30 undef = .bool b27:=hK.at 27 (by decide) (by kernel_rfl) rfl
   exact j_mv e30 ⟨rfl,hW⟩
  ·have hT:T.getD 31 undef=gv true (.bool b27):=hK.at 28 (by decide) (by kernel_rfl) rfl
   refine sg (x:= .pointer (some ⟨g,5,none⟩)) 28 31 true (some 32) (.fieldAddr 31 (.tmp 1) 5) 0 ho (by kernel_rfl) (by kernel_rfl) hT rfl hW ?_
   intro hg he ps af
   subst he
   have e1:T.getD 1 undef = .pointer (some ⟨g,0,none⟩):=hK.old (by kernel_rfl) g1
   exact j_fa31_5 e1 ⟨rfl,hW⟩
  ·have hT:T.getD 31 undef=gv true (.bool b27):=hK.at 28 (by decide) (by kernel_rfl) rfl
   refine sg (x:= .string ⟨n.audience.toArray⟩) 28 31 true (some 33) (.load 9 (.tmp 32)) 9 ho (by kernel_rfl) (by kernel_rfl) hT rfl hW ?_
   intro hg he ps af
   subst he
   have e32:T.getD 32 undef = .pointer (some ⟨g,5,none⟩):=hK.at 29 (by decide) (by kernel_rfl) rfl
   exact j_ld9 (k5 _ hW) e32 ⟨rfl,hW⟩
  ·have hT:T.getD 31 undef=gv true (.bool b27):=hK.at 28 (by decide) (by kernel_rfl) rfl
   refine sg (x:= .bool b31) 28 31 true (some 34) (.binOp BinOp.eql 9 (.tmp 33) (.const (Value.string {data:=#[]})) 9) 4 ho (by kernel_rfl) (by kernel_rfl) hT rfl hW ?_
   intro hg he ps af
   subst he
   have e33:T.getD 33 undef = .string ⟨n.audience.toArray⟩:=hK.at 30 (by decide) (by kernel_rfl) rfl
   exact j_eqle e33 hb31 ⟨rfl,hW⟩
  ·have hT:T.getD 31 undef=gv true (.bool b27):=hK.at 28 (by decide) (by kernel_rfl) rfl
   refine sg (x:= .bool b31) 28 31 true (some 35) (.move (.tmp 34)) 4 ho (by kernel_rfl) (by kernel_rfl) hT rfl hW ?_
   intro hg he ps af
   subst he
   have e34:T.getD 34 undef = .bool b31:=hK.at 31 (by decide) (by kernel_rfl) rfl
   exact j_mv e34 ⟨rfl,hW⟩
  ·have hT:T.getD 35 undef=gv (true&&(b27 == true)) (.bool b31):=hK.at 32 (by decide) (by kernel_rfl) rfl
   refine sg (x:= .pointer (some ⟨g,5,none⟩)) 32 35 false (some 36) (.fieldAddr 31 (.tmp 1) 5) 0 ho (by kernel_rfl) (by kernel_rfl) hT rfl hW ?_
   intro hg he ps af
   obtain rfl:b27=true:=by simpa using hg
   subst he
   have e1:T.getD 1 undef = .pointer (some ⟨g,0,none⟩):=hK.old (by kernel_rfl) g1
   exact j_fa31_5 e1 ⟨rfl,hW⟩
  ·have hT:T.getD 35 undef=gv (true&&(b27 == true)) (.bool b31):=hK.at 32 (by decide) (by kernel_rfl) rfl
   refine sg (x:= .string ⟨n.audience.toArray⟩) 32 35 false (some 37) (.load 9 (.tmp 36)) 9 ho (by kernel_rfl) (by kernel_rfl) hT rfl hW ?_
   intro hg he ps af
   obtain rfl:b27=true:=by simpa using hg
   subst he
   have e36:T.getD 36 undef = .pointer (some ⟨g,5,none⟩):=hK.at 33 (by decide) (by kernel_rfl) rfl
   exact j_ld9 (k5 _ hW) e36 ⟨rfl,hW⟩
  ·have hT:T.getD 35 undef=gv (true&&(b27 == true)) (.bool b31):=hK.at 32 (by decide) (by kernel_rfl) rfl
   refine sg (x:= .bool b35) 32 35 false (some 38) (.call {callee:= .value (.func 102),args:=#[.tmp 37],argTypes:=#[9]}) 4 ho (by kernel_rfl) (by kernel_rfl) hT rfl hW ?_
   intro hg he ps af
   obtain rfl:b27=true:=by simpa using hg
   subst he
   have e37:T.getD 37 undef = .string ⟨n.audience.toArray⟩:=hK.at 34 (by decide) (by kernel_rfl) rfl
   have hcl:=cl35 rfl _ hW
   go_simp
   go_at_call 102
   refine hcl.mono ?_
   rintro ex w2 ⟨rfl,hW2⟩
   exact⟨rfl,hW2⟩
  ·have hT:T.getD 31 undef=gv true (.bool b27):=hK.at 28 (by decide) (by kernel_rfl) rfl
   refine sg (x:= .bool b36) 28 31 true (some 39) (.pick (.tmp 35) (.const (Value.bool true)) (.tmp 38)) 4 ho (by kernel_rfl) (by kernel_rfl) hT rfl hW ?_
   intro hg he ps af
   subst he
   have e35:T.getD 35 undef = .bool b31:=hK.at 32 (by decide) (by kernel_rfl) rfl
   refine j_pick e35 ?_ ⟨rfl,hW⟩
   rcases Bool.eq_false_or_eq_true b31 with hx | hx
   ·rw [hx,if_pos rfl]
    simp only [hb36,hx,Bool.false_and,Bool.true_or]
    rfl
   ·have es:T.getD 38 undef=gv ((true&&(true == true))&&(b31 == false)) (.bool b35):=hK.at 35 (by decide) (by kernel_rfl) rfl
    rw [hx,if_neg (by decide)]
    refine es.trans ?_
    simp only [hb36,hx,gv,Bool.true_and,Bool.and_true,Bool.false_or,beq_self_eq_true,Bool.true_or,if_true]
  ·refine sq (x:= .bool b37) (some 40) (.pick (.tmp 31) (.tmp 39) (.const (Value.bool false))) 4 ho (by kernel_rfl) rfl ?_
   intro ps af
   have e31:T.getD 31 undef = .bool b27:=hK.at 28 (by decide) (by kernel_rfl) rfl
   refine j_pick e31 ?_ ⟨rfl,hW⟩
   rcases Bool.eq_false_or_eq_true b27 with hx | hx
   ·have es:T.getD 39 undef=gv (true&&(b27 == true)) (.bool b36):=hK.at 36 (by decide) (by kernel_rfl) rfl
    rw [hx,if_pos rfl]
    refine es.trans ?_
    simp only [hb37,hx,gv,Bool.true_and,Bool.and_true,Bool.false_or,beq_self_eq_true,Bool.true_or,if_true]
   ·rw [hx,if_neg (by decide)]
    simp only [hb37,hx,Bool.false_and,Bool.true_or]
    rfl
  ·refine sq (x:= .bool b37) (some 41) (.move (.tmp 40)) 4 ho (by kernel_rfl) rfl ?_
   intro ps af
   have e40:T.getD 40 undef = .bool b37:=hK.at 37 (by decide) (by kernel_rfl) rfl
   exact j_mv e40 ⟨rfl,hW⟩
  ·have hT:T.getD 41 undef=gv true (.bool b37):=hK.at 38 (by decide) (by kernel_rfl) rfl
   refine sg (x:= .pointer (some ⟨g,6,none⟩)) 38 41 true (some 42) (.fieldAddr 31 (.tmp 1) 6) 0 ho (by kernel_rfl) (by kernel_rfl) hT rfl hW ?_
   intro hg he ps af
   subst he
   have e1:T.getD 1 undef = .pointer (some ⟨g,0,none⟩):=hK.old (by kernel_rfl) g1
   exact j_fa31_6 e1 ⟨rfl,hW⟩
  ·have hT:T.getD 41 undef=gv true (.bool b37):=hK.at 38 (by decide) (by kernel_rfl) rfl
   refine sg (x:= .slice sa n.scope.length sc) 38 41 true (some 43) (.load 29 (.tmp 42)) 29 ho (by kernel_rfl) (by kernel_rfl) hT rfl hW ?_
   intro hg he ps af
   subst he
   have e42:T.getD 42 undef = .pointer (some ⟨g,6,none⟩):=hK.at 39 (by decide) (by kernel_rfl) rfl
   exact j_ld29 (k6 _ hW) e42 ⟨rfl,hW⟩
  ·have hT:T.getD 41 undef=gv true (.bool b37):=hK.at 38 (by decide) (by kernel_rfl) rfl
   refine sg (x:= .int .i64 (n.scope.length:Int)) 38 41 true (some 44) (.call {callee:= .builtin Builtin.len,args:=#[.tmp 43],argTypes:=#[29]}) 3 ho (by kernel_rfl) (by kernel_rfl) hT rfl hW ?_
   intro hg he ps af
   subst he
   have e43:T.getD 43 undef = .slice sa n.scope.length sc:=hK.at 40 (by decide) (by kernel_rfl) rfl
   exact j_lens29 e43 ⟨rfl,hW⟩
  ·have hT:T.getD 41 undef=gv true (.bool b37):=hK.at 38 (by decide) (by kernel_rfl) rfl
   refine sg (x:= .bool b42) 38 41 true (some 45) (.binOp BinOp.leq 3 (.tmp 44) (.const (Value.int IntKind.i64 16)) 3) 4 ho (by kernel_rfl) (by kernel_rfl) hT rfl hW ?_
   intro hg he ps af
   subst he
   have e44:T.getD 44 undef = .int .i64 (n.scope.length:Int):=hK.at 41 (by decide) (by kernel_rfl) rfl
   exact j_leq e44 hb42 ⟨rfl,hW⟩
  ·refine sq (x:= .bool b43) (some 46) (.pick (.tmp 41) (.tmp 45) (.const (Value.bool false))) 4 ho (by kernel_rfl) rfl ?_
   intro ps af
   have e41:T.getD 41 undef = .bool b37:=hK.at 38 (by decide) (by kernel_rfl) rfl
   refine j_pick e41 ?_ ⟨rfl,hW⟩
   rcases Bool.eq_false_or_eq_true b37 with hx | hx
   ·have es:T.getD 45 undef=gv (true&&(b37 == true)) (.bool b42):=hK.at 42 (by decide) (by kernel_rfl) rfl
    rw [hx,if_pos rfl]
    refine es.trans ?_
    simp only [hb43,hx,gv,Bool.true_and,Bool.and_true,Bool.false_or,beq_self_eq_true,Bool.true_or,if_true]
   ·rw [hx,if_neg (by decide)]
    simp only [hb43,hx,Bool.false_and,Bool.true_or]
    rfl
  ·refine sq (x:= .bool b43) (some 47) (.move (.tmp 46)) 4 ho (by kernel_rfl) rfl ?_
   intro ps af
   have e46:T.getD 46 undef = .bool b43:=hK.at 43 (by decide) (by kernel_rfl) rfl
   exact j_mv e46 ⟨rfl,hW⟩
  ·have hT:T.getD 47 undef=gv true (.bool b43):=hK.at 44 (by decide) (by kernel_rfl) rfl
   refine sg (x:= .pointer (some ⟨g,6,none⟩)) 44 47 true (some 48) (.fieldAddr 31 (.tmp 1) 6) 0 ho (by kernel_rfl) (by kernel_rfl) hT rfl hW ?_
   intro hg he ps af
   subst he
   have e1:T.getD 1 undef = .pointer (some ⟨g,0,none⟩):=hK.old (by kernel_rfl) g1
   exact j_fa31_6 e1 ⟨rfl,hW⟩
  ·have hT:T.getD 47 undef=gv true (.bool b43):=hK.at 44 (by decide) (by kernel_rfl) rfl
   refine sg (x:= .slice sa n.scope.length sc) 44 47 true (some 49) (.load 29 (.tmp 48)) 29 ho (by kernel_rfl) (by kernel_rfl) hT rfl hW ?_
   intro hg he ps af
   subst he
   have e48:T.getD 48 undef = .pointer (some ⟨g,6,none⟩):=hK.at 45 (by decide) (by kernel_rfl) rfl
   exact j_ld29 (k6 _ hW) e48 ⟨rfl,hW⟩
  ·have hT:T.getD 47 undef=gv true (.bool b43):=hK.at 44 (by decide) (by kernel_rfl) rfl
   refine sg (x:= .bool b47) 44 47 true (some 50) (.call {callee:= .value (.func 103),args:=#[.tmp 49,.func 104],argTypes:=#[29,99]}) 4 ho (by kernel_rfl) (by kernel_rfl) hT rfl hW ?_
   intro hg he ps af
   subst he
   have e49:T.getD 49 undef = .slice sa n.scope.length sc:=hK.at 46 (by decide) (by kernel_rfl) rfl
   have hcl:=cl47 rfl _ hW
   go_simp
   go_at_call 103
   refine hcl.mono ?_
   rintro ex w2 ⟨rfl,hW2⟩
   exact⟨rfl,hW2⟩
  ·refine sq (x:= .bool b48) (some 51) (.pick (.tmp 47) (.tmp 50) (.const (Value.bool false))) 4 ho (by kernel_rfl) rfl ?_
   intro ps af
   have e47:T.getD 47 undef = .bool b43:=hK.at 44 (by decide) (by kernel_rfl) rfl
   refine j_pick e47 ?_ ⟨rfl,hW⟩
   rcases Bool.eq_false_or_eq_true b43 with hx | hx
   ·have es:T.getD 50 undef=gv (true&&(b43 == true)) (.bool b47):=hK.at 47 (by decide) (by kernel_rfl) rfl
    rw [hx,if_pos rfl]
    refine es.trans ?_
    simp only [hb48,hx,gv,Bool.true_and,Bool.and_true,Bool.false_or,beq_self_eq_true,Bool.true_or,if_true]
   ·rw [hx,if_neg (by decide)]
    simp only [hb48,hx,Bool.false_and,Bool.true_or]
    rfl
  ·refine sq (x:= .bool b48) (some 52) (.move (.tmp 51)) 4 ho (by kernel_rfl) rfl ?_
   intro ps af
   have e51:T.getD 51 undef = .bool b48:=hK.at 48 (by decide) (by kernel_rfl) rfl
   exact j_mv e51 ⟨rfl,hW⟩
  ·have hT:T.getD 52 undef=gv true (.bool b48):=hK.at 49 (by decide) (by kernel_rfl) rfl
   refine sg (x:= .pointer (some ⟨g,6,none⟩)) 49 52 true (some 53) (.fieldAddr 31 (.tmp 1) 6) 0 ho (by kernel_rfl) (by kernel_rfl) hT rfl hW ?_
   intro hg he ps af
   subst he
   have e1:T.getD 1 undef = .pointer (some ⟨g,0,none⟩):=hK.old (by kernel_rfl) g1
   exact j_fa31_6 e1 ⟨rfl,hW⟩
  ·have hT:T.getD 52 undef=gv true (.bool b48):=hK.at 49 (by decide) (by kernel_rfl) rfl
   refine sg (x:= .slice sa n.scope.length sc) 49 52 true (some 54) (.load 29 (.tmp 53)) 29 ho (by kernel_rfl) (by kernel_rfl) hT rfl hW ?_
   intro hg he ps af
   subst he
   have e53:T.getD 53 undef = .pointer (some ⟨g,6,none⟩):=hK.at 50 (by decide) (by kernel_rfl) rfl
   exact j_ld29 (k6 _ hW) e53 ⟨rfl,hW⟩
  ·have hT:T.getD 52 undef=gv true (.bool b48):=hK.at 49 (by decide) (by kernel_rfl) rfl
   refine sg (x:= .bool b52) 49 52 true (some 55) (.call {callee:= .value (.func 105),args:=#[.tmp 54],argTypes:=#[29]}) 4 ho (by kernel_rfl) (by kernel_rfl) hT rfl hW ?_
   intro hg he ps af
   subst he
   have e54:T.getD 54 undef = .slice sa n.scope.length sc:=hK.at 51 (by decide) (by kernel_rfl) rfl
   have hcl:=cl52 rfl _ hW
   go_simp
   go_at_call 105
   refine hcl.mono ?_
   rintro ex w2 ⟨rfl,hW2⟩
   exact⟨rfl,hW2⟩
  ·refine sq (x:= .bool b53) (some 56) (.pick (.tmp 52) (.tmp 55) (.const (Value.bool false))) 4 ho (by kernel_rfl) rfl ?_
   intro ps af
   have e52:T.getD 52 undef = .bool b48:=hK.at 49 (by decide) (by kernel_rfl) rfl
   refine j_pick e52 ?_ ⟨rfl,hW⟩
   rcases Bool.eq_false_or_eq_true b48 with hx | hx
   ·have es:T.getD 55 undef=gv (true&&(b48 == true)) (.bool b52):=hK.at 52 (by decide) (by kernel_rfl) rfl
    rw [hx,if_pos rfl]
    refine es.trans ?_
    simp only [hb53,hx,gv,Bool.true_and,Bool.and_true,Bool.false_or,beq_self_eq_true,Bool.true_or,if_true]
   ·rw [hx,if_neg (by decide)]
    simp only [hb53,hx,Bool.false_and,Bool.true_or]
    rfl
  ·refine sq (x:= .bool b53) (some 57) (.move (.tmp 56)) 4 ho (by kernel_rfl) rfl ?_
   intro ps af
   have e56:T.getD 56 undef = .bool b53:=hK.at 53 (by decide) (by kernel_rfl) rfl
   exact j_mv e56 ⟨rfl,hW⟩
  ·have hT:T.getD 57 undef=gv true (.bool b53):=hK.at 54 (by decide) (by kernel_rfl) rfl
   refine sg (x:= .pointer (some ⟨g,7,none⟩)) 54 57 true (some 58) (.fieldAddr 31 (.tmp 1) 7) 0 ho (by kernel_rfl) (by kernel_rfl) hT rfl hW ?_
   intro hg he ps af
   subst he
   have e1:T.getD 1 undef = .pointer (some ⟨g,0,none⟩):=hK.old (by kernel_rfl) g1
   exact j_fa31_7 e1 ⟨rfl,hW⟩
  ·have hT:T.getD 57 undef=gv true (.bool b53):=hK.at 54 (by decide) (by kernel_rfl) rfl
   refine sg (x:= .int .i64 n.born) 54 57 true (some 59) (.load 3 (.tmp 58)) 3 ho (by kernel_rfl) (by kernel_rfl) hT rfl hW ?_
   intro hg he ps af
   subst he
   have e58:T.getD 58 undef = .pointer (some ⟨g,7,none⟩):=hK.at 55 (by decide) (by kernel_rfl) rfl
   exact j_ld3 (k7 _ hW) e58 ⟨rfl,hW⟩
  ·have hT:T.getD 57 undef=gv true (.bool b53):=hK.at 54 (by decide) (by kernel_rfl) rfl
   refine sg (x:= .bool b57) 54 57 true (some 60) (.call {callee:= .value (.func 106),args:=#[.tmp 59],argTypes:=#[3]}) 4 ho (by kernel_rfl) (by kernel_rfl) hT rfl hW ?_
   intro hg he ps af
   subst he
   have e59:T.getD 59 undef = .int .i64 n.born:=hK.at 56 (by decide) (by kernel_rfl) rfl
   have hcl:=cl57 rfl _ hW
   go_simp
   go_at_call 106
   refine hcl.mono ?_
   rintro ex w2 ⟨rfl,hW2⟩
   exact⟨rfl,hW2⟩
  ·refine sq (x:= .bool b58) (some 61) (.pick (.tmp 57) (.tmp 60) (.const (Value.bool false))) 4 ho (by kernel_rfl) rfl ?_
   intro ps af
   have e57:T.getD 57 undef = .bool b53:=hK.at 54 (by decide) (by kernel_rfl) rfl
   refine j_pick e57 ?_ ⟨rfl,hW⟩
   rcases Bool.eq_false_or_eq_true b53 with hx | hx
   ·have es:T.getD 60 undef=gv (true&&(b53 == true)) (.bool b57):=hK.at 57 (by decide) (by kernel_rfl) rfl
    rw [hx,if_pos rfl]
    refine es.trans ?_
    simp only [hb58,hx,gv,Bool.true_and,Bool.and_true,Bool.false_or,beq_self_eq_true,Bool.true_or,if_true]
   ·rw [hx,if_neg (by decide)]
    simp only [hb58,hx,Bool.false_and,Bool.true_or]
    rfl
  ·refine sq (x:= .bool b58) (some 62) (.move (.tmp 61)) 4 ho (by kernel_rfl) rfl ?_
   intro ps af
   have e61:T.getD 61 undef = .bool b58:=hK.at 58 (by decide) (by kernel_rfl) rfl
   exact j_mv e61 ⟨rfl,hW⟩
  ·have hT:T.getD 62 undef=gv true (.bool b58):=hK.at 59 (by decide) (by kernel_rfl) rfl
   refine sg (x:= .pointer (some ⟨g,8,none⟩)) 59 62 true (some 63) (.fieldAddr 31 (.tmp 1) 8) 0 ho (by kernel_rfl) (by kernel_rfl) hT rfl hW ?_
   intro hg he ps af
   subst he
   have e1:T.getD 1 undef = .pointer (some ⟨g,0,none⟩):=hK.old (by kernel_rfl) g1
   exact j_fa31_8 e1 ⟨rfl,hW⟩
  ·have hT:T.getD 62 undef=gv true (.bool b58):=hK.at 59 (by decide) (by kernel_rfl) rfl
   refine sg (x:= .int .i64 n.exp) 59 62 true (some 64) (.load 3 (.tmp 63)) 3 ho (by kernel_rfl) (by kernel_rfl) hT rfl hW ?_
   intro hg he ps af
   subst he
   have e63:T.getD 63 undef = .pointer (some ⟨g,8,none⟩):=hK.at 60 (by decide) (by kernel_rfl) rfl
   exact j_ld3 (k8 _ hW) e63 ⟨rfl,hW⟩
  ·have hT:T.getD 62 undef=gv true (.bool b58):=hK.at 59 (by decide) (by kernel_rfl) rfl
   refine sg (x:= .bool b62) 59 62 true (some 65) (.call {callee:= .value (.func 106),args:=#[.tmp 64],argTypes:=#[3]}) 4 ho (by kernel_rfl) (by kernel_rfl) hT rfl hW ?_
   intro hg he ps af
   subst he
   have e64:T.getD 64 undef = .int .i64 n.exp:=hK.at 61 (by decide) (by kernel_rfl) rfl
   have hcl:=cl62 rfl _ hW
   go_simp
   go_at_call 106
   refine hcl.mono ?_
   rintro ex w2 ⟨rfl,hW2⟩
   exact⟨rfl,hW2⟩
  ·refine sq (x:= .bool b63) (some 66) (.pick (.tmp 62) (.tmp 65) (.const (Value.bool false))) 4 ho (by kernel_rfl) rfl ?_
   intro ps af
   have e62:T.getD 62 undef = .bool b58:=hK.at 59 (by decide) (by kernel_rfl) rfl
   refine j_pick e62 ?_ ⟨rfl,hW⟩
   rcases Bool.eq_false_or_eq_true b58 with hx | hx
   ·have es:T.getD 65 undef=gv (true&&(b58 == true)) (.bool b62):=hK.at 62 (by decide) (by kernel_rfl) rfl
    rw [hx,if_pos rfl]
    refine es.trans ?_
    simp only [hb63,hx,gv,Bool.true_and,Bool.and_true,Bool.false_or,beq_self_eq_true,Bool.true_or,if_true]
   ·rw [hx,if_neg (by decide)]
    simp only [hb63,hx,Bool.false_and,Bool.true_or]
    rfl
  ·refine sq (x:= .bool b63) (some 67) (.move (.tmp 66)) 4 ho (by kernel_rfl) rfl ?_
   intro ps af
   have e66:T.getD 66 undef = .bool b63:=hK.at 63 (by decide) (by kernel_rfl) rfl
   exact j_mv e66 ⟨rfl,hW⟩
  ·have hT:T.getD 67 undef=gv true (.bool b63):=hK.at 64 (by decide) (by kernel_rfl) rfl
   refine sg (x:= .pointer (some ⟨g,11,none⟩)) 64 67 true (some 68) (.fieldAddr 31 (.tmp 1) 11) 0 ho (by kernel_rfl) (by kernel_rfl) hT rfl hW ?_
   intro hg he ps af
   subst he
   have e1:T.getD 1 undef = .pointer (some ⟨g,0,none⟩):=hK.old (by kernel_rfl) g1
   exact j_fa31_11 e1 ⟨rfl,hW⟩
  ·have hT:T.getD 67 undef=gv true (.bool b63):=hK.at 64 (by decide) (by kernel_rfl) rfl
   refine sg (x:= .slice aa n.actors.length ac) 64 67 true (some 69) (.load 29 (.tmp 68)) 29 ho (by kernel_rfl) (by kernel_rfl) hT rfl hW ?_
   intro hg he ps af
   subst he
   have e68:T.getD 68 undef = .pointer (some ⟨g,11,none⟩):=hK.at 65 (by decide) (by kernel_rfl) rfl
   exact j_ld29 (k11 _ hW) e68 ⟨rfl,hW⟩
  ·have hT:T.getD 67 undef=gv true (.bool b63):=hK.at 64 (by decide) (by kernel_rfl) rfl
   refine sg (x:= .int .i64 (n.actors.length:Int)) 64 67 true (some 70) (.call {callee:= .builtin Builtin.len,args:=#[.tmp 69],argTypes:=#[29]}) 3 ho (by kernel_rfl) (by kernel_rfl) hT rfl hW ?_
   intro hg he ps af
   subst he
   have e69:T.getD 69 undef = .slice aa n.actors.length ac:=hK.at 66 (by decide) (by kernel_rfl) rfl
   exact j_lens29 e69 ⟨rfl,hW⟩
  ·have hT:T.getD 67 undef=gv true (.bool b63):=hK.at 64 (by decide) (by kernel_rfl) rfl
   refine sg (x:= .bool b68) 64 67 true (some 71) (.binOp BinOp.leq 3 (.tmp 70) (.const (Value.int IntKind.i64 4)) 3) 4 ho (by kernel_rfl) (by kernel_rfl) hT rfl hW ?_
   intro hg he ps af
   subst he
   have e70:T.getD 70 undef = .int .i64 (n.actors.length:Int):=hK.at 67 (by decide) (by kernel_rfl) rfl
   exact j_leq e70 hb68 ⟨rfl,hW⟩
  ·refine sq (x:= .bool b69) (some 72) (.pick (.tmp 67) (.tmp 71) (.const (Value.bool false))) 4 ho (by kernel_rfl) rfl ?_
   intro ps af
   have e67:T.getD 67 undef = .bool b63:=hK.at 64 (by decide) (by kernel_rfl) rfl
   refine j_pick e67 ?_ ⟨rfl,hW⟩
   rcases Bool.eq_false_or_eq_true b63 with hx | hx
   ·have es:T.getD 71 undef=gv (true&&(b63 == true)) (.bool b68):=hK.at 68 (by decide) (by kernel_rfl) rfl
    rw [hx,if_pos rfl]
    refine es.trans ?_
    simp only [hb69,hx,gv,Bool.true_and,Bool.and_true,Bool.false_or,beq_self_eq_true,Bool.true_or,if_true]
   ·rw [hx,if_neg (by decide)]
    simp only [hb69,hx,Bool.false_and,Bool.true_or]
    rfl
  ·refine sq (x:= .bool b69) (some 73) (.move (.tmp 72)) 4 ho (by kernel_rfl) rfl ?_
   intro ps af
   have e72:T.getD 72 undef = .bool b69:=hK.at 69 (by decide) (by kernel_rfl) rfl
   exact j_mv e72 ⟨rfl,hW⟩
  ·have hT:T.getD 73 undef=gv true (.bool b69):=hK.at 70 (by decide) (by kernel_rfl) rfl
   refine sg (x:= .pointer (some ⟨g,11,none⟩)) 70 73 true (some 74) (.fieldAddr 31 (.tmp 1) 11) 0 ho (by kernel_rfl) (by kernel_rfl) hT rfl hW ?_
   intro hg he ps af
   subst he
   have e1:T.getD 1 undef = .pointer (some ⟨g,0,none⟩):=hK.old (by kernel_rfl) g1
   exact j_fa31_11 e1 ⟨rfl,hW⟩
  ·have hT:T.getD 73 undef=gv true (.bool b69):=hK.at 70 (by decide) (by kernel_rfl) rfl
   refine sg (x:= .slice aa n.actors.length ac) 70 73 true (some 75) (.load 29 (.tmp 74)) 29 ho (by kernel_rfl) (by kernel_rfl) hT rfl hW ?_
   intro hg he ps af
   subst he
   have e74:T.getD 74 undef = .pointer (some ⟨g,11,none⟩):=hK.at 71 (by decide) (by kernel_rfl) rfl
   exact j_ld29 (k11 _ hW) e74 ⟨rfl,hW⟩
  ·have hT:T.getD 73 undef=gv true (.bool b69):=hK.at 70 (by decide) (by kernel_rfl) rfl
   refine sg (x:= .bool b73) 70 73 true (some 76) (.call {callee:= .value (.func 103),args:=#[.tmp 75,.func 100],argTypes:=#[29,99]}) 4 ho (by kernel_rfl) (by kernel_rfl) hT rfl hW ?_
   intro hg he ps af
   subst he
   have e75:T.getD 75 undef = .slice aa n.actors.length ac:=hK.at 72 (by decide) (by kernel_rfl) rfl
   have hcl:=cl73 rfl _ hW
   go_simp
   go_at_call 103
   refine hcl.mono ?_
   rintro ex w2 ⟨rfl,hW2⟩
   exact⟨rfl,hW2⟩
  ·refine sq (x:= .bool b74) (some 77) (.pick (.tmp 73) (.tmp 76) (.const (Value.bool false))) 4 ho (by kernel_rfl) rfl ?_
   intro ps af
   have e73:T.getD 73 undef = .bool b69:=hK.at 70 (by decide) (by kernel_rfl) rfl
   refine j_pick e73 ?_ ⟨rfl,hW⟩
   rcases Bool.eq_false_or_eq_true b69 with hx | hx
   ·have es:T.getD 76 undef=gv (true&&(b69 == true)) (.bool b73):=hK.at 73 (by decide) (by kernel_rfl) rfl
    rw [hx,if_pos rfl]
    refine es.trans ?_
    simp only [hb74,hx,gv,Bool.true_and,Bool.and_true,Bool.false_or,beq_self_eq_true,Bool.true_or,if_true]
   ·rw [hx,if_neg (by decide)]
    simp only [hb74,hx,Bool.false_and,Bool.true_or]
    rfl
  ·refine sq (x:= .bool b74) (some 78) (.move (.tmp 77)) 4 ho (by kernel_rfl) rfl ?_
   intro ps af
   have e77:T.getD 77 undef = .bool b74:=hK.at 74 (by decide) (by kernel_rfl) rfl
   exact j_mv e77 ⟨rfl,hW⟩
  ·have hT:T.getD 78 undef=gv true (.bool b74):=hK.at 75 (by decide) (by kernel_rfl) rfl
   refine sg (x:= .pointer (some ⟨g,12,none⟩)) 75 78 true (some 79) (.fieldAddr 31 (.tmp 1) 12) 0 ho (by kernel_rfl) (by kernel_rfl) hT rfl hW ?_
   intro hg he ps af
   subst he
   have e1:T.getD 1 undef = .pointer (some ⟨g,0,none⟩):=hK.old (by kernel_rfl) g1
   exact j_fa31_12 e1 ⟨rfl,hW⟩
  ·have hT:T.getD 78 undef=gv true (.bool b74):=hK.at 75 (by decide) (by kernel_rfl) rfl
   refine sg (x:= .int .i64 n.level) 75 78 true (some 80) (.load 3 (.tmp 79)) 3 ho (by kernel_rfl) (by kernel_rfl) hT rfl hW ?_
   intro hg he ps af
   subst he
   have e79:T.getD 79 undef = .pointer (some ⟨g,12,none⟩):=hK.at 76 (by decide) (by kernel_rfl) rfl
   exact j_ld3 (k12 _ hW) e79 ⟨rfl,hW⟩
  ·have hT:T.getD 78 undef=gv true (.bool b74):=hK.at 75 (by decide) (by kernel_rfl) rfl
   refine sg (x:= .bool b78) 75 78 true (some 81) (.binOp BinOp.geq 3 (.tmp 80) (.const (Value.int IntKind.i64 0)) 3) 4 ho (by kernel_rfl) (by kernel_rfl) hT rfl hW ?_
   intro hg he ps af
   subst he
   have e80:T.getD 80 undef = .int .i64 n.level:=hK.at 77 (by decide) (by kernel_rfl) rfl
   exact j_geq e80 hb78 ⟨rfl,hW⟩
  ·refine sq (x:= .bool b79) (some 82) (.pick (.tmp 78) (.tmp 81) (.const (Value.bool false))) 4 ho (by kernel_rfl) rfl ?_
   intro ps af
   have e78:T.getD 78 undef = .bool b74:=hK.at 75 (by decide) (by kernel_rfl) rfl
   refine j_pick e78 ?_ ⟨rfl,hW⟩
   rcases Bool.eq_false_or_eq_true b74 with hx | hx
   ·have es:T.getD 81 undef=gv (true&&(b74 == true)) (.bool b78):=hK.at 78 (by decide) (by kernel_rfl) rfl
    rw [hx,if_pos rfl]
    refine es.trans ?_
    simp only [hb79,hx,gv,Bool.true_and,Bool.and_true,Bool.false_or,beq_self_eq_true,Bool.true_or,if_true]
   ·rw [hx,if_neg (by decide)]
    simp only [hb79,hx,Bool.false_and,Bool.true_or]
    rfl
  ·refine sq (x:= .bool b79) (some 83) (.move (.tmp 82)) 4 ho (by kernel_rfl) rfl ?_
   intro ps af
   have e82:T.getD 82 undef = .bool b79:=hK.at 79 (by decide) (by kernel_rfl) rfl
   exact j_mv e82 ⟨rfl,hW⟩
  ·have hT:T.getD 83 undef=gv true (.bool b79):=hK.at 80 (by decide) (by kernel_rfl) rfl
   refine sg (x:= .pointer (some ⟨g,12,none⟩)) 80 83 true (some 84) (.fieldAddr 31 (.tmp 1) 12) 0 ho (by kernel_rfl) (by kernel_rfl) hT rfl hW ?_
   intro hg he ps af
   subst he
   have e1:T.getD 1 undef = .pointer (some ⟨g,0,none⟩):=hK.old (by kernel_rfl) g1
   exact j_fa31_12 e1 ⟨rfl,hW⟩
  ·have hT:T.getD 83 undef=gv true (.bool b79):=hK.at 80 (by decide) (by kernel_rfl) rfl
   refine sg (x:= .int .i64 n.level) 80 83 true (some 85) (.load 3 (.tmp 84)) 3 ho (by kernel_rfl) (by kernel_rfl) hT rfl hW ?_
   intro hg he ps af
   subst he
   have e84:T.getD 84 undef = .pointer (some ⟨g,12,none⟩):=hK.at 81 (by decide) (by kernel_rfl) rfl
   exact j_ld3 (k12 _ hW) e84 ⟨rfl,hW⟩
  ·have hT:T.getD 83 undef=gv true (.bool b79):=hK.at 80 (by decide) (by kernel_rfl) rfl
   refine sg (x:= .bool b83) 80 83 true (some 86) (.binOp BinOp.leq 3 (.tmp 85) (.const (Value.int IntKind.i64 3)) 3) 4 ho (by kernel_rfl) (by kernel_rfl) hT rfl hW ?_
   intro hg he ps af
   subst he
   have e85:T.getD 85 undef = .int .i64 n.level:=hK.at 82 (by decide) (by kernel_rfl) rfl
   exact j_leq e85 hb83 ⟨rfl,hW⟩
  ·refine sq (x:= .bool b84) (some 87) (.pick (.tmp 83) (.tmp 86) (.const (Value.bool false))) 4 ho (by kernel_rfl) rfl ?_
   intro ps af
   have e83:T.getD 83 undef = .bool b79:=hK.at 80 (by decide) (by kernel_rfl) rfl
   refine j_pick e83 ?_ ⟨rfl,hW⟩
   rcases Bool.eq_false_or_eq_true b79 with hx | hx
   ·have es:T.getD 86 undef=gv (true&&(b79 == true)) (.bool b83):=hK.at 83 (by decide) (by kernel_rfl) rfl
    rw [hx,if_pos rfl]
    refine es.trans ?_
    simp only [hb84,hx,gv,Bool.true_and,Bool.and_true,Bool.false_or,beq_self_eq_true,Bool.true_or,if_true]
   ·rw [hx,if_neg (by decide)]
    simp only [hb84,hx,Bool.false_and,Bool.true_or]
    rfl
  ·refine sq (x:= .bool b84) (some 88) (.move (.tmp 87)) 4 ho (by kernel_rfl) rfl ?_
   intro ps af
   have e87:T.getD 87 undef = .bool b84:=hK.at 84 (by decide) (by kernel_rfl) rfl
   exact j_mv e87 ⟨rfl,hW⟩
  ·have hT:T.getD 88 undef=gv true (.bool b84):=hK.at 85 (by decide) (by kernel_rfl) rfl
   refine sg (x:= .pointer (some ⟨g,13,none⟩)) 85 88 true (some 89) (.fieldAddr 31 (.tmp 1) 13) 0 ho (by kernel_rfl) (by kernel_rfl) hT rfl hW ?_
   intro hg he ps af
   subst he
   have e1:T.getD 1 undef = .pointer (some ⟨g,0,none⟩):=hK.old (by kernel_rfl) g1
   exact j_fa31_13 e1 ⟨rfl,hW⟩
  ·have hT:T.getD 88 undef=gv true (.bool b84):=hK.at 85 (by decide) (by kernel_rfl) rfl
   refine sg (x:= .string ⟨n.secret.toArray⟩) 85 88 true (some 90) (.load 9 (.tmp 89)) 9 ho (by kernel_rfl) (by kernel_rfl) hT rfl hW ?_
   intro hg he ps af
   subst he
   have e89:T.getD 89 undef = .pointer (some ⟨g,13,none⟩):=hK.at 86 (by decide) (by kernel_rfl) rfl
   exact j_ld9 (k13 _ hW) e89 ⟨rfl,hW⟩
  ·have hT:T.getD 88 undef=gv true (.bool b84):=hK.at 85 (by decide) (by kernel_rfl) rfl
   refine sg (x:= .bool b88) 85 88 true (some 91) (.binOp BinOp.neq 9 (.tmp 90) (.const (Value.string {data:=#[]})) 9) 4 ho (by kernel_rfl) (by kernel_rfl) hT rfl hW ?_
   intro hg he ps af
   subst he
   have e90:T.getD 90 undef = .string ⟨n.secret.toArray⟩:=hK.at 87 (by decide) (by kernel_rfl) rfl
   exact j_neqe e90 hb88 ⟨rfl,hW⟩
  ·refine sq (x:= .bool b89) (some 92) (.pick (.tmp 88) (.tmp 91) (.const (Value.bool false))) 4 ho (by kernel_rfl) rfl ?_
   intro ps af
   have e88:T.getD 88 undef = .bool b84:=hK.at 85 (by decide) (by kernel_rfl) rfl
   refine j_pick e88 ?_ ⟨rfl,hW⟩
   rcases Bool.eq_false_or_eq_true b84 with hx | hx
   ·have es:T.getD 91 undef=gv (true&&(b84 == true)) (.bool b88):=hK.at 88 (by decide) (by kernel_rfl) rfl
    rw [hx,if_pos rfl]
    refine es.trans ?_
    simp only [hb89,hx,gv,Bool.true_and,Bool.and_true,Bool.false_or,beq_self_eq_true,Bool.true_or,if_true]
   ·rw [hx,if_neg (by decide)]
    simp only [hb89,hx,Bool.false_and,Bool.true_or]
    rfl
  ·refine sq (x:= .bool b89) (some 93) (.move (.tmp 92)) 4 ho (by kernel_rfl) rfl ?_
   intro ps af
   have e92:T.getD 92 undef = .bool b89:=hK.at 89 (by decide) (by kernel_rfl) rfl
   exact j_mv e92 ⟨rfl,hW⟩
  ·have hT:T.getD 93 undef=gv true (.bool b89):=hK.at 90 (by decide) (by kernel_rfl) rfl
   refine sg (x:= .pointer (some ⟨g,13,none⟩)) 90 93 true (some 94) (.fieldAddr 31 (.tmp 1) 13) 0 ho (by kernel_rfl) (by kernel_rfl) hT rfl hW ?_
   intro hg he ps af
   subst he
   have e1:T.getD 1 undef = .pointer (some ⟨g,0,none⟩):=hK.old (by kernel_rfl) g1
   exact j_fa31_13 e1 ⟨rfl,hW⟩
  ·have hT:T.getD 93 undef=gv true (.bool b89):=hK.at 90 (by decide) (by kernel_rfl) rfl
   refine sg (x:= .string ⟨n.secret.toArray⟩) 90 93 true (some 95) (.load 9 (.tmp 94)) 9 ho (by kernel_rfl) (by kernel_rfl) hT rfl hW ?_
   intro hg he ps af
   subst he
   have e94:T.getD 94 undef = .pointer (some ⟨g,13,none⟩):=hK.at 91 (by decide) (by kernel_rfl) rfl
   exact j_ld9 (k13 _ hW) e94 ⟨rfl,hW⟩
  ·have hT:T.getD 93 undef=gv true (.bool b89):=hK.at 90 (by decide) (by kernel_rfl) rfl
   refine sg (x:= .int .i64 (n.secret.length:Int)) 90 93 true (some 96) (.call {callee:= .builtin Builtin.len,args:=#[.tmp 95],argTypes:=#[9]}) 3 ho (by kernel_rfl) (by kernel_rfl) hT rfl hW ?_
   intro hg he ps af
   subst he
   have e95:T.getD 95 undef = .string ⟨n.secret.toArray⟩:=hK.at 92 (by decide) (by kernel_rfl) rfl
   exact j_lent e95 ⟨rfl,hW⟩
  ·have hT:T.getD 93 undef=gv true (.bool b89):=hK.at 90 (by decide) (by kernel_rfl) rfl
   refine sg (x:= .bool b94) 90 93 true (some 97) (.binOp BinOp.leq 3 (.tmp 96) (.const (Value.int IntKind.i64 64)) 3) 4 ho (by kernel_rfl) (by kernel_rfl) hT rfl hW ?_
   intro hg he ps af
   subst he
   have e96:T.getD 96 undef = .int .i64 (n.secret.length:Int):=hK.at 93 (by decide) (by kernel_rfl) rfl
   exact j_leq e96 hb94 ⟨rfl,hW⟩
  ·refine sq (x:= .bool b95) (some 98) (.pick (.tmp 93) (.tmp 97) (.const (Value.bool false))) 4 ho (by kernel_rfl) rfl ?_
   intro ps af
   have e93:T.getD 93 undef = .bool b89:=hK.at 90 (by decide) (by kernel_rfl) rfl
   refine j_pick e93 ?_ ⟨rfl,hW⟩
   rcases Bool.eq_false_or_eq_true b89 with hx | hx
   ·have es:T.getD 97 undef=gv (true&&(b89 == true)) (.bool b94):=hK.at 94 (by decide) (by kernel_rfl) rfl
    rw [hx,if_pos rfl]
    refine es.trans ?_
    simp only [hb95,hx,gv,Bool.true_and,Bool.and_true,Bool.false_or,beq_self_eq_true,Bool.true_or,if_true]
   ·rw [hx,if_neg (by decide)]
    simp only [hb95,hx,Bool.false_and,Bool.true_or]
    rfl
  ·refine sq (x:= .bool b95) (some 99) (.move (.tmp 98)) 4 ho (by kernel_rfl) rfl ?_
   intro ps af
   have e98:T.getD 98 undef = .bool b95:=hK.at 95 (by decide) (by kernel_rfl) rfl
   exact j_mv e98 ⟨rfl,hW⟩
  ·have hT:T.getD 99 undef=gv true (.bool b95):=hK.at 96 (by decide) (by kernel_rfl) rfl
   refine sg (x:= .pointer (some ⟨g,14,none⟩)) 96 99 true (some 100) (.fieldAddr 31 (.tmp 1) 14) 0 ho (by kernel_rfl) (by kernel_rfl) hT rfl hW ?_
   intro hg he ps af
   subst he
   have e1:T.getD 1 undef = .pointer (some ⟨g,0,none⟩):=hK.old (by kernel_rfl) g1
   exact j_fa31_14 e1 ⟨rfl,hW⟩
  ·have hT:T.getD 99 undef=gv true (.bool b95):=hK.at 96 (by decide) (by kernel_rfl) rfl
   refine sg (x:= .string ⟨n.data.toArray⟩) 96 99 true (some 101) (.load 9 (.tmp 100)) 9 ho (by kernel_rfl) (by kernel_rfl) hT rfl hW ?_
   intro hg he ps af
   subst he
   have e100:T.getD 100 undef = .pointer (some ⟨g,14,none⟩):=hK.at 97 (by decide) (by kernel_rfl) rfl
   exact j_ld9 (k14 _ hW) e100 ⟨rfl,hW⟩
  ·have hT:T.getD 99 undef=gv true (.bool b95):=hK.at 96 (by decide) (by kernel_rfl) rfl
   refine sg (x:= .int .i64 (n.data.length:Int)) 96 99 true (some 102) (.call {callee:= .builtin Builtin.len,args:=#[.tmp 101],argTypes:=#[9]}) 3 ho (by kernel_rfl) (by kernel_rfl) hT rfl hW ?_
   intro hg he ps af
   subst he
   have e101:T.getD 101 undef = .string ⟨n.data.toArray⟩:=hK.at 98 (by decide) (by kernel_rfl) rfl
   exact j_lent e101 ⟨rfl,hW⟩
  ·have hT:T.getD 99 undef=gv true (.bool b95):=hK.at 96 (by decide) (by kernel_rfl) rfl
   refine sg (x:= .bool b100) 96 99 true (some 103) (.binOp BinOp.leq 3 (.tmp 102) (.const (Value.int IntKind.i64 256)) 3) 4 ho (by kernel_rfl) (by kernel_rfl) hT rfl hW ?_
   intro hg he ps af
   subst he
   have e102:T.getD 102 undef = .int .i64 (n.data.length:Int):=hK.at 99 (by decide) (by kernel_rfl) rfl
   exact j_leq e102 hb100 ⟨rfl,hW⟩
  ·refine sq (x:= .bool b101) (some 104) (.pick (.tmp 99) (.tmp 103) (.const (Value.bool false))) 4 ho (by kernel_rfl) rfl ?_
   intro ps af
   have e99:T.getD 99 undef = .bool b95:=hK.at 96 (by decide) (by kernel_rfl) rfl
   refine j_pick e99 ?_ ⟨rfl,hW⟩
   rcases Bool.eq_false_or_eq_true b95 with hx | hx
   ·have es:T.getD 103 undef=gv (true&&(b95 == true)) (.bool b100):=hK.at 100 (by decide) (by kernel_rfl) rfl
    rw [hx,if_pos rfl]
    refine es.trans ?_
    simp only [hb101,hx,gv,Bool.true_and,Bool.and_true,Bool.false_or,beq_self_eq_true,Bool.true_or,if_true]
   ·rw [hx,if_neg (by decide)]
    simp only [hb101,hx,Bool.false_and,Bool.true_or]
    rfl
  ·refine sq (x:= .bool b101) (some 2) (.assign (.tmp 104)) 4 ho (by kernel_rfl) rfl ?_
   intro ps af
   have e104:T.getD 104 undef = .bool b101:=hK.at 101 (by decide) (by kernel_rfl) rfl
   exact j_as e104 ⟨rfl,hW⟩
 ·intro w1 hW
  have hQ:=h w1 hW
  rw [hsz]
  subst hT0
  refine cast (congrArg (fun Tx=>Q .normal ⟨Tx,ds⟩ w1) ?_) hQ
  kernel_rfl
end Go.Proofs.YthogppennalobaaGreatDoor
