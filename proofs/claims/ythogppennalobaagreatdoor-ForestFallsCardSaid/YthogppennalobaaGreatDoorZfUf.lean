/- PROVED HERE: whoever is killed takes all along that hangs on it, and no other one (ForestFalls, the first form: within the form's reach), tied to the program's text. -/
import Derived.Deep.MidRow
import Derived.Test.YthogppennalobaaGreatDoorZf02
import Derived.Test.YthogppennalobaaGreatDoorZf08
import Derived.Test.YthogppennalobaaGreatDoorZf11
import Derived.Test.YthogppennalobaaGreatDoorZf20
import Derived.Test.YthogppennalobaaGreatDoorZf35
set_option linter.unusedVariables false
set_option linter.unusedSimpArgs false
set_option maxRecDepth 100000
namespace Go.Proofs.YthogppennalobaaGreatDoor.Pl
open Go.RowKit Go.Sort
noncomputable def flTO:Array Oper:=(Tryz.f6.body.bind fun c=>findR c 24).getD #[]
def flT_m:List (List Nat):=[[],[],[],[],[],[],[],[],[],[],[],[],[7],[7],[7],[7],[7]]
set_option maxHeartbeats 16000000 in
theorem flT (PW:Bool→World→Prop)(f q o N c z p cz i:Nat)(A B:Int)(hb:Bool)(w:World)  (hc:∀(b7:Bool) (w:World),PW b7  w→w.cell? ⟨q,o+i*15,none⟩=some (.int .i64 A))(hz:∀(b7:Bool) (w:World),PW b7  w→w.cell? ⟨z,p+i,none⟩=some (.bool true))(cl7:∀(w:World),PW false w→Calls Tryz.prog 27 #[.pointer (some ⟨f,0,none⟩),.int .i64 A,.int .i64 B] w fun e w1=>e = .returned (.bool (!hb))∧PW true  w1)(hiN:i<N)(hiI:(i:Int)<(N:Int)){t0 t1 t3 t4 t5 t6 t9 t11 t13 t15 t16 t17 t18 t19 t20 t21 t22 t23 t24 t25 t26 t27 t28 t29 t30 t31 t32 t33 t34 t35 t36 t37 t38 t39 t40 t41 t42 t43 t44 t45 t46 t47 t48 t49 t50 t51 t52 t53 t54 t55 t56 t57 t58 t59 t60 t61 t62 t63 t64 t65 t66 t67 t68 t69 t70 t71 t72 t73 t74 t75 t76 t77 t78 t79 t80 t81 t82 t83 t84 t85 t86 t87 t88 t89 t90 t91 t92 t93 t94 t95 t96 t97 t98 t99 t100 t101:Value}(w0:PW false  w.drew){ds:List Deferred}{Q:Exit→Act→World→Prop}
  (h:∀(w1:World),PW true  w1→Q .normal {tmps:=#[t0,t1,.int .i64 B,t3,t4,t5,t6,.pointer (some ⟨f,0,none⟩),.slice (some ⟨q,o,none⟩) N c,t9,.slice (some ⟨z,p,none⟩) N cz,t11,.int .i64 (i:Int),t13,.bool hb,t15,t16,t17,t18,t19,t20,t21,t22,t23,t24,t25,t26,t27,t28,t29,t30,t31,t32,t33,t34,t35,t36,t37,t38,t39,t40,t41,t42,t43,t44,t45,t46,t47,t48,t49,t50,t51,t52,t53,t54,t55,t56,t57,t58,t59,t60,t61,t62,t63,t64,t65,t66,t67,t68,t69,t70,t71,t72,t73,t74,t75,t76,t77,t78,t79,t80,t81,t82,t83,.pointer (some ⟨f,0,none⟩),.slice (some ⟨q,o,none⟩) N c,.int .i64 (i:Int),.pointer (some ⟨q,o+i*15,none⟩),.pointer (some ⟨q,o+i*15,none⟩),.int .i64 A,.int .i64 B,.bool (!hb),.slice (some ⟨z,p,none⟩) N cz,.int .i64 (i:Int),.pointer (some ⟨z,p+i,none⟩),.bool true,.bool true,.bool hb,.bool (!hb),.bool (!hb),.bool false,t101],defers:=ds} w1) :
  (Code.region 24 flTO true).wp Tryz.prog Q {tmps:=#[t0,t1,.int .i64 B,t3,t4,t5,t6,.pointer (some ⟨f,0,none⟩),.slice (some ⟨q,o,none⟩) N c,t9,.slice (some ⟨z,p,none⟩) N cz,t11,.int .i64 (i:Int),t13,.bool hb,t15,t16,t17,t18,t19,t20,t21,t22,t23,t24,t25,t26,t27,t28,t29,t30,t31,t32,t33,t34,t35,t36,t37,t38,t39,t40,t41,t42,t43,t44,t45,t46,t47,t48,t49,t50,t51,t52,t53,t54,t55,t56,t57,t58,t59,t60,t61,t62,t63,t64,t65,t66,t67,t68,t69,t70,t71,t72,t73,t74,t75,t76,t77,t78,t79,t80,t81,t82,t83,t84,t85,t86,t87,t88,t89,t90,t91,t92,t93,t94,t95,t96,t97,t98,t99,t100,t101],defers:=ds} w:=by
 have hsz:flTO.size=17:=by kernel_rfl
 generalize hT:List.toArray _=T0
 have hs:T0.size=102:=by subst hT;rfl
 have g2:T0.getD 2 undef = .int .i64 B:=by subst hT;rfl
 have g7:T0.getD 7 undef = .pointer (some ⟨f,0,none⟩):=by subst hT;rfl
 have g8:T0.getD 8 undef = .slice (some ⟨q,o,none⟩) N c:=by subst hT;rfl
 have g10:T0.getD 10 undef = .slice (some ⟨z,p,none⟩) N cz:=by subst hT;rfl
 have g12:T0.getD 12 undef = .int .i64 (i:Int):=by subst hT;rfl
 have g14:T0.getD 14 undef = .bool hb:=by subst hT;rfl
 obtain⟨W,hV⟩:∃W:List ((Nat×(Value→Value)) ⊕ Value),W=[.inr (.pointer (some ⟨f,0,none⟩)),.inr (.slice (some ⟨q,o,none⟩) N c),.inr (.int .i64 (i:Int)),.inr (.pointer (some ⟨q,o+i*15,none⟩)),.inr (.pointer (some ⟨q,o+i*15,none⟩)),.inr (.int .i64 A),.inr (.int .i64 B),.inr (.bool (!hb)),.inr (.slice (some ⟨z,p,none⟩) N cz),.inr (.int .i64 (i:Int)),.inr (.pointer (some ⟨z,p+i,none⟩)),.inr (.bool true),.inr (.bool true),.inr (.bool hb),.inr (.bool (!hb)),.inr (.bool (!hb)),.inr (.bool false)]:=⟨_,rfl⟩
 refine wp_plan (by kernel_rfl) T0 ds [7] flT_m (mkV W) (fun dx yx wx=>PW (dx 7)  wx) w (by rw [hs];kernel_rfl) (by kernel_rfl) (by kernel_rfl) (by rw [hsz];decide) (fun cx hc ix hne ha yx vx=>mkV_fix (by rw [hV];kernel_rfl) hne ha yx vx) (?key) (fun cx hc ox ho dx yx Tx wx hd hdb hda hK hW=>?_) ⟨fun k=>undef,w0⟩ (fun dx yx wx hd hW=>?_)
 case key=>
  rw [hsz]
  refine all_step (all_step (all_step (all_step (all_step (all_step (all_step (all_step (all_step (all_step (all_step (all_step (all_step (all_step (all_step (all_step (all_step all_zero ?_) ?_) ?_) ?_) ?_) ?_) ?_) ?_) ?_) ?_) ?_) ?_) ?_) ?_) ?_) ?_) ?_
  all_goals
   intro ox ho hic dx yx Tx wx hdb hK hW
   replace hdb:=Lib.hid hdb
  ·exact pl0 84 7 23 ho hK (by kernel_rfl) (by kernel_rfl) g7 (by subst hV;rfl) fun ps af e=>k_mv e
  ·exact pl0 85 8 37 ho hK (by kernel_rfl) (by kernel_rfl) g8 (by subst hV;rfl) fun ps af e=>k_mv e
  ·exact pl0 86 12 3 ho hK (by kernel_rfl) (by kernel_rfl) g12 (by subst hV;rfl) fun ps af e=>k_mv e
  ·obtain⟨ps,af,rfl⟩:=core (some 87) (.indexAddr 37 (.tmp 85) (.tmp 86)) 0 none ho (by kernel_rfl)
   have e85:Tx.getD 85 undef = .slice (some ⟨q,o,none⟩) N c:=hK.is 1 ho (by kernel_rfl) (by subst hV;rfl)
   have e86:Tx.getD 86 undef = .int .i64 (i:Int):=hK.is 2 ho (by kernel_rfl) (by subst hV;rfl)
   exact wpOp_plain ho rfl (by subst hV;go_simp;try rfl)
  ·obtain⟨ps,af,rfl⟩:=core (some 88) (.fieldAddr 31 (.tmp 87) 0) 0 none ho (by kernel_rfl)
   have e87:Tx.getD 87 undef = .pointer (some ⟨q,o+i*15,none⟩):=hK.is 3 ho (by kernel_rfl) (by subst hV;rfl)
   exact wpOp_plain ho rfl (by subst hV;go_simp;try rfl)
  ·obtain⟨ps,af,rfl⟩:=core (some 89) (.load 3 (.tmp 88)) 3 none ho (by kernel_rfl)
   have e88:Tx.getD 88 undef = .pointer (some ⟨q,o+i*15,none⟩):=hK.is 4 ho (by kernel_rfl) (by subst hV;rfl)
   have hl:=hc _ _ hW
   exact wpOp_plain ho rfl (by subst hV;go_simp;try rfl)
  ·exact pl0 90 2 3 ho hK (by kernel_rfl) (by kernel_rfl) g2 (by subst hV;rfl) fun ps af e=>k_mv e
  ·exact absurd (by decide) hic
  ·exact pl0 92 10 61 ho hK (by kernel_rfl) (by kernel_rfl) g10 (by subst hV;rfl) fun ps af e=>k_mv e
  ·exact pl0 93 12 3 ho hK (by kernel_rfl) (by kernel_rfl) g12 (by subst hV;rfl) fun ps af e=>k_mv e
  ·obtain⟨ps,af,rfl⟩:=core (some 94) (.indexAddr 61 (.tmp 92) (.tmp 93)) 0 none ho (by kernel_rfl)
   have e92:Tx.getD 92 undef = .slice (some ⟨z,p,none⟩) N cz:=hK.is 8 ho (by kernel_rfl) (by subst hV;rfl)
   have e93:Tx.getD 93 undef = .int .i64 (i:Int):=hK.is 9 ho (by kernel_rfl) (by subst hV;rfl)
   exact wpOp_plain ho rfl (by subst hV;go_simp;try rfl)
  ·obtain⟨ps,af,rfl⟩:=core (some 95) (.load 4 (.tmp 94)) 4 none ho (by kernel_rfl)
   have e94:Tx.getD 94 undef = .pointer (some ⟨z,p+i,none⟩):=hK.is 10 ho (by kernel_rfl) (by subst hV;rfl)
   have hl:=hz _ _ hW
   exact wpOp_plain ho rfl (by subst hV;go_simp;try rfl)
  ·exact pl1 96 95 11 4 ho hK (by kernel_rfl) (by kernel_rfl) (by subst hV;rfl) (by subst hV;rfl) fun ps af e=>k_mv e
  ·exact pg0 12 96 true 97 14 4 ho hK (by kernel_rfl) (by kernel_rfl) (by kernel_rfl) (by subst hV;rfl) (by kernel_rfl) g14 (by subst hV;rfl) fun ps af e=>k_mv e
  ·obtain⟨ps,af,rfl⟩:=core (some 98) (.unOp UnOp.not 4 (.tmp 97)) 4 (some (12,true)) ho (by kernel_rfl)
   have e97:Tx.getD 97 undef = .bool hb:=hK.is 13 ho (by kernel_rfl) (by subst hV;rfl)
   exact wpOp_want ho ((wanted_of (d:=96) (b:=true) rfl (by kernel_rfl) (hK.is 12 ho (by kernel_rfl) (by subst hV;rfl))).trans rfl) (by subst hV;go_simp;try rfl)
  ·obtain⟨ps,af,rfl⟩:=core (some 99) (.pick (.tmp 96) (.tmp 98) (.const (Value.bool false))) 4 none ho (by kernel_rfl)
   have e96:Tx.getD 96 undef = .bool true:=hK.is 12 ho (by kernel_rfl) (by subst hV;rfl)
   have e98:Tx.getD 98 undef = .bool (!hb):=hK.is 14 ho (by kernel_rfl) (by subst hV;rfl)
   exact wpOp_plain ho rfl (by subst hV;go_simp;try rfl)
  ·obtain⟨ps,af,rfl⟩:=core (some 100) (.binOp BinOp.neq 4 (.tmp 91) (.tmp 99) 4) 4 none ho (by kernel_rfl)
   have e91:Tx.getD 91 undef = .bool (!hb):=hK.is 7 ho (by kernel_rfl) (by subst hV;rfl)
   have e99:Tx.getD 99 undef = .bool (!hb):=hK.is 15 ho (by kernel_rfl) (by subst hV;rfl)
   exact wpOp_plain ho rfl (by subst hV;go_simp;try rfl)
 ·obtain rfl:cx=7:=by simpa using hc
  ·obtain⟨ps,af,rfl⟩:=core (some 91) (.call {callee:= .value (.func 27),args:=#[.tmp 84,.tmp 89,.tmp 90],argTypes:=#[23,3,3]}) 4 none ho (by kernel_rfl)
   have e84:Tx.getD 84 undef = .pointer (some ⟨f,0,none⟩):=hK.is 0 ho (by kernel_rfl) (by subst hV;rfl)
   have e89:Tx.getD 89 undef = .int .i64 A:=hK.is 5 ho (by kernel_rfl) (by subst hV;rfl)
   have e90:Tx.getD 90 undef = .int .i64 B:=hK.is 6 ho (by kernel_rfl) (by subst hV;rfl)
   have hW1:PW (dx 7)  wx:=hW
   clear hdb hda
   rw [hd] at hW1
   clear hd hW hc
   refine wpOp_plain ho rfl ?_
   go_simp
   go_at_call 27
   refine(cl7 _ hW1).mono ?_
   rintro ex w2 ⟨rfl,hW2⟩
   subst hV
   first | refine⟨undef,rfl,?_⟩ | refine⟨⟨undef,rfl⟩,?_⟩
   simpa [updB,upd] using hW2
 ·have hW1:PW (dx 7)  wx:=hW
  rw [hd 7 (by decide)] at hW1
  have hQ:=h _ hW1
  rw [hsz]
  subst hV hT
  refine cast (congrArg (fun Tx=>Q .normal ⟨Tx,ds⟩ wx) ?_) hQ
  kernel_rfl
noncomputable def flFO:Array Oper:=(Tryz.f6.body.bind fun c=>findR c 24).getD #[]
def flF_m:List (List Nat):=[[],[],[],[],[],[],[],[],[],[],[],[],[7],[7],[7],[7],[7]]
set_option maxHeartbeats 16000000 in
theorem flF (PW:Bool→World→Prop)(f q o N c z p cz i:Nat)(A B:Int)(hb:Bool)(w:World)  (hc:∀(b7:Bool) (w:World),PW b7  w→w.cell? ⟨q,o+i*15,none⟩=some (.int .i64 A))(hz:∀(b7:Bool) (w:World),PW b7  w→w.cell? ⟨z,p+i,none⟩=some (.bool false))(cl7:∀(w:World),PW false w→Calls Tryz.prog 27 #[.pointer (some ⟨f,0,none⟩),.int .i64 A,.int .i64 B] w fun e w1=>e = .returned (.bool false)∧PW true  w1)(hiN:i<N)(hiI:(i:Int)<(N:Int)){t0 t1 t3 t4 t5 t6 t9 t11 t13 t15 t16 t17 t18 t19 t20 t21 t22 t23 t24 t25 t26 t27 t28 t29 t30 t31 t32 t33 t34 t35 t36 t37 t38 t39 t40 t41 t42 t43 t44 t45 t46 t47 t48 t49 t50 t51 t52 t53 t54 t55 t56 t57 t58 t59 t60 t61 t62 t63 t64 t65 t66 t67 t68 t69 t70 t71 t72 t73 t74 t75 t76 t77 t78 t79 t80 t81 t82 t83 t84 t85 t86 t87 t88 t89 t90 t91 t92 t93 t94 t95 t96 t97 t98 t99 t100 t101:Value}(w0:PW false  w.drew){ds:List Deferred}{Q:Exit→Act→World→Prop}
  (h:∀(w1:World),PW true  w1→Q .normal {tmps:=#[t0,t1,.int .i64 B,t3,t4,t5,t6,.pointer (some ⟨f,0,none⟩),.slice (some ⟨q,o,none⟩) N c,t9,.slice (some ⟨z,p,none⟩) N cz,t11,.int .i64 (i:Int),t13,.bool hb,t15,t16,t17,t18,t19,t20,t21,t22,t23,t24,t25,t26,t27,t28,t29,t30,t31,t32,t33,t34,t35,t36,t37,t38,t39,t40,t41,t42,t43,t44,t45,t46,t47,t48,t49,t50,t51,t52,t53,t54,t55,t56,t57,t58,t59,t60,t61,t62,t63,t64,t65,t66,t67,t68,t69,t70,t71,t72,t73,t74,t75,t76,t77,t78,t79,t80,t81,t82,t83,.pointer (some ⟨f,0,none⟩),.slice (some ⟨q,o,none⟩) N c,.int .i64 (i:Int),.pointer (some ⟨q,o+i*15,none⟩),.pointer (some ⟨q,o+i*15,none⟩),.int .i64 A,.int .i64 B,.bool false,.slice (some ⟨z,p,none⟩) N cz,.int .i64 (i:Int),.pointer (some ⟨z,p+i,none⟩),.bool false,.bool false,undef,undef,.bool false,.bool false,t101],defers:=ds} w1) :
  (Code.region 24 flFO true).wp Tryz.prog Q {tmps:=#[t0,t1,.int .i64 B,t3,t4,t5,t6,.pointer (some ⟨f,0,none⟩),.slice (some ⟨q,o,none⟩) N c,t9,.slice (some ⟨z,p,none⟩) N cz,t11,.int .i64 (i:Int),t13,.bool hb,t15,t16,t17,t18,t19,t20,t21,t22,t23,t24,t25,t26,t27,t28,t29,t30,t31,t32,t33,t34,t35,t36,t37,t38,t39,t40,t41,t42,t43,t44,t45,t46,t47,t48,t49,t50,t51,t52,t53,t54,t55,t56,t57,t58,t59,t60,t61,t62,t63,t64,t65,t66,t67,t68,t69,t70,t71,t72,t73,t74,t75,t76,t77,t78,t79,t80,t81,t82,t83,t84,t85,t86,t87,t88,t89,t90,t91,t92,t93,t94,t95,t96,t97,t98,t99,t100,t101],defers:=ds} w:=by
 have hsz:flFO.size=17:=by kernel_rfl
 generalize hT:List.toArray _=T0
 have hs:T0.size=102:=by subst hT;rfl
 have g2:T0.getD 2 undef = .int .i64 B:=by subst hT;rfl
 have g7:T0.getD 7 undef = .pointer (some ⟨f,0,none⟩):=by subst hT;rfl
 have g8:T0.getD 8 undef = .slice (some ⟨q,o,none⟩) N c:=by subst hT;rfl
 have g10:T0.getD 10 undef = .slice (some ⟨z,p,none⟩) N cz:=by subst hT;rfl
 have g12:T0.getD 12 undef = .int .i64 (i:Int):=by subst hT;rfl
 have g14:T0.getD 14 undef = .bool hb:=by subst hT;rfl
 obtain⟨W,hV⟩:∃W:List ((Nat×(Value→Value)) ⊕ Value),W=[.inr (.pointer (some ⟨f,0,none⟩)),.inr (.slice (some ⟨q,o,none⟩) N c),.inr (.int .i64 (i:Int)),.inr (.pointer (some ⟨q,o+i*15,none⟩)),.inr (.pointer (some ⟨q,o+i*15,none⟩)),.inr (.int .i64 A),.inr (.int .i64 B),.inr (.bool false),.inr (.slice (some ⟨z,p,none⟩) N cz),.inr (.int .i64 (i:Int)),.inr (.pointer (some ⟨z,p+i,none⟩)),.inr (.bool false),.inr (.bool false),.inr undef,.inr undef,.inr (.bool false),.inr (.bool false)]:=⟨_,rfl⟩
 refine wp_plan (by kernel_rfl) T0 ds [7] flF_m (mkV W) (fun dx yx wx=>PW (dx 7)  wx) w (by rw [hs];kernel_rfl) (by kernel_rfl) (by kernel_rfl) (by rw [hsz];decide) (fun cx hc ix hne ha yx vx=>mkV_fix (by rw [hV];kernel_rfl) hne ha yx vx) (?key) (fun cx hc ox ho dx yx Tx wx hd hdb hda hK hW=>?_) ⟨fun k=>undef,w0⟩ (fun dx yx wx hd hW=>?_)
 case key=>
  rw [hsz]
  refine all_step (all_step (all_step (all_step (all_step (all_step (all_step (all_step (all_step (all_step (all_step (all_step (all_step (all_step (all_step (all_step (all_step all_zero ?_) ?_) ?_) ?_) ?_) ?_) ?_) ?_) ?_) ?_) ?_) ?_) ?_) ?_) ?_) ?_) ?_
  all_goals
   intro ox ho hic dx yx Tx wx hdb hK hW
   replace hdb:=Lib.hid hdb
  ·exact pl0 84 7 23 ho hK (by kernel_rfl) (by kernel_rfl) g7 (by subst hV;rfl) fun ps af e=>k_mv e
  ·exact pl0 85 8 37 ho hK (by kernel_rfl) (by kernel_rfl) g8 (by subst hV;rfl) fun ps af e=>k_mv e
  ·exact pl0 86 12 3 ho hK (by kernel_rfl) (by kernel_rfl) g12 (by subst hV;rfl) fun ps af e=>k_mv e
  ·obtain⟨ps,af,rfl⟩:=core (some 87) (.indexAddr 37 (.tmp 85) (.tmp 86)) 0 none ho (by kernel_rfl)
   have e85:Tx.getD 85 undef = .slice (some ⟨q,o,none⟩) N c:=hK.is 1 ho (by kernel_rfl) (by subst hV;rfl)
   have e86:Tx.getD 86 undef = .int .i64 (i:Int):=hK.is 2 ho (by kernel_rfl) (by subst hV;rfl)
   exact wpOp_plain ho rfl (by subst hV;go_simp;try rfl)
  ·obtain⟨ps,af,rfl⟩:=core (some 88) (.fieldAddr 31 (.tmp 87) 0) 0 none ho (by kernel_rfl)
   have e87:Tx.getD 87 undef = .pointer (some ⟨q,o+i*15,none⟩):=hK.is 3 ho (by kernel_rfl) (by subst hV;rfl)
   exact wpOp_plain ho rfl (by subst hV;go_simp;try rfl)
  ·obtain⟨ps,af,rfl⟩:=core (some 89) (.load 3 (.tmp 88)) 3 none ho (by kernel_rfl)
   have e88:Tx.getD 88 undef = .pointer (some ⟨q,o+i*15,none⟩):=hK.is 4 ho (by kernel_rfl) (by subst hV;rfl)
   have hl:=hc _ _ hW
   exact wpOp_plain ho rfl (by subst hV;go_simp;try rfl)
  ·exact pl0 90 2 3 ho hK (by kernel_rfl) (by kernel_rfl) g2 (by subst hV;rfl) fun ps af e=>k_mv e
  ·exact absurd (by decide) hic
  ·exact pl0 92 10 61 ho hK (by kernel_rfl) (by kernel_rfl) g10 (by subst hV;rfl) fun ps af e=>k_mv e
  ·exact pl0 93 12 3 ho hK (by kernel_rfl) (by kernel_rfl) g12 (by subst hV;rfl) fun ps af e=>k_mv e
  ·obtain⟨ps,af,rfl⟩:=core (some 94) (.indexAddr 61 (.tmp 92) (.tmp 93)) 0 none ho (by kernel_rfl)
   have e92:Tx.getD 92 undef = .slice (some ⟨z,p,none⟩) N cz:=hK.is 8 ho (by kernel_rfl) (by subst hV;rfl)
   have e93:Tx.getD 93 undef = .int .i64 (i:Int):=hK.is 9 ho (by kernel_rfl) (by subst hV;rfl)
   exact wpOp_plain ho rfl (by subst hV;go_simp;try rfl)
  ·obtain⟨ps,af,rfl⟩:=core (some 95) (.load 4 (.tmp 94)) 4 none ho (by kernel_rfl)
   have e94:Tx.getD 94 undef = .pointer (some ⟨z,p+i,none⟩):=hK.is 10 ho (by kernel_rfl) (by subst hV;rfl)
   have hl:=hz _ _ hW
   exact wpOp_plain ho rfl (by subst hV;go_simp;try rfl)
  ·exact pl1 96 95 11 4 ho hK (by kernel_rfl) (by kernel_rfl) (by subst hV;rfl) (by subst hV;rfl) fun ps af e=>k_mv e
  ·exact psk 12 96 false true ho hK (by kernel_rfl) (by kernel_rfl) (by kernel_rfl) (by subst hV;rfl) rfl (by subst hV;rfl)
  ·exact psk 12 96 false true ho hK (by kernel_rfl) (by kernel_rfl) (by kernel_rfl) (by subst hV;rfl) rfl (by subst hV;rfl)
  ·obtain⟨ps,af,rfl⟩:=core (some 99) (.pick (.tmp 96) (.tmp 98) (.const (Value.bool false))) 4 none ho (by kernel_rfl)
   have e96:Tx.getD 96 undef = .bool false:=hK.is 12 ho (by kernel_rfl) (by subst hV;rfl)
   have e98:Tx.getD 98 undef=undef:=hK.is 14 ho (by kernel_rfl) (by subst hV;rfl)
   exact wpOp_plain ho rfl (by subst hV;go_simp;try rfl)
  ·obtain⟨ps,af,rfl⟩:=core (some 100) (.binOp BinOp.neq 4 (.tmp 91) (.tmp 99) 4) 4 none ho (by kernel_rfl)
   have e91:Tx.getD 91 undef = .bool false:=hK.is 7 ho (by kernel_rfl) (by subst hV;rfl)
   have e99:Tx.getD 99 undef = .bool false:=hK.is 15 ho (by kernel_rfl) (by subst hV;rfl)
   exact wpOp_plain ho rfl (by subst hV;go_simp;try rfl)
 ·obtain rfl:cx=7:=by simpa using hc
  ·obtain⟨ps,af,rfl⟩:=core (some 91) (.call {callee:= .value (.func 27),args:=#[.tmp 84,.tmp 89,.tmp 90],argTypes:=#[23,3,3]}) 4 none ho (by kernel_rfl)
   have e84:Tx.getD 84 undef = .pointer (some ⟨f,0,none⟩):=hK.is 0 ho (by kernel_rfl) (by subst hV;rfl)
   have e89:Tx.getD 89 undef = .int .i64 A:=hK.is 5 ho (by kernel_rfl) (by subst hV;rfl)
   have e90:Tx.getD 90 undef = .int .i64 B:=hK.is 6 ho (by kernel_rfl) (by subst hV;rfl)
   have hW1:PW (dx 7)  wx:=hW
   clear hdb hda
   rw [hd] at hW1
   clear hd hW hc
   refine wpOp_plain ho rfl ?_
   go_simp
   go_at_call 27
   refine(cl7 _ hW1).mono ?_
   rintro ex w2 ⟨rfl,hW2⟩
   subst hV
   first | refine⟨undef,rfl,?_⟩ | refine⟨⟨undef,rfl⟩,?_⟩
   simpa [updB,upd] using hW2
 ·have hW1:PW (dx 7)  wx:=hW
  rw [hd 7 (by decide)] at hW1
  have hQ:=h _ hW1
  rw [hsz]
  subst hV hT
  refine cast (congrArg (fun Tx=>Q .normal ⟨Tx,ds⟩ wx) ?_) hQ
  kernel_rfl
end Go.Proofs.YthogppennalobaaGreatDoor.Pl
namespace Go.Proofs.YthogppennalobaaGreatDoor
open Go.RowKit Go.Sort Forest OwnR TxO Pl
set_option maxHeartbeats 16000000 in
theorem falls_walk {w:World}{vs:Value}{ds:List (OpD×Value×Value)}(hs:Sc w w vs ds)(which now:Int)(hw6:In64 which)(hT:Tb w)(hM:Mx w): Calls Tryz.prog 6 #[vs,.int .i64 which,.int .i64 now] w fun e w'=>e = .returned (.bool true)∧Below w.heap.size w w':=by
 have HMA:=Lib.hid (made_any hs)
 have HFX:=Lib.hid (fun W (hb:Below w.heap.size w W)=>fixed_any W (hT.below hb) (hM.below hb))
 have HW6:=Lib.hid hw6
 clear hs hT hM hw6
 unfold kpt at HMA
 go_enter Tryz.func6,Tryz.ntmps6
 go_wp2_with fail
 refine HMA.out.mono ?_
 rintro e w1 ⟨f,l,x,rfl,hl,ns,e0,h1⟩
 have N1:=Lib.hid h1
 have HI:=Lib.hid hl
 have HE0:=Lib.hid e0
 have HNO:Hid (Calls Tryz.prog 17 #[.pointer (some ⟨f,0,none⟩)] w1 fun e w'=>∃v rs,e = .returned v∧rs.map (·.1)=nodes ns∧Nr w' v rs∧Below w1.heap.size w1 w'∧∀k,v.ownBlock=some k→w1.heap.size≤k):=Lib.hid (nodes_call N1.out.fr (few_ns HE0.out HI.out) (by rw [HE0.out];exact HI.out.short))
 clear HMA h1 hl e0
 go_wp2_with fail
 refine HNO.out.mono ?_
 rintro e w3 ⟨v,rs,rfl,hr1,hr2,hr3,_⟩
 obtain⟨av,cv,rfl⟩:=OwnR.owns_shape hr2.1
 have N3:=Lib.hid (N1.out.down hr3)
 have HRL:Hid (rs.map (·.1)=l):=Lib.hid (by rw [hr1,HE0.out])
 have HRN:=Lib.hid hr2
 obtain⟨M,hM⟩:∃M,M=rs.length:=⟨_,rfl⟩
 have HML:Hid (M=l.length):=Lib.hid (by rw [hM,← HRL.out,List.length_map])
 have hm2:M≤256:=by have:=HML.out;have:=HI.out.few;omega
 have HCE:Hid (∀i (h:i<l.length),∃q,av=some ⟨q,0,none⟩∧∀V,KeepA w3 V→V.cell? ⟨q,i*15,none⟩=some (.int .i64 ((l[i]'h).id:Int))):=Lib.hid (fun i hi=>by
  have hi2:i<rs.length:=by rw [← hM,HML.out];exact hi
  obtain⟨q,e,hc⟩:=HRN.out.kept hi2
  refine⟨q,e,fun V hV=>?_⟩
  have h0:=hc V hV 0 (by omega)
  have e2:l[i]=rs[i].1:=by
   have:l[i]?=(rs.map (·.1))[i]?:=by rw [HRL.out]
   rw [List.getElem?_map,List.getElem?_eq_getElem hi,List.getElem?_eq_getElem hi2] at this
   simpa using this
  rw [e2]
  simpa [nodeC,inC] using h0)
 rw [← hM]
 clear HNO hr1 hr2 hr3 hM HRN HRL N1
 by_cases h0:M=0
 ·subst h0
  go_wp2_with fail
  refine(HFX.out w3 N3.out.below).mono ?_
  rintro e w9 ⟨rfl,hb⟩
  have B9:=Lib.hid (N3.out.below.trans (hb.mono N3.out.below.size))
  clear hb
  go_wp2_with fail
  go_ret
  exact⟨rfl,B9.out⟩
 have h0b:((M:Int) == 0)=false:=by rw [beq_eq_false_iff_ne];omega
 have HPL:=Lib.hid (place_any which M HW6.out (by omega) (by omega) w3)
 clear HW6
 go_wp2_with fail
 refine HPL.out.mono ?_
 rintro e w4 ⟨⟨k,hk,rfl⟩,rfl⟩
 have hkl:k<l.length:=by rw [← HML.out];exact hk
 obtain⟨q,rfl,hck⟩:=HCE.out k hkl
 have ck:=hck w4 (fun _ _ _ _ _ _ h=>h)
 have HCQ:Hid (∀i (h:i<l.length),∀V,KeepA w4 V→V.cell? ⟨q,i*15,none⟩=some (.int .i64 ((l[i]'h).id:Int))):=Lib.hid (fun i hi V hV=>by
  obtain⟨q2,e,hc⟩:=HCE.out i hi
  have e3:q=q2:=by simpa using e
  rw [e3]
  exact hc V hV)
 have hkI:(k:Int)<(M:Int):=by omega
 obtain⟨nk,hnk⟩:∃z,z=l[k]'hkl:=⟨_,rfl⟩
 have HNK:Hid (nk∈l):=Lib.hid (by rw [hnk];exact List.getElem_mem hkl)
 rw [← hnk] at ck
 have HE4:Hid (Lw 4 1 w4 (w4.alloc (.cells #[] 4)) (.slice (some ⟨w4.heap.size,0,none⟩) 0 0) 0 []):=Lib.hid (Lw.empty 4 1 (Below.refl _ _))
 clear HPL hck HCE h0 h0b hnk hkl
 obtain⟨id,hid⟩:∃z,z=nk.id:=⟨_,rfl⟩
 have HID:=Lib.hid hid
 rw [← hid] at ck
 clear hid
 go_wp2_with fail
 obtain⟨wo,hwo⟩:∃y,y=w4:=⟨_,rfl⟩
 go_loopw [10,11] (fun lv iv wr=>∃i:Nat,i≤M∧iv = .int .i64 (i:Int)∧Hid (Lw 4 1 w4 wr lv i ((l.take i).map fun n=>Value.bool (liveP l (n.id:Int) now)))) (fun _ iv _=>M - (intOf iv).toNat)
 case atStart=>exact⟨0,Nat.zero_le _,rfl,Lib.hid HE4.out⟩
 case round=>
  obtain⟨i,hi,rfl,HLW⟩:=hrel
  clear HE4
  obtain⟨ag,cg,rfl⟩:=HLW.out.shape
  have NR:=Lib.hid (N3.out.down HLW.out.2.1)
  by_cases hlt:i<M
  ·have hltI:(i:Int)<(M:Int):=by omega
   have hil:i<l.length:=by rw [← HML.out];exact hlt
   have hc:=HCQ.out i hil wr (KeepA.of HLW.out.2.1)
   have HTK:Hid ((l.take (i+1)).map (fun n=>Value.bool (liveP l (n.id:Int) now))=(l.take i).map (fun n=>Value.bool (liveP l (n.id:Int) now))++[Value.bool (liveP l ((l[i]'hil).id:Int) now)]):=Lib.hid (by rw [List.take_add_one,List.getElem?_eq_getElem hil,Option.toList_some,List.map_append];rfl)
   have HLV:Hid (Calls Tryz.prog 27 #[.pointer (some ⟨f,0,none⟩),.int .i64 ((l[i]'hil).id:Int),.int .i64 now] wr fun e w'=>e = .returned (.bool (liveP l ((l[i]'hil).id:Int) now))∧Below wr.heap.size wr w'):=Lib.hid (by
    have:=live_any NR.out.fr (few_ns HE0.out HI.out) ((l[i]'hil).id:Int) now
    rw [HE0.out] at this
    exact this)
   obtain⟨idi,hidi⟩:∃z,z=(l[i]'hil).id:=⟨_,rfl⟩
   rw [← hidi] at hc HTK HLV
   obtain⟨lb,hlb⟩:∃z,z=liveP l (idi:Int) now:=⟨_,rfl⟩
   rw [← hlb] at HTK HLV
   clear hidi hlb hil
   go_wp2_with fail
   refine HLV.out.mono ?_
   rintro e w5 ⟨rfl,hb5⟩
   have HLW5:=Lib.hid (HLW.out.down hb5)
   clear hb5 HLV hc NR
   go_wp2_with (at_builtin;refine wp_one row61 rfl _ _ rfl _ ((l.take i).map fun n=>Value.bool (liveP l (n.id:Int) now)) w5.heap.size 1 #[.bool lb] rfl rfl (HLW5.out.down (by go_grown)) (Bk.new rfl) rfl (by simp [Value.oneCell']) (by omega) (by decide) ?_;intro v' w6 hs6 hg6;have HS6:=Lib.hid hs6;clear hs6 hg6)
   go_roundw
   case rel=>exact⟨i+1,by omega,by go_num,Lib.hid (by rw [HTK.out];simpa using HS6.out)⟩
   case measure=>simp [intOf];omega
  ·have hltI:¬(i:Int)<(M:Int):=by omega
   obtain rfl:i=M:=by omega
   have HKL:Hid (Calls Tryz.prog 28 #[.pointer (some ⟨f,0,none⟩),.int .i64 (id:Int)] wr fun e w'=>Ends wr f ns x (.int .i64 0) (killP l (id:Int)).2 x e w'):=Lib.hid (by
    have:=kill_call NR.out.fr (few_ns HE0.out HI.out) (id:Int)
    rw [HE0.out,HID.out,kill_there HI.out.ok HNK.out] at this
    rw [HID.out]
    exact this)
   go_wp2_with fail
   refine HKL.out.mono ?_
   rintro e w5 ⟨rfl,ns5,e5,f5,c5⟩
   have N5:=Lib.hid (NR.out.go f5 c5)
   have HK5:Hid (KeepA wr w5):=Lib.hid (KeepA.chf NR.out.fr c5)
   obtain⟨l5,hl5⟩:∃z,z=(killP l (id:Int)).2:=⟨_,rfl⟩
   rw [← hl5] at e5
   have HE5:=Lib.hid e5
   have HJ:Hid (Inv l5 x):=Lib.hid (by
    rw [hl5]
    unfold killP
    rw [HID.out,find_of HI.out.ok HNK.out]
    exact inv_kill HI.out nk.id)
   have HFA:Hid (∀i (h:i<l.length),liveP l5 ((l[i]'h).id:Int) now=(liveP l ((l[i]'h).id:Int) now&&!(pathN l5 ((l[i]'h).id:Int)).any (· == (id:Int)))):=Lib.hid (fun i hi=>by
    rw [hl5,HID.out]
    exact kill_falls HI.out.ok HNK.out now (List.getElem_mem hi))
   have HZC:Hid (∀i (h:i<l.length),∃z,ag=some ⟨z,0,none⟩∧∀V,KeepA w5 V→V.cell? ⟨z,i,none⟩=some (.bool (liveP l ((l[i]'h).id:Int) now))):=Lib.hid (fun j hj=>by
    obtain⟨z,e,hc⟩:=Lw.kept (by decide) HLW.out (i:=j) (u:= .bool (liveP l ((l[j]'hj).id:Int) now)) (by rw [HML.out];exact hj) (by rw [List.getElem?_map,HML.out,List.take_length,List.getElem?_eq_getElem hj];rfl)
    exact⟨z,e,fun V hV=>hc V (HK5.out.trans hV)⟩)
   have HQC:Hid (∀i (h:i<l.length),∀V,KeepA w5 V→V.cell? ⟨q,i*15,none⟩=some (.int .i64 ((l[i]'h).id:Int))):=Lib.hid (fun j hj V hV=>HCQ.out j hj V (((KeepA.of HLW.out.2.1).trans HK5.out).trans hV))
   clear f5 c5 e5 hl5 HKL HLW NR HK5 HCQ hltI N3 ck
   go_wp2_with fail
   obtain⟨wp,hwp⟩:∃y,y=w5:=⟨_,rfl⟩
   subst hwp
   go_loopw [12] (fun iv wr=>∃i:Nat,i≤i∧i≤l.length∧iv = .int .i64 (i:Int)∧Hid (Below wp.heap.size wp wr)) (fun iv _=>l.length - (intOf iv).toNat)
   case atStart=>exact⟨0,Nat.le_refl _,Nat.zero_le _,rfl,Lib.hid (Below.refl _ _)⟩
   case round=>
    obtain⟨j,_,hj,rfl,HB⟩:=hrel
    have N7:=Lib.hid (N5.out.down HB.out)
    by_cases hlt2:j<i
    ·have hltJ:(j:Int)<(i:Int):=by omega
     have hjl:j<l.length:=by rw [← HML.out];exact hlt2
     have hc:=HQC.out j hjl wr (KeepA.of HB.out)
     have HFj:=Lib.hid (HFA.out j hjl)
     obtain⟨z,rfl,hz⟩:=HZC.out j hjl
     have HZ:=Lib.hid hz
     have HQ:=Lib.hid (HQC.out j hjl)
     obtain⟨idj,hidj⟩:∃y,y=(l[j]'hjl).id:=⟨_,rfl⟩
     rw [← hidj] at hc HFj HZ HQ
     have HPA:Hid (Calls Tryz.prog 29 #[.pointer (some ⟨f,0,none⟩),.int .i64 (idj:Int)] wr fun e w'=>∃v,e = .returned v∧Ri w' v (pathN l5 (idj:Int))∧Below wr.heap.size wr w'):=Lib.hid (by
      refine(path_call N7.out.fr (few_ns HE5.out HJ.out) (idj:Int)).mono ?_
      rintro _ w' ⟨v,rfl,h2⟩
      rw [HE5.out] at h2
      exact⟨v,rfl,ri_path h2,h2.2.1⟩)
     obtain⟨P,hP⟩:∃y,y=pathN l5 (idj:Int):=⟨_,rfl⟩
     have HPB:Hid (P.length≤256):=Lib.hid (by rw [hP];exact pathN_short HJ.out _)
     rw [← hP] at HPA HFj
     clear hz hidj hP hjl
     go_wp2_with fail
     refine HPA.out.mono ?_
     rintro e w8 ⟨v8,rfl,⟨a8,c8,rfl,hc8⟩,hb8⟩
     have B8:=Lib.hid (HB.out.trans (hb8.mono HB.out.size))
     have HC8:=Lib.hid hc8
     obtain⟨K,hK⟩:∃K,K=P.length:=⟨_,rfl⟩
     have HKK:=Lib.hid hK
     rw [← hK]
     clear hb8 hc8 HPA hK hc N7 HB
     go_wp2_with fail
     obtain⟨wq,hwq⟩:∃y,y=w8:=⟨_,rfl⟩
     subst hwq
     go_loopw [14,15] (fun hv kv ws=>∃k:Nat,k≤K∧kv = .int .i64 (k:Int)∧hv = .bool ((P.take k).any (· == (id:Int)))∧Hid (Below wq.heap.size wq ws)) (fun _ kv _=>K - (intOf kv).toNat)
     case atStart=>exact⟨0,Nat.zero_le _,rfl,by simp,Lib.hid (Below.refl _ _)⟩
     case round=>
      obtain⟨k2,hk2,rfl,rfl,HB2⟩:=hrel
      by_cases hlt3:k2<K
      ·have hltK:(k2:Int)<(K:Int):=by omega
       have hkp:k2<P.length:=by rw [← HKK.out];exact hlt3
       have HAT:Hid ((P.take (k2+1)).any (· == (id:Int))=((P.take k2).any (· == (id:Int))||P[k2] == (id:Int))):=Lib.hid (any_take hkp)
       obtain⟨b3,o3,e3,hc3⟩:=HC8.out k2 hkp
       subst e3
       replace hc3:=cell_below HB2.out hc3
       obtain⟨pk,hpk⟩:∃y,y=P[k2]'hkp:=⟨_,rfl⟩
       rw [← hpk] at hc3 HAT
       obtain⟨hb,hhb⟩:∃y,y=(P.take k2).any (· == (id:Int)):=⟨_,rfl⟩
       rw [← hhb] at HAT ⊢
       clear hpk hhb hkp
       have hkb:=HPB.out
       rw [← HKK.out] at hkb
       cases hb with
       |true=>
        go_wp2_with fail
        go_roundw
        case rel=>exact⟨k2+1,by omega,by go_num,by rw [HAT.out];rfl,by first | exact HB2 | exact Lib.hid HB2.out⟩
        case measure=>simp [intOf];omega
       |false=>
        by_cases he:pk=(id:Int)
        ·have heb:(pk == (id:Int))=true:=by simpa using he
         go_wp2_with fail
         go_roundw
         case rel=>exact⟨k2+1,by omega,by go_num,by rw [HAT.out,heb];rfl,by first | exact HB2 | exact Lib.hid HB2.out⟩
         case measure=>simp [intOf];omega
        ·have heb:(pk == (id:Int))=false:=by simpa using he
         go_wp2_with fail
         go_roundw
         case rel=>exact⟨k2+1,by omega,by go_num,by rw [HAT.out,heb];rfl,by first | exact HB2 | exact Lib.hid HB2.out⟩
         case measure=>simp [intOf];omega
      ·have hltK:¬(k2:Int)<(K:Int):=by omega
       have hkk:k2=P.length:=by have:=HKK.out;omega
       have hta:P.take k2=P:=by rw [hkk,List.take_length]
       rw [hta]
       obtain⟨hb,hhb⟩:∃y,y=P.any (· == (id:Int)):=⟨_,rfl⟩
       rw [← hhb] at HFj ⊢
       have HB9:Hid (Below wp.heap.size wp wr):=Lib.hid (B8.out.trans (HB2.out.mono B8.out.size))
       have HLV:Hid (∀V,Below wp.heap.size wp V→Calls Tryz.prog 27 #[.pointer (some ⟨f,0,none⟩),.int .i64 (idj:Int),.int .i64 now] V fun e w'=>e = .returned (.bool (liveP l5 (idj:Int) now))∧Below wp.heap.size wp w'):=Lib.hid (fun V hV=>by
        have:=live_any (N5.out.down hV).fr (few_ns HE5.out HJ.out) (idj:Int) now
        rw [HE5.out] at this
        refine this.mono ?_
        rintro e w' ⟨rfl,h⟩
        exact⟨rfl,hV.trans (h.mono hV.size)⟩)
       rw [HFj.out] at HLV
       have hiN:=hlt2
       have hiI:=hltJ
       obtain⟨lb,hlb⟩:∃y,y=liveP l (idj:Int) now:=⟨_,rfl⟩
       rw [← hlb] at HLV HZ
       clear hta hkk hhb hlb HFj HKK HPB HC8 B8 HB2 hltK hk2
       cases lb with
       |true=>
        go_upto_region 24 with fail
        refine Pl.flT (fun _ V=>Below wp.heap.size wp V) f q 0 i cv z 0 cg j (idj:Int) now hb wr (fun _ V hV=>by rw [Nat.zero_add];exact HQ.out V (KeepA.of hV)) (fun _ V hV=>by rw [Nat.zero_add];exact HZ.out V (KeepA.of hV)) (fun V hV=>by have:=HLV.out V hV;simpa using this) hiN hiI HB9.out.drew ?_
        intro w9 hw9
        have HB10:=Lib.hid hw9
        clear hw9
        go_wp2_with fail
        go_roundw
        case rel=>exact⟨j+1,Nat.le_refl _,by have:=HML.out;omega,by go_num,by first | exact HB10 | exact Lib.hid HB10.out⟩
        case measure=>have:=HML.out;simp [intOf];omega
       |false=>
        go_upto_region 24 with fail
        refine Pl.flF (fun _ V=>Below wp.heap.size wp V) f q 0 i cv z 0 cg j (idj:Int) now hb wr (fun _ V hV=>by rw [Nat.zero_add];exact HQ.out V (KeepA.of hV)) (fun _ V hV=>by rw [Nat.zero_add];exact HZ.out V (KeepA.of hV)) (fun V hV=>by have:=HLV.out V hV;simpa using this) hiN hiI HB9.out.drew ?_
        intro w9 hw9
        have HB10:=Lib.hid hw9
        clear hw9
        go_wp2_with fail
        go_roundw
        case rel=>exact⟨j+1,Nat.le_refl _,by have:=HML.out;omega,by go_num,by first | exact HB10 | exact Lib.hid HB10.out⟩
        case measure=>have:=HML.out;simp [intOf];omega
    ·have hltJ:¬(j:Int)<(i:Int):=by omega
     go_wp2_with fail
     refine(HFX.out wr N7.out.below).mono ?_
     rintro e w9 ⟨rfl,hb⟩
     have B9:=Lib.hid (N7.out.below.trans (hb.mono N7.out.below.size))
     clear hb
     go_wp2_with fail
     go_ret
     exact⟨rfl,B9.out⟩
end Go.Proofs.YthogppennalobaaGreatDoor
namespace Go.Proofs.YthogppennalobaaGreatDoor.forestFalls
open Go.ChangeShapes Go.WideShapes Go.ChangeAt Go.ChangeMaps Go.RowKit Go.Deep
theorem contract (H:Type)(enc:TypeId×Value→H)(W:World)(base:Nat)(args:Array Value)(ds gs:List (DataW H))(before:List MemPlace)
  (hval:∀(j:Nat) t v,Tryz.f6.params[j]?=some t→args[j]?=some v→Value.okWide Tryz.prog W .any base t v)
  (hW:DataW.Whole enc Tryz.prog Tryz.f6.params.toList Rows.forestFallsSpec.vars false W args.toList ds gs before)
  (hz:(DataW.weightsEach Tryz.prog (Tryz.f6.params.toList++Rows.forestFallsSpec.plain.varTypes Tryz.prog) (ds++gs)).all (·≤reachBytes)=true) (hT:Tb W) (hM:Mx W) :
  Calls Tryz.prog 6 args W fun e W'=>∃v,e = .returned v∧Rows.forestFallsSpec.post enc Tryz.prog Tryz.f6 false true false false W args v W':=by
 have hW':=hW
 obtain⟨p,q,hA0,hV,rfl,hfz,hnd⟩:=hW
 have hA:DataW.TrodAll enc Tryz.prog W 0 (fun _=>true) true Tryz.f6.params.toList args.toList ds p:=hA0
 rw [Tryz.params6] at hA hval hz
 obtain⟨v0,vs0,d0,ds0,p0,q0,hargs,rfl,rfl,h0,r0⟩:=trodAll_cons hA
 obtain⟨v1,vs1,d1,ds1,p1,q1,rfl,rfl,rfl,h1,r1⟩:=trodAll_cons r0
 obtain⟨v2,vs2,d2,ds2,p2,q2,rfl,rfl,rfl,h2,r2⟩:=trodAll_cons r1
 obtain⟨rfl,rfl,rfl⟩:=trodAll_nil r2
 obtain rfl:args=#[v0,v1,v2]:=by cases args;simp_all
 obtain⟨rfl,rfl⟩:=trodVars_none hV
 obtain⟨l0,hO0⟩:=open_sc (hval 0 22 v0 rfl rfl) h0 (fun m hm=>by
  have:=List.all_eq_true.1 hz m (DataW.weights_mem_each (j:=0) (t:=22) (d:=d0) rfl rfl m hm)
  have hr:=reach_is
  simp only [decide_eq_true_eq] at this
  omega)
 obtain⟨n1,rfl,rfl,rfl,wn1⟩:=open_int Tryz.underlying3 (hval 1 3 v1 rfl rfl) h1
 obtain⟨n2,rfl,rfl,rfl,wn2⟩:=open_int Tryz.underlying3 (hval 2 3 v2 rfl rfl) h2
 clear hA0
 simp only [List.append_nil,List.nil_append] at hW'
 have hlt:=fun x hx=>hW'.lt x hx
 refine(falls_walk hO0 n1 n2 (wf_in wn1) hT hM).mono fun e W' ⟨he,hg⟩=>?_
 subst he
 exact⟨_,rfl,post_below (pa:=p0) (pv:=[]) hW' (fun _ _ _=>trodAll_cons_mk (shut_bool Tryz.underlying4 _) trodAll_mk0)
  (fun sp hsp=>show DataW.TrodAll enc Tryz.prog W' 0 sp true [22,3,3] [v0,.int .i64 n1,.int .i64 n2] [d0,.lit (.int .i64 n1),.lit (.int .i64 n2)] (p0) from by
   simpa using (trodAll_cons_mk (trod_keep read22 row22 h0 hg (fun x hx=>hlt x (by simp [hx])) sp (fun x hx=>hsp x (by simp [hx]))) (trodAll_cons_mk (shut_int Tryz.underlying3 wn1) (trodAll_cons_mk (shut_int Tryz.underlying3 wn2) trodAll_mk0))))
  (fun _ _=>rfl) (by simp) hg (ok_one (by kernel_rfl) rfl (okWide_bool_mk Tryz.underlying4 _))⟩
theorem laid_met (os:Os)(args:Array Value): laidMetH Tryz.prog Rows.forestFallsRow.laid ((World.laidAll Tryz.prog os Rows.forestFallsRow.laid).forCall (fun _ _=>0) ⟨#[],args,[]⟩).memory:=by
 rw [MakeChecks.laidMetH_plain _ _ _ (by kernel_rfl)]
 exact laidMet_laidAll _ (by kernel_rfl) (by kernel_rfl)
theorem reads (os:Os){H:Type}(enc:TypeId×Value→H): ∃places,DataW.whole enc Tryz.prog ((World.laidAll Tryz.prog os Rows.forestFallsRow.laid).forCall (fun _ _=>0) ⟨#[],#[.slice none 0 0,.int .i64 0,.int .i64 0],[]⟩).memory Tryz.f6.params.toList Rows.forestFallsSpec.vars false (#[.slice none 0 0,.int .i64 0,.int .i64 0]:Array Value).toList 8=some ([.nil,.lit (.int .i64 0),.lit (.int .i64 0)],[],places):=
 ⟨[],by kernel_rfl⟩
theorem lifted (os:Os)(started:os.Started)(H:Type)(enc:TypeId×Value→H)(F:Stop.Interp):
  ReturnsInHanded {} Tryz.checked os 6 .any ((OpenSpec.ofChange Rows.forestFallsSpec).preRow enc Tryz.prog Tryz.f6 Rows.forestFallsRow.domain false Rows.forestFallsRow.laid) (((OpenSpec.ofChange Rows.forestFallsSpec).at F).post enc Tryz.prog Tryz.f6 false true false false):=by
 obtain⟨places,hx⟩:=reads os enc
 refine returnsInHanded_of_row (C:=Tryz.checked) (s:=OpenSpec.ofChange Rows.forestFallsSpec) own started (by kernel_rfl) Tryz.func6
  (witness_row_atRef (enc:=enc) (C:=Tryz.checked) false (World.laidAll Tryz.prog os Rows.forestFallsRow.laid) #[.slice none 0 0,.int .i64 0,.int .i64 0] (World.laidAll_os _ _ _) (by kernel_rfl) (by kernel_rfl) (by kernel_rfl)
   (OpenSpec.preRow_of_cond 8 hx (by kernel_rfl) (fun k hk=>by cases hk) (by kernel_rfl) (laid_met os _))) ?_
 intro W base args ds gs before hval hW _ _ hz hL hS _
 exact contract H enc W base args ds gs before hval hW hz (tb_of_laid hL) (mx_of_shaped hS)
theorem said:Rows.ForestFallsSaid:=
 OpenClaim.holds_of_cond 6 Tryz.f6 rfl rfl rfl rfl rfl rfl rfl ⟨rfl,rfl,rfl,rfl,rfl⟩ rfl rfl rfl rfl rfl (by kernel_rfl) Tryz.func6 (by kernel_rfl)
  (of_decide_eq_true (by kernel_rfl)) (by unfold Func.isWrapper;first | (rw [if_pos (by decide +kernel)];kernel_rfl) | (rw [if_neg (by decide +kernel)];exact⟨rfl,rfl⟩))
  (fun os started H enc _ F=>by rw [OpenClaim.pre_eq_preRow];exact lifted os started H enc F)
theorem plain (f : FuncId) (fn : Func) (hf : Tryz.pinned.checked.prog.funcNamed "seneschal/seneschallaw13.ForestFalls" = some f) (hfn : Tryz.pinned.checked.prog.funcs[f]? = some fn) :
  true=Tryz.pinned.checked.prog.looks []∧∀(j:Nat) t,fn.params[j]?=some t→Tryz.pinned.checked.prog.wantsStandIn t=false:=by
 obtain rfl : f = 6 := Option.some.inj ((show Tryz.prog.funcNamed "seneschal/seneschallaw13.ForestFalls" = some 6 by kernel_rfl).symm.trans hf) |>.symm
 obtain rfl:fn=Tryz.f6:=(Option.some.inj (Tryz.func6.symm.trans hfn)).symm
 refine⟨by kernel_rfl,fun j t ht=>?_⟩
 rw [Tryz.params6] at ht
 have h:=Array.mem_of_getElem? ht
 simp only [List.mem_toArray,List.mem_cons,List.not_mem_nil,or_false,or_self] at h
 rcases h with rfl | rfl | rfl
 all_goals first | exact(show Tryz.prog.wantsStandIn 3=false by as_aux_lemma=>kernel_rfl) | exact(show Tryz.prog.wantsStandIn 22=false by as_aux_lemma=>kernel_rfl)
theorem card:Rows.ForestFallsCardSaid:=
 Claim7.holds_tied_plain_at .later [] _ _ _ _ said (fun _ h=>by cases h) (by kernel_rfl) (fun _ h=>by cases h) forestFalls_row_tie rfl ⟨rfl,rfl⟩ (by kernel_rfl) rfl plain (by kernel_rfl)
end Go.Proofs.YthogppennalobaaGreatDoor.forestFalls
