/- The drawn regions of does. No condition. -/
import Derived.Test.YthogppennalobaaGreatDoorZg02
import Derived.Test.YthogppennalobaaGreatDoorZg08
import Derived.Test.YthogppennalobaaGreatDoorZg11
set_option linter.unusedVariables false
set_option linter.unusedSimpArgs false
set_option maxRecDepth 100000
namespace Go.Proofs.YthogppennalobaaGreatDoor.Pl
open Go.RowKit Go.Sort
theorem k_fa33_2 {Q:Exit→Act→World→Prop}{T:Array Value}{ds:List Deferred}{w:World}{ty:TypeId}{dst:Option Tmp}{s:Nat}{ps af g}{b:Nat}(e:T.getD s undef = .pointer (some ⟨b,0,none⟩)): Oper.wp Tryz.prog ⟨dst,.fieldAddr 33 (.tmp s) 2,ty,ps,af,g⟩ ⟨T,ds⟩ w (fun a' w''=>a'=Act.put ⟨T,ds⟩ dst (.pointer (some ⟨b,2,none⟩))∧w''=w) Q:=by
 go_simp
theorem k_fa33_3 {Q:Exit→Act→World→Prop}{T:Array Value}{ds:List Deferred}{w:World}{ty:TypeId}{dst:Option Tmp}{s:Nat}{ps af g}{b:Nat}(e:T.getD s undef = .pointer (some ⟨b,0,none⟩)): Oper.wp Tryz.prog ⟨dst,.fieldAddr 33 (.tmp s) 3,ty,ps,af,g⟩ ⟨T,ds⟩ w (fun a' w''=>a'=Act.put ⟨T,ds⟩ dst (.pointer (some ⟨b,3,none⟩))∧w''=w) Q:=by
 go_simp
theorem k_fa33_4 {Q:Exit→Act→World→Prop}{T:Array Value}{ds:List Deferred}{w:World}{ty:TypeId}{dst:Option Tmp}{s:Nat}{ps af g}{b:Nat}(e:T.getD s undef = .pointer (some ⟨b,0,none⟩)): Oper.wp Tryz.prog ⟨dst,.fieldAddr 33 (.tmp s) 4,ty,ps,af,g⟩ ⟨T,ds⟩ w (fun a' w''=>a'=Act.put ⟨T,ds⟩ dst (.pointer (some ⟨b,4,none⟩))∧w''=w) Q:=by
 go_simp
noncomputable def dsSO:Array Oper:=(Tryz.f15.body.bind fun c=>findR c 24).getD #[]
def dsS_m:List (List Nat):=[[],[],[],[],[],[],[],[],[],[],[],[5],[5,11],[5,11]]
set_option maxHeartbeats 16000000 in
theorem dsS (PW:Bool→Bool→World→Prop)(f g b:Nat)(A:Int)(B:Int)(r q:Int)(w:World)  (hA:∀(b5 b11:Bool) (w:World),PW b5 b11  w→w.cell? ⟨b,2,none⟩=some (.int .i64 A))(hB:∀(b5 b11:Bool) (w:World),PW b5 b11  w→w.cell? ⟨b,3,none⟩=some (.int .i64 B))(cl5:∀(w:World),PW false false w→Calls Tryz.prog 42 #[.pointer (some ⟨f,0,none⟩),.int .i64 A,.int .i64 B] w fun e w1=>e = .returned (.int .i64 r)∧PW true false  w1)(cl11:∀(w:World),PW true false w→Calls Tryz.prog 43 #[.pointer (some ⟨g,0,none⟩),.int .i64 A,.int .i64 B] w fun e w1=>e = .returned (.int .i64 q)∧PW true true  w1){t2 t3 t4 t6 t7 t8 t9 t10 t11 t12 t13 t14 t15 t16 t17 t18 t19 t20 t21 t22 t23 t24 t25 t26 t27 t28 t29 t30 t31 t32 t33 t34 t35 t36 t37 t38 t39 t40 t41 t42 t43 t44 t45 t46 t47 t48 t49 t50 t51 t52 t53 t54 t55 t56 t57 t58 t59 t60 t61 t62 t63 t64 t65 t66 t67 t68 t69 t70 t71 t72 t73 t74 t75 t76 t77 t78 t79 t80 t81 t82 t83 t84 t85 t86 t87 t88 t89 t90 t91 t92 t93 t94 t95 t96 t97 t98 t99 t100 t101 t102 t103 t104 t105 t106 t107 t108 t109 t110 t111 t112 t113 t114 t115 t116 t117 t118 t119 t120 t121 t122 t123 t124 t125 t126 t127 t128 t129 t130 t131 t132 t133 t134 t135 t136 t137 t138 t139 t140 t141 t142 t143 t144 t145 t146 t147 t148 t149 t150 t151 t152 t153 t154 t155 t156 t157 t158 t159 t160 t161 t162 t163 t164 t165 t166 t167 t168 t169 t170 t171 t172 t173 t174 t175 t176 t177 t178 t179 t180 t181 t182 t183 t184 t185 t186 t187 t188 t189 t190 t191 t192 t193 t194 t195 t196 t197 t198 t199 t200 t201 t202 t203 t204 t205 t206 t207 t208 t209 t210 t211 t212 t213 t214 t215 t216 t217 t218 t219 t220 t221 t222 t223 t224 t225 t226 t227 t228 t229 t230 t231 t232 t233 t234 t235 t236 t237 t238:Value}(w0:PW false false  w.drew){ds:List Deferred}{Q:Exit→Act→World→Prop}
  (h:∀(w1:World),PW true true  w1→Q .normal {tmps:=#[.pointer (some ⟨f,0,none⟩),.pointer (some ⟨g,0,none⟩),t2,t3,t4,.pointer (some ⟨b,0,none⟩),.bool (r == q),t7,t8,t9,t10,t11,t12,t13,t14,t15,t16,t17,t18,t19,t20,t21,t22,t23,t24,t25,t26,t27,t28,t29,t30,t31,t32,t33,t34,t35,t36,t37,t38,t39,t40,t41,t42,t43,t44,t45,t46,t47,t48,t49,t50,t51,t52,t53,t54,t55,t56,t57,t58,t59,t60,t61,t62,t63,t64,t65,t66,t67,t68,t69,t70,t71,t72,t73,t74,t75,t76,t77,t78,t79,t80,t81,t82,t83,t84,t85,t86,t87,t88,t89,t90,t91,t92,t93,t94,t95,t96,t97,t98,t99,t100,t101,t102,t103,t104,t105,t106,t107,t108,t109,t110,t111,t112,t113,t114,t115,t116,t117,t118,t119,t120,t121,t122,t123,t124,t125,t126,t127,t128,t129,t130,t131,t132,t133,t134,t135,t136,t137,t138,t139,t140,t141,t142,t143,t144,t145,t146,t147,t148,t149,t150,t151,t152,t153,t154,t155,t156,t157,t158,t159,t160,t161,t162,.pointer (some ⟨f,0,none⟩),.pointer (some ⟨b,2,none⟩),.int .i64 A,.pointer (some ⟨b,3,none⟩),.int .i64 B,.int .i64 r,.pointer (some ⟨g,0,none⟩),.pointer (some ⟨b,2,none⟩),.int .i64 A,.pointer (some ⟨b,3,none⟩),.int .i64 B,.int .i64 q,.bool (r == q),t176,t177,t178,t179,t180,t181,t182,t183,t184,t185,t186,t187,t188,t189,t190,t191,t192,t193,t194,t195,t196,t197,t198,t199,t200,t201,t202,t203,t204,t205,t206,t207,t208,t209,t210,t211,t212,t213,t214,t215,t216,t217,t218,t219,t220,t221,t222,t223,t224,t225,t226,t227,t228,t229,t230,t231,t232,t233,t234,t235,t236,t237,t238],defers:=ds} w1) :
  (Code.region 24 dsSO true).wp Tryz.prog Q {tmps:=#[.pointer (some ⟨f,0,none⟩),.pointer (some ⟨g,0,none⟩),t2,t3,t4,.pointer (some ⟨b,0,none⟩),t6,t7,t8,t9,t10,t11,t12,t13,t14,t15,t16,t17,t18,t19,t20,t21,t22,t23,t24,t25,t26,t27,t28,t29,t30,t31,t32,t33,t34,t35,t36,t37,t38,t39,t40,t41,t42,t43,t44,t45,t46,t47,t48,t49,t50,t51,t52,t53,t54,t55,t56,t57,t58,t59,t60,t61,t62,t63,t64,t65,t66,t67,t68,t69,t70,t71,t72,t73,t74,t75,t76,t77,t78,t79,t80,t81,t82,t83,t84,t85,t86,t87,t88,t89,t90,t91,t92,t93,t94,t95,t96,t97,t98,t99,t100,t101,t102,t103,t104,t105,t106,t107,t108,t109,t110,t111,t112,t113,t114,t115,t116,t117,t118,t119,t120,t121,t122,t123,t124,t125,t126,t127,t128,t129,t130,t131,t132,t133,t134,t135,t136,t137,t138,t139,t140,t141,t142,t143,t144,t145,t146,t147,t148,t149,t150,t151,t152,t153,t154,t155,t156,t157,t158,t159,t160,t161,t162,t163,t164,t165,t166,t167,t168,t169,t170,t171,t172,t173,t174,t175,t176,t177,t178,t179,t180,t181,t182,t183,t184,t185,t186,t187,t188,t189,t190,t191,t192,t193,t194,t195,t196,t197,t198,t199,t200,t201,t202,t203,t204,t205,t206,t207,t208,t209,t210,t211,t212,t213,t214,t215,t216,t217,t218,t219,t220,t221,t222,t223,t224,t225,t226,t227,t228,t229,t230,t231,t232,t233,t234,t235,t236,t237,t238],defers:=ds} w:=by
 have hsz:dsSO.size=14:=by kernel_rfl
 generalize hT:List.toArray _=T0
 have hs:T0.size=239:=by subst hT;rfl
 have g0:T0.getD 0 undef = .pointer (some ⟨f,0,none⟩):=by subst hT;rfl
 have g1:T0.getD 1 undef = .pointer (some ⟨g,0,none⟩):=by subst hT;rfl
 have g5:T0.getD 5 undef = .pointer (some ⟨b,0,none⟩):=by subst hT;rfl
 obtain⟨W,hV⟩:∃W:List ((Nat×(Value→Value)) ⊕ Value),W=[.inr (.pointer (some ⟨f,0,none⟩)),.inr (.pointer (some ⟨b,2,none⟩)),.inr (.int .i64 A),.inr (.pointer (some ⟨b,3,none⟩)),.inr (.int .i64 B),.inr (.int .i64 r),.inr (.pointer (some ⟨g,0,none⟩)),.inr (.pointer (some ⟨b,2,none⟩)),.inr (.int .i64 A),.inr (.pointer (some ⟨b,3,none⟩)),.inr (.int .i64 B),.inr (.int .i64 q),.inr (.bool (r == q)),.inr (.bool (r == q))]:=⟨_,rfl⟩
 refine wp_plan (by kernel_rfl) T0 ds [5,11] dsS_m (mkV W) (fun dx yx wx=>PW (dx 5) (dx 11)  wx) w (by rw [hs];kernel_rfl) (by kernel_rfl) (by kernel_rfl) (by rw [hsz];decide) (fun cx hc ix hne ha yx vx=>mkV_fix (by rw [hV];kernel_rfl) hne ha yx vx) (?key) (fun cx hc ox ho dx yx Tx wx hd hdb hda hK hW=>?_) ⟨fun k=>undef,w0⟩ (fun dx yx wx hd hW=>?_)
 case key=>
  rw [hsz]
  refine all_step (all_step (all_step (all_step (all_step (all_step (all_step (all_step (all_step (all_step (all_step (all_step (all_step (all_step all_zero ?_) ?_) ?_) ?_) ?_) ?_) ?_) ?_) ?_) ?_) ?_) ?_) ?_) ?_
  all_goals
   intro ox ho hic dx yx Tx wx hdb hK hW
   replace hdb:=Lib.hid hdb
  ·exact pl0 163 0 23 ho hK g0 fun ps af e=>k_mv e
  ·exact pl0 164 5 0 ho hK g5 fun ps af e=>k_fa33_2 e
  ·exact pl1 165 164 1 3 ho hK fun ps af e=>k_ld3 (hA _ _ _ hW) e
  ·exact pl0 166 5 0 ho hK g5 fun ps af e=>k_fa33_3 e
  ·exact pl1 167 166 3 3 ho hK fun ps af e=>k_ld3 (hB _ _ _ hW) e
  ·exact absurd (by decide) hic
  ·exact pl0 169 1 26 ho hK g1 fun ps af e=>k_mv e
  ·exact pl0 170 5 0 ho hK g5 fun ps af e=>k_fa33_2 e
  ·exact pl1 171 170 7 3 ho hK fun ps af e=>k_ld3 (hA _ _ _ hW) e
  ·exact pl0 172 5 0 ho hK g5 fun ps af e=>k_fa33_3 e
  ·exact pl1 173 172 9 3 ho hK fun ps af e=>k_ld3 (hB _ _ _ hW) e
  ·exact absurd (by decide) hic
  ·obtain⟨ps,af,rfl⟩:=core (some 175) (.binOp BinOp.eql 48 (.tmp 168) (.tmp 174) 48) 4 none ho
   have e168:Tx.getD 168 undef = .int .i64 r:=hK.is 5 ho
   have e174:Tx.getD 174 undef = .int .i64 q:=hK.is 11 ho
   exact wpOp_plain ho rfl (by subst hV;go_simp;try rfl)
  ·exact pl1 6 175 12 4 ho hK fun ps af e=>k_as e
 ·have hcase:cx=5∨cx=11:=by simpa using hc
  rcases hcase with rfl | rfl
  ·obtain⟨ps,af,rfl⟩:=core (some 168) (.call {callee:= .value (.func 42),args:=#[.tmp 163,.tmp 165,.tmp 167],argTypes:=#[23,3,3]}) 48 none ho
   have e163:Tx.getD 163 undef = .pointer (some ⟨f,0,none⟩):=hK.is 0 ho
   have e165:Tx.getD 165 undef = .int .i64 A:=hK.is 2 ho
   have e167:Tx.getD 167 undef = .int .i64 B:=hK.is 4 ho
   have hW1:PW (dx 5) (dx 11)  wx:=hW
   have f11:=hq hda 11
   clear hdb hda
   rw [hd,f11.out] at hW1
   clear hd hW hc
   refine wpOp_plain ho rfl ?_
   go_simp
   go_at_call 42
   refine(cl5 _ hW1).mono ?_
   rintro ex w2 ⟨rfl,hW2⟩
   subst hV
   first | refine⟨undef,rfl,?_⟩ | refine⟨⟨undef,rfl⟩,?_⟩
   simpa [updB,upd,f11.out] using hW2
  ·obtain⟨ps,af,rfl⟩:=core (some 174) (.call {callee:= .value (.func 43),args:=#[.tmp 169,.tmp 171,.tmp 173],argTypes:=#[26,3,3]}) 48 none ho
   have e169:Tx.getD 169 undef = .pointer (some ⟨g,0,none⟩):=hK.is 6 ho
   have e171:Tx.getD 171 undef = .int .i64 A:=hK.is 8 ho
   have e173:Tx.getD 173 undef = .int .i64 B:=hK.is 10 ho
   have hW1:PW (dx 5) (dx 11)  wx:=hW
   have f5:=hq hdb 5
   clear hdb hda
   rw [hd,f5.out] at hW1
   clear hd hW hc
   refine wpOp_plain ho rfl ?_
   go_simp
   go_at_call 43
   refine(cl11 _ hW1).mono ?_
   rintro ex w2 ⟨rfl,hW2⟩
   subst hV
   first | refine⟨undef,rfl,?_⟩ | refine⟨⟨undef,rfl⟩,?_⟩
   simpa [updB,upd,f5.out] using hW2
 ·have hW1:PW (dx 5) (dx 11)  wx:=hW
  rw [hd 5 (by decide),hd 11 (by decide)] at hW1
  have hQ:=h _ hW1
  rw [hsz]
  subst hV hT
  refine cast (congrArg (fun Tx=>Q .normal ⟨Tx,ds⟩ wx) ?_) hQ
  kernel_rfl
noncomputable def dsKO:Array Oper:=(Tryz.f15.body.bind fun c=>findR c 26).getD #[]
def dsK_m:List (List Nat):=[[],[],[],[],[],[],[],[3],[3,7],[3,7]]
set_option maxHeartbeats 16000000 in
theorem dsK (PW:Bool→Bool→World→Prop)(f g b:Nat)(A:Int)(r q:Int)(w:World)  (hA:∀(b3 b7:Bool) (w:World),PW b3 b7  w→w.cell? ⟨b,2,none⟩=some (.int .i64 A))(cl3:∀(w:World),PW false false w→Calls Tryz.prog 28 #[.pointer (some ⟨f,0,none⟩),.int .i64 A] w fun e w1=>e = .returned (.int .i64 r)∧PW true false  w1)(cl7:∀(w:World),PW true false w→Calls Tryz.prog 44 #[.pointer (some ⟨g,0,none⟩),.int .i64 A] w fun e w1=>e = .returned (.int .i64 q)∧PW true true  w1){t2 t3 t4 t6 t7 t8 t9 t10 t11 t12 t13 t14 t15 t16 t17 t18 t19 t20 t21 t22 t23 t24 t25 t26 t27 t28 t29 t30 t31 t32 t33 t34 t35 t36 t37 t38 t39 t40 t41 t42 t43 t44 t45 t46 t47 t48 t49 t50 t51 t52 t53 t54 t55 t56 t57 t58 t59 t60 t61 t62 t63 t64 t65 t66 t67 t68 t69 t70 t71 t72 t73 t74 t75 t76 t77 t78 t79 t80 t81 t82 t83 t84 t85 t86 t87 t88 t89 t90 t91 t92 t93 t94 t95 t96 t97 t98 t99 t100 t101 t102 t103 t104 t105 t106 t107 t108 t109 t110 t111 t112 t113 t114 t115 t116 t117 t118 t119 t120 t121 t122 t123 t124 t125 t126 t127 t128 t129 t130 t131 t132 t133 t134 t135 t136 t137 t138 t139 t140 t141 t142 t143 t144 t145 t146 t147 t148 t149 t150 t151 t152 t153 t154 t155 t156 t157 t158 t159 t160 t161 t162 t163 t164 t165 t166 t167 t168 t169 t170 t171 t172 t173 t174 t175 t176 t177 t178 t179 t180 t181 t182 t183 t184 t185 t186 t187 t188 t189 t190 t191 t192 t193 t194 t195 t196 t197 t198 t199 t200 t201 t202 t203 t204 t205 t206 t207 t208 t209 t210 t211 t212 t213 t214 t215 t216 t217 t218 t219 t220 t221 t222 t223 t224 t225 t226 t227 t228 t229 t230 t231 t232 t233 t234 t235 t236 t237 t238:Value}(w0:PW false false  w.drew){ds:List Deferred}{Q:Exit→Act→World→Prop}
  (h:∀(w1:World),PW true true  w1→Q .normal {tmps:=#[.pointer (some ⟨f,0,none⟩),.pointer (some ⟨g,0,none⟩),t2,t3,t4,.pointer (some ⟨b,0,none⟩),.bool (r == q),t7,t8,t9,t10,t11,t12,t13,t14,t15,t16,t17,t18,t19,t20,t21,t22,t23,t24,t25,t26,t27,t28,t29,t30,t31,t32,t33,t34,t35,t36,t37,t38,t39,t40,t41,t42,t43,t44,t45,t46,t47,t48,t49,t50,t51,t52,t53,t54,t55,t56,t57,t58,t59,t60,t61,t62,t63,t64,t65,t66,t67,t68,t69,t70,t71,t72,t73,t74,t75,t76,t77,t78,t79,t80,t81,t82,t83,t84,t85,t86,t87,t88,t89,t90,t91,t92,t93,t94,t95,t96,t97,t98,t99,t100,t101,t102,t103,t104,t105,t106,t107,t108,t109,t110,t111,t112,t113,t114,t115,t116,t117,t118,t119,t120,t121,t122,t123,t124,t125,t126,t127,t128,t129,t130,t131,t132,t133,t134,t135,t136,t137,t138,t139,t140,t141,t142,t143,t144,t145,t146,t147,t148,t149,t150,t151,t152,t153,t154,t155,t156,t157,t158,t159,t160,t161,t162,t163,t164,t165,t166,t167,t168,t169,t170,t171,t172,t173,t174,t175,t176,t177,.pointer (some ⟨f,0,none⟩),.pointer (some ⟨b,2,none⟩),.int .i64 A,.int .i64 r,.pointer (some ⟨g,0,none⟩),.pointer (some ⟨b,2,none⟩),.int .i64 A,.int .i64 q,.bool (r == q),t187,t188,t189,t190,t191,t192,t193,t194,t195,t196,t197,t198,t199,t200,t201,t202,t203,t204,t205,t206,t207,t208,t209,t210,t211,t212,t213,t214,t215,t216,t217,t218,t219,t220,t221,t222,t223,t224,t225,t226,t227,t228,t229,t230,t231,t232,t233,t234,t235,t236,t237,t238],defers:=ds} w1) :
  (Code.region 26 dsKO true).wp Tryz.prog Q {tmps:=#[.pointer (some ⟨f,0,none⟩),.pointer (some ⟨g,0,none⟩),t2,t3,t4,.pointer (some ⟨b,0,none⟩),t6,t7,t8,t9,t10,t11,t12,t13,t14,t15,t16,t17,t18,t19,t20,t21,t22,t23,t24,t25,t26,t27,t28,t29,t30,t31,t32,t33,t34,t35,t36,t37,t38,t39,t40,t41,t42,t43,t44,t45,t46,t47,t48,t49,t50,t51,t52,t53,t54,t55,t56,t57,t58,t59,t60,t61,t62,t63,t64,t65,t66,t67,t68,t69,t70,t71,t72,t73,t74,t75,t76,t77,t78,t79,t80,t81,t82,t83,t84,t85,t86,t87,t88,t89,t90,t91,t92,t93,t94,t95,t96,t97,t98,t99,t100,t101,t102,t103,t104,t105,t106,t107,t108,t109,t110,t111,t112,t113,t114,t115,t116,t117,t118,t119,t120,t121,t122,t123,t124,t125,t126,t127,t128,t129,t130,t131,t132,t133,t134,t135,t136,t137,t138,t139,t140,t141,t142,t143,t144,t145,t146,t147,t148,t149,t150,t151,t152,t153,t154,t155,t156,t157,t158,t159,t160,t161,t162,t163,t164,t165,t166,t167,t168,t169,t170,t171,t172,t173,t174,t175,t176,t177,t178,t179,t180,t181,t182,t183,t184,t185,t186,t187,t188,t189,t190,t191,t192,t193,t194,t195,t196,t197,t198,t199,t200,t201,t202,t203,t204,t205,t206,t207,t208,t209,t210,t211,t212,t213,t214,t215,t216,t217,t218,t219,t220,t221,t222,t223,t224,t225,t226,t227,t228,t229,t230,t231,t232,t233,t234,t235,t236,t237,t238],defers:=ds} w:=by
 have hsz:dsKO.size=10:=by kernel_rfl
 generalize hT:List.toArray _=T0
 have hs:T0.size=239:=by subst hT;rfl
 have g0:T0.getD 0 undef = .pointer (some ⟨f,0,none⟩):=by subst hT;rfl
 have g1:T0.getD 1 undef = .pointer (some ⟨g,0,none⟩):=by subst hT;rfl
 have g5:T0.getD 5 undef = .pointer (some ⟨b,0,none⟩):=by subst hT;rfl
 obtain⟨W,hV⟩:∃W:List ((Nat×(Value→Value)) ⊕ Value),W=[.inr (.pointer (some ⟨f,0,none⟩)),.inr (.pointer (some ⟨b,2,none⟩)),.inr (.int .i64 A),.inr (.int .i64 r),.inr (.pointer (some ⟨g,0,none⟩)),.inr (.pointer (some ⟨b,2,none⟩)),.inr (.int .i64 A),.inr (.int .i64 q),.inr (.bool (r == q)),.inr (.bool (r == q))]:=⟨_,rfl⟩
 refine wp_plan (by kernel_rfl) T0 ds [3,7] dsK_m (mkV W) (fun dx yx wx=>PW (dx 3) (dx 7)  wx) w (by rw [hs];kernel_rfl) (by kernel_rfl) (by kernel_rfl) (by rw [hsz];decide) (fun cx hc ix hne ha yx vx=>mkV_fix (by rw [hV];kernel_rfl) hne ha yx vx) (?key) (fun cx hc ox ho dx yx Tx wx hd hdb hda hK hW=>?_) ⟨fun k=>undef,w0⟩ (fun dx yx wx hd hW=>?_)
 case key=>
  rw [hsz]
  refine all_step (all_step (all_step (all_step (all_step (all_step (all_step (all_step (all_step (all_step all_zero ?_) ?_) ?_) ?_) ?_) ?_) ?_) ?_) ?_) ?_
  all_goals
   intro ox ho hic dx yx Tx wx hdb hK hW
   replace hdb:=Lib.hid hdb
  ·exact pl0 178 0 23 ho hK g0 fun ps af e=>k_mv e
  ·exact pl0 179 5 0 ho hK g5 fun ps af e=>k_fa33_2 e
  ·exact pl1 180 179 1 3 ho hK fun ps af e=>k_ld3 (hA _ _ _ hW) e
  ·exact absurd (by decide) hic
  ·exact pl0 182 1 26 ho hK g1 fun ps af e=>k_mv e
  ·exact pl0 183 5 0 ho hK g5 fun ps af e=>k_fa33_2 e
  ·exact pl1 184 183 5 3 ho hK fun ps af e=>k_ld3 (hA _ _ _ hW) e
  ·exact absurd (by decide) hic
  ·obtain⟨ps,af,rfl⟩:=core (some 186) (.binOp BinOp.eql 48 (.tmp 181) (.tmp 185) 48) 4 none ho
   have e181:Tx.getD 181 undef = .int .i64 r:=hK.is 3 ho
   have e185:Tx.getD 185 undef = .int .i64 q:=hK.is 7 ho
   exact wpOp_plain ho rfl (by subst hV;go_simp;try rfl)
  ·exact pl1 6 186 8 4 ho hK fun ps af e=>k_as e
 ·have hcase:cx=3∨cx=7:=by simpa using hc
  rcases hcase with rfl | rfl
  ·obtain⟨ps,af,rfl⟩:=core (some 181) (.call {callee:= .value (.func 28),args:=#[.tmp 178,.tmp 180],argTypes:=#[23,3]}) 48 none ho
   have e178:Tx.getD 178 undef = .pointer (some ⟨f,0,none⟩):=hK.is 0 ho
   have e180:Tx.getD 180 undef = .int .i64 A:=hK.is 2 ho
   have hW1:PW (dx 3) (dx 7)  wx:=hW
   have f7:=hq hda 7
   clear hdb hda
   rw [hd,f7.out] at hW1
   clear hd hW hc
   refine wpOp_plain ho rfl ?_
   go_simp
   go_at_call 28
   refine(cl3 _ hW1).mono ?_
   rintro ex w2 ⟨rfl,hW2⟩
   subst hV
   first | refine⟨undef,rfl,?_⟩ | refine⟨⟨undef,rfl⟩,?_⟩
   simpa [updB,upd,f7.out] using hW2
  ·obtain⟨ps,af,rfl⟩:=core (some 185) (.call {callee:= .value (.func 44),args:=#[.tmp 182,.tmp 184],argTypes:=#[26,3]}) 48 none ho
   have e182:Tx.getD 182 undef = .pointer (some ⟨g,0,none⟩):=hK.is 4 ho
   have e184:Tx.getD 184 undef = .int .i64 A:=hK.is 6 ho
   have hW1:PW (dx 3) (dx 7)  wx:=hW
   have f3:=hq hdb 3
   clear hdb hda
   rw [hd,f3.out] at hW1
   clear hd hW hc
   refine wpOp_plain ho rfl ?_
   go_simp
   go_at_call 44
   refine(cl7 _ hW1).mono ?_
   rintro ex w2 ⟨rfl,hW2⟩
   subst hV
   first | refine⟨undef,rfl,?_⟩ | refine⟨⟨undef,rfl⟩,?_⟩
   simpa [updB,upd,f3.out] using hW2
 ·have hW1:PW (dx 3) (dx 7)  wx:=hW
  rw [hd 3 (by decide),hd 7 (by decide)] at hW1
  have hQ:=h _ hW1
  rw [hsz]
  subst hV hT
  refine cast (congrArg (fun Tx=>Q .normal ⟨Tx,ds⟩ wx) ?_) hQ
  kernel_rfl
noncomputable def dsOO:Array Oper:=(Tryz.f15.body.bind fun c=>findR c 28).getD #[]
def dsO_m:List (List Nat):=[[],[],[],[],[],[],[],[3],[3,7],[3,7]]
set_option maxHeartbeats 16000000 in
theorem dsO (PW:Bool→Bool→World→Prop)(f g b:Nat)(s:List UInt8)(r q:Int)(w:World)  (hS:∀(b3 b7:Bool) (w:World),PW b3 b7  w→w.cell? ⟨b,4,none⟩=some (.string ⟨s.toArray⟩))(cl3:∀(w:World),PW false false w→Calls Tryz.prog 30 #[.pointer (some ⟨f,0,none⟩),.string ⟨s.toArray⟩] w fun e w1=>e = .returned (.int .i64 r)∧PW true false  w1)(cl7:∀(w:World),PW true false w→Calls Tryz.prog 45 #[.pointer (some ⟨g,0,none⟩),.string ⟨s.toArray⟩] w fun e w1=>e = .returned (.int .i64 q)∧PW true true  w1){t2 t3 t4 t6 t7 t8 t9 t10 t11 t12 t13 t14 t15 t16 t17 t18 t19 t20 t21 t22 t23 t24 t25 t26 t27 t28 t29 t30 t31 t32 t33 t34 t35 t36 t37 t38 t39 t40 t41 t42 t43 t44 t45 t46 t47 t48 t49 t50 t51 t52 t53 t54 t55 t56 t57 t58 t59 t60 t61 t62 t63 t64 t65 t66 t67 t68 t69 t70 t71 t72 t73 t74 t75 t76 t77 t78 t79 t80 t81 t82 t83 t84 t85 t86 t87 t88 t89 t90 t91 t92 t93 t94 t95 t96 t97 t98 t99 t100 t101 t102 t103 t104 t105 t106 t107 t108 t109 t110 t111 t112 t113 t114 t115 t116 t117 t118 t119 t120 t121 t122 t123 t124 t125 t126 t127 t128 t129 t130 t131 t132 t133 t134 t135 t136 t137 t138 t139 t140 t141 t142 t143 t144 t145 t146 t147 t148 t149 t150 t151 t152 t153 t154 t155 t156 t157 t158 t159 t160 t161 t162 t163 t164 t165 t166 t167 t168 t169 t170 t171 t172 t173 t174 t175 t176 t177 t178 t179 t180 t181 t182 t183 t184 t185 t186 t187 t188 t189 t190 t191 t192 t193 t194 t195 t196 t197 t198 t199 t200 t201 t202 t203 t204 t205 t206 t207 t208 t209 t210 t211 t212 t213 t214 t215 t216 t217 t218 t219 t220 t221 t222 t223 t224 t225 t226 t227 t228 t229 t230 t231 t232 t233 t234 t235 t236 t237 t238:Value}(w0:PW false false  w.drew){ds:List Deferred}{Q:Exit→Act→World→Prop}
  (h:∀(w1:World),PW true true  w1→Q .normal {tmps:=#[.pointer (some ⟨f,0,none⟩),.pointer (some ⟨g,0,none⟩),t2,t3,t4,.pointer (some ⟨b,0,none⟩),.bool (r == q),t7,t8,t9,t10,t11,t12,t13,t14,t15,t16,t17,t18,t19,t20,t21,t22,t23,t24,t25,t26,t27,t28,t29,t30,t31,t32,t33,t34,t35,t36,t37,t38,t39,t40,t41,t42,t43,t44,t45,t46,t47,t48,t49,t50,t51,t52,t53,t54,t55,t56,t57,t58,t59,t60,t61,t62,t63,t64,t65,t66,t67,t68,t69,t70,t71,t72,t73,t74,t75,t76,t77,t78,t79,t80,t81,t82,t83,t84,t85,t86,t87,t88,t89,t90,t91,t92,t93,t94,t95,t96,t97,t98,t99,t100,t101,t102,t103,t104,t105,t106,t107,t108,t109,t110,t111,t112,t113,t114,t115,t116,t117,t118,t119,t120,t121,t122,t123,t124,t125,t126,t127,t128,t129,t130,t131,t132,t133,t134,t135,t136,t137,t138,t139,t140,t141,t142,t143,t144,t145,t146,t147,t148,t149,t150,t151,t152,t153,t154,t155,t156,t157,t158,t159,t160,t161,t162,t163,t164,t165,t166,t167,t168,t169,t170,t171,t172,t173,t174,t175,t176,t177,t178,t179,t180,t181,t182,t183,t184,t185,t186,t187,t188,.pointer (some ⟨f,0,none⟩),.pointer (some ⟨b,4,none⟩),.string ⟨s.toArray⟩,.int .i64 r,.pointer (some ⟨g,0,none⟩),.pointer (some ⟨b,4,none⟩),.string ⟨s.toArray⟩,.int .i64 q,.bool (r == q),t198,t199,t200,t201,t202,t203,t204,t205,t206,t207,t208,t209,t210,t211,t212,t213,t214,t215,t216,t217,t218,t219,t220,t221,t222,t223,t224,t225,t226,t227,t228,t229,t230,t231,t232,t233,t234,t235,t236,t237,t238],defers:=ds} w1) :
  (Code.region 28 dsOO true).wp Tryz.prog Q {tmps:=#[.pointer (some ⟨f,0,none⟩),.pointer (some ⟨g,0,none⟩),t2,t3,t4,.pointer (some ⟨b,0,none⟩),t6,t7,t8,t9,t10,t11,t12,t13,t14,t15,t16,t17,t18,t19,t20,t21,t22,t23,t24,t25,t26,t27,t28,t29,t30,t31,t32,t33,t34,t35,t36,t37,t38,t39,t40,t41,t42,t43,t44,t45,t46,t47,t48,t49,t50,t51,t52,t53,t54,t55,t56,t57,t58,t59,t60,t61,t62,t63,t64,t65,t66,t67,t68,t69,t70,t71,t72,t73,t74,t75,t76,t77,t78,t79,t80,t81,t82,t83,t84,t85,t86,t87,t88,t89,t90,t91,t92,t93,t94,t95,t96,t97,t98,t99,t100,t101,t102,t103,t104,t105,t106,t107,t108,t109,t110,t111,t112,t113,t114,t115,t116,t117,t118,t119,t120,t121,t122,t123,t124,t125,t126,t127,t128,t129,t130,t131,t132,t133,t134,t135,t136,t137,t138,t139,t140,t141,t142,t143,t144,t145,t146,t147,t148,t149,t150,t151,t152,t153,t154,t155,t156,t157,t158,t159,t160,t161,t162,t163,t164,t165,t166,t167,t168,t169,t170,t171,t172,t173,t174,t175,t176,t177,t178,t179,t180,t181,t182,t183,t184,t185,t186,t187,t188,t189,t190,t191,t192,t193,t194,t195,t196,t197,t198,t199,t200,t201,t202,t203,t204,t205,t206,t207,t208,t209,t210,t211,t212,t213,t214,t215,t216,t217,t218,t219,t220,t221,t222,t223,t224,t225,t226,t227,t228,t229,t230,t231,t232,t233,t234,t235,t236,t237,t238],defers:=ds} w:=by
 have hsz:dsOO.size=10:=by kernel_rfl
 generalize hT:List.toArray _=T0
 have hs:T0.size=239:=by subst hT;rfl
 have g0:T0.getD 0 undef = .pointer (some ⟨f,0,none⟩):=by subst hT;rfl
 have g1:T0.getD 1 undef = .pointer (some ⟨g,0,none⟩):=by subst hT;rfl
 have g5:T0.getD 5 undef = .pointer (some ⟨b,0,none⟩):=by subst hT;rfl
 obtain⟨W,hV⟩:∃W:List ((Nat×(Value→Value)) ⊕ Value),W=[.inr (.pointer (some ⟨f,0,none⟩)),.inr (.pointer (some ⟨b,4,none⟩)),.inr (.string ⟨s.toArray⟩),.inr (.int .i64 r),.inr (.pointer (some ⟨g,0,none⟩)),.inr (.pointer (some ⟨b,4,none⟩)),.inr (.string ⟨s.toArray⟩),.inr (.int .i64 q),.inr (.bool (r == q)),.inr (.bool (r == q))]:=⟨_,rfl⟩
 refine wp_plan (by kernel_rfl) T0 ds [3,7] dsO_m (mkV W) (fun dx yx wx=>PW (dx 3) (dx 7)  wx) w (by rw [hs];kernel_rfl) (by kernel_rfl) (by kernel_rfl) (by rw [hsz];decide) (fun cx hc ix hne ha yx vx=>mkV_fix (by rw [hV];kernel_rfl) hne ha yx vx) (?key) (fun cx hc ox ho dx yx Tx wx hd hdb hda hK hW=>?_) ⟨fun k=>undef,w0⟩ (fun dx yx wx hd hW=>?_)
 case key=>
  rw [hsz]
  refine all_step (all_step (all_step (all_step (all_step (all_step (all_step (all_step (all_step (all_step all_zero ?_) ?_) ?_) ?_) ?_) ?_) ?_) ?_) ?_) ?_
  all_goals
   intro ox ho hic dx yx Tx wx hdb hK hW
   replace hdb:=Lib.hid hdb
  ·exact pl0 189 0 23 ho hK g0 fun ps af e=>k_mv e
  ·exact pl0 190 5 0 ho hK g5 fun ps af e=>k_fa33_4 e
  ·exact pl1 191 190 1 9 ho hK fun ps af e=>k_ld9 (hS _ _ _ hW) e
  ·exact absurd (by decide) hic
  ·exact pl0 193 1 26 ho hK g1 fun ps af e=>k_mv e
  ·exact pl0 194 5 0 ho hK g5 fun ps af e=>k_fa33_4 e
  ·exact pl1 195 194 5 9 ho hK fun ps af e=>k_ld9 (hS _ _ _ hW) e
  ·exact absurd (by decide) hic
  ·obtain⟨ps,af,rfl⟩:=core (some 197) (.binOp BinOp.eql 3 (.tmp 192) (.tmp 196) 3) 4 none ho
   have e192:Tx.getD 192 undef = .int .i64 r:=hK.is 3 ho
   have e196:Tx.getD 196 undef = .int .i64 q:=hK.is 7 ho
   exact wpOp_plain ho rfl (by subst hV;go_simp;try rfl)
  ·exact pl1 6 197 8 4 ho hK fun ps af e=>k_as e
 ·have hcase:cx=3∨cx=7:=by simpa using hc
  rcases hcase with rfl | rfl
  ·obtain⟨ps,af,rfl⟩:=core (some 192) (.call {callee:= .value (.func 30),args:=#[.tmp 189,.tmp 191],argTypes:=#[23,9]}) 3 none ho
   have e189:Tx.getD 189 undef = .pointer (some ⟨f,0,none⟩):=hK.is 0 ho
   have e191:Tx.getD 191 undef = .string ⟨s.toArray⟩:=hK.is 2 ho
   have hW1:PW (dx 3) (dx 7)  wx:=hW
   have f7:=hq hda 7
   clear hdb hda
   rw [hd,f7.out] at hW1
   clear hd hW hc
   refine wpOp_plain ho rfl ?_
   go_simp
   go_at_call 30
   refine(cl3 _ hW1).mono ?_
   rintro ex w2 ⟨rfl,hW2⟩
   subst hV
   first | refine⟨undef,rfl,?_⟩ | refine⟨⟨undef,rfl⟩,?_⟩
   simpa [updB,upd,f7.out] using hW2
  ·obtain⟨ps,af,rfl⟩:=core (some 196) (.call {callee:= .value (.func 45),args:=#[.tmp 193,.tmp 195],argTypes:=#[26,9]}) 3 none ho
   have e193:Tx.getD 193 undef = .pointer (some ⟨g,0,none⟩):=hK.is 4 ho
   have e195:Tx.getD 195 undef = .string ⟨s.toArray⟩:=hK.is 6 ho
   have hW1:PW (dx 3) (dx 7)  wx:=hW
   have f3:=hq hdb 3
   clear hdb hda
   rw [hd,f3.out] at hW1
   clear hd hW hc
   refine wpOp_plain ho rfl ?_
   go_simp
   go_at_call 45
   refine(cl7 _ hW1).mono ?_
   rintro ex w2 ⟨rfl,hW2⟩
   subst hV
   first | refine⟨undef,rfl,?_⟩ | refine⟨⟨undef,rfl⟩,?_⟩
   simpa [updB,upd,f3.out] using hW2
 ·have hW1:PW (dx 3) (dx 7)  wx:=hW
  rw [hd 3 (by decide),hd 7 (by decide)] at hW1
  have hQ:=h _ hW1
  rw [hsz]
  subst hV hT
  refine cast (congrArg (fun Tx=>Q .normal ⟨Tx,ds⟩ wx) ?_) hQ
  kernel_rfl
noncomputable def dsLO:Array Oper:=(Tryz.f15.body.bind fun c=>findR c 30).getD #[]
def dsL_m:List (List Nat):=[[],[],[],[],[],[],[],[],[],[],[],[5],[5,11],[5,11]]
set_option maxHeartbeats 16000000 in
theorem dsL (PW:Bool→Bool→World→Prop)(f g b:Nat)(A:Int)(B:Int)(r q:Int)(w:World)  (hA:∀(b5 b11:Bool) (w:World),PW b5 b11  w→w.cell? ⟨b,2,none⟩=some (.int .i64 A))(hB:∀(b5 b11:Bool) (w:World),PW b5 b11  w→w.cell? ⟨b,3,none⟩=some (.int .i64 B))(cl5:∀(w:World),PW false false w→Calls Tryz.prog 46 #[.pointer (some ⟨f,0,none⟩),.int .i64 A,.int .i64 B] w fun e w1=>e = .returned (.int .i64 r)∧PW true false  w1)(cl11:∀(w:World),PW true false w→Calls Tryz.prog 47 #[.pointer (some ⟨g,0,none⟩),.int .i64 A,.int .i64 B] w fun e w1=>e = .returned (.int .i64 q)∧PW true true  w1){t2 t3 t4 t6 t7 t8 t9 t10 t11 t12 t13 t14 t15 t16 t17 t18 t19 t20 t21 t22 t23 t24 t25 t26 t27 t28 t29 t30 t31 t32 t33 t34 t35 t36 t37 t38 t39 t40 t41 t42 t43 t44 t45 t46 t47 t48 t49 t50 t51 t52 t53 t54 t55 t56 t57 t58 t59 t60 t61 t62 t63 t64 t65 t66 t67 t68 t69 t70 t71 t72 t73 t74 t75 t76 t77 t78 t79 t80 t81 t82 t83 t84 t85 t86 t87 t88 t89 t90 t91 t92 t93 t94 t95 t96 t97 t98 t99 t100 t101 t102 t103 t104 t105 t106 t107 t108 t109 t110 t111 t112 t113 t114 t115 t116 t117 t118 t119 t120 t121 t122 t123 t124 t125 t126 t127 t128 t129 t130 t131 t132 t133 t134 t135 t136 t137 t138 t139 t140 t141 t142 t143 t144 t145 t146 t147 t148 t149 t150 t151 t152 t153 t154 t155 t156 t157 t158 t159 t160 t161 t162 t163 t164 t165 t166 t167 t168 t169 t170 t171 t172 t173 t174 t175 t176 t177 t178 t179 t180 t181 t182 t183 t184 t185 t186 t187 t188 t189 t190 t191 t192 t193 t194 t195 t196 t197 t198 t199 t200 t201 t202 t203 t204 t205 t206 t207 t208 t209 t210 t211 t212 t213 t214 t215 t216 t217 t218 t219 t220 t221 t222 t223 t224 t225 t226 t227 t228 t229 t230 t231 t232 t233 t234 t235 t236 t237 t238:Value}(w0:PW false false  w.drew){ds:List Deferred}{Q:Exit→Act→World→Prop}
  (h:∀(w1:World),PW true true  w1→Q .normal {tmps:=#[.pointer (some ⟨f,0,none⟩),.pointer (some ⟨g,0,none⟩),t2,t3,t4,.pointer (some ⟨b,0,none⟩),.bool (r == q),t7,t8,t9,t10,t11,t12,t13,t14,t15,t16,t17,t18,t19,t20,t21,t22,t23,t24,t25,t26,t27,t28,t29,t30,t31,t32,t33,t34,t35,t36,t37,t38,t39,t40,t41,t42,t43,t44,t45,t46,t47,t48,t49,t50,t51,t52,t53,t54,t55,t56,t57,t58,t59,t60,t61,t62,t63,t64,t65,t66,t67,t68,t69,t70,t71,t72,t73,t74,t75,t76,t77,t78,t79,t80,t81,t82,t83,t84,t85,t86,t87,t88,t89,t90,t91,t92,t93,t94,t95,t96,t97,t98,t99,t100,t101,t102,t103,t104,t105,t106,t107,t108,t109,t110,t111,t112,t113,t114,t115,t116,t117,t118,t119,t120,t121,t122,t123,t124,t125,t126,t127,t128,t129,t130,t131,t132,t133,t134,t135,t136,t137,t138,t139,t140,t141,t142,t143,t144,t145,t146,t147,t148,t149,t150,t151,t152,t153,t154,t155,t156,t157,t158,t159,t160,t161,t162,t163,t164,t165,t166,t167,t168,t169,t170,t171,t172,t173,t174,t175,t176,t177,t178,t179,t180,t181,t182,t183,t184,t185,t186,t187,t188,t189,t190,t191,t192,t193,t194,t195,t196,t197,t198,t199,.pointer (some ⟨f,0,none⟩),.pointer (some ⟨b,2,none⟩),.int .i64 A,.pointer (some ⟨b,3,none⟩),.int .i64 B,.int .i64 r,.pointer (some ⟨g,0,none⟩),.pointer (some ⟨b,2,none⟩),.int .i64 A,.pointer (some ⟨b,3,none⟩),.int .i64 B,.int .i64 q,.bool (r == q),t213,t214,t215,t216,t217,t218,t219,t220,t221,t222,t223,t224,t225,t226,t227,t228,t229,t230,t231,t232,t233,t234,t235,t236,t237,t238],defers:=ds} w1) :
  (Code.region 30 dsLO true).wp Tryz.prog Q {tmps:=#[.pointer (some ⟨f,0,none⟩),.pointer (some ⟨g,0,none⟩),t2,t3,t4,.pointer (some ⟨b,0,none⟩),t6,t7,t8,t9,t10,t11,t12,t13,t14,t15,t16,t17,t18,t19,t20,t21,t22,t23,t24,t25,t26,t27,t28,t29,t30,t31,t32,t33,t34,t35,t36,t37,t38,t39,t40,t41,t42,t43,t44,t45,t46,t47,t48,t49,t50,t51,t52,t53,t54,t55,t56,t57,t58,t59,t60,t61,t62,t63,t64,t65,t66,t67,t68,t69,t70,t71,t72,t73,t74,t75,t76,t77,t78,t79,t80,t81,t82,t83,t84,t85,t86,t87,t88,t89,t90,t91,t92,t93,t94,t95,t96,t97,t98,t99,t100,t101,t102,t103,t104,t105,t106,t107,t108,t109,t110,t111,t112,t113,t114,t115,t116,t117,t118,t119,t120,t121,t122,t123,t124,t125,t126,t127,t128,t129,t130,t131,t132,t133,t134,t135,t136,t137,t138,t139,t140,t141,t142,t143,t144,t145,t146,t147,t148,t149,t150,t151,t152,t153,t154,t155,t156,t157,t158,t159,t160,t161,t162,t163,t164,t165,t166,t167,t168,t169,t170,t171,t172,t173,t174,t175,t176,t177,t178,t179,t180,t181,t182,t183,t184,t185,t186,t187,t188,t189,t190,t191,t192,t193,t194,t195,t196,t197,t198,t199,t200,t201,t202,t203,t204,t205,t206,t207,t208,t209,t210,t211,t212,t213,t214,t215,t216,t217,t218,t219,t220,t221,t222,t223,t224,t225,t226,t227,t228,t229,t230,t231,t232,t233,t234,t235,t236,t237,t238],defers:=ds} w:=by
 have hsz:dsLO.size=14:=by kernel_rfl
 generalize hT:List.toArray _=T0
 have hs:T0.size=239:=by subst hT;rfl
 have g0:T0.getD 0 undef = .pointer (some ⟨f,0,none⟩):=by subst hT;rfl
 have g1:T0.getD 1 undef = .pointer (some ⟨g,0,none⟩):=by subst hT;rfl
 have g5:T0.getD 5 undef = .pointer (some ⟨b,0,none⟩):=by subst hT;rfl
 obtain⟨W,hV⟩:∃W:List ((Nat×(Value→Value)) ⊕ Value),W=[.inr (.pointer (some ⟨f,0,none⟩)),.inr (.pointer (some ⟨b,2,none⟩)),.inr (.int .i64 A),.inr (.pointer (some ⟨b,3,none⟩)),.inr (.int .i64 B),.inr (.int .i64 r),.inr (.pointer (some ⟨g,0,none⟩)),.inr (.pointer (some ⟨b,2,none⟩)),.inr (.int .i64 A),.inr (.pointer (some ⟨b,3,none⟩)),.inr (.int .i64 B),.inr (.int .i64 q),.inr (.bool (r == q)),.inr (.bool (r == q))]:=⟨_,rfl⟩
 refine wp_plan (by kernel_rfl) T0 ds [5,11] dsL_m (mkV W) (fun dx yx wx=>PW (dx 5) (dx 11)  wx) w (by rw [hs];kernel_rfl) (by kernel_rfl) (by kernel_rfl) (by rw [hsz];decide) (fun cx hc ix hne ha yx vx=>mkV_fix (by rw [hV];kernel_rfl) hne ha yx vx) (?key) (fun cx hc ox ho dx yx Tx wx hd hdb hda hK hW=>?_) ⟨fun k=>undef,w0⟩ (fun dx yx wx hd hW=>?_)
 case key=>
  rw [hsz]
  refine all_step (all_step (all_step (all_step (all_step (all_step (all_step (all_step (all_step (all_step (all_step (all_step (all_step (all_step all_zero ?_) ?_) ?_) ?_) ?_) ?_) ?_) ?_) ?_) ?_) ?_) ?_) ?_) ?_
  all_goals
   intro ox ho hic dx yx Tx wx hdb hK hW
   replace hdb:=Lib.hid hdb
  ·exact pl0 200 0 23 ho hK g0 fun ps af e=>k_mv e
  ·exact pl0 201 5 0 ho hK g5 fun ps af e=>k_fa33_2 e
  ·exact pl1 202 201 1 3 ho hK fun ps af e=>k_ld3 (hA _ _ _ hW) e
  ·exact pl0 203 5 0 ho hK g5 fun ps af e=>k_fa33_3 e
  ·exact pl1 204 203 3 3 ho hK fun ps af e=>k_ld3 (hB _ _ _ hW) e
  ·exact absurd (by decide) hic
  ·exact pl0 206 1 26 ho hK g1 fun ps af e=>k_mv e
  ·exact pl0 207 5 0 ho hK g5 fun ps af e=>k_fa33_2 e
  ·exact pl1 208 207 7 3 ho hK fun ps af e=>k_ld3 (hA _ _ _ hW) e
  ·exact pl0 209 5 0 ho hK g5 fun ps af e=>k_fa33_3 e
  ·exact pl1 210 209 9 3 ho hK fun ps af e=>k_ld3 (hB _ _ _ hW) e
  ·exact absurd (by decide) hic
  ·obtain⟨ps,af,rfl⟩:=core (some 212) (.binOp BinOp.eql 48 (.tmp 205) (.tmp 211) 48) 4 none ho
   have e205:Tx.getD 205 undef = .int .i64 r:=hK.is 5 ho
   have e211:Tx.getD 211 undef = .int .i64 q:=hK.is 11 ho
   exact wpOp_plain ho rfl (by subst hV;go_simp;try rfl)
  ·exact pl1 6 212 12 4 ho hK fun ps af e=>k_as e
 ·have hcase:cx=5∨cx=11:=by simpa using hc
  rcases hcase with rfl | rfl
  ·obtain⟨ps,af,rfl⟩:=core (some 205) (.call {callee:= .value (.func 46),args:=#[.tmp 200,.tmp 202,.tmp 204],argTypes:=#[23,3,3]}) 48 none ho
   have e200:Tx.getD 200 undef = .pointer (some ⟨f,0,none⟩):=hK.is 0 ho
   have e202:Tx.getD 202 undef = .int .i64 A:=hK.is 2 ho
   have e204:Tx.getD 204 undef = .int .i64 B:=hK.is 4 ho
   have hW1:PW (dx 5) (dx 11)  wx:=hW
   have f11:=hq hda 11
   clear hdb hda
   rw [hd,f11.out] at hW1
   clear hd hW hc
   refine wpOp_plain ho rfl ?_
   go_simp
   go_at_call 46
   refine(cl5 _ hW1).mono ?_
   rintro ex w2 ⟨rfl,hW2⟩
   subst hV
   first | refine⟨undef,rfl,?_⟩ | refine⟨⟨undef,rfl⟩,?_⟩
   simpa [updB,upd,f11.out] using hW2
  ·obtain⟨ps,af,rfl⟩:=core (some 211) (.call {callee:= .value (.func 47),args:=#[.tmp 206,.tmp 208,.tmp 210],argTypes:=#[26,3,3]}) 48 none ho
   have e206:Tx.getD 206 undef = .pointer (some ⟨g,0,none⟩):=hK.is 6 ho
   have e208:Tx.getD 208 undef = .int .i64 A:=hK.is 8 ho
   have e210:Tx.getD 210 undef = .int .i64 B:=hK.is 10 ho
   have hW1:PW (dx 5) (dx 11)  wx:=hW
   have f5:=hq hdb 5
   clear hdb hda
   rw [hd,f5.out] at hW1
   clear hd hW hc
   refine wpOp_plain ho rfl ?_
   go_simp
   go_at_call 47
   refine(cl11 _ hW1).mono ?_
   rintro ex w2 ⟨rfl,hW2⟩
   subst hV
   first | refine⟨undef,rfl,?_⟩ | refine⟨⟨undef,rfl⟩,?_⟩
   simpa [updB,upd,f5.out] using hW2
 ·have hW1:PW (dx 5) (dx 11)  wx:=hW
  rw [hd 5 (by decide),hd 11 (by decide)] at hW1
  have hQ:=h _ hW1
  rw [hsz]
  subst hV hT
  refine cast (congrArg (fun Tx=>Q .normal ⟨Tx,ds⟩ wx) ?_) hQ
  kernel_rfl
noncomputable def dsNO:Array Oper:=(Tryz.f15.body.bind fun c=>findR c 32).getD #[]
def dsN_m:List (List Nat):=[[],[],[],[],[],[],[],[],[],[],[],[5],[5,11],[5,11]]
set_option maxHeartbeats 16000000 in
theorem dsN (PW:Bool→Bool→World→Prop)(f g b:Nat)(A:Int)(s:List UInt8)(r q:Int)(w:World)  (hA:∀(b5 b11:Bool) (w:World),PW b5 b11  w→w.cell? ⟨b,2,none⟩=some (.int .i64 A))(hS:∀(b5 b11:Bool) (w:World),PW b5 b11  w→w.cell? ⟨b,4,none⟩=some (.string ⟨s.toArray⟩))(cl5:∀(w:World),PW false false w→Calls Tryz.prog 48 #[.pointer (some ⟨f,0,none⟩),.int .i64 A,.string ⟨s.toArray⟩] w fun e w1=>e = .returned (.int .i64 r)∧PW true false  w1)(cl11:∀(w:World),PW true false w→Calls Tryz.prog 49 #[.pointer (some ⟨g,0,none⟩),.int .i64 A,.string ⟨s.toArray⟩] w fun e w1=>e = .returned (.int .i64 q)∧PW true true  w1){t2 t3 t4 t6 t7 t8 t9 t10 t11 t12 t13 t14 t15 t16 t17 t18 t19 t20 t21 t22 t23 t24 t25 t26 t27 t28 t29 t30 t31 t32 t33 t34 t35 t36 t37 t38 t39 t40 t41 t42 t43 t44 t45 t46 t47 t48 t49 t50 t51 t52 t53 t54 t55 t56 t57 t58 t59 t60 t61 t62 t63 t64 t65 t66 t67 t68 t69 t70 t71 t72 t73 t74 t75 t76 t77 t78 t79 t80 t81 t82 t83 t84 t85 t86 t87 t88 t89 t90 t91 t92 t93 t94 t95 t96 t97 t98 t99 t100 t101 t102 t103 t104 t105 t106 t107 t108 t109 t110 t111 t112 t113 t114 t115 t116 t117 t118 t119 t120 t121 t122 t123 t124 t125 t126 t127 t128 t129 t130 t131 t132 t133 t134 t135 t136 t137 t138 t139 t140 t141 t142 t143 t144 t145 t146 t147 t148 t149 t150 t151 t152 t153 t154 t155 t156 t157 t158 t159 t160 t161 t162 t163 t164 t165 t166 t167 t168 t169 t170 t171 t172 t173 t174 t175 t176 t177 t178 t179 t180 t181 t182 t183 t184 t185 t186 t187 t188 t189 t190 t191 t192 t193 t194 t195 t196 t197 t198 t199 t200 t201 t202 t203 t204 t205 t206 t207 t208 t209 t210 t211 t212 t213 t214 t215 t216 t217 t218 t219 t220 t221 t222 t223 t224 t225 t226 t227 t228 t229 t230 t231 t232 t233 t234 t235 t236 t237 t238:Value}(w0:PW false false  w.drew){ds:List Deferred}{Q:Exit→Act→World→Prop}
  (h:∀(w1:World),PW true true  w1→Q .normal {tmps:=#[.pointer (some ⟨f,0,none⟩),.pointer (some ⟨g,0,none⟩),t2,t3,t4,.pointer (some ⟨b,0,none⟩),.bool (r == q),t7,t8,t9,t10,t11,t12,t13,t14,t15,t16,t17,t18,t19,t20,t21,t22,t23,t24,t25,t26,t27,t28,t29,t30,t31,t32,t33,t34,t35,t36,t37,t38,t39,t40,t41,t42,t43,t44,t45,t46,t47,t48,t49,t50,t51,t52,t53,t54,t55,t56,t57,t58,t59,t60,t61,t62,t63,t64,t65,t66,t67,t68,t69,t70,t71,t72,t73,t74,t75,t76,t77,t78,t79,t80,t81,t82,t83,t84,t85,t86,t87,t88,t89,t90,t91,t92,t93,t94,t95,t96,t97,t98,t99,t100,t101,t102,t103,t104,t105,t106,t107,t108,t109,t110,t111,t112,t113,t114,t115,t116,t117,t118,t119,t120,t121,t122,t123,t124,t125,t126,t127,t128,t129,t130,t131,t132,t133,t134,t135,t136,t137,t138,t139,t140,t141,t142,t143,t144,t145,t146,t147,t148,t149,t150,t151,t152,t153,t154,t155,t156,t157,t158,t159,t160,t161,t162,t163,t164,t165,t166,t167,t168,t169,t170,t171,t172,t173,t174,t175,t176,t177,t178,t179,t180,t181,t182,t183,t184,t185,t186,t187,t188,t189,t190,t191,t192,t193,t194,t195,t196,t197,t198,t199,t200,t201,t202,t203,t204,t205,t206,t207,t208,t209,t210,t211,t212,t213,t214,.pointer (some ⟨f,0,none⟩),.pointer (some ⟨b,2,none⟩),.int .i64 A,.pointer (some ⟨b,4,none⟩),.string ⟨s.toArray⟩,.int .i64 r,.pointer (some ⟨g,0,none⟩),.pointer (some ⟨b,2,none⟩),.int .i64 A,.pointer (some ⟨b,4,none⟩),.string ⟨s.toArray⟩,.int .i64 q,.bool (r == q),t228,t229,t230,t231,t232,t233,t234,t235,t236,t237,t238],defers:=ds} w1) :
  (Code.region 32 dsNO true).wp Tryz.prog Q {tmps:=#[.pointer (some ⟨f,0,none⟩),.pointer (some ⟨g,0,none⟩),t2,t3,t4,.pointer (some ⟨b,0,none⟩),t6,t7,t8,t9,t10,t11,t12,t13,t14,t15,t16,t17,t18,t19,t20,t21,t22,t23,t24,t25,t26,t27,t28,t29,t30,t31,t32,t33,t34,t35,t36,t37,t38,t39,t40,t41,t42,t43,t44,t45,t46,t47,t48,t49,t50,t51,t52,t53,t54,t55,t56,t57,t58,t59,t60,t61,t62,t63,t64,t65,t66,t67,t68,t69,t70,t71,t72,t73,t74,t75,t76,t77,t78,t79,t80,t81,t82,t83,t84,t85,t86,t87,t88,t89,t90,t91,t92,t93,t94,t95,t96,t97,t98,t99,t100,t101,t102,t103,t104,t105,t106,t107,t108,t109,t110,t111,t112,t113,t114,t115,t116,t117,t118,t119,t120,t121,t122,t123,t124,t125,t126,t127,t128,t129,t130,t131,t132,t133,t134,t135,t136,t137,t138,t139,t140,t141,t142,t143,t144,t145,t146,t147,t148,t149,t150,t151,t152,t153,t154,t155,t156,t157,t158,t159,t160,t161,t162,t163,t164,t165,t166,t167,t168,t169,t170,t171,t172,t173,t174,t175,t176,t177,t178,t179,t180,t181,t182,t183,t184,t185,t186,t187,t188,t189,t190,t191,t192,t193,t194,t195,t196,t197,t198,t199,t200,t201,t202,t203,t204,t205,t206,t207,t208,t209,t210,t211,t212,t213,t214,t215,t216,t217,t218,t219,t220,t221,t222,t223,t224,t225,t226,t227,t228,t229,t230,t231,t232,t233,t234,t235,t236,t237,t238],defers:=ds} w:=by
 have hsz:dsNO.size=14:=by kernel_rfl
 generalize hT:List.toArray _=T0
 have hs:T0.size=239:=by subst hT;rfl
 have g0:T0.getD 0 undef = .pointer (some ⟨f,0,none⟩):=by subst hT;rfl
 have g1:T0.getD 1 undef = .pointer (some ⟨g,0,none⟩):=by subst hT;rfl
 have g5:T0.getD 5 undef = .pointer (some ⟨b,0,none⟩):=by subst hT;rfl
 obtain⟨W,hV⟩:∃W:List ((Nat×(Value→Value)) ⊕ Value),W=[.inr (.pointer (some ⟨f,0,none⟩)),.inr (.pointer (some ⟨b,2,none⟩)),.inr (.int .i64 A),.inr (.pointer (some ⟨b,4,none⟩)),.inr (.string ⟨s.toArray⟩),.inr (.int .i64 r),.inr (.pointer (some ⟨g,0,none⟩)),.inr (.pointer (some ⟨b,2,none⟩)),.inr (.int .i64 A),.inr (.pointer (some ⟨b,4,none⟩)),.inr (.string ⟨s.toArray⟩),.inr (.int .i64 q),.inr (.bool (r == q)),.inr (.bool (r == q))]:=⟨_,rfl⟩
 refine wp_plan (by kernel_rfl) T0 ds [5,11] dsN_m (mkV W) (fun dx yx wx=>PW (dx 5) (dx 11)  wx) w (by rw [hs];kernel_rfl) (by kernel_rfl) (by kernel_rfl) (by rw [hsz];decide) (fun cx hc ix hne ha yx vx=>mkV_fix (by rw [hV];kernel_rfl) hne ha yx vx) (?key) (fun cx hc ox ho dx yx Tx wx hd hdb hda hK hW=>?_) ⟨fun k=>undef,w0⟩ (fun dx yx wx hd hW=>?_)
 case key=>
  rw [hsz]
  refine all_step (all_step (all_step (all_step (all_step (all_step (all_step (all_step (all_step (all_step (all_step (all_step (all_step (all_step all_zero ?_) ?_) ?_) ?_) ?_) ?_) ?_) ?_) ?_) ?_) ?_) ?_) ?_) ?_
  all_goals
   intro ox ho hic dx yx Tx wx hdb hK hW
   replace hdb:=Lib.hid hdb
  ·exact pl0 215 0 23 ho hK g0 fun ps af e=>k_mv e
  ·exact pl0 216 5 0 ho hK g5 fun ps af e=>k_fa33_2 e
  ·exact pl1 217 216 1 3 ho hK fun ps af e=>k_ld3 (hA _ _ _ hW) e
  ·exact pl0 218 5 0 ho hK g5 fun ps af e=>k_fa33_4 e
  ·exact pl1 219 218 3 9 ho hK fun ps af e=>k_ld9 (hS _ _ _ hW) e
  ·exact absurd (by decide) hic
  ·exact pl0 221 1 26 ho hK g1 fun ps af e=>k_mv e
  ·exact pl0 222 5 0 ho hK g5 fun ps af e=>k_fa33_2 e
  ·exact pl1 223 222 7 3 ho hK fun ps af e=>k_ld3 (hA _ _ _ hW) e
  ·exact pl0 224 5 0 ho hK g5 fun ps af e=>k_fa33_4 e
  ·exact pl1 225 224 9 9 ho hK fun ps af e=>k_ld9 (hS _ _ _ hW) e
  ·exact absurd (by decide) hic
  ·obtain⟨ps,af,rfl⟩:=core (some 227) (.binOp BinOp.eql 48 (.tmp 220) (.tmp 226) 48) 4 none ho
   have e220:Tx.getD 220 undef = .int .i64 r:=hK.is 5 ho
   have e226:Tx.getD 226 undef = .int .i64 q:=hK.is 11 ho
   exact wpOp_plain ho rfl (by subst hV;go_simp;try rfl)
  ·exact pl1 6 227 12 4 ho hK fun ps af e=>k_as e
 ·have hcase:cx=5∨cx=11:=by simpa using hc
  rcases hcase with rfl | rfl
  ·obtain⟨ps,af,rfl⟩:=core (some 220) (.call {callee:= .value (.func 48),args:=#[.tmp 215,.tmp 217,.tmp 219],argTypes:=#[23,3,9]}) 48 none ho
   have e215:Tx.getD 215 undef = .pointer (some ⟨f,0,none⟩):=hK.is 0 ho
   have e217:Tx.getD 217 undef = .int .i64 A:=hK.is 2 ho
   have e219:Tx.getD 219 undef = .string ⟨s.toArray⟩:=hK.is 4 ho
   have hW1:PW (dx 5) (dx 11)  wx:=hW
   have f11:=hq hda 11
   clear hdb hda
   rw [hd,f11.out] at hW1
   clear hd hW hc
   refine wpOp_plain ho rfl ?_
   go_simp
   go_at_call 48
   refine(cl5 _ hW1).mono ?_
   rintro ex w2 ⟨rfl,hW2⟩
   subst hV
   first | refine⟨undef,rfl,?_⟩ | refine⟨⟨undef,rfl⟩,?_⟩
   simpa [updB,upd,f11.out] using hW2
  ·obtain⟨ps,af,rfl⟩:=core (some 226) (.call {callee:= .value (.func 49),args:=#[.tmp 221,.tmp 223,.tmp 225],argTypes:=#[26,3,9]}) 48 none ho
   have e221:Tx.getD 221 undef = .pointer (some ⟨g,0,none⟩):=hK.is 6 ho
   have e223:Tx.getD 223 undef = .int .i64 A:=hK.is 8 ho
   have e225:Tx.getD 225 undef = .string ⟨s.toArray⟩:=hK.is 10 ho
   have hW1:PW (dx 5) (dx 11)  wx:=hW
   have f5:=hq hdb 5
   clear hdb hda
   rw [hd,f5.out] at hW1
   clear hd hW hc
   refine wpOp_plain ho rfl ?_
   go_simp
   go_at_call 49
   refine(cl11 _ hW1).mono ?_
   rintro ex w2 ⟨rfl,hW2⟩
   subst hV
   first | refine⟨undef,rfl,?_⟩ | refine⟨⟨undef,rfl⟩,?_⟩
   simpa [updB,upd,f5.out] using hW2
 ·have hW1:PW (dx 5) (dx 11)  wx:=hW
  rw [hd 5 (by decide),hd 11 (by decide)] at hW1
  have hQ:=h _ hW1
  rw [hsz]
  subst hV hT
  refine cast (congrArg (fun Tx=>Q .normal ⟨Tx,ds⟩ wx) ?_) hQ
  kernel_rfl
noncomputable def dsPO:Array Oper:=(Tryz.f15.body.bind fun c=>findR c 34).getD #[]
def dsP_m:List (List Nat):=[[],[],[],[],[],[],[],[3],[3,7],[3,7]]
set_option maxHeartbeats 16000000 in
theorem dsP (PW:Bool→Bool→World→Prop)(f g b:Nat)(A:Int)(r q:Int)(w:World)  (hA:∀(b3 b7:Bool) (w:World),PW b3 b7  w→w.cell? ⟨b,2,none⟩=some (.int .i64 A))(cl3:∀(w:World),PW false false w→Calls Tryz.prog 31 #[.pointer (some ⟨f,0,none⟩),.int .i64 A] w fun e w1=>e = .returned (.int .i64 r)∧PW true false  w1)(cl7:∀(w:World),PW true false w→Calls Tryz.prog 50 #[.pointer (some ⟨g,0,none⟩),.int .i64 A] w fun e w1=>e = .returned (.int .i64 q)∧PW true true  w1){t2 t3 t4 t6 t7 t8 t9 t10 t11 t12 t13 t14 t15 t16 t17 t18 t19 t20 t21 t22 t23 t24 t25 t26 t27 t28 t29 t30 t31 t32 t33 t34 t35 t36 t37 t38 t39 t40 t41 t42 t43 t44 t45 t46 t47 t48 t49 t50 t51 t52 t53 t54 t55 t56 t57 t58 t59 t60 t61 t62 t63 t64 t65 t66 t67 t68 t69 t70 t71 t72 t73 t74 t75 t76 t77 t78 t79 t80 t81 t82 t83 t84 t85 t86 t87 t88 t89 t90 t91 t92 t93 t94 t95 t96 t97 t98 t99 t100 t101 t102 t103 t104 t105 t106 t107 t108 t109 t110 t111 t112 t113 t114 t115 t116 t117 t118 t119 t120 t121 t122 t123 t124 t125 t126 t127 t128 t129 t130 t131 t132 t133 t134 t135 t136 t137 t138 t139 t140 t141 t142 t143 t144 t145 t146 t147 t148 t149 t150 t151 t152 t153 t154 t155 t156 t157 t158 t159 t160 t161 t162 t163 t164 t165 t166 t167 t168 t169 t170 t171 t172 t173 t174 t175 t176 t177 t178 t179 t180 t181 t182 t183 t184 t185 t186 t187 t188 t189 t190 t191 t192 t193 t194 t195 t196 t197 t198 t199 t200 t201 t202 t203 t204 t205 t206 t207 t208 t209 t210 t211 t212 t213 t214 t215 t216 t217 t218 t219 t220 t221 t222 t223 t224 t225 t226 t227 t228 t229 t230 t231 t232 t233 t234 t235 t236 t237 t238:Value}(w0:PW false false  w.drew){ds:List Deferred}{Q:Exit→Act→World→Prop}
  (h:∀(w1:World),PW true true  w1→Q .normal {tmps:=#[.pointer (some ⟨f,0,none⟩),.pointer (some ⟨g,0,none⟩),t2,t3,t4,.pointer (some ⟨b,0,none⟩),.bool (r == q),t7,t8,t9,t10,t11,t12,t13,t14,t15,t16,t17,t18,t19,t20,t21,t22,t23,t24,t25,t26,t27,t28,t29,t30,t31,t32,t33,t34,t35,t36,t37,t38,t39,t40,t41,t42,t43,t44,t45,t46,t47,t48,t49,t50,t51,t52,t53,t54,t55,t56,t57,t58,t59,t60,t61,t62,t63,t64,t65,t66,t67,t68,t69,t70,t71,t72,t73,t74,t75,t76,t77,t78,t79,t80,t81,t82,t83,t84,t85,t86,t87,t88,t89,t90,t91,t92,t93,t94,t95,t96,t97,t98,t99,t100,t101,t102,t103,t104,t105,t106,t107,t108,t109,t110,t111,t112,t113,t114,t115,t116,t117,t118,t119,t120,t121,t122,t123,t124,t125,t126,t127,t128,t129,t130,t131,t132,t133,t134,t135,t136,t137,t138,t139,t140,t141,t142,t143,t144,t145,t146,t147,t148,t149,t150,t151,t152,t153,t154,t155,t156,t157,t158,t159,t160,t161,t162,t163,t164,t165,t166,t167,t168,t169,t170,t171,t172,t173,t174,t175,t176,t177,t178,t179,t180,t181,t182,t183,t184,t185,t186,t187,t188,t189,t190,t191,t192,t193,t194,t195,t196,t197,t198,t199,t200,t201,t202,t203,t204,t205,t206,t207,t208,t209,t210,t211,t212,t213,t214,t215,t216,t217,t218,t219,t220,t221,t222,t223,t224,t225,t226,t227,t228,t229,.pointer (some ⟨f,0,none⟩),.pointer (some ⟨b,2,none⟩),.int .i64 A,.int .i64 r,.pointer (some ⟨g,0,none⟩),.pointer (some ⟨b,2,none⟩),.int .i64 A,.int .i64 q,.bool (r == q)],defers:=ds} w1) :
  (Code.region 34 dsPO true).wp Tryz.prog Q {tmps:=#[.pointer (some ⟨f,0,none⟩),.pointer (some ⟨g,0,none⟩),t2,t3,t4,.pointer (some ⟨b,0,none⟩),t6,t7,t8,t9,t10,t11,t12,t13,t14,t15,t16,t17,t18,t19,t20,t21,t22,t23,t24,t25,t26,t27,t28,t29,t30,t31,t32,t33,t34,t35,t36,t37,t38,t39,t40,t41,t42,t43,t44,t45,t46,t47,t48,t49,t50,t51,t52,t53,t54,t55,t56,t57,t58,t59,t60,t61,t62,t63,t64,t65,t66,t67,t68,t69,t70,t71,t72,t73,t74,t75,t76,t77,t78,t79,t80,t81,t82,t83,t84,t85,t86,t87,t88,t89,t90,t91,t92,t93,t94,t95,t96,t97,t98,t99,t100,t101,t102,t103,t104,t105,t106,t107,t108,t109,t110,t111,t112,t113,t114,t115,t116,t117,t118,t119,t120,t121,t122,t123,t124,t125,t126,t127,t128,t129,t130,t131,t132,t133,t134,t135,t136,t137,t138,t139,t140,t141,t142,t143,t144,t145,t146,t147,t148,t149,t150,t151,t152,t153,t154,t155,t156,t157,t158,t159,t160,t161,t162,t163,t164,t165,t166,t167,t168,t169,t170,t171,t172,t173,t174,t175,t176,t177,t178,t179,t180,t181,t182,t183,t184,t185,t186,t187,t188,t189,t190,t191,t192,t193,t194,t195,t196,t197,t198,t199,t200,t201,t202,t203,t204,t205,t206,t207,t208,t209,t210,t211,t212,t213,t214,t215,t216,t217,t218,t219,t220,t221,t222,t223,t224,t225,t226,t227,t228,t229,t230,t231,t232,t233,t234,t235,t236,t237,t238],defers:=ds} w:=by
 have hsz:dsPO.size=10:=by kernel_rfl
 generalize hT:List.toArray _=T0
 have hs:T0.size=239:=by subst hT;rfl
 have g0:T0.getD 0 undef = .pointer (some ⟨f,0,none⟩):=by subst hT;rfl
 have g1:T0.getD 1 undef = .pointer (some ⟨g,0,none⟩):=by subst hT;rfl
 have g5:T0.getD 5 undef = .pointer (some ⟨b,0,none⟩):=by subst hT;rfl
 obtain⟨W,hV⟩:∃W:List ((Nat×(Value→Value)) ⊕ Value),W=[.inr (.pointer (some ⟨f,0,none⟩)),.inr (.pointer (some ⟨b,2,none⟩)),.inr (.int .i64 A),.inr (.int .i64 r),.inr (.pointer (some ⟨g,0,none⟩)),.inr (.pointer (some ⟨b,2,none⟩)),.inr (.int .i64 A),.inr (.int .i64 q),.inr (.bool (r == q)),.inr (.bool (r == q))]:=⟨_,rfl⟩
 refine wp_plan (by kernel_rfl) T0 ds [3,7] dsP_m (mkV W) (fun dx yx wx=>PW (dx 3) (dx 7)  wx) w (by rw [hs];kernel_rfl) (by kernel_rfl) (by kernel_rfl) (by rw [hsz];decide) (fun cx hc ix hne ha yx vx=>mkV_fix (by rw [hV];kernel_rfl) hne ha yx vx) (?key) (fun cx hc ox ho dx yx Tx wx hd hdb hda hK hW=>?_) ⟨fun k=>undef,w0⟩ (fun dx yx wx hd hW=>?_)
 case key=>
  rw [hsz]
  refine all_step (all_step (all_step (all_step (all_step (all_step (all_step (all_step (all_step (all_step all_zero ?_) ?_) ?_) ?_) ?_) ?_) ?_) ?_) ?_) ?_
  all_goals
   intro ox ho hic dx yx Tx wx hdb hK hW
   replace hdb:=Lib.hid hdb
  ·exact pl0 230 0 23 ho hK g0 fun ps af e=>k_mv e
  ·exact pl0 231 5 0 ho hK g5 fun ps af e=>k_fa33_2 e
  ·exact pl1 232 231 1 3 ho hK fun ps af e=>k_ld3 (hA _ _ _ hW) e
  ·exact absurd (by decide) hic
  ·exact pl0 234 1 26 ho hK g1 fun ps af e=>k_mv e
  ·exact pl0 235 5 0 ho hK g5 fun ps af e=>k_fa33_2 e
  ·exact pl1 236 235 5 3 ho hK fun ps af e=>k_ld3 (hA _ _ _ hW) e
  ·exact absurd (by decide) hic
  ·obtain⟨ps,af,rfl⟩:=core (some 238) (.binOp BinOp.eql 3 (.tmp 233) (.tmp 237) 3) 4 none ho
   have e233:Tx.getD 233 undef = .int .i64 r:=hK.is 3 ho
   have e237:Tx.getD 237 undef = .int .i64 q:=hK.is 7 ho
   exact wpOp_plain ho rfl (by subst hV;go_simp;try rfl)
  ·exact pl1 6 238 8 4 ho hK fun ps af e=>k_as e
 ·have hcase:cx=3∨cx=7:=by simpa using hc
  rcases hcase with rfl | rfl
  ·obtain⟨ps,af,rfl⟩:=core (some 233) (.call {callee:= .value (.func 31),args:=#[.tmp 230,.tmp 232],argTypes:=#[23,3]}) 3 none ho
   have e230:Tx.getD 230 undef = .pointer (some ⟨f,0,none⟩):=hK.is 0 ho
   have e232:Tx.getD 232 undef = .int .i64 A:=hK.is 2 ho
   have hW1:PW (dx 3) (dx 7)  wx:=hW
   have f7:=hq hda 7
   clear hdb hda
   rw [hd,f7.out] at hW1
   clear hd hW hc
   refine wpOp_plain ho rfl ?_
   go_simp
   go_at_call 31
   refine(cl3 _ hW1).mono ?_
   rintro ex w2 ⟨rfl,hW2⟩
   subst hV
   first | refine⟨undef,rfl,?_⟩ | refine⟨⟨undef,rfl⟩,?_⟩
   simpa [updB,upd,f7.out] using hW2
  ·obtain⟨ps,af,rfl⟩:=core (some 237) (.call {callee:= .value (.func 50),args:=#[.tmp 234,.tmp 236],argTypes:=#[26,3]}) 3 none ho
   have e234:Tx.getD 234 undef = .pointer (some ⟨g,0,none⟩):=hK.is 4 ho
   have e236:Tx.getD 236 undef = .int .i64 A:=hK.is 6 ho
   have hW1:PW (dx 3) (dx 7)  wx:=hW
   have f3:=hq hdb 3
   clear hdb hda
   rw [hd,f3.out] at hW1
   clear hd hW hc
   refine wpOp_plain ho rfl ?_
   go_simp
   go_at_call 50
   refine(cl7 _ hW1).mono ?_
   rintro ex w2 ⟨rfl,hW2⟩
   subst hV
   first | refine⟨undef,rfl,?_⟩ | refine⟨⟨undef,rfl⟩,?_⟩
   simpa [updB,upd,f3.out] using hW2
 ·have hW1:PW (dx 3) (dx 7)  wx:=hW
  rw [hd 3 (by decide),hd 7 (by decide)] at hW1
  have hQ:=h _ hW1
  rw [hsz]
  subst hV hT
  refine cast (congrArg (fun Tx=>Q .normal ⟨Tx,ds⟩ wx) ?_) hQ
  kernel_rfl
end Go.Proofs.YthogppennalobaaGreatDoor.Pl
