/- The drawn region of does where it asks. No condition. -/
import Derived.Test.YthogppennalobaaGreatDoorZg02
import Derived.Test.YthogppennalobaaGreatDoorZg08
import Derived.Test.YthogppennalobaaGreatDoorZg11
import Derived.Test.YthogppennalobaaGreatDoorZg19
set_option linter.unusedVariables false
set_option linter.unusedSimpArgs false
set_option maxRecDepth 100000
namespace Go.Proofs.YthogppennalobaaGreatDoor.Pl
open Go.RowKit Go.Sort
noncomputable def dsTO:Array Oper:=(Tryz.f15.body.bind fun c=>findR c 22).getD #[]
def dsT_m:List (List Nat):=[[],[],[],[],[],[],[],[],[],[],[],[],[11],[11],[11],[11],[11],[11,16],[11,16],[11,16],[11,16],[11,16],[11,16],[11,16],[11,16],[11,16],[11,16],[11,16],[11,16],[11,16],[11,16,24],[11,16,24,30],[11,16,24,30],[11,16,24,30],[11,16,24,30],[11,16,24,30],[11,16,24,30],[11,16,24,30],[11,16,24,30],[11,16,24,30],[11,16,24,30],[11,16,24,30,37],[11,16,24,30,37,41],[11,16,24,30,37,41,42],[11,16,24,30,37,41,42]]
set_option maxHeartbeats 16000000 in
theorem dsT (PW:Bool→Bool→Bool→Bool→Bool→Bool→Bool→Value→Value→World→Prop)(f g b q1 q2 q3 q4:Nat)(A B:Int)(c1 c2 c3 c4:Array Value)(ok is th ws lx ly nb:Bool)(w:World)  (hA:∀(b11 b16 b24 b30 b37 b41 b42:Bool) (y37 y41:Value) (w:World),PW b11 b16 b24 b30 b37 b41 b42 y37 y41 w→w.cell? ⟨b,2,none⟩=some (.int .i64 A))(hB:∀(b11 b16 b24 b30 b37 b41 b42:Bool) (y37 y41:Value) (w:World),PW b11 b16 b24 b30 b37 b41 b42 y37 y41 w→w.cell? ⟨b,3,none⟩=some (.int .i64 B))(cl11:∀(y37 y41:Value) (w:World),PW false false false false false false false y37 y41 w→Calls Tryz.prog 38 #[.agg c1,.agg c2] w fun e w1=>e = .returned (.bool true)∧PW true false false false false false false y37 y41 w1)(cl16:∀(y37 y41:Value) (w:World),PW true false false false false false false y37 y41 w→Calls Tryz.prog 38 #[.agg c3,.agg c4] w fun e w1=>e = .returned (.bool true)∧PW true true false false false false false y37 y41 w1)(cl24:∀(y37 y41:Value) (w:World),PW true true false false false false false y37 y41 w→Calls Tryz.prog 27 #[.pointer (some ⟨f,0,none⟩),.int .i64 A,.int .i64 B] w fun e w1=>e = .returned (.bool lx)∧PW true true true false false false false y37 y41 w1)(cl30:∀(y37 y41:Value) (w:World),PW true true true false false false false y37 y41 w→Calls Tryz.prog 39 #[.pointer (some ⟨g,0,none⟩),.int .i64 A,.int .i64 B] w fun e w1=>e = .returned (.bool ly)∧PW true true true true false false false y37 y41 w1)(cl37:∀(y37 y41:Value) (w:World),PW true true true true false false false y37 y41 w→Calls Tryz.prog 29 #[.pointer (some ⟨f,0,none⟩),.int .i64 A] w fun e w1=>∃v,e = .returned v∧PW true true true true true false false v y41 w1)(cl41:∀(y37 y41:Value) (w:World),PW true true true true true false false y37 y41 w→Calls Tryz.prog 41 #[.pointer (some ⟨g,0,none⟩),.int .i64 A] w fun e w1=>∃v,e = .returned v∧PW true true true true true true false y37 v w1)(cl42:∀(y37 y41:Value) (w:World),PW true true true true true true false y37 y41 w→Calls Tryz.prog 40 #[y37,y41] w fun e w1=>e = .returned (.bool nb)∧PW true true true true true true true y37 y41 w1)(lk1:∀(b11 b16 b24 b30 b37 b41 b42:Bool) (y37 y41:Value) (w:World),PW b11 b16 b24 b30 b37 b41 b42 y37 y41 w→Bk 31 w q1 c1)(lk2:∀(b11 b16 b24 b30 b37 b41 b42:Bool) (y37 y41:Value) (w:World),PW b11 b16 b24 b30 b37 b41 b42 y37 y41 w→Bk 31 w q2 c2)(lk3:∀(b11 b16 b24 b30 b37 b41 b42:Bool) (y37 y41:Value) (w:World),PW b11 b16 b24 b30 b37 b41 b42 y37 y41 w→Bk 31 w q3 c3)(lk4:∀(b11 b16 b24 b30 b37 b41 b42:Bool) (y37 y41:Value) (w:World),PW b11 b16 b24 b30 b37 b41 b42 y37 y41 w→Bk 31 w q4 c4)(hs1:c1.size=15)(hs2:c2.size=15)(hs3:c3.size=15)(hs4:c4.size=15)(ho:(ok == is)=true)(ht:(th == ws)=true)(hlv:(lx == ly)=true){t2 t3 t4 t6 t7 t8 t9 t10 t11 t12 t13 t22 t23 t24 t25 t26 t27 t28 t29 t30 t31 t32 t33 t34 t35 t36 t37 t38 t39 t40 t41 t42 t43 t44 t45 t46 t47 t48 t49 t50 t51 t52 t53 t54 t55 t56 t57 t58 t59 t60 t61 t62 t63 t64 t65 t66 t67 t68 t69 t70 t71 t72 t73 t74 t75 t76 t77 t78 t79 t80 t81 t82 t83 t84 t85 t86 t87 t88 t89 t90 t91 t92 t93 t94 t95 t96 t97 t98 t99 t100 t101 t102 t103 t104 t105 t106 t107 t108 t109 t110 t111 t112 t113 t114 t115 t116 t117 t118 t119 t120 t121 t122 t123 t124 t125 t126 t127 t128 t129 t130 t131 t132 t133 t134 t135 t136 t137 t138 t139 t140 t141 t142 t143 t144 t145 t146 t147 t148 t149 t150 t151 t152 t153 t154 t155 t156 t157 t158 t159 t160 t161 t162 t163 t164 t165 t166 t167 t168 t169 t170 t171 t172 t173 t174 t175 t176 t177 t178 t179 t180 t181 t182 t183 t184 t185 t186 t187 t188 t189 t190 t191 t192 t193 t194 t195 t196 t197 t198 t199 t200 t201 t202 t203 t204 t205 t206 t207 t208 t209 t210 t211 t212 t213 t214 t215 t216 t217 t218 t219 t220 t221 t222 t223 t224 t225 t226 t227 t228 t229 t230 t231 t232 t233 t234 t235 t236 t237 t238:Value}(w0:PW false false false false false false false t154 t158 w.drew){ds:List Deferred}{Q:Exit→Act→World→Prop}
  (h:∀(y37 y41:Value) (w1:World),PW true true true true true true true y37 y41 w1→Q .normal {tmps:=#[.pointer (some ⟨f,0,none⟩),.pointer (some ⟨g,0,none⟩),t2,t3,t4,.pointer (some ⟨b,0,none⟩),.bool nb,t7,t8,t9,t10,t11,t12,t13,.pointer (some ⟨q1,0,none⟩),.bool ok,.pointer (some ⟨q2,0,none⟩),.bool is,.pointer (some ⟨q3,0,none⟩),.bool th,.pointer (some ⟨q4,0,none⟩),.bool ws,t22,t23,t24,t25,t26,t27,t28,t29,t30,t31,t32,t33,t34,t35,t36,t37,t38,t39,t40,t41,t42,t43,t44,t45,t46,t47,t48,t49,t50,t51,t52,t53,t54,t55,t56,t57,t58,t59,t60,t61,t62,t63,t64,t65,t66,t67,t68,t69,t70,t71,t72,t73,t74,t75,t76,t77,t78,t79,t80,t81,t82,t83,t84,t85,t86,t87,t88,t89,t90,t91,t92,t93,t94,t95,t96,t97,t98,t99,t100,t101,t102,t103,t104,t105,t106,t107,t108,t109,t110,t111,t112,t113,t114,t115,t116,.bool ok,.bool is,.bool true,.bool true,.bool th,.bool ws,.bool true,.bool true,.bool true,.agg c1,.agg c2,.bool true,.bool true,.bool true,.agg c3,.agg c4,.bool true,.bool true,.bool true,.pointer (some ⟨f,0,none⟩),.pointer (some ⟨b,2,none⟩),.int .i64 A,.pointer (some ⟨b,3,none⟩),.int .i64 B,.bool lx,.pointer (some ⟨g,0,none⟩),.pointer (some ⟨b,2,none⟩),.int .i64 A,.pointer (some ⟨b,3,none⟩),.int .i64 B,.bool ly,.bool true,.bool true,.bool true,.pointer (some ⟨f,0,none⟩),.pointer (some ⟨b,2,none⟩),.int .i64 A,y37,.pointer (some ⟨g,0,none⟩),.pointer (some ⟨b,2,none⟩),.int .i64 A,y41,.bool nb,.bool nb,t161,t162,t163,t164,t165,t166,t167,t168,t169,t170,t171,t172,t173,t174,t175,t176,t177,t178,t179,t180,t181,t182,t183,t184,t185,t186,t187,t188,t189,t190,t191,t192,t193,t194,t195,t196,t197,t198,t199,t200,t201,t202,t203,t204,t205,t206,t207,t208,t209,t210,t211,t212,t213,t214,t215,t216,t217,t218,t219,t220,t221,t222,t223,t224,t225,t226,t227,t228,t229,t230,t231,t232,t233,t234,t235,t236,t237,t238],defers:=ds} w1) :
  (Code.region 22 dsTO true).wp Tryz.prog Q {tmps:=#[.pointer (some ⟨f,0,none⟩),.pointer (some ⟨g,0,none⟩),t2,t3,t4,.pointer (some ⟨b,0,none⟩),t6,t7,t8,t9,t10,t11,t12,t13,.pointer (some ⟨q1,0,none⟩),.bool ok,.pointer (some ⟨q2,0,none⟩),.bool is,.pointer (some ⟨q3,0,none⟩),.bool th,.pointer (some ⟨q4,0,none⟩),.bool ws,t22,t23,t24,t25,t26,t27,t28,t29,t30,t31,t32,t33,t34,t35,t36,t37,t38,t39,t40,t41,t42,t43,t44,t45,t46,t47,t48,t49,t50,t51,t52,t53,t54,t55,t56,t57,t58,t59,t60,t61,t62,t63,t64,t65,t66,t67,t68,t69,t70,t71,t72,t73,t74,t75,t76,t77,t78,t79,t80,t81,t82,t83,t84,t85,t86,t87,t88,t89,t90,t91,t92,t93,t94,t95,t96,t97,t98,t99,t100,t101,t102,t103,t104,t105,t106,t107,t108,t109,t110,t111,t112,t113,t114,t115,t116,t117,t118,t119,t120,t121,t122,t123,t124,t125,t126,t127,t128,t129,t130,t131,t132,t133,t134,t135,t136,t137,t138,t139,t140,t141,t142,t143,t144,t145,t146,t147,t148,t149,t150,t151,t152,t153,t154,t155,t156,t157,t158,t159,t160,t161,t162,t163,t164,t165,t166,t167,t168,t169,t170,t171,t172,t173,t174,t175,t176,t177,t178,t179,t180,t181,t182,t183,t184,t185,t186,t187,t188,t189,t190,t191,t192,t193,t194,t195,t196,t197,t198,t199,t200,t201,t202,t203,t204,t205,t206,t207,t208,t209,t210,t211,t212,t213,t214,t215,t216,t217,t218,t219,t220,t221,t222,t223,t224,t225,t226,t227,t228,t229,t230,t231,t232,t233,t234,t235,t236,t237,t238],defers:=ds} w:=by
 have hsz:dsTO.size=45:=by kernel_rfl
 generalize hT:List.toArray _=T0
 have hs:T0.size=239:=by subst hT;rfl
 have g0:T0.getD 0 undef = .pointer (some ⟨f,0,none⟩):=by subst hT;rfl
 have g1:T0.getD 1 undef = .pointer (some ⟨g,0,none⟩):=by subst hT;rfl
 have g5:T0.getD 5 undef = .pointer (some ⟨b,0,none⟩):=by subst hT;rfl
 have g14:T0.getD 14 undef = .pointer (some ⟨q1,0,none⟩):=by subst hT;rfl
 have g15:T0.getD 15 undef = .bool ok:=by subst hT;rfl
 have g16:T0.getD 16 undef = .pointer (some ⟨q2,0,none⟩):=by subst hT;rfl
 have g17:T0.getD 17 undef = .bool is:=by subst hT;rfl
 have g18:T0.getD 18 undef = .pointer (some ⟨q3,0,none⟩):=by subst hT;rfl
 have g19:T0.getD 19 undef = .bool th:=by subst hT;rfl
 have g20:T0.getD 20 undef = .pointer (some ⟨q4,0,none⟩):=by subst hT;rfl
 have g21:T0.getD 21 undef = .bool ws:=by subst hT;rfl
 obtain⟨W,hV⟩:∃W:List ((Nat×(Value→Value)) ⊕ Value),W=[.inr (.bool ok),.inr (.bool is),.inr (.bool true),.inr (.bool true),.inr (.bool th),.inr (.bool ws),.inr (.bool true),.inr (.bool true),.inr (.bool true),.inr (.agg c1),.inr (.agg c2),.inr (.bool true),.inr (.bool true),.inr (.bool true),.inr (.agg c3),.inr (.agg c4),.inr (.bool true),.inr (.bool true),.inr (.bool true),.inr (.pointer (some ⟨f,0,none⟩)),.inr (.pointer (some ⟨b,2,none⟩)),.inr (.int .i64 A),.inr (.pointer (some ⟨b,3,none⟩)),.inr (.int .i64 B),.inr (.bool lx),.inr (.pointer (some ⟨g,0,none⟩)),.inr (.pointer (some ⟨b,2,none⟩)),.inr (.int .i64 A),.inr (.pointer (some ⟨b,3,none⟩)),.inr (.int .i64 B),.inr (.bool ly),.inr (.bool true),.inr (.bool true),.inr (.bool true),.inr (.pointer (some ⟨f,0,none⟩)),.inr (.pointer (some ⟨b,2,none⟩)),.inr (.int .i64 A),.inl (37,id),.inr (.pointer (some ⟨g,0,none⟩)),.inr (.pointer (some ⟨b,2,none⟩)),.inr (.int .i64 A),.inl (41,id),.inr (.bool nb),.inr (.bool nb),.inr (.bool nb)]:=⟨_,rfl⟩
 refine wp_plan (by kernel_rfl) T0 ds [11,16,24,30,37,41,42] dsT_m (mkV W) (fun dx yx wx=>PW (dx 11) (dx 16) (dx 24) (dx 30) (dx 37) (dx 41) (dx 42) (yx 37) (yx 41) wx) w (by rw [hs];kernel_rfl) (by kernel_rfl) (by kernel_rfl) (by rw [hsz];decide) (fun cx hc ix hne ha yx vx=>mkV_fix (by rw [hV];kernel_rfl) hne ha yx vx) (?key) (fun cx hc ox ho dx yx Tx wx hd hdb hda hK hW=>?_) ⟨fun k=>if k=37 then t154 else if k=41 then t158 else undef,w0⟩ (fun dx yx wx hd hW=>?_)
 case key=>
  rw [hsz]
  refine all_step (all_step (all_step (all_step (all_step (all_step (all_step (all_step (all_step (all_step (all_step (all_step (all_step (all_step (all_step (all_step (all_step (all_step (all_step (all_step (all_step (all_step (all_step (all_step (all_step (all_step (all_step (all_step (all_step (all_step (all_step (all_step (all_step (all_step (all_step (all_step (all_step (all_step (all_step (all_step (all_step (all_step (all_step (all_step (all_step all_zero ?_) ?_) ?_) ?_) ?_) ?_) ?_) ?_) ?_) ?_) ?_) ?_) ?_) ?_) ?_) ?_) ?_) ?_) ?_) ?_) ?_) ?_) ?_) ?_) ?_) ?_) ?_) ?_) ?_) ?_) ?_) ?_) ?_) ?_) ?_) ?_) ?_) ?_) ?_) ?_) ?_) ?_) ?_) ?_) ?_
  all_goals
   intro ox ho hic dx yx Tx wx hdb hK hW
   replace hdb:=Lib.hid hdb
  ·exact pl0 117 15 4 ho hK g15 fun ps af e=>k_mv e
  ·exact pl0 118 17 4 ho hK g17 fun ps af e=>k_mv e
  ·obtain⟨ps,af,rfl⟩:=core (some 119) (.binOp BinOp.eql 4 (.tmp 117) (.tmp 118) 4) 4 none ho
   have e117:Tx.getD 117 undef = .bool ok:=hK.is 0 ho
   have e118:Tx.getD 118 undef = .bool is:=hK.is 1 ho
   exact wpOp_plain ho rfl (by subst hV;go_simp;try rfl)
  ·exact pl1 120 119 2 4 ho hK fun ps af e=>k_mv e
  ·exact pg0 3 120 true 121 19 4 ho hK g19 fun ps af e=>k_mv e
  ·exact pg0 3 120 true 122 21 4 ho hK g21 fun ps af e=>k_mv e
  ·obtain⟨ps,af,rfl⟩:=core (some 123) (.binOp BinOp.eql 4 (.tmp 121) (.tmp 122) 4) 4 (some (3,true)) ho
   have e121:Tx.getD 121 undef = .bool th:=hK.is 4 ho
   have e122:Tx.getD 122 undef = .bool ws:=hK.is 5 ho
   exact wpOp_want ho ((wanted_of (d:=120) (b:=true) rfl (by kernel_rfl) (hK.is 3 ho)).trans rfl) (by subst hV;go_simp;try rfl)
  ·obtain⟨ps,af,rfl⟩:=core (some 124) (.pick (.tmp 120) (.tmp 123) (.const (Value.bool false))) 4 none ho
   have e120:Tx.getD 120 undef = .bool true:=hK.is 3 ho
   have e123:Tx.getD 123 undef = .bool true:=hK.is 6 ho
   exact wpOp_plain ho rfl (by subst hV;go_simp;try rfl)
  ·exact pl1 125 124 7 4 ho hK fun ps af e=>k_mv e
  ·obtain⟨ps,af,rfl⟩:=core (some 126) (.load 31 (.tmp 14)) 31 (some (8,true)) ho
   have e14:Tx.getD 14 undef = .pointer (some ⟨q1,0,none⟩):=hK.of (by kernel_rfl) g14
   have hl:=lk1 _ _ _ _ _ _ _ _ _ _ hW
   exact wpOp_want ho ((wanted_of (d:=125) (b:=true) rfl (by kernel_rfl) (hK.is 8 ho)).trans rfl) (wp_load_row 31 _ rfl q1 (by first | exact e14 | rfl) 31 _ (0,0) _ hl Tryz.underlying31 rfl (by rw [hs1];exact i31) ⟨by subst hV;rfl,rfl⟩)
  ·obtain⟨ps,af,rfl⟩:=core (some 127) (.load 31 (.tmp 16)) 31 (some (8,true)) ho
   have e16:Tx.getD 16 undef = .pointer (some ⟨q2,0,none⟩):=hK.of (by kernel_rfl) g16
   have hl:=lk2 _ _ _ _ _ _ _ _ _ _ hW
   exact wpOp_want ho ((wanted_of (d:=125) (b:=true) rfl (by kernel_rfl) (hK.is 8 ho)).trans rfl) (wp_load_row 31 _ rfl q2 (by first | exact e16 | rfl) 31 _ (0,0) _ hl Tryz.underlying31 rfl (by rw [hs2];exact i31) ⟨by subst hV;rfl,rfl⟩)
  ·exact absurd (by decide) hic
  ·obtain⟨ps,af,rfl⟩:=core (some 129) (.pick (.tmp 125) (.tmp 128) (.const (Value.bool false))) 4 none ho
   have e125:Tx.getD 125 undef = .bool true:=hK.is 8 ho
   have e128:Tx.getD 128 undef = .bool true:=hK.is 11 ho
   exact wpOp_plain ho rfl (by subst hV;go_simp;try rfl)
  ·exact pl1 130 129 12 4 ho hK fun ps af e=>k_mv e
  ·obtain⟨ps,af,rfl⟩:=core (some 131) (.load 31 (.tmp 18)) 31 (some (13,true)) ho
   have e18:Tx.getD 18 undef = .pointer (some ⟨q3,0,none⟩):=hK.of (by kernel_rfl) g18
   have hl:=lk3 _ _ _ _ _ _ _ _ _ _ hW
   exact wpOp_want ho ((wanted_of (d:=130) (b:=true) rfl (by kernel_rfl) (hK.is 13 ho)).trans rfl) (wp_load_row 31 _ rfl q3 (by first | exact e18 | rfl) 31 _ (0,0) _ hl Tryz.underlying31 rfl (by rw [hs3];exact i31) ⟨by subst hV;rfl,rfl⟩)
  ·obtain⟨ps,af,rfl⟩:=core (some 132) (.load 31 (.tmp 20)) 31 (some (13,true)) ho
   have e20:Tx.getD 20 undef = .pointer (some ⟨q4,0,none⟩):=hK.of (by kernel_rfl) g20
   have hl:=lk4 _ _ _ _ _ _ _ _ _ _ hW
   exact wpOp_want ho ((wanted_of (d:=130) (b:=true) rfl (by kernel_rfl) (hK.is 13 ho)).trans rfl) (wp_load_row 31 _ rfl q4 (by first | exact e20 | rfl) 31 _ (0,0) _ hl Tryz.underlying31 rfl (by rw [hs4];exact i31) ⟨by subst hV;rfl,rfl⟩)
  ·exact absurd (by decide) hic
  ·obtain⟨ps,af,rfl⟩:=core (some 134) (.pick (.tmp 130) (.tmp 133) (.const (Value.bool false))) 4 none ho
   have e130:Tx.getD 130 undef = .bool true:=hK.is 13 ho
   have e133:Tx.getD 133 undef = .bool true:=hK.is 16 ho
   exact wpOp_plain ho rfl (by subst hV;go_simp;try rfl)
  ·exact pl1 135 134 17 4 ho hK fun ps af e=>k_mv e
  ·exact pg0 18 135 true 136 0 23 ho hK g0 fun ps af e=>k_mv e
  ·exact pg0 18 135 true 137 5 0 ho hK g5 fun ps af e=>k_fa33_2 e
  ·exact pg1 18 135 true 138 137 20 3 ho hK fun ps af e=>k_ld3 (hA _ _ _ _ _ _ _ _ _ _ hW) e
  ·exact pg0 18 135 true 139 5 0 ho hK g5 fun ps af e=>k_fa33_3 e
  ·exact pg1 18 135 true 140 139 22 3 ho hK fun ps af e=>k_ld3 (hB _ _ _ _ _ _ _ _ _ _ hW) e
  ·exact absurd (by decide) hic
  ·exact pg0 18 135 true 142 1 26 ho hK g1 fun ps af e=>k_mv e
  ·exact pg0 18 135 true 143 5 0 ho hK g5 fun ps af e=>k_fa33_2 e
  ·exact pg1 18 135 true 144 143 26 3 ho hK fun ps af e=>k_ld3 (hA _ _ _ _ _ _ _ _ _ _ hW) e
  ·exact pg0 18 135 true 145 5 0 ho hK g5 fun ps af e=>k_fa33_3 e
  ·exact pg1 18 135 true 146 145 28 3 ho hK fun ps af e=>k_ld3 (hB _ _ _ _ _ _ _ _ _ _ hW) e
  ·exact absurd (by decide) hic
  ·obtain⟨ps,af,rfl⟩:=core (some 148) (.binOp BinOp.eql 4 (.tmp 141) (.tmp 147) 4) 4 (some (18,true)) ho
   have e141:Tx.getD 141 undef = .bool lx:=hK.is 24 ho
   have e147:Tx.getD 147 undef = .bool ly:=hK.is 30 ho
   exact wpOp_want ho ((wanted_of (d:=135) (b:=true) rfl (by kernel_rfl) (hK.is 18 ho)).trans rfl) (by subst hV;go_simp;try rfl)
  ·obtain⟨ps,af,rfl⟩:=core (some 149) (.pick (.tmp 135) (.tmp 148) (.const (Value.bool false))) 4 none ho
   have e135:Tx.getD 135 undef = .bool true:=hK.is 18 ho
   have e148:Tx.getD 148 undef = .bool true:=hK.is 31 ho
   exact wpOp_plain ho rfl (by subst hV;go_simp;try rfl)
  ·exact pl1 150 149 32 4 ho hK fun ps af e=>k_mv e
  ·exact pg0 33 150 true 151 0 23 ho hK g0 fun ps af e=>k_mv e
  ·exact pg0 33 150 true 152 5 0 ho hK g5 fun ps af e=>k_fa33_2 e
  ·exact pg1 33 150 true 153 152 35 3 ho hK fun ps af e=>k_ld3 (hA _ _ _ _ _ _ _ _ _ _ hW) e
  ·exact absurd (by decide) hic
  ·exact pg0 33 150 true 155 1 26 ho hK g1 fun ps af e=>k_mv e
  ·exact pg0 33 150 true 156 5 0 ho hK g5 fun ps af e=>k_fa33_2 e
  ·exact pg1 33 150 true 157 156 39 3 ho hK fun ps af e=>k_ld3 (hA _ _ _ _ _ _ _ _ _ _ hW) e
  ·exact absurd (by decide) hic
  ·exact absurd (by decide) hic
  ·obtain⟨ps,af,rfl⟩:=core (some 160) (.pick (.tmp 150) (.tmp 159) (.const (Value.bool false))) 4 none ho
   have e150:Tx.getD 150 undef = .bool true:=hK.is 33 ho
   have e159:Tx.getD 159 undef = .bool nb:=hK.is 42 ho
   exact wpOp_plain ho rfl (by subst hV;go_simp;try rfl)
  ·exact pl1 6 160 43 4 ho hK fun ps af e=>k_as e
 ·have hcase:cx=11∨cx=16∨cx=24∨cx=30∨cx=37∨cx=41∨cx=42:=by simpa using hc
  rcases hcase with rfl | rfl | rfl | rfl | rfl | rfl | rfl
  ·obtain⟨ps,af,rfl⟩:=core (some 128) (.call {callee:= .value (.func 38),args:=#[.tmp 126,.tmp 127],argTypes:=#[31,31]}) 4 (some (8,true)) ho
   have e126:Tx.getD 126 undef = .agg c1:=hK.is 9 ho
   have e127:Tx.getD 127 undef = .agg c2:=hK.is 10 ho
   have hW1:PW (dx 11) (dx 16) (dx 24) (dx 30) (dx 37) (dx 41) (dx 42) (yx 37) (yx 41) wx:=hW
   have f16:=hq hda 16
   have f24:=hq hda 24
   have f30:=hq hda 30
   have f37:=hq hda 37
   have f41:=hq hda 41
   have f42:=hq hda 42
   clear hdb hda
   rw [hd,f16.out,f24.out,f30.out,f37.out,f41.out,f42.out] at hW1
   clear hd hW hc
   refine wpOp_want ho ((wanted_of (d:=125) (b:=true) rfl (by kernel_rfl) (hK.is 8 ho)).trans rfl) ?_
   go_simp
   go_at_call 38
   refine(cl11 _ _ _ hW1).mono ?_
   rintro ex w2 ⟨rfl,hW2⟩
   subst hV
   first | refine⟨undef,rfl,?_⟩ | refine⟨⟨undef,rfl⟩,?_⟩
   simpa [updB,upd,f16.out,f24.out,f30.out,f37.out,f41.out,f42.out] using hW2
  ·obtain⟨ps,af,rfl⟩:=core (some 133) (.call {callee:= .value (.func 38),args:=#[.tmp 131,.tmp 132],argTypes:=#[31,31]}) 4 (some (13,true)) ho
   have e131:Tx.getD 131 undef = .agg c3:=hK.is 14 ho
   have e132:Tx.getD 132 undef = .agg c4:=hK.is 15 ho
   have hW1:PW (dx 11) (dx 16) (dx 24) (dx 30) (dx 37) (dx 41) (dx 42) (yx 37) (yx 41) wx:=hW
   have f11:=hq hdb 11
   have f24:=hq hda 24
   have f30:=hq hda 30
   have f37:=hq hda 37
   have f41:=hq hda 41
   have f42:=hq hda 42
   clear hdb hda
   rw [hd,f11.out,f24.out,f30.out,f37.out,f41.out,f42.out] at hW1
   clear hd hW hc
   refine wpOp_want ho ((wanted_of (d:=130) (b:=true) rfl (by kernel_rfl) (hK.is 13 ho)).trans rfl) ?_
   go_simp
   go_at_call 38
   refine(cl16 _ _ _ hW1).mono ?_
   rintro ex w2 ⟨rfl,hW2⟩
   subst hV
   first | refine⟨undef,rfl,?_⟩ | refine⟨⟨undef,rfl⟩,?_⟩
   simpa [updB,upd,f11.out,f24.out,f30.out,f37.out,f41.out,f42.out] using hW2
  ·obtain⟨ps,af,rfl⟩:=core (some 141) (.call {callee:= .value (.func 27),args:=#[.tmp 136,.tmp 138,.tmp 140],argTypes:=#[23,3,3]}) 4 (some (18,true)) ho
   have e136:Tx.getD 136 undef = .pointer (some ⟨f,0,none⟩):=hK.is 19 ho
   have e138:Tx.getD 138 undef = .int .i64 A:=hK.is 21 ho
   have e140:Tx.getD 140 undef = .int .i64 B:=hK.is 23 ho
   have hW1:PW (dx 11) (dx 16) (dx 24) (dx 30) (dx 37) (dx 41) (dx 42) (yx 37) (yx 41) wx:=hW
   have f11:=hq hdb 11
   have f16:=hq hdb 16
   have f30:=hq hda 30
   have f37:=hq hda 37
   have f41:=hq hda 41
   have f42:=hq hda 42
   clear hdb hda
   rw [hd,f11.out,f16.out,f30.out,f37.out,f41.out,f42.out] at hW1
   clear hd hW hc
   refine wpOp_want ho ((wanted_of (d:=135) (b:=true) rfl (by kernel_rfl) (hK.is 18 ho)).trans rfl) ?_
   go_simp
   go_at_call 27
   refine(cl24 _ _ _ hW1).mono ?_
   rintro ex w2 ⟨rfl,hW2⟩
   subst hV
   first | refine⟨undef,rfl,?_⟩ | refine⟨⟨undef,rfl⟩,?_⟩
   simpa [updB,upd,f11.out,f16.out,f30.out,f37.out,f41.out,f42.out] using hW2
  ·obtain⟨ps,af,rfl⟩:=core (some 147) (.call {callee:= .value (.func 39),args:=#[.tmp 142,.tmp 144,.tmp 146],argTypes:=#[26,3,3]}) 4 (some (18,true)) ho
   have e142:Tx.getD 142 undef = .pointer (some ⟨g,0,none⟩):=hK.is 25 ho
   have e144:Tx.getD 144 undef = .int .i64 A:=hK.is 27 ho
   have e146:Tx.getD 146 undef = .int .i64 B:=hK.is 29 ho
   have hW1:PW (dx 11) (dx 16) (dx 24) (dx 30) (dx 37) (dx 41) (dx 42) (yx 37) (yx 41) wx:=hW
   have f11:=hq hdb 11
   have f16:=hq hdb 16
   have f24:=hq hdb 24
   have f37:=hq hda 37
   have f41:=hq hda 41
   have f42:=hq hda 42
   clear hdb hda
   rw [hd,f11.out,f16.out,f24.out,f37.out,f41.out,f42.out] at hW1
   clear hd hW hc
   refine wpOp_want ho ((wanted_of (d:=135) (b:=true) rfl (by kernel_rfl) (hK.is 18 ho)).trans rfl) ?_
   go_simp
   go_at_call 39
   refine(cl30 _ _ _ hW1).mono ?_
   rintro ex w2 ⟨rfl,hW2⟩
   subst hV
   first | refine⟨undef,rfl,?_⟩ | refine⟨⟨undef,rfl⟩,?_⟩
   simpa [updB,upd,f11.out,f16.out,f24.out,f37.out,f41.out,f42.out] using hW2
  ·obtain⟨ps,af,rfl⟩:=core (some 154) (.call {callee:= .value (.func 29),args:=#[.tmp 151,.tmp 153],argTypes:=#[23,3]}) 55 (some (33,true)) ho
   have e151:Tx.getD 151 undef = .pointer (some ⟨f,0,none⟩):=hK.is 34 ho
   have e153:Tx.getD 153 undef = .int .i64 A:=hK.is 36 ho
   have hW1:PW (dx 11) (dx 16) (dx 24) (dx 30) (dx 37) (dx 41) (dx 42) (yx 37) (yx 41) wx:=hW
   have f11:=hq hdb 11
   have f16:=hq hdb 16
   have f24:=hq hdb 24
   have f30:=hq hdb 30
   have f41:=hq hda 41
   have f42:=hq hda 42
   clear hdb hda
   rw [hd,f11.out,f16.out,f24.out,f30.out,f41.out,f42.out] at hW1
   clear hd hW hc
   refine wpOp_want ho ((wanted_of (d:=150) (b:=true) rfl (by kernel_rfl) (hK.is 33 ho)).trans rfl) ?_
   go_simp
   go_at_call 29
   refine(cl37 _ _ _ hW1).mono ?_
   rintro ex w2 ⟨vx,rfl,hW2⟩
   subst hV
   refine⟨vx,rfl,?_⟩
   simpa [updB,upd,f11.out,f16.out,f24.out,f30.out,f41.out,f42.out] using hW2
  ·obtain⟨ps,af,rfl⟩:=core (some 158) (.call {callee:= .value (.func 41),args:=#[.tmp 155,.tmp 157],argTypes:=#[26,3]}) 55 (some (33,true)) ho
   have e155:Tx.getD 155 undef = .pointer (some ⟨g,0,none⟩):=hK.is 38 ho
   have e157:Tx.getD 157 undef = .int .i64 A:=hK.is 40 ho
   have hW1:PW (dx 11) (dx 16) (dx 24) (dx 30) (dx 37) (dx 41) (dx 42) (yx 37) (yx 41) wx:=hW
   have f11:=hq hdb 11
   have f16:=hq hdb 16
   have f24:=hq hdb 24
   have f30:=hq hdb 30
   have f37:=hq hdb 37
   have f42:=hq hda 42
   clear hdb hda
   rw [hd,f11.out,f16.out,f24.out,f30.out,f37.out,f42.out] at hW1
   clear hd hW hc
   refine wpOp_want ho ((wanted_of (d:=150) (b:=true) rfl (by kernel_rfl) (hK.is 33 ho)).trans rfl) ?_
   go_simp
   go_at_call 41
   refine(cl41 _ _ _ hW1).mono ?_
   rintro ex w2 ⟨vx,rfl,hW2⟩
   subst hV
   refine⟨vx,rfl,?_⟩
   simpa [updB,upd,f11.out,f16.out,f24.out,f30.out,f37.out,f42.out] using hW2
  ·obtain⟨ps,af,rfl⟩:=core (some 159) (.call {callee:= .value (.func 40),args:=#[.tmp 154,.tmp 158],argTypes:=#[55,55]}) 4 (some (33,true)) ho
   have e154:Tx.getD 154 undef=yx 37:=hK.is 37 ho
   have e158:Tx.getD 158 undef=yx 41:=hK.is 41 ho
   have hW1:PW (dx 11) (dx 16) (dx 24) (dx 30) (dx 37) (dx 41) (dx 42) (yx 37) (yx 41) wx:=hW
   have f11:=hq hdb 11
   have f16:=hq hdb 16
   have f24:=hq hdb 24
   have f30:=hq hdb 30
   have f37:=hq hdb 37
   have f41:=hq hdb 41
   clear hdb hda
   rw [hd,f11.out,f16.out,f24.out,f30.out,f37.out,f41.out] at hW1
   clear hd hW hc
   refine wpOp_want ho ((wanted_of (d:=150) (b:=true) rfl (by kernel_rfl) (hK.is 33 ho)).trans rfl) ?_
   go_simp
   go_at_call 40
   refine(cl42 _ _ _ hW1).mono ?_
   rintro ex w2 ⟨rfl,hW2⟩
   subst hV
   first | refine⟨undef,rfl,?_⟩ | refine⟨⟨undef,rfl⟩,?_⟩
   simpa [updB,upd,f11.out,f16.out,f24.out,f30.out,f37.out,f41.out] using hW2
 ·have hW1:PW (dx 11) (dx 16) (dx 24) (dx 30) (dx 37) (dx 41) (dx 42) (yx 37) (yx 41) wx:=hW
  rw [hd 11 (by decide),hd 16 (by decide),hd 24 (by decide),hd 30 (by decide),hd 37 (by decide),hd 41 (by decide),hd 42 (by decide)] at hW1
  have hQ:=h _ _ _ hW1
  rw [hsz]
  subst hV hT
  refine cast (congrArg (fun Tx=>Q .normal ⟨Tx,ds⟩ wx) ?_) hQ
  kernel_rfl
noncomputable def dsU3O:Array Oper:=(Tryz.f15.body.bind fun c=>findR c 22).getD #[]
def dsU3_m:List (List Nat):=[[],[],[],[],[],[],[],[],[],[],[],[],[11],[11],[11],[11],[11],[11],[11],[11],[11],[11],[11],[11],[11],[11],[11],[11],[11],[11],[11],[11],[11],[11],[11],[11],[11],[11],[11],[11],[11],[11],[11],[11],[11]]
set_option maxHeartbeats 16000000 in
theorem dsU3 (PW:Bool→World→Prop)(f g b q1 q2 q3 q4:Nat)(A B:Int)(c1 c2 c3 c4:Array Value)(ok is th ws lx ly:Bool)(w:World)  (cl11:∀(w:World),PW false w→Calls Tryz.prog 38 #[.agg c1,.agg c2] w fun e w1=>e = .returned (.bool false)∧PW true  w1)(lk1:∀(b11:Bool) (w:World),PW b11 w→Bk 31 w q1 c1)(lk2:∀(b11:Bool) (w:World),PW b11 w→Bk 31 w q2 c2)(hs1:c1.size=15)(hs2:c2.size=15)(ho:(ok == is)=true)(ht:(th == ws)=true){t2 t3 t4 t6 t7 t8 t9 t10 t11 t12 t13 t22 t23 t24 t25 t26 t27 t28 t29 t30 t31 t32 t33 t34 t35 t36 t37 t38 t39 t40 t41 t42 t43 t44 t45 t46 t47 t48 t49 t50 t51 t52 t53 t54 t55 t56 t57 t58 t59 t60 t61 t62 t63 t64 t65 t66 t67 t68 t69 t70 t71 t72 t73 t74 t75 t76 t77 t78 t79 t80 t81 t82 t83 t84 t85 t86 t87 t88 t89 t90 t91 t92 t93 t94 t95 t96 t97 t98 t99 t100 t101 t102 t103 t104 t105 t106 t107 t108 t109 t110 t111 t112 t113 t114 t115 t116 t117 t118 t119 t120 t121 t122 t123 t124 t125 t126 t127 t128 t129 t130 t131 t132 t133 t134 t135 t136 t137 t138 t139 t140 t141 t142 t143 t144 t145 t146 t147 t148 t149 t150 t151 t152 t153 t154 t155 t156 t157 t158 t159 t160 t161 t162 t163 t164 t165 t166 t167 t168 t169 t170 t171 t172 t173 t174 t175 t176 t177 t178 t179 t180 t181 t182 t183 t184 t185 t186 t187 t188 t189 t190 t191 t192 t193 t194 t195 t196 t197 t198 t199 t200 t201 t202 t203 t204 t205 t206 t207 t208 t209 t210 t211 t212 t213 t214 t215 t216 t217 t218 t219 t220 t221 t222 t223 t224 t225 t226 t227 t228 t229 t230 t231 t232 t233 t234 t235 t236 t237 t238:Value}(w0:PW false  w.drew){ds:List Deferred}{Q:Exit→Act→World→Prop}
  (h:∀(w1:World),PW true  w1→Q .normal {tmps:=#[.pointer (some ⟨f,0,none⟩),.pointer (some ⟨g,0,none⟩),t2,t3,t4,.pointer (some ⟨b,0,none⟩),.bool false,t7,t8,t9,t10,t11,t12,t13,.pointer (some ⟨q1,0,none⟩),.bool ok,.pointer (some ⟨q2,0,none⟩),.bool is,.pointer (some ⟨q3,0,none⟩),.bool th,.pointer (some ⟨q4,0,none⟩),.bool ws,t22,t23,t24,t25,t26,t27,t28,t29,t30,t31,t32,t33,t34,t35,t36,t37,t38,t39,t40,t41,t42,t43,t44,t45,t46,t47,t48,t49,t50,t51,t52,t53,t54,t55,t56,t57,t58,t59,t60,t61,t62,t63,t64,t65,t66,t67,t68,t69,t70,t71,t72,t73,t74,t75,t76,t77,t78,t79,t80,t81,t82,t83,t84,t85,t86,t87,t88,t89,t90,t91,t92,t93,t94,t95,t96,t97,t98,t99,t100,t101,t102,t103,t104,t105,t106,t107,t108,t109,t110,t111,t112,t113,t114,t115,t116,.bool ok,.bool is,.bool true,.bool true,.bool th,.bool ws,.bool true,.bool true,.bool true,.agg c1,.agg c2,.bool false,.bool false,.bool false,undef,undef,undef,.bool false,.bool false,undef,undef,undef,undef,undef,undef,undef,undef,undef,undef,undef,undef,undef,.bool false,.bool false,undef,undef,undef,undef,undef,undef,undef,undef,undef,.bool false,t161,t162,t163,t164,t165,t166,t167,t168,t169,t170,t171,t172,t173,t174,t175,t176,t177,t178,t179,t180,t181,t182,t183,t184,t185,t186,t187,t188,t189,t190,t191,t192,t193,t194,t195,t196,t197,t198,t199,t200,t201,t202,t203,t204,t205,t206,t207,t208,t209,t210,t211,t212,t213,t214,t215,t216,t217,t218,t219,t220,t221,t222,t223,t224,t225,t226,t227,t228,t229,t230,t231,t232,t233,t234,t235,t236,t237,t238],defers:=ds} w1) :
  (Code.region 22 dsU3O true).wp Tryz.prog Q {tmps:=#[.pointer (some ⟨f,0,none⟩),.pointer (some ⟨g,0,none⟩),t2,t3,t4,.pointer (some ⟨b,0,none⟩),t6,t7,t8,t9,t10,t11,t12,t13,.pointer (some ⟨q1,0,none⟩),.bool ok,.pointer (some ⟨q2,0,none⟩),.bool is,.pointer (some ⟨q3,0,none⟩),.bool th,.pointer (some ⟨q4,0,none⟩),.bool ws,t22,t23,t24,t25,t26,t27,t28,t29,t30,t31,t32,t33,t34,t35,t36,t37,t38,t39,t40,t41,t42,t43,t44,t45,t46,t47,t48,t49,t50,t51,t52,t53,t54,t55,t56,t57,t58,t59,t60,t61,t62,t63,t64,t65,t66,t67,t68,t69,t70,t71,t72,t73,t74,t75,t76,t77,t78,t79,t80,t81,t82,t83,t84,t85,t86,t87,t88,t89,t90,t91,t92,t93,t94,t95,t96,t97,t98,t99,t100,t101,t102,t103,t104,t105,t106,t107,t108,t109,t110,t111,t112,t113,t114,t115,t116,t117,t118,t119,t120,t121,t122,t123,t124,t125,t126,t127,t128,t129,t130,t131,t132,t133,t134,t135,t136,t137,t138,t139,t140,t141,t142,t143,t144,t145,t146,t147,t148,t149,t150,t151,t152,t153,t154,t155,t156,t157,t158,t159,t160,t161,t162,t163,t164,t165,t166,t167,t168,t169,t170,t171,t172,t173,t174,t175,t176,t177,t178,t179,t180,t181,t182,t183,t184,t185,t186,t187,t188,t189,t190,t191,t192,t193,t194,t195,t196,t197,t198,t199,t200,t201,t202,t203,t204,t205,t206,t207,t208,t209,t210,t211,t212,t213,t214,t215,t216,t217,t218,t219,t220,t221,t222,t223,t224,t225,t226,t227,t228,t229,t230,t231,t232,t233,t234,t235,t236,t237,t238],defers:=ds} w:=by
 have hsz:dsU3O.size=45:=by kernel_rfl
 generalize hT:List.toArray _=T0
 have hs:T0.size=239:=by subst hT;rfl
 have g0:T0.getD 0 undef = .pointer (some ⟨f,0,none⟩):=by subst hT;rfl
 have g1:T0.getD 1 undef = .pointer (some ⟨g,0,none⟩):=by subst hT;rfl
 have g5:T0.getD 5 undef = .pointer (some ⟨b,0,none⟩):=by subst hT;rfl
 have g14:T0.getD 14 undef = .pointer (some ⟨q1,0,none⟩):=by subst hT;rfl
 have g15:T0.getD 15 undef = .bool ok:=by subst hT;rfl
 have g16:T0.getD 16 undef = .pointer (some ⟨q2,0,none⟩):=by subst hT;rfl
 have g17:T0.getD 17 undef = .bool is:=by subst hT;rfl
 have g18:T0.getD 18 undef = .pointer (some ⟨q3,0,none⟩):=by subst hT;rfl
 have g19:T0.getD 19 undef = .bool th:=by subst hT;rfl
 have g20:T0.getD 20 undef = .pointer (some ⟨q4,0,none⟩):=by subst hT;rfl
 have g21:T0.getD 21 undef = .bool ws:=by subst hT;rfl
 obtain⟨W,hV⟩:∃W:List ((Nat×(Value→Value)) ⊕ Value),W=[.inr (.bool ok),.inr (.bool is),.inr (.bool true),.inr (.bool true),.inr (.bool th),.inr (.bool ws),.inr (.bool true),.inr (.bool true),.inr (.bool true),.inr (.agg c1),.inr (.agg c2),.inr (.bool false),.inr (.bool false),.inr (.bool false),.inr undef,.inr undef,.inr undef,.inr (.bool false),.inr (.bool false),.inr undef,.inr undef,.inr undef,.inr undef,.inr undef,.inr undef,.inr undef,.inr undef,.inr undef,.inr undef,.inr undef,.inr undef,.inr undef,.inr (.bool false),.inr (.bool false),.inr undef,.inr undef,.inr undef,.inr undef,.inr undef,.inr undef,.inr undef,.inr undef,.inr undef,.inr (.bool false),.inr (.bool false)]:=⟨_,rfl⟩
 refine wp_plan (by kernel_rfl) T0 ds [11] dsU3_m (mkV W) (fun dx yx wx=>PW (dx 11)  wx) w (by rw [hs];kernel_rfl) (by kernel_rfl) (by kernel_rfl) (by rw [hsz];decide) (fun cx hc ix hne ha yx vx=>mkV_fix (by rw [hV];kernel_rfl) hne ha yx vx) (?key) (fun cx hc ox ho dx yx Tx wx hd hdb hda hK hW=>?_) ⟨fun k=>undef,w0⟩ (fun dx yx wx hd hW=>?_)
 case key=>
  rw [hsz]
  refine all_step (all_step (all_step (all_step (all_step (all_step (all_step (all_step (all_step (all_step (all_step (all_step (all_step (all_step (all_step (all_step (all_step (all_step (all_step (all_step (all_step (all_step (all_step (all_step (all_step (all_step (all_step (all_step (all_step (all_step (all_step (all_step (all_step (all_step (all_step (all_step (all_step (all_step (all_step (all_step (all_step (all_step (all_step (all_step (all_step all_zero ?_) ?_) ?_) ?_) ?_) ?_) ?_) ?_) ?_) ?_) ?_) ?_) ?_) ?_) ?_) ?_) ?_) ?_) ?_) ?_) ?_) ?_) ?_) ?_) ?_) ?_) ?_) ?_) ?_) ?_) ?_) ?_) ?_) ?_) ?_) ?_) ?_) ?_) ?_) ?_) ?_) ?_) ?_) ?_) ?_
  all_goals
   intro ox ho hic dx yx Tx wx hdb hK hW
   replace hdb:=Lib.hid hdb
  ·exact pl0 117 15 4 ho hK g15 fun ps af e=>k_mv e
  ·exact pl0 118 17 4 ho hK g17 fun ps af e=>k_mv e
  ·obtain⟨ps,af,rfl⟩:=core (some 119) (.binOp BinOp.eql 4 (.tmp 117) (.tmp 118) 4) 4 none ho
   have e117:Tx.getD 117 undef = .bool ok:=hK.is 0 ho
   have e118:Tx.getD 118 undef = .bool is:=hK.is 1 ho
   exact wpOp_plain ho rfl (by subst hV;go_simp;try rfl)
  ·exact pl1 120 119 2 4 ho hK fun ps af e=>k_mv e
  ·exact pg0 3 120 true 121 19 4 ho hK g19 fun ps af e=>k_mv e
  ·exact pg0 3 120 true 122 21 4 ho hK g21 fun ps af e=>k_mv e
  ·obtain⟨ps,af,rfl⟩:=core (some 123) (.binOp BinOp.eql 4 (.tmp 121) (.tmp 122) 4) 4 (some (3,true)) ho
   have e121:Tx.getD 121 undef = .bool th:=hK.is 4 ho
   have e122:Tx.getD 122 undef = .bool ws:=hK.is 5 ho
   exact wpOp_want ho ((wanted_of (d:=120) (b:=true) rfl (by kernel_rfl) (hK.is 3 ho)).trans rfl) (by subst hV;go_simp;try rfl)
  ·obtain⟨ps,af,rfl⟩:=core (some 124) (.pick (.tmp 120) (.tmp 123) (.const (Value.bool false))) 4 none ho
   have e120:Tx.getD 120 undef = .bool true:=hK.is 3 ho
   have e123:Tx.getD 123 undef = .bool true:=hK.is 6 ho
   exact wpOp_plain ho rfl (by subst hV;go_simp;try rfl)
  ·exact pl1 125 124 7 4 ho hK fun ps af e=>k_mv e
  ·obtain⟨ps,af,rfl⟩:=core (some 126) (.load 31 (.tmp 14)) 31 (some (8,true)) ho
   have e14:Tx.getD 14 undef = .pointer (some ⟨q1,0,none⟩):=hK.of (by kernel_rfl) g14
   have hl:=lk1 _ _ hW
   exact wpOp_want ho ((wanted_of (d:=125) (b:=true) rfl (by kernel_rfl) (hK.is 8 ho)).trans rfl) (wp_load_row 31 _ rfl q1 (by first | exact e14 | rfl) 31 _ (0,0) _ hl Tryz.underlying31 rfl (by rw [hs1];exact i31) ⟨by subst hV;rfl,rfl⟩)
  ·obtain⟨ps,af,rfl⟩:=core (some 127) (.load 31 (.tmp 16)) 31 (some (8,true)) ho
   have e16:Tx.getD 16 undef = .pointer (some ⟨q2,0,none⟩):=hK.of (by kernel_rfl) g16
   have hl:=lk2 _ _ hW
   exact wpOp_want ho ((wanted_of (d:=125) (b:=true) rfl (by kernel_rfl) (hK.is 8 ho)).trans rfl) (wp_load_row 31 _ rfl q2 (by first | exact e16 | rfl) 31 _ (0,0) _ hl Tryz.underlying31 rfl (by rw [hs2];exact i31) ⟨by subst hV;rfl,rfl⟩)
  ·exact absurd (by decide) hic
  ·obtain⟨ps,af,rfl⟩:=core (some 129) (.pick (.tmp 125) (.tmp 128) (.const (Value.bool false))) 4 none ho
   have e125:Tx.getD 125 undef = .bool true:=hK.is 8 ho
   have e128:Tx.getD 128 undef = .bool false:=hK.is 11 ho
   exact wpOp_plain ho rfl (by subst hV;go_simp;try rfl)
  ·exact pl1 130 129 12 4 ho hK fun ps af e=>k_mv e
  ·exact psk 13 130 false true ho hK
  ·exact psk 13 130 false true ho hK
  ·exact psk 13 130 false true ho hK
  ·obtain⟨ps,af,rfl⟩:=core (some 134) (.pick (.tmp 130) (.tmp 133) (.const (Value.bool false))) 4 none ho
   have e130:Tx.getD 130 undef = .bool false:=hK.is 13 ho
   have e133:Tx.getD 133 undef=undef:=hK.is 16 ho
   exact wpOp_plain ho rfl (by subst hV;go_simp;try rfl)
  ·exact pl1 135 134 17 4 ho hK fun ps af e=>k_mv e
  ·exact psk 18 135 false true ho hK
  ·exact psk 18 135 false true ho hK
  ·exact psk 18 135 false true ho hK
  ·exact psk 18 135 false true ho hK
  ·exact psk 18 135 false true ho hK
  ·exact psk 18 135 false true ho hK
  ·exact psk 18 135 false true ho hK
  ·exact psk 18 135 false true ho hK
  ·exact psk 18 135 false true ho hK
  ·exact psk 18 135 false true ho hK
  ·exact psk 18 135 false true ho hK
  ·exact psk 18 135 false true ho hK
  ·exact psk 18 135 false true ho hK
  ·obtain⟨ps,af,rfl⟩:=core (some 149) (.pick (.tmp 135) (.tmp 148) (.const (Value.bool false))) 4 none ho
   have e135:Tx.getD 135 undef = .bool false:=hK.is 18 ho
   have e148:Tx.getD 148 undef=undef:=hK.is 31 ho
   exact wpOp_plain ho rfl (by subst hV;go_simp;try rfl)
  ·exact pl1 150 149 32 4 ho hK fun ps af e=>k_mv e
  ·exact psk 33 150 false true ho hK
  ·exact psk 33 150 false true ho hK
  ·exact psk 33 150 false true ho hK
  ·exact psk 33 150 false true ho hK
  ·exact psk 33 150 false true ho hK
  ·exact psk 33 150 false true ho hK
  ·exact psk 33 150 false true ho hK
  ·exact psk 33 150 false true ho hK
  ·exact psk 33 150 false true ho hK
  ·obtain⟨ps,af,rfl⟩:=core (some 160) (.pick (.tmp 150) (.tmp 159) (.const (Value.bool false))) 4 none ho
   have e150:Tx.getD 150 undef = .bool false:=hK.is 33 ho
   have e159:Tx.getD 159 undef=undef:=hK.is 42 ho
   exact wpOp_plain ho rfl (by subst hV;go_simp;try rfl)
  ·exact pl1 6 160 43 4 ho hK fun ps af e=>k_as e
 ·obtain rfl:cx=11:=by simpa using hc
  ·obtain⟨ps,af,rfl⟩:=core (some 128) (.call {callee:= .value (.func 38),args:=#[.tmp 126,.tmp 127],argTypes:=#[31,31]}) 4 (some (8,true)) ho
   have e126:Tx.getD 126 undef = .agg c1:=hK.is 9 ho
   have e127:Tx.getD 127 undef = .agg c2:=hK.is 10 ho
   have hW1:PW (dx 11)  wx:=hW
   clear hdb hda
   rw [hd] at hW1
   clear hd hW hc
   refine wpOp_want ho ((wanted_of (d:=125) (b:=true) rfl (by kernel_rfl) (hK.is 8 ho)).trans rfl) ?_
   go_simp
   go_at_call 38
   refine(cl11 _ hW1).mono ?_
   rintro ex w2 ⟨rfl,hW2⟩
   subst hV
   first | refine⟨undef,rfl,?_⟩ | refine⟨⟨undef,rfl⟩,?_⟩
   simpa [updB,upd] using hW2
 ·have hW1:PW (dx 11)  wx:=hW
  rw [hd 11 (by decide)] at hW1
  have hQ:=h _ hW1
  rw [hsz]
  subst hV hT
  refine cast (congrArg (fun Tx=>Q .normal ⟨Tx,ds⟩ wx) ?_) hQ
  kernel_rfl
noncomputable def dsU4O:Array Oper:=(Tryz.f15.body.bind fun c=>findR c 22).getD #[]
def dsU4_m:List (List Nat):=[[],[],[],[],[],[],[],[],[],[],[],[],[11],[11],[11],[11],[11],[11,16],[11,16],[11,16],[11,16],[11,16],[11,16],[11,16],[11,16],[11,16],[11,16],[11,16],[11,16],[11,16],[11,16],[11,16],[11,16],[11,16],[11,16],[11,16],[11,16],[11,16],[11,16],[11,16],[11,16],[11,16],[11,16],[11,16],[11,16]]
set_option maxHeartbeats 16000000 in
theorem dsU4 (PW:Bool→Bool→World→Prop)(f g b q1 q2 q3 q4:Nat)(A B:Int)(c1 c2 c3 c4:Array Value)(ok is th ws lx ly:Bool)(w:World)  (cl11:∀(w:World),PW false false w→Calls Tryz.prog 38 #[.agg c1,.agg c2] w fun e w1=>e = .returned (.bool true)∧PW true false  w1)(cl16:∀(w:World),PW true false w→Calls Tryz.prog 38 #[.agg c3,.agg c4] w fun e w1=>e = .returned (.bool false)∧PW true true  w1)(lk1:∀(b11 b16:Bool) (w:World),PW b11 b16 w→Bk 31 w q1 c1)(lk2:∀(b11 b16:Bool) (w:World),PW b11 b16 w→Bk 31 w q2 c2)(lk3:∀(b11 b16:Bool) (w:World),PW b11 b16 w→Bk 31 w q3 c3)(lk4:∀(b11 b16:Bool) (w:World),PW b11 b16 w→Bk 31 w q4 c4)(hs1:c1.size=15)(hs2:c2.size=15)(hs3:c3.size=15)(hs4:c4.size=15)(ho:(ok == is)=true)(ht:(th == ws)=true){t2 t3 t4 t6 t7 t8 t9 t10 t11 t12 t13 t22 t23 t24 t25 t26 t27 t28 t29 t30 t31 t32 t33 t34 t35 t36 t37 t38 t39 t40 t41 t42 t43 t44 t45 t46 t47 t48 t49 t50 t51 t52 t53 t54 t55 t56 t57 t58 t59 t60 t61 t62 t63 t64 t65 t66 t67 t68 t69 t70 t71 t72 t73 t74 t75 t76 t77 t78 t79 t80 t81 t82 t83 t84 t85 t86 t87 t88 t89 t90 t91 t92 t93 t94 t95 t96 t97 t98 t99 t100 t101 t102 t103 t104 t105 t106 t107 t108 t109 t110 t111 t112 t113 t114 t115 t116 t117 t118 t119 t120 t121 t122 t123 t124 t125 t126 t127 t128 t129 t130 t131 t132 t133 t134 t135 t136 t137 t138 t139 t140 t141 t142 t143 t144 t145 t146 t147 t148 t149 t150 t151 t152 t153 t154 t155 t156 t157 t158 t159 t160 t161 t162 t163 t164 t165 t166 t167 t168 t169 t170 t171 t172 t173 t174 t175 t176 t177 t178 t179 t180 t181 t182 t183 t184 t185 t186 t187 t188 t189 t190 t191 t192 t193 t194 t195 t196 t197 t198 t199 t200 t201 t202 t203 t204 t205 t206 t207 t208 t209 t210 t211 t212 t213 t214 t215 t216 t217 t218 t219 t220 t221 t222 t223 t224 t225 t226 t227 t228 t229 t230 t231 t232 t233 t234 t235 t236 t237 t238:Value}(w0:PW false false  w.drew){ds:List Deferred}{Q:Exit→Act→World→Prop}
  (h:∀(w1:World),PW true true  w1→Q .normal {tmps:=#[.pointer (some ⟨f,0,none⟩),.pointer (some ⟨g,0,none⟩),t2,t3,t4,.pointer (some ⟨b,0,none⟩),.bool false,t7,t8,t9,t10,t11,t12,t13,.pointer (some ⟨q1,0,none⟩),.bool ok,.pointer (some ⟨q2,0,none⟩),.bool is,.pointer (some ⟨q3,0,none⟩),.bool th,.pointer (some ⟨q4,0,none⟩),.bool ws,t22,t23,t24,t25,t26,t27,t28,t29,t30,t31,t32,t33,t34,t35,t36,t37,t38,t39,t40,t41,t42,t43,t44,t45,t46,t47,t48,t49,t50,t51,t52,t53,t54,t55,t56,t57,t58,t59,t60,t61,t62,t63,t64,t65,t66,t67,t68,t69,t70,t71,t72,t73,t74,t75,t76,t77,t78,t79,t80,t81,t82,t83,t84,t85,t86,t87,t88,t89,t90,t91,t92,t93,t94,t95,t96,t97,t98,t99,t100,t101,t102,t103,t104,t105,t106,t107,t108,t109,t110,t111,t112,t113,t114,t115,t116,.bool ok,.bool is,.bool true,.bool true,.bool th,.bool ws,.bool true,.bool true,.bool true,.agg c1,.agg c2,.bool true,.bool true,.bool true,.agg c3,.agg c4,.bool false,.bool false,.bool false,undef,undef,undef,undef,undef,undef,undef,undef,undef,undef,undef,undef,undef,.bool false,.bool false,undef,undef,undef,undef,undef,undef,undef,undef,undef,.bool false,t161,t162,t163,t164,t165,t166,t167,t168,t169,t170,t171,t172,t173,t174,t175,t176,t177,t178,t179,t180,t181,t182,t183,t184,t185,t186,t187,t188,t189,t190,t191,t192,t193,t194,t195,t196,t197,t198,t199,t200,t201,t202,t203,t204,t205,t206,t207,t208,t209,t210,t211,t212,t213,t214,t215,t216,t217,t218,t219,t220,t221,t222,t223,t224,t225,t226,t227,t228,t229,t230,t231,t232,t233,t234,t235,t236,t237,t238],defers:=ds} w1) :
  (Code.region 22 dsU4O true).wp Tryz.prog Q {tmps:=#[.pointer (some ⟨f,0,none⟩),.pointer (some ⟨g,0,none⟩),t2,t3,t4,.pointer (some ⟨b,0,none⟩),t6,t7,t8,t9,t10,t11,t12,t13,.pointer (some ⟨q1,0,none⟩),.bool ok,.pointer (some ⟨q2,0,none⟩),.bool is,.pointer (some ⟨q3,0,none⟩),.bool th,.pointer (some ⟨q4,0,none⟩),.bool ws,t22,t23,t24,t25,t26,t27,t28,t29,t30,t31,t32,t33,t34,t35,t36,t37,t38,t39,t40,t41,t42,t43,t44,t45,t46,t47,t48,t49,t50,t51,t52,t53,t54,t55,t56,t57,t58,t59,t60,t61,t62,t63,t64,t65,t66,t67,t68,t69,t70,t71,t72,t73,t74,t75,t76,t77,t78,t79,t80,t81,t82,t83,t84,t85,t86,t87,t88,t89,t90,t91,t92,t93,t94,t95,t96,t97,t98,t99,t100,t101,t102,t103,t104,t105,t106,t107,t108,t109,t110,t111,t112,t113,t114,t115,t116,t117,t118,t119,t120,t121,t122,t123,t124,t125,t126,t127,t128,t129,t130,t131,t132,t133,t134,t135,t136,t137,t138,t139,t140,t141,t142,t143,t144,t145,t146,t147,t148,t149,t150,t151,t152,t153,t154,t155,t156,t157,t158,t159,t160,t161,t162,t163,t164,t165,t166,t167,t168,t169,t170,t171,t172,t173,t174,t175,t176,t177,t178,t179,t180,t181,t182,t183,t184,t185,t186,t187,t188,t189,t190,t191,t192,t193,t194,t195,t196,t197,t198,t199,t200,t201,t202,t203,t204,t205,t206,t207,t208,t209,t210,t211,t212,t213,t214,t215,t216,t217,t218,t219,t220,t221,t222,t223,t224,t225,t226,t227,t228,t229,t230,t231,t232,t233,t234,t235,t236,t237,t238],defers:=ds} w:=by
 have hsz:dsU4O.size=45:=by kernel_rfl
 generalize hT:List.toArray _=T0
 have hs:T0.size=239:=by subst hT;rfl
 have g0:T0.getD 0 undef = .pointer (some ⟨f,0,none⟩):=by subst hT;rfl
 have g1:T0.getD 1 undef = .pointer (some ⟨g,0,none⟩):=by subst hT;rfl
 have g5:T0.getD 5 undef = .pointer (some ⟨b,0,none⟩):=by subst hT;rfl
 have g14:T0.getD 14 undef = .pointer (some ⟨q1,0,none⟩):=by subst hT;rfl
 have g15:T0.getD 15 undef = .bool ok:=by subst hT;rfl
 have g16:T0.getD 16 undef = .pointer (some ⟨q2,0,none⟩):=by subst hT;rfl
 have g17:T0.getD 17 undef = .bool is:=by subst hT;rfl
 have g18:T0.getD 18 undef = .pointer (some ⟨q3,0,none⟩):=by subst hT;rfl
 have g19:T0.getD 19 undef = .bool th:=by subst hT;rfl
 have g20:T0.getD 20 undef = .pointer (some ⟨q4,0,none⟩):=by subst hT;rfl
 have g21:T0.getD 21 undef = .bool ws:=by subst hT;rfl
 obtain⟨W,hV⟩:∃W:List ((Nat×(Value→Value)) ⊕ Value),W=[.inr (.bool ok),.inr (.bool is),.inr (.bool true),.inr (.bool true),.inr (.bool th),.inr (.bool ws),.inr (.bool true),.inr (.bool true),.inr (.bool true),.inr (.agg c1),.inr (.agg c2),.inr (.bool true),.inr (.bool true),.inr (.bool true),.inr (.agg c3),.inr (.agg c4),.inr (.bool false),.inr (.bool false),.inr (.bool false),.inr undef,.inr undef,.inr undef,.inr undef,.inr undef,.inr undef,.inr undef,.inr undef,.inr undef,.inr undef,.inr undef,.inr undef,.inr undef,.inr (.bool false),.inr (.bool false),.inr undef,.inr undef,.inr undef,.inr undef,.inr undef,.inr undef,.inr undef,.inr undef,.inr undef,.inr (.bool false),.inr (.bool false)]:=⟨_,rfl⟩
 refine wp_plan (by kernel_rfl) T0 ds [11,16] dsU4_m (mkV W) (fun dx yx wx=>PW (dx 11) (dx 16)  wx) w (by rw [hs];kernel_rfl) (by kernel_rfl) (by kernel_rfl) (by rw [hsz];decide) (fun cx hc ix hne ha yx vx=>mkV_fix (by rw [hV];kernel_rfl) hne ha yx vx) (?key) (fun cx hc ox ho dx yx Tx wx hd hdb hda hK hW=>?_) ⟨fun k=>undef,w0⟩ (fun dx yx wx hd hW=>?_)
 case key=>
  rw [hsz]
  refine all_step (all_step (all_step (all_step (all_step (all_step (all_step (all_step (all_step (all_step (all_step (all_step (all_step (all_step (all_step (all_step (all_step (all_step (all_step (all_step (all_step (all_step (all_step (all_step (all_step (all_step (all_step (all_step (all_step (all_step (all_step (all_step (all_step (all_step (all_step (all_step (all_step (all_step (all_step (all_step (all_step (all_step (all_step (all_step (all_step all_zero ?_) ?_) ?_) ?_) ?_) ?_) ?_) ?_) ?_) ?_) ?_) ?_) ?_) ?_) ?_) ?_) ?_) ?_) ?_) ?_) ?_) ?_) ?_) ?_) ?_) ?_) ?_) ?_) ?_) ?_) ?_) ?_) ?_) ?_) ?_) ?_) ?_) ?_) ?_) ?_) ?_) ?_) ?_) ?_) ?_
  all_goals
   intro ox ho hic dx yx Tx wx hdb hK hW
   replace hdb:=Lib.hid hdb
  ·exact pl0 117 15 4 ho hK g15 fun ps af e=>k_mv e
  ·exact pl0 118 17 4 ho hK g17 fun ps af e=>k_mv e
  ·obtain⟨ps,af,rfl⟩:=core (some 119) (.binOp BinOp.eql 4 (.tmp 117) (.tmp 118) 4) 4 none ho
   have e117:Tx.getD 117 undef = .bool ok:=hK.is 0 ho
   have e118:Tx.getD 118 undef = .bool is:=hK.is 1 ho
   exact wpOp_plain ho rfl (by subst hV;go_simp;try rfl)
  ·exact pl1 120 119 2 4 ho hK fun ps af e=>k_mv e
  ·exact pg0 3 120 true 121 19 4 ho hK g19 fun ps af e=>k_mv e
  ·exact pg0 3 120 true 122 21 4 ho hK g21 fun ps af e=>k_mv e
  ·obtain⟨ps,af,rfl⟩:=core (some 123) (.binOp BinOp.eql 4 (.tmp 121) (.tmp 122) 4) 4 (some (3,true)) ho
   have e121:Tx.getD 121 undef = .bool th:=hK.is 4 ho
   have e122:Tx.getD 122 undef = .bool ws:=hK.is 5 ho
   exact wpOp_want ho ((wanted_of (d:=120) (b:=true) rfl (by kernel_rfl) (hK.is 3 ho)).trans rfl) (by subst hV;go_simp;try rfl)
  ·obtain⟨ps,af,rfl⟩:=core (some 124) (.pick (.tmp 120) (.tmp 123) (.const (Value.bool false))) 4 none ho
   have e120:Tx.getD 120 undef = .bool true:=hK.is 3 ho
   have e123:Tx.getD 123 undef = .bool true:=hK.is 6 ho
   exact wpOp_plain ho rfl (by subst hV;go_simp;try rfl)
  ·exact pl1 125 124 7 4 ho hK fun ps af e=>k_mv e
  ·obtain⟨ps,af,rfl⟩:=core (some 126) (.load 31 (.tmp 14)) 31 (some (8,true)) ho
   have e14:Tx.getD 14 undef = .pointer (some ⟨q1,0,none⟩):=hK.of (by kernel_rfl) g14
   have hl:=lk1 _ _ _ hW
   exact wpOp_want ho ((wanted_of (d:=125) (b:=true) rfl (by kernel_rfl) (hK.is 8 ho)).trans rfl) (wp_load_row 31 _ rfl q1 (by first | exact e14 | rfl) 31 _ (0,0) _ hl Tryz.underlying31 rfl (by rw [hs1];exact i31) ⟨by subst hV;rfl,rfl⟩)
  ·obtain⟨ps,af,rfl⟩:=core (some 127) (.load 31 (.tmp 16)) 31 (some (8,true)) ho
   have e16:Tx.getD 16 undef = .pointer (some ⟨q2,0,none⟩):=hK.of (by kernel_rfl) g16
   have hl:=lk2 _ _ _ hW
   exact wpOp_want ho ((wanted_of (d:=125) (b:=true) rfl (by kernel_rfl) (hK.is 8 ho)).trans rfl) (wp_load_row 31 _ rfl q2 (by first | exact e16 | rfl) 31 _ (0,0) _ hl Tryz.underlying31 rfl (by rw [hs2];exact i31) ⟨by subst hV;rfl,rfl⟩)
  ·exact absurd (by decide) hic
  ·obtain⟨ps,af,rfl⟩:=core (some 129) (.pick (.tmp 125) (.tmp 128) (.const (Value.bool false))) 4 none ho
   have e125:Tx.getD 125 undef = .bool true:=hK.is 8 ho
   have e128:Tx.getD 128 undef = .bool true:=hK.is 11 ho
   exact wpOp_plain ho rfl (by subst hV;go_simp;try rfl)
  ·exact pl1 130 129 12 4 ho hK fun ps af e=>k_mv e
  ·obtain⟨ps,af,rfl⟩:=core (some 131) (.load 31 (.tmp 18)) 31 (some (13,true)) ho
   have e18:Tx.getD 18 undef = .pointer (some ⟨q3,0,none⟩):=hK.of (by kernel_rfl) g18
   have hl:=lk3 _ _ _ hW
   exact wpOp_want ho ((wanted_of (d:=130) (b:=true) rfl (by kernel_rfl) (hK.is 13 ho)).trans rfl) (wp_load_row 31 _ rfl q3 (by first | exact e18 | rfl) 31 _ (0,0) _ hl Tryz.underlying31 rfl (by rw [hs3];exact i31) ⟨by subst hV;rfl,rfl⟩)
  ·obtain⟨ps,af,rfl⟩:=core (some 132) (.load 31 (.tmp 20)) 31 (some (13,true)) ho
   have e20:Tx.getD 20 undef = .pointer (some ⟨q4,0,none⟩):=hK.of (by kernel_rfl) g20
   have hl:=lk4 _ _ _ hW
   exact wpOp_want ho ((wanted_of (d:=130) (b:=true) rfl (by kernel_rfl) (hK.is 13 ho)).trans rfl) (wp_load_row 31 _ rfl q4 (by first | exact e20 | rfl) 31 _ (0,0) _ hl Tryz.underlying31 rfl (by rw [hs4];exact i31) ⟨by subst hV;rfl,rfl⟩)
  ·exact absurd (by decide) hic
  ·obtain⟨ps,af,rfl⟩:=core (some 134) (.pick (.tmp 130) (.tmp 133) (.const (Value.bool false))) 4 none ho
   have e130:Tx.getD 130 undef = .bool true:=hK.is 13 ho
   have e133:Tx.getD 133 undef = .bool false:=hK.is 16 ho
   exact wpOp_plain ho rfl (by subst hV;go_simp;try rfl)
  ·exact pl1 135 134 17 4 ho hK fun ps af e=>k_mv e
  ·exact psk 18 135 false true ho hK
  ·exact psk 18 135 false true ho hK
  ·exact psk 18 135 false true ho hK
  ·exact psk 18 135 false true ho hK
  ·exact psk 18 135 false true ho hK
  ·exact psk 18 135 false true ho hK
  ·exact psk 18 135 false true ho hK
  ·exact psk 18 135 false true ho hK
  ·exact psk 18 135 false true ho hK
  ·exact psk 18 135 false true ho hK
  ·exact psk 18 135 false true ho hK
  ·exact psk 18 135 false true ho hK
  ·exact psk 18 135 false true ho hK
  ·obtain⟨ps,af,rfl⟩:=core (some 149) (.pick (.tmp 135) (.tmp 148) (.const (Value.bool false))) 4 none ho
   have e135:Tx.getD 135 undef = .bool false:=hK.is 18 ho
   have e148:Tx.getD 148 undef=undef:=hK.is 31 ho
   exact wpOp_plain ho rfl (by subst hV;go_simp;try rfl)
  ·exact pl1 150 149 32 4 ho hK fun ps af e=>k_mv e
  ·exact psk 33 150 false true ho hK
  ·exact psk 33 150 false true ho hK
  ·exact psk 33 150 false true ho hK
  ·exact psk 33 150 false true ho hK
  ·exact psk 33 150 false true ho hK
  ·exact psk 33 150 false true ho hK
  ·exact psk 33 150 false true ho hK
  ·exact psk 33 150 false true ho hK
  ·exact psk 33 150 false true ho hK
  ·obtain⟨ps,af,rfl⟩:=core (some 160) (.pick (.tmp 150) (.tmp 159) (.const (Value.bool false))) 4 none ho
   have e150:Tx.getD 150 undef = .bool false:=hK.is 33 ho
   have e159:Tx.getD 159 undef=undef:=hK.is 42 ho
   exact wpOp_plain ho rfl (by subst hV;go_simp;try rfl)
  ·exact pl1 6 160 43 4 ho hK fun ps af e=>k_as e
 ·have hcase:cx=11∨cx=16:=by simpa using hc
  rcases hcase with rfl | rfl
  ·obtain⟨ps,af,rfl⟩:=core (some 128) (.call {callee:= .value (.func 38),args:=#[.tmp 126,.tmp 127],argTypes:=#[31,31]}) 4 (some (8,true)) ho
   have e126:Tx.getD 126 undef = .agg c1:=hK.is 9 ho
   have e127:Tx.getD 127 undef = .agg c2:=hK.is 10 ho
   have hW1:PW (dx 11) (dx 16)  wx:=hW
   have f16:=hq hda 16
   clear hdb hda
   rw [hd,f16.out] at hW1
   clear hd hW hc
   refine wpOp_want ho ((wanted_of (d:=125) (b:=true) rfl (by kernel_rfl) (hK.is 8 ho)).trans rfl) ?_
   go_simp
   go_at_call 38
   refine(cl11 _ hW1).mono ?_
   rintro ex w2 ⟨rfl,hW2⟩
   subst hV
   first | refine⟨undef,rfl,?_⟩ | refine⟨⟨undef,rfl⟩,?_⟩
   simpa [updB,upd,f16.out] using hW2
  ·obtain⟨ps,af,rfl⟩:=core (some 133) (.call {callee:= .value (.func 38),args:=#[.tmp 131,.tmp 132],argTypes:=#[31,31]}) 4 (some (13,true)) ho
   have e131:Tx.getD 131 undef = .agg c3:=hK.is 14 ho
   have e132:Tx.getD 132 undef = .agg c4:=hK.is 15 ho
   have hW1:PW (dx 11) (dx 16)  wx:=hW
   have f11:=hq hdb 11
   clear hdb hda
   rw [hd,f11.out] at hW1
   clear hd hW hc
   refine wpOp_want ho ((wanted_of (d:=130) (b:=true) rfl (by kernel_rfl) (hK.is 13 ho)).trans rfl) ?_
   go_simp
   go_at_call 38
   refine(cl16 _ hW1).mono ?_
   rintro ex w2 ⟨rfl,hW2⟩
   subst hV
   first | refine⟨undef,rfl,?_⟩ | refine⟨⟨undef,rfl⟩,?_⟩
   simpa [updB,upd,f11.out] using hW2
 ·have hW1:PW (dx 11) (dx 16)  wx:=hW
  rw [hd 11 (by decide),hd 16 (by decide)] at hW1
  have hQ:=h _ hW1
  rw [hsz]
  subst hV hT
  refine cast (congrArg (fun Tx=>Q .normal ⟨Tx,ds⟩ wx) ?_) hQ
  kernel_rfl
noncomputable def dsU5O:Array Oper:=(Tryz.f15.body.bind fun c=>findR c 22).getD #[]
def dsU5_m:List (List Nat):=[[],[],[],[],[],[],[],[],[],[],[],[],[11],[11],[11],[11],[11],[11,16],[11,16],[11,16],[11,16],[11,16],[11,16],[11,16],[11,16],[11,16],[11,16],[11,16],[11,16],[11,16],[11,16,24],[11,16,24,30],[11,16,24,30],[11,16,24,30],[11,16,24,30],[11,16,24,30],[11,16,24,30],[11,16,24,30],[11,16,24,30],[11,16,24,30],[11,16,24,30],[11,16,24,30],[11,16,24,30],[11,16,24,30],[11,16,24,30]]
set_option maxHeartbeats 16000000 in
theorem dsU5 (PW:Bool→Bool→Bool→Bool→World→Prop)(f g b q1 q2 q3 q4:Nat)(A B:Int)(c1 c2 c3 c4:Array Value)(ok is th ws lx ly:Bool)(w:World)  (hA:∀(b11 b16 b24 b30:Bool) (w:World),PW b11 b16 b24 b30  w→w.cell? ⟨b,2,none⟩=some (.int .i64 A))(hB:∀(b11 b16 b24 b30:Bool) (w:World),PW b11 b16 b24 b30  w→w.cell? ⟨b,3,none⟩=some (.int .i64 B))(cl11:∀(w:World),PW false false false false w→Calls Tryz.prog 38 #[.agg c1,.agg c2] w fun e w1=>e = .returned (.bool true)∧PW true false false false  w1)(cl16:∀(w:World),PW true false false false w→Calls Tryz.prog 38 #[.agg c3,.agg c4] w fun e w1=>e = .returned (.bool true)∧PW true true false false  w1)(cl24:∀(w:World),PW true true false false w→Calls Tryz.prog 27 #[.pointer (some ⟨f,0,none⟩),.int .i64 A,.int .i64 B] w fun e w1=>e = .returned (.bool lx)∧PW true true true false  w1)(cl30:∀(w:World),PW true true true false w→Calls Tryz.prog 39 #[.pointer (some ⟨g,0,none⟩),.int .i64 A,.int .i64 B] w fun e w1=>e = .returned (.bool ly)∧PW true true true true  w1)(lk1:∀(b11 b16 b24 b30:Bool) (w:World),PW b11 b16 b24 b30 w→Bk 31 w q1 c1)(lk2:∀(b11 b16 b24 b30:Bool) (w:World),PW b11 b16 b24 b30 w→Bk 31 w q2 c2)(lk3:∀(b11 b16 b24 b30:Bool) (w:World),PW b11 b16 b24 b30 w→Bk 31 w q3 c3)(lk4:∀(b11 b16 b24 b30:Bool) (w:World),PW b11 b16 b24 b30 w→Bk 31 w q4 c4)(hs1:c1.size=15)(hs2:c2.size=15)(hs3:c3.size=15)(hs4:c4.size=15)(ho:(ok == is)=true)(ht:(th == ws)=true)(hlv:(lx == ly)=false){t2 t3 t4 t6 t7 t8 t9 t10 t11 t12 t13 t22 t23 t24 t25 t26 t27 t28 t29 t30 t31 t32 t33 t34 t35 t36 t37 t38 t39 t40 t41 t42 t43 t44 t45 t46 t47 t48 t49 t50 t51 t52 t53 t54 t55 t56 t57 t58 t59 t60 t61 t62 t63 t64 t65 t66 t67 t68 t69 t70 t71 t72 t73 t74 t75 t76 t77 t78 t79 t80 t81 t82 t83 t84 t85 t86 t87 t88 t89 t90 t91 t92 t93 t94 t95 t96 t97 t98 t99 t100 t101 t102 t103 t104 t105 t106 t107 t108 t109 t110 t111 t112 t113 t114 t115 t116 t117 t118 t119 t120 t121 t122 t123 t124 t125 t126 t127 t128 t129 t130 t131 t132 t133 t134 t135 t136 t137 t138 t139 t140 t141 t142 t143 t144 t145 t146 t147 t148 t149 t150 t151 t152 t153 t154 t155 t156 t157 t158 t159 t160 t161 t162 t163 t164 t165 t166 t167 t168 t169 t170 t171 t172 t173 t174 t175 t176 t177 t178 t179 t180 t181 t182 t183 t184 t185 t186 t187 t188 t189 t190 t191 t192 t193 t194 t195 t196 t197 t198 t199 t200 t201 t202 t203 t204 t205 t206 t207 t208 t209 t210 t211 t212 t213 t214 t215 t216 t217 t218 t219 t220 t221 t222 t223 t224 t225 t226 t227 t228 t229 t230 t231 t232 t233 t234 t235 t236 t237 t238:Value}(w0:PW false false false false  w.drew){ds:List Deferred}{Q:Exit→Act→World→Prop}
  (h:∀(w1:World),PW true true true true  w1→Q .normal {tmps:=#[.pointer (some ⟨f,0,none⟩),.pointer (some ⟨g,0,none⟩),t2,t3,t4,.pointer (some ⟨b,0,none⟩),.bool false,t7,t8,t9,t10,t11,t12,t13,.pointer (some ⟨q1,0,none⟩),.bool ok,.pointer (some ⟨q2,0,none⟩),.bool is,.pointer (some ⟨q3,0,none⟩),.bool th,.pointer (some ⟨q4,0,none⟩),.bool ws,t22,t23,t24,t25,t26,t27,t28,t29,t30,t31,t32,t33,t34,t35,t36,t37,t38,t39,t40,t41,t42,t43,t44,t45,t46,t47,t48,t49,t50,t51,t52,t53,t54,t55,t56,t57,t58,t59,t60,t61,t62,t63,t64,t65,t66,t67,t68,t69,t70,t71,t72,t73,t74,t75,t76,t77,t78,t79,t80,t81,t82,t83,t84,t85,t86,t87,t88,t89,t90,t91,t92,t93,t94,t95,t96,t97,t98,t99,t100,t101,t102,t103,t104,t105,t106,t107,t108,t109,t110,t111,t112,t113,t114,t115,t116,.bool ok,.bool is,.bool true,.bool true,.bool th,.bool ws,.bool true,.bool true,.bool true,.agg c1,.agg c2,.bool true,.bool true,.bool true,.agg c3,.agg c4,.bool true,.bool true,.bool true,.pointer (some ⟨f,0,none⟩),.pointer (some ⟨b,2,none⟩),.int .i64 A,.pointer (some ⟨b,3,none⟩),.int .i64 B,.bool lx,.pointer (some ⟨g,0,none⟩),.pointer (some ⟨b,2,none⟩),.int .i64 A,.pointer (some ⟨b,3,none⟩),.int .i64 B,.bool ly,.bool false,.bool false,.bool false,undef,undef,undef,undef,undef,undef,undef,undef,undef,.bool false,t161,t162,t163,t164,t165,t166,t167,t168,t169,t170,t171,t172,t173,t174,t175,t176,t177,t178,t179,t180,t181,t182,t183,t184,t185,t186,t187,t188,t189,t190,t191,t192,t193,t194,t195,t196,t197,t198,t199,t200,t201,t202,t203,t204,t205,t206,t207,t208,t209,t210,t211,t212,t213,t214,t215,t216,t217,t218,t219,t220,t221,t222,t223,t224,t225,t226,t227,t228,t229,t230,t231,t232,t233,t234,t235,t236,t237,t238],defers:=ds} w1) :
  (Code.region 22 dsU5O true).wp Tryz.prog Q {tmps:=#[.pointer (some ⟨f,0,none⟩),.pointer (some ⟨g,0,none⟩),t2,t3,t4,.pointer (some ⟨b,0,none⟩),t6,t7,t8,t9,t10,t11,t12,t13,.pointer (some ⟨q1,0,none⟩),.bool ok,.pointer (some ⟨q2,0,none⟩),.bool is,.pointer (some ⟨q3,0,none⟩),.bool th,.pointer (some ⟨q4,0,none⟩),.bool ws,t22,t23,t24,t25,t26,t27,t28,t29,t30,t31,t32,t33,t34,t35,t36,t37,t38,t39,t40,t41,t42,t43,t44,t45,t46,t47,t48,t49,t50,t51,t52,t53,t54,t55,t56,t57,t58,t59,t60,t61,t62,t63,t64,t65,t66,t67,t68,t69,t70,t71,t72,t73,t74,t75,t76,t77,t78,t79,t80,t81,t82,t83,t84,t85,t86,t87,t88,t89,t90,t91,t92,t93,t94,t95,t96,t97,t98,t99,t100,t101,t102,t103,t104,t105,t106,t107,t108,t109,t110,t111,t112,t113,t114,t115,t116,t117,t118,t119,t120,t121,t122,t123,t124,t125,t126,t127,t128,t129,t130,t131,t132,t133,t134,t135,t136,t137,t138,t139,t140,t141,t142,t143,t144,t145,t146,t147,t148,t149,t150,t151,t152,t153,t154,t155,t156,t157,t158,t159,t160,t161,t162,t163,t164,t165,t166,t167,t168,t169,t170,t171,t172,t173,t174,t175,t176,t177,t178,t179,t180,t181,t182,t183,t184,t185,t186,t187,t188,t189,t190,t191,t192,t193,t194,t195,t196,t197,t198,t199,t200,t201,t202,t203,t204,t205,t206,t207,t208,t209,t210,t211,t212,t213,t214,t215,t216,t217,t218,t219,t220,t221,t222,t223,t224,t225,t226,t227,t228,t229,t230,t231,t232,t233,t234,t235,t236,t237,t238],defers:=ds} w:=by
 have hsz:dsU5O.size=45:=by kernel_rfl
 generalize hT:List.toArray _=T0
 have hs:T0.size=239:=by subst hT;rfl
 have g0:T0.getD 0 undef = .pointer (some ⟨f,0,none⟩):=by subst hT;rfl
 have g1:T0.getD 1 undef = .pointer (some ⟨g,0,none⟩):=by subst hT;rfl
 have g5:T0.getD 5 undef = .pointer (some ⟨b,0,none⟩):=by subst hT;rfl
 have g14:T0.getD 14 undef = .pointer (some ⟨q1,0,none⟩):=by subst hT;rfl
 have g15:T0.getD 15 undef = .bool ok:=by subst hT;rfl
 have g16:T0.getD 16 undef = .pointer (some ⟨q2,0,none⟩):=by subst hT;rfl
 have g17:T0.getD 17 undef = .bool is:=by subst hT;rfl
 have g18:T0.getD 18 undef = .pointer (some ⟨q3,0,none⟩):=by subst hT;rfl
 have g19:T0.getD 19 undef = .bool th:=by subst hT;rfl
 have g20:T0.getD 20 undef = .pointer (some ⟨q4,0,none⟩):=by subst hT;rfl
 have g21:T0.getD 21 undef = .bool ws:=by subst hT;rfl
 obtain⟨W,hV⟩:∃W:List ((Nat×(Value→Value)) ⊕ Value),W=[.inr (.bool ok),.inr (.bool is),.inr (.bool true),.inr (.bool true),.inr (.bool th),.inr (.bool ws),.inr (.bool true),.inr (.bool true),.inr (.bool true),.inr (.agg c1),.inr (.agg c2),.inr (.bool true),.inr (.bool true),.inr (.bool true),.inr (.agg c3),.inr (.agg c4),.inr (.bool true),.inr (.bool true),.inr (.bool true),.inr (.pointer (some ⟨f,0,none⟩)),.inr (.pointer (some ⟨b,2,none⟩)),.inr (.int .i64 A),.inr (.pointer (some ⟨b,3,none⟩)),.inr (.int .i64 B),.inr (.bool lx),.inr (.pointer (some ⟨g,0,none⟩)),.inr (.pointer (some ⟨b,2,none⟩)),.inr (.int .i64 A),.inr (.pointer (some ⟨b,3,none⟩)),.inr (.int .i64 B),.inr (.bool ly),.inr (.bool false),.inr (.bool false),.inr (.bool false),.inr undef,.inr undef,.inr undef,.inr undef,.inr undef,.inr undef,.inr undef,.inr undef,.inr undef,.inr (.bool false),.inr (.bool false)]:=⟨_,rfl⟩
 refine wp_plan (by kernel_rfl) T0 ds [11,16,24,30] dsU5_m (mkV W) (fun dx yx wx=>PW (dx 11) (dx 16) (dx 24) (dx 30)  wx) w (by rw [hs];kernel_rfl) (by kernel_rfl) (by kernel_rfl) (by rw [hsz];decide) (fun cx hc ix hne ha yx vx=>mkV_fix (by rw [hV];kernel_rfl) hne ha yx vx) (?key) (fun cx hc ox ho dx yx Tx wx hd hdb hda hK hW=>?_) ⟨fun k=>undef,w0⟩ (fun dx yx wx hd hW=>?_)
 case key=>
  rw [hsz]
  refine all_step (all_step (all_step (all_step (all_step (all_step (all_step (all_step (all_step (all_step (all_step (all_step (all_step (all_step (all_step (all_step (all_step (all_step (all_step (all_step (all_step (all_step (all_step (all_step (all_step (all_step (all_step (all_step (all_step (all_step (all_step (all_step (all_step (all_step (all_step (all_step (all_step (all_step (all_step (all_step (all_step (all_step (all_step (all_step (all_step all_zero ?_) ?_) ?_) ?_) ?_) ?_) ?_) ?_) ?_) ?_) ?_) ?_) ?_) ?_) ?_) ?_) ?_) ?_) ?_) ?_) ?_) ?_) ?_) ?_) ?_) ?_) ?_) ?_) ?_) ?_) ?_) ?_) ?_) ?_) ?_) ?_) ?_) ?_) ?_) ?_) ?_) ?_) ?_) ?_) ?_
  all_goals
   intro ox ho hic dx yx Tx wx hdb hK hW
   replace hdb:=Lib.hid hdb
  ·exact pl0 117 15 4 ho hK g15 fun ps af e=>k_mv e
  ·exact pl0 118 17 4 ho hK g17 fun ps af e=>k_mv e
  ·obtain⟨ps,af,rfl⟩:=core (some 119) (.binOp BinOp.eql 4 (.tmp 117) (.tmp 118) 4) 4 none ho
   have e117:Tx.getD 117 undef = .bool ok:=hK.is 0 ho
   have e118:Tx.getD 118 undef = .bool is:=hK.is 1 ho
   exact wpOp_plain ho rfl (by subst hV;go_simp;try rfl)
  ·exact pl1 120 119 2 4 ho hK fun ps af e=>k_mv e
  ·exact pg0 3 120 true 121 19 4 ho hK g19 fun ps af e=>k_mv e
  ·exact pg0 3 120 true 122 21 4 ho hK g21 fun ps af e=>k_mv e
  ·obtain⟨ps,af,rfl⟩:=core (some 123) (.binOp BinOp.eql 4 (.tmp 121) (.tmp 122) 4) 4 (some (3,true)) ho
   have e121:Tx.getD 121 undef = .bool th:=hK.is 4 ho
   have e122:Tx.getD 122 undef = .bool ws:=hK.is 5 ho
   exact wpOp_want ho ((wanted_of (d:=120) (b:=true) rfl (by kernel_rfl) (hK.is 3 ho)).trans rfl) (by subst hV;go_simp;try rfl)
  ·obtain⟨ps,af,rfl⟩:=core (some 124) (.pick (.tmp 120) (.tmp 123) (.const (Value.bool false))) 4 none ho
   have e120:Tx.getD 120 undef = .bool true:=hK.is 3 ho
   have e123:Tx.getD 123 undef = .bool true:=hK.is 6 ho
   exact wpOp_plain ho rfl (by subst hV;go_simp;try rfl)
  ·exact pl1 125 124 7 4 ho hK fun ps af e=>k_mv e
  ·obtain⟨ps,af,rfl⟩:=core (some 126) (.load 31 (.tmp 14)) 31 (some (8,true)) ho
   have e14:Tx.getD 14 undef = .pointer (some ⟨q1,0,none⟩):=hK.of (by kernel_rfl) g14
   have hl:=lk1 _ _ _ _ _ hW
   exact wpOp_want ho ((wanted_of (d:=125) (b:=true) rfl (by kernel_rfl) (hK.is 8 ho)).trans rfl) (wp_load_row 31 _ rfl q1 (by first | exact e14 | rfl) 31 _ (0,0) _ hl Tryz.underlying31 rfl (by rw [hs1];exact i31) ⟨by subst hV;rfl,rfl⟩)
  ·obtain⟨ps,af,rfl⟩:=core (some 127) (.load 31 (.tmp 16)) 31 (some (8,true)) ho
   have e16:Tx.getD 16 undef = .pointer (some ⟨q2,0,none⟩):=hK.of (by kernel_rfl) g16
   have hl:=lk2 _ _ _ _ _ hW
   exact wpOp_want ho ((wanted_of (d:=125) (b:=true) rfl (by kernel_rfl) (hK.is 8 ho)).trans rfl) (wp_load_row 31 _ rfl q2 (by first | exact e16 | rfl) 31 _ (0,0) _ hl Tryz.underlying31 rfl (by rw [hs2];exact i31) ⟨by subst hV;rfl,rfl⟩)
  ·exact absurd (by decide) hic
  ·obtain⟨ps,af,rfl⟩:=core (some 129) (.pick (.tmp 125) (.tmp 128) (.const (Value.bool false))) 4 none ho
   have e125:Tx.getD 125 undef = .bool true:=hK.is 8 ho
   have e128:Tx.getD 128 undef = .bool true:=hK.is 11 ho
   exact wpOp_plain ho rfl (by subst hV;go_simp;try rfl)
  ·exact pl1 130 129 12 4 ho hK fun ps af e=>k_mv e
  ·obtain⟨ps,af,rfl⟩:=core (some 131) (.load 31 (.tmp 18)) 31 (some (13,true)) ho
   have e18:Tx.getD 18 undef = .pointer (some ⟨q3,0,none⟩):=hK.of (by kernel_rfl) g18
   have hl:=lk3 _ _ _ _ _ hW
   exact wpOp_want ho ((wanted_of (d:=130) (b:=true) rfl (by kernel_rfl) (hK.is 13 ho)).trans rfl) (wp_load_row 31 _ rfl q3 (by first | exact e18 | rfl) 31 _ (0,0) _ hl Tryz.underlying31 rfl (by rw [hs3];exact i31) ⟨by subst hV;rfl,rfl⟩)
  ·obtain⟨ps,af,rfl⟩:=core (some 132) (.load 31 (.tmp 20)) 31 (some (13,true)) ho
   have e20:Tx.getD 20 undef = .pointer (some ⟨q4,0,none⟩):=hK.of (by kernel_rfl) g20
   have hl:=lk4 _ _ _ _ _ hW
   exact wpOp_want ho ((wanted_of (d:=130) (b:=true) rfl (by kernel_rfl) (hK.is 13 ho)).trans rfl) (wp_load_row 31 _ rfl q4 (by first | exact e20 | rfl) 31 _ (0,0) _ hl Tryz.underlying31 rfl (by rw [hs4];exact i31) ⟨by subst hV;rfl,rfl⟩)
  ·exact absurd (by decide) hic
  ·obtain⟨ps,af,rfl⟩:=core (some 134) (.pick (.tmp 130) (.tmp 133) (.const (Value.bool false))) 4 none ho
   have e130:Tx.getD 130 undef = .bool true:=hK.is 13 ho
   have e133:Tx.getD 133 undef = .bool true:=hK.is 16 ho
   exact wpOp_plain ho rfl (by subst hV;go_simp;try rfl)
  ·exact pl1 135 134 17 4 ho hK fun ps af e=>k_mv e
  ·exact pg0 18 135 true 136 0 23 ho hK g0 fun ps af e=>k_mv e
  ·exact pg0 18 135 true 137 5 0 ho hK g5 fun ps af e=>k_fa33_2 e
  ·exact pg1 18 135 true 138 137 20 3 ho hK fun ps af e=>k_ld3 (hA _ _ _ _ _ hW) e
  ·exact pg0 18 135 true 139 5 0 ho hK g5 fun ps af e=>k_fa33_3 e
  ·exact pg1 18 135 true 140 139 22 3 ho hK fun ps af e=>k_ld3 (hB _ _ _ _ _ hW) e
  ·exact absurd (by decide) hic
  ·exact pg0 18 135 true 142 1 26 ho hK g1 fun ps af e=>k_mv e
  ·exact pg0 18 135 true 143 5 0 ho hK g5 fun ps af e=>k_fa33_2 e
  ·exact pg1 18 135 true 144 143 26 3 ho hK fun ps af e=>k_ld3 (hA _ _ _ _ _ hW) e
  ·exact pg0 18 135 true 145 5 0 ho hK g5 fun ps af e=>k_fa33_3 e
  ·exact pg1 18 135 true 146 145 28 3 ho hK fun ps af e=>k_ld3 (hB _ _ _ _ _ hW) e
  ·exact absurd (by decide) hic
  ·obtain⟨ps,af,rfl⟩:=core (some 148) (.binOp BinOp.eql 4 (.tmp 141) (.tmp 147) 4) 4 (some (18,true)) ho
   have e141:Tx.getD 141 undef = .bool lx:=hK.is 24 ho
   have e147:Tx.getD 147 undef = .bool ly:=hK.is 30 ho
   exact wpOp_want ho ((wanted_of (d:=135) (b:=true) rfl (by kernel_rfl) (hK.is 18 ho)).trans rfl) (by subst hV;go_simp;try rfl)
  ·obtain⟨ps,af,rfl⟩:=core (some 149) (.pick (.tmp 135) (.tmp 148) (.const (Value.bool false))) 4 none ho
   have e135:Tx.getD 135 undef = .bool true:=hK.is 18 ho
   have e148:Tx.getD 148 undef = .bool false:=hK.is 31 ho
   exact wpOp_plain ho rfl (by subst hV;go_simp;try rfl)
  ·exact pl1 150 149 32 4 ho hK fun ps af e=>k_mv e
  ·exact psk 33 150 false true ho hK
  ·exact psk 33 150 false true ho hK
  ·exact psk 33 150 false true ho hK
  ·exact psk 33 150 false true ho hK
  ·exact psk 33 150 false true ho hK
  ·exact psk 33 150 false true ho hK
  ·exact psk 33 150 false true ho hK
  ·exact psk 33 150 false true ho hK
  ·exact psk 33 150 false true ho hK
  ·obtain⟨ps,af,rfl⟩:=core (some 160) (.pick (.tmp 150) (.tmp 159) (.const (Value.bool false))) 4 none ho
   have e150:Tx.getD 150 undef = .bool false:=hK.is 33 ho
   have e159:Tx.getD 159 undef=undef:=hK.is 42 ho
   exact wpOp_plain ho rfl (by subst hV;go_simp;try rfl)
  ·exact pl1 6 160 43 4 ho hK fun ps af e=>k_as e
 ·have hcase:cx=11∨cx=16∨cx=24∨cx=30:=by simpa using hc
  rcases hcase with rfl | rfl | rfl | rfl
  ·obtain⟨ps,af,rfl⟩:=core (some 128) (.call {callee:= .value (.func 38),args:=#[.tmp 126,.tmp 127],argTypes:=#[31,31]}) 4 (some (8,true)) ho
   have e126:Tx.getD 126 undef = .agg c1:=hK.is 9 ho
   have e127:Tx.getD 127 undef = .agg c2:=hK.is 10 ho
   have hW1:PW (dx 11) (dx 16) (dx 24) (dx 30)  wx:=hW
   have f16:=hq hda 16
   have f24:=hq hda 24
   have f30:=hq hda 30
   clear hdb hda
   rw [hd,f16.out,f24.out,f30.out] at hW1
   clear hd hW hc
   refine wpOp_want ho ((wanted_of (d:=125) (b:=true) rfl (by kernel_rfl) (hK.is 8 ho)).trans rfl) ?_
   go_simp
   go_at_call 38
   refine(cl11 _ hW1).mono ?_
   rintro ex w2 ⟨rfl,hW2⟩
   subst hV
   first | refine⟨undef,rfl,?_⟩ | refine⟨⟨undef,rfl⟩,?_⟩
   simpa [updB,upd,f16.out,f24.out,f30.out] using hW2
  ·obtain⟨ps,af,rfl⟩:=core (some 133) (.call {callee:= .value (.func 38),args:=#[.tmp 131,.tmp 132],argTypes:=#[31,31]}) 4 (some (13,true)) ho
   have e131:Tx.getD 131 undef = .agg c3:=hK.is 14 ho
   have e132:Tx.getD 132 undef = .agg c4:=hK.is 15 ho
   have hW1:PW (dx 11) (dx 16) (dx 24) (dx 30)  wx:=hW
   have f11:=hq hdb 11
   have f24:=hq hda 24
   have f30:=hq hda 30
   clear hdb hda
   rw [hd,f11.out,f24.out,f30.out] at hW1
   clear hd hW hc
   refine wpOp_want ho ((wanted_of (d:=130) (b:=true) rfl (by kernel_rfl) (hK.is 13 ho)).trans rfl) ?_
   go_simp
   go_at_call 38
   refine(cl16 _ hW1).mono ?_
   rintro ex w2 ⟨rfl,hW2⟩
   subst hV
   first | refine⟨undef,rfl,?_⟩ | refine⟨⟨undef,rfl⟩,?_⟩
   simpa [updB,upd,f11.out,f24.out,f30.out] using hW2
  ·obtain⟨ps,af,rfl⟩:=core (some 141) (.call {callee:= .value (.func 27),args:=#[.tmp 136,.tmp 138,.tmp 140],argTypes:=#[23,3,3]}) 4 (some (18,true)) ho
   have e136:Tx.getD 136 undef = .pointer (some ⟨f,0,none⟩):=hK.is 19 ho
   have e138:Tx.getD 138 undef = .int .i64 A:=hK.is 21 ho
   have e140:Tx.getD 140 undef = .int .i64 B:=hK.is 23 ho
   have hW1:PW (dx 11) (dx 16) (dx 24) (dx 30)  wx:=hW
   have f11:=hq hdb 11
   have f16:=hq hdb 16
   have f30:=hq hda 30
   clear hdb hda
   rw [hd,f11.out,f16.out,f30.out] at hW1
   clear hd hW hc
   refine wpOp_want ho ((wanted_of (d:=135) (b:=true) rfl (by kernel_rfl) (hK.is 18 ho)).trans rfl) ?_
   go_simp
   go_at_call 27
   refine(cl24 _ hW1).mono ?_
   rintro ex w2 ⟨rfl,hW2⟩
   subst hV
   first | refine⟨undef,rfl,?_⟩ | refine⟨⟨undef,rfl⟩,?_⟩
   simpa [updB,upd,f11.out,f16.out,f30.out] using hW2
  ·obtain⟨ps,af,rfl⟩:=core (some 147) (.call {callee:= .value (.func 39),args:=#[.tmp 142,.tmp 144,.tmp 146],argTypes:=#[26,3,3]}) 4 (some (18,true)) ho
   have e142:Tx.getD 142 undef = .pointer (some ⟨g,0,none⟩):=hK.is 25 ho
   have e144:Tx.getD 144 undef = .int .i64 A:=hK.is 27 ho
   have e146:Tx.getD 146 undef = .int .i64 B:=hK.is 29 ho
   have hW1:PW (dx 11) (dx 16) (dx 24) (dx 30)  wx:=hW
   have f11:=hq hdb 11
   have f16:=hq hdb 16
   have f24:=hq hdb 24
   clear hdb hda
   rw [hd,f11.out,f16.out,f24.out] at hW1
   clear hd hW hc
   refine wpOp_want ho ((wanted_of (d:=135) (b:=true) rfl (by kernel_rfl) (hK.is 18 ho)).trans rfl) ?_
   go_simp
   go_at_call 39
   refine(cl30 _ hW1).mono ?_
   rintro ex w2 ⟨rfl,hW2⟩
   subst hV
   first | refine⟨undef,rfl,?_⟩ | refine⟨⟨undef,rfl⟩,?_⟩
   simpa [updB,upd,f11.out,f16.out,f24.out] using hW2
 ·have hW1:PW (dx 11) (dx 16) (dx 24) (dx 30)  wx:=hW
  rw [hd 11 (by decide),hd 16 (by decide),hd 24 (by decide),hd 30 (by decide)] at hW1
  have hQ:=h _ hW1
  rw [hsz]
  subst hV hT
  refine cast (congrArg (fun Tx=>Q .normal ⟨Tx,ds⟩ wx) ?_) hQ
  kernel_rfl
end Go.Proofs.YthogppennalobaaGreatDoor.Pl
