/- The drawn regions of SignRingMacs: both Turns, both Vouches, the copies. No condition. A script of calls as an argument: read as such within the form's reach. No condition. Two seeds' names differ; the base point is its multiple by 1. No condition. -/
import Derived.Test.YtpggkfdijmnmiaaGreatZum21
import Derived.SizedLaws
import Derived.ChangeMaps5
import Derived.ShutString
import Derived.Deep.SlicePairs
import Derived.Deep.Strs
import Derived.Carry
import Derived.Test.YtpggkfdijmnmiaaGreatZum00
set_option linter.unusedVariables false
set_option linter.unusedSimpArgs false
set_option maxRecDepth 100000
namespace Go.Proofs.YtpggkfdijmnmiaaGreat.Pl
open Go.RowKit Go.Sort Limbs
theorem k_fa48_1 {Q : Exit → Act → World → Prop} {T : Array Value} {ds : List Deferred} {w : World} {ty : TypeId} {dst : Option Tmp} {s : Nat} {ps af g} {b : Nat} (e : T.getD s undef = .pointer (some ⟨b, 0, none⟩)) : Oper.wp Tryz.prog ⟨dst, .fieldAddr 48 (.tmp s) 1, ty, ps, af, g⟩ ⟨T, ds⟩ w (fun a' w'' => a' = Act.put ⟨T, ds⟩ dst (.pointer (some ⟨b, 1, none⟩)) ∧ w'' = w) Q := by
  go_simp
theorem k_fa48_2 {Q : Exit → Act → World → Prop} {T : Array Value} {ds : List Deferred} {w : World} {ty : TypeId} {dst : Option Tmp} {s : Nat} {ps af g} {b : Nat} (e : T.getD s undef = .pointer (some ⟨b, 0, none⟩)) : Oper.wp Tryz.prog ⟨dst, .fieldAddr 48 (.tmp s) 2, ty, ps, af, g⟩ ⟨T, ds⟩ w (fun a' w'' => a' = Act.put ⟨T, ds⟩ dst (.pointer (some ⟨b, 2, none⟩)) ∧ w'' = w) Q := by
  go_simp
theorem k_fa48_3 {Q : Exit → Act → World → Prop} {T : Array Value} {ds : List Deferred} {w : World} {ty : TypeId} {dst : Option Tmp} {s : Nat} {ps af g} {b : Nat} (e : T.getD s undef = .pointer (some ⟨b, 0, none⟩)) : Oper.wp Tryz.prog ⟨dst, .fieldAddr 48 (.tmp s) 3, ty, ps, af, g⟩ ⟨T, ds⟩ w (fun a' w'' => a' = Act.put ⟨T, ds⟩ dst (.pointer (some ⟨b, 3, none⟩)) ∧ w'' = w) Q := by
  go_simp
theorem k_ld9 {Q : Exit → Act → World → Prop} {T : Array Value} {ds : List Deferred} {w : World} {ty : TypeId} {dst : Option Tmp} {s : Nat} {ps af g} {b o : Nat} {v : Value} (h : w.cell? ⟨b, o, none⟩ = some v) (e : T.getD s undef = .pointer (some ⟨b, o, none⟩)) : Oper.wp Tryz.prog ⟨dst, .load 9 (.tmp s), ty, ps, af, g⟩ ⟨T, ds⟩ w (fun a' w'' => a' = Act.put ⟨T, ds⟩ dst v ∧ w'' = w) Q := by
  go_simp
noncomputable def tTO : Array Oper := (Tryz.f7.body.bind fun c => findR c 11).getD #[]
def tT_m : List (List Nat) := [[], [], [], [], [], [], [], [3], [3, 7]]
set_option maxHeartbeats 16000000 in
theorem tT (PW : Bool → Bool → World → Prop) (r x v : Nat) (a : ByteArray) (c : Int) (w : World)  (l1 : ∀ (b3 b7 : Bool) (w : World), PW b3 b7  w → w.cell? ⟨v, 1, none⟩ = some (.string a)) (cl3 : ∀ (w : World), PW false false w → Calls Tryz.prog 22 #[.pointer (some ⟨r, 0, none⟩), .string a] w fun e w1 => e = .returned (.int .i64 c) ∧ PW true false  w1) (cl7 : ∀ (w : World), PW true false w → Calls Tryz.prog 23 #[.pointer (some ⟨x, 0, none⟩), .string a] w fun e w1 => e = .returned (.int .i64 c) ∧ PW true true  w1) {t0 t1 t2 t3 t4 t7 t9 t10 t11 t12 t13 t14 t15 t16 t17 t18 t19 t20 t21 t22 t23 t24 t25 t26 t27 t28 t29 t30 t31 t32 t33 t34 t35 t36 t37 t38 t39 t40 t41 t42 t43 t44 t45 t46 t47 t48 t49 t50 t51 t52 t53 t54 t55 t56 t57 t58 t59 t60 t61 t62 t63 t64 t65 t66 t67 t68 t69 t70 t71 t72 t73 t74 t75 t76 t77 t78 t79 t80 t81 t82 t83 t84 t85 t86 t87 t88 t89 t90 t91 t92 t93 t94 t95 t96 t97 t98 t99 t100 t101 t102 t103 t104 t105 t106 t107 t108 t109 t110 t111 t112 t113 t114 t115 t116 t117 t118 t119 t120 t121 t122 t123 t124 t125 t126 t127 t128 t129 t130 t131 t132 t133 t134 t135 t136 t137 t138 t139 t140 t141 t142 t143 t144 t145 t146 t147 t148 t149 t150 t151 t152 t153 t154 t155 t156 t157 t158 t159 t160 t161 t162 t163 t164 t165 t166 t167 t168 t169 : Value} (w0 : PW false false  w.drew) {ds : List Deferred} {Q : Exit → Act → World → Prop}
    (h : ∀ (w1 : World), PW true true  w1 → Q .normal { tmps := #[t0, t1, t2, t3, t4, .pointer (some ⟨r, 0, none⟩), .pointer (some ⟨x, 0, none⟩), t7, .pointer (some ⟨v, 0, none⟩), t9, t10, t11, t12, t13, t14, t15, t16, t17, t18, t19, t20, t21, t22, t23, t24, t25, t26, t27, t28, t29, t30, t31, t32, t33, t34, t35, t36, t37, t38, t39, t40, t41, t42, t43, .pointer (some ⟨r, 0, none⟩), .pointer (some ⟨v, 1, none⟩), .string a, .int .i64 c, .pointer (some ⟨x, 0, none⟩), .pointer (some ⟨v, 1, none⟩), .string a, .int .i64 c, .bool false, t53, t54, t55, t56, t57, t58, t59, t60, t61, t62, t63, t64, t65, t66, t67, t68, t69, t70, t71, t72, t73, t74, t75, t76, t77, t78, t79, t80, t81, t82, t83, t84, t85, t86, t87, t88, t89, t90, t91, t92, t93, t94, t95, t96, t97, t98, t99, t100, t101, t102, t103, t104, t105, t106, t107, t108, t109, t110, t111, t112, t113, t114, t115, t116, t117, t118, t119, t120, t121, t122, t123, t124, t125, t126, t127, t128, t129, t130, t131, t132, t133, t134, t135, t136, t137, t138, t139, t140, t141, t142, t143, t144, t145, t146, t147, t148, t149, t150, t151, t152, t153, t154, t155, t156, t157, t158, t159, t160, t161, t162, t163, t164, t165, t166, t167, t168, t169], defers := ds } w1) :
    (Code.region 11 tTO true).wp Tryz.prog Q { tmps := #[t0, t1, t2, t3, t4, .pointer (some ⟨r, 0, none⟩), .pointer (some ⟨x, 0, none⟩), t7, .pointer (some ⟨v, 0, none⟩), t9, t10, t11, t12, t13, t14, t15, t16, t17, t18, t19, t20, t21, t22, t23, t24, t25, t26, t27, t28, t29, t30, t31, t32, t33, t34, t35, t36, t37, t38, t39, t40, t41, t42, t43, t44, t45, t46, t47, t48, t49, t50, t51, t52, t53, t54, t55, t56, t57, t58, t59, t60, t61, t62, t63, t64, t65, t66, t67, t68, t69, t70, t71, t72, t73, t74, t75, t76, t77, t78, t79, t80, t81, t82, t83, t84, t85, t86, t87, t88, t89, t90, t91, t92, t93, t94, t95, t96, t97, t98, t99, t100, t101, t102, t103, t104, t105, t106, t107, t108, t109, t110, t111, t112, t113, t114, t115, t116, t117, t118, t119, t120, t121, t122, t123, t124, t125, t126, t127, t128, t129, t130, t131, t132, t133, t134, t135, t136, t137, t138, t139, t140, t141, t142, t143, t144, t145, t146, t147, t148, t149, t150, t151, t152, t153, t154, t155, t156, t157, t158, t159, t160, t161, t162, t163, t164, t165, t166, t167, t168, t169], defers := ds } w := by
  have hsz : tTO.size = 9 := by kernel_rfl
  generalize hT : List.toArray _ = T0
  have hs : T0.size = 170 := by subst hT; rfl
  have g5 : T0.getD 5 undef = .pointer (some ⟨r, 0, none⟩) := by subst hT; rfl
  have g6 : T0.getD 6 undef = .pointer (some ⟨x, 0, none⟩) := by subst hT; rfl
  have g8 : T0.getD 8 undef = .pointer (some ⟨v, 0, none⟩) := by subst hT; rfl
  obtain ⟨W, hV⟩ : ∃ W : List ((Nat × (Value → Value)) ⊕ Value), W = [.inr (.pointer (some ⟨r, 0, none⟩)), .inr (.pointer (some ⟨v, 1, none⟩)), .inr (.string a), .inr (.int .i64 c), .inr (.pointer (some ⟨x, 0, none⟩)), .inr (.pointer (some ⟨v, 1, none⟩)), .inr (.string a), .inr (.int .i64 c), .inr (.bool false)] := ⟨_, rfl⟩
  refine wp_plan (by kernel_rfl) T0 ds [3, 7] tT_m (mkV W) (fun dx yx wx => PW (dx 3) (dx 7)  wx) w (by rw [hs]; kernel_rfl) (by kernel_rfl) (by kernel_rfl) (by rw [hsz]; decide) (fun cx hc ix hne ha yx vx => mkV_fix (by rw [hV]; kernel_rfl) hne ha yx vx) (?key) (fun cx hc ox ho dx yx Tx wx hd hdb hda hK hW => ?_) ⟨fun k => undef, w0⟩ (fun dx yx wx hd hW => ?_)
  case key =>
    rw [hsz]
    refine all_step (all_step (all_step (all_step (all_step (all_step (all_step (all_step (all_step all_zero ?_) ?_) ?_) ?_) ?_) ?_) ?_) ?_) ?_
    all_goals
      intro ox ho hic dx yx Tx wx hdb hK hW
      replace hdb := Lib.hid hdb
    · exact pl0 44 5 41 ho hK (by kernel_rfl) (by kernel_rfl) g5 (by subst hV; rfl) fun ps af e => k_mv e
    · exact pl0 45 8 0 ho hK (by kernel_rfl) (by kernel_rfl) g8 (by subst hV; rfl) fun ps af e => k_fa48_1 e
    · exact pl1 46 45 1 9 ho hK (by kernel_rfl) (by kernel_rfl) (by subst hV; rfl) (by subst hV; rfl) fun ps af e => k_ld9 (l1 _ _ _ hW) e
    · exact absurd (by decide) hic
    · exact pl0 48 6 43 ho hK (by kernel_rfl) (by kernel_rfl) g6 (by subst hV; rfl) fun ps af e => k_mv e
    · exact pl0 49 8 0 ho hK (by kernel_rfl) (by kernel_rfl) g8 (by subst hV; rfl) fun ps af e => k_fa48_1 e
    · exact pl1 50 49 5 9 ho hK (by kernel_rfl) (by kernel_rfl) (by subst hV; rfl) (by subst hV; rfl) fun ps af e => k_ld9 (l1 _ _ _ hW) e
    · exact absurd (by decide) hic
    · obtain ⟨ps, af, rfl⟩ := core (some 52) (.binOp BinOp.neq 27 (.tmp 47) (.tmp 51) 27) 4 none ho (by kernel_rfl)
      have e47 : Tx.getD 47 undef = .int .i64 c := hK.is 3 ho (by kernel_rfl) (by subst hV; rfl)
      have e51 : Tx.getD 51 undef = .int .i64 c := hK.is 7 ho (by kernel_rfl) (by subst hV; rfl)
      exact wpOp_plain ho rfl (by subst hV; go_simp; try rfl)
  · have hcase : cx = 3 ∨ cx = 7 := by simpa using hc
    rcases hcase with rfl | rfl
    · obtain ⟨ps, af, rfl⟩ := core (some 47) (.call { callee := .value (.func 22), args := #[.tmp 44, .tmp 46], argTypes := #[41, 9] }) 27 none ho (by kernel_rfl)
      have e44 : Tx.getD 44 undef = .pointer (some ⟨r, 0, none⟩) := hK.is 0 ho (by kernel_rfl) (by subst hV; rfl)
      have e46 : Tx.getD 46 undef = .string a := hK.is 2 ho (by kernel_rfl) (by subst hV; rfl)
      have hW1 : PW (dx 3) (dx 7)  wx := hW
      have f7 := hda 7 (by decide) (by kernel_rfl)
      clear hdb hda
      rw [hd, f7] at hW1
      replace f7 := Lib.hid f7
      clear hd hW hc
      refine wpOp_plain ho rfl ?_
      go_simp
      go_at_call 22
      refine (cl3 _ hW1).mono ?_
      rintro ex w2 ⟨rfl, hW2⟩
      subst hV
      first | refine ⟨undef, rfl, ?_⟩ | refine ⟨⟨undef, rfl⟩, ?_⟩
      simpa [updB, upd, f7.out] using hW2
    · obtain ⟨ps, af, rfl⟩ := core (some 51) (.call { callee := .value (.func 23), args := #[.tmp 48, .tmp 50], argTypes := #[43, 9] }) 27 none ho (by kernel_rfl)
      have e48 : Tx.getD 48 undef = .pointer (some ⟨x, 0, none⟩) := hK.is 4 ho (by kernel_rfl) (by subst hV; rfl)
      have e50 : Tx.getD 50 undef = .string a := hK.is 6 ho (by kernel_rfl) (by subst hV; rfl)
      have hW1 : PW (dx 3) (dx 7)  wx := hW
      have f3 := hdb 3 (by decide) (by kernel_rfl)
      clear hdb hda
      rw [hd, f3] at hW1
      replace f3 := Lib.hid f3
      clear hd hW hc
      refine wpOp_plain ho rfl ?_
      go_simp
      go_at_call 23
      refine (cl7 _ hW1).mono ?_
      rintro ex w2 ⟨rfl, hW2⟩
      subst hV
      first | refine ⟨undef, rfl, ?_⟩ | refine ⟨⟨undef, rfl⟩, ?_⟩
      simpa [updB, upd, f3.out] using hW2
  · have hW1 : PW (dx 3) (dx 7)  wx := hW
    rw [hd 3 (by decide), hd 7 (by decide)] at hW1
    have hQ := h _ hW1
    rw [hsz]
    subst hV hT
    refine cast (congrArg (fun Tx => Q .normal ⟨Tx, ds⟩ wx) ?_) hQ
    kernel_rfl
noncomputable def tVO : Array Oper := (Tryz.f7.body.bind fun c => findR c 19).getD #[]
def tV_m : List (List Nat) := [[], [], [], [], [], [], [], [], [], [], [], [], [], [], [], [7], [7, 15]]
set_option maxHeartbeats 16000000 in
theorem tV (PW : Bool → Bool → World → Prop) (r x v : Nat) (a n m : ByteArray) (c : Bool) (w : World)  (l2 : ∀ (b7 b15 : Bool) (w : World), PW b7 b15  w → w.cell? ⟨v, 2, none⟩ = some (.string n)) (l1 : ∀ (b7 b15 : Bool) (w : World), PW b7 b15  w → w.cell? ⟨v, 1, none⟩ = some (.string a)) (l3 : ∀ (b7 b15 : Bool) (w : World), PW b7 b15  w → w.cell? ⟨v, 3, none⟩ = some (.string m)) (cl7 : ∀ (w : World), PW false false w → Calls Tryz.prog 26 #[.pointer (some ⟨r, 0, none⟩), .string n, .string a, .string m] w fun e w1 => e = .returned (.bool c) ∧ PW true false  w1) (cl15 : ∀ (w : World), PW true false w → Calls Tryz.prog 27 #[.pointer (some ⟨x, 0, none⟩), .string n, .string a, .string m] w fun e w1 => e = .returned (.bool c) ∧ PW true true  w1) {t0 t1 t2 t3 t4 t7 t9 t10 t11 t12 t13 t14 t15 t16 t17 t18 t19 t20 t21 t22 t23 t24 t25 t26 t27 t28 t29 t30 t31 t32 t33 t34 t35 t36 t37 t38 t39 t40 t41 t42 t43 t44 t45 t46 t47 t48 t49 t50 t51 t52 t53 t54 t55 t56 t57 t58 t59 t60 t61 t62 t63 t64 t65 t66 t67 t68 t69 t70 t71 t72 t73 t74 t75 t76 t77 t78 t79 t80 t81 t82 t83 t84 t85 t86 t87 t88 t89 t90 t91 t92 t93 t94 t95 t96 t97 t98 t99 t100 t101 t102 t103 t104 t105 t106 t107 t108 t109 t110 t111 t112 t113 t114 t115 t116 t117 t118 t119 t120 t121 t122 t123 t124 t125 t126 t127 t128 t129 t130 t131 t132 t133 t134 t135 t136 t137 t138 t139 t140 t141 t142 t143 t144 t145 t146 t147 t148 t149 t150 t151 t152 t153 t154 t155 t156 t157 t158 t159 t160 t161 t162 t163 t164 t165 t166 t167 t168 t169 : Value} (w0 : PW false false  w.drew) {ds : List Deferred} {Q : Exit → Act → World → Prop}
    (h : ∀ (w1 : World), PW true true  w1 → Q .normal { tmps := #[t0, t1, t2, t3, t4, .pointer (some ⟨r, 0, none⟩), .pointer (some ⟨x, 0, none⟩), t7, .pointer (some ⟨v, 0, none⟩), t9, t10, t11, t12, t13, t14, t15, t16, t17, t18, t19, t20, t21, t22, t23, t24, t25, t26, t27, t28, t29, t30, t31, t32, t33, t34, t35, t36, t37, t38, t39, t40, t41, t42, t43, t44, t45, t46, t47, t48, t49, t50, t51, t52, t53, t54, t55, t56, t57, t58, t59, t60, t61, t62, t63, t64, t65, t66, t67, t68, t69, t70, t71, t72, t73, t74, t75, t76, t77, t78, .pointer (some ⟨r, 0, none⟩), .pointer (some ⟨v, 2, none⟩), .string n, .pointer (some ⟨v, 1, none⟩), .string a, .pointer (some ⟨v, 3, none⟩), .string m, .bool c, .pointer (some ⟨x, 0, none⟩), .pointer (some ⟨v, 2, none⟩), .string n, .pointer (some ⟨v, 1, none⟩), .string a, .pointer (some ⟨v, 3, none⟩), .string m, .bool c, .bool false, t96, t97, t98, t99, t100, t101, t102, t103, t104, t105, t106, t107, t108, t109, t110, t111, t112, t113, t114, t115, t116, t117, t118, t119, t120, t121, t122, t123, t124, t125, t126, t127, t128, t129, t130, t131, t132, t133, t134, t135, t136, t137, t138, t139, t140, t141, t142, t143, t144, t145, t146, t147, t148, t149, t150, t151, t152, t153, t154, t155, t156, t157, t158, t159, t160, t161, t162, t163, t164, t165, t166, t167, t168, t169], defers := ds } w1) :
    (Code.region 19 tVO true).wp Tryz.prog Q { tmps := #[t0, t1, t2, t3, t4, .pointer (some ⟨r, 0, none⟩), .pointer (some ⟨x, 0, none⟩), t7, .pointer (some ⟨v, 0, none⟩), t9, t10, t11, t12, t13, t14, t15, t16, t17, t18, t19, t20, t21, t22, t23, t24, t25, t26, t27, t28, t29, t30, t31, t32, t33, t34, t35, t36, t37, t38, t39, t40, t41, t42, t43, t44, t45, t46, t47, t48, t49, t50, t51, t52, t53, t54, t55, t56, t57, t58, t59, t60, t61, t62, t63, t64, t65, t66, t67, t68, t69, t70, t71, t72, t73, t74, t75, t76, t77, t78, t79, t80, t81, t82, t83, t84, t85, t86, t87, t88, t89, t90, t91, t92, t93, t94, t95, t96, t97, t98, t99, t100, t101, t102, t103, t104, t105, t106, t107, t108, t109, t110, t111, t112, t113, t114, t115, t116, t117, t118, t119, t120, t121, t122, t123, t124, t125, t126, t127, t128, t129, t130, t131, t132, t133, t134, t135, t136, t137, t138, t139, t140, t141, t142, t143, t144, t145, t146, t147, t148, t149, t150, t151, t152, t153, t154, t155, t156, t157, t158, t159, t160, t161, t162, t163, t164, t165, t166, t167, t168, t169], defers := ds } w := by
  have hsz : tVO.size = 17 := by kernel_rfl
  generalize hT : List.toArray _ = T0
  have hs : T0.size = 170 := by subst hT; rfl
  have g5 : T0.getD 5 undef = .pointer (some ⟨r, 0, none⟩) := by subst hT; rfl
  have g6 : T0.getD 6 undef = .pointer (some ⟨x, 0, none⟩) := by subst hT; rfl
  have g8 : T0.getD 8 undef = .pointer (some ⟨v, 0, none⟩) := by subst hT; rfl
  obtain ⟨W, hV⟩ : ∃ W : List ((Nat × (Value → Value)) ⊕ Value), W = [.inr (.pointer (some ⟨r, 0, none⟩)), .inr (.pointer (some ⟨v, 2, none⟩)), .inr (.string n), .inr (.pointer (some ⟨v, 1, none⟩)), .inr (.string a), .inr (.pointer (some ⟨v, 3, none⟩)), .inr (.string m), .inr (.bool c), .inr (.pointer (some ⟨x, 0, none⟩)), .inr (.pointer (some ⟨v, 2, none⟩)), .inr (.string n), .inr (.pointer (some ⟨v, 1, none⟩)), .inr (.string a), .inr (.pointer (some ⟨v, 3, none⟩)), .inr (.string m), .inr (.bool c), .inr (.bool false)] := ⟨_, rfl⟩
  refine wp_plan (by kernel_rfl) T0 ds [7, 15] tV_m (mkV W) (fun dx yx wx => PW (dx 7) (dx 15)  wx) w (by rw [hs]; kernel_rfl) (by kernel_rfl) (by kernel_rfl) (by rw [hsz]; decide) (fun cx hc ix hne ha yx vx => mkV_fix (by rw [hV]; kernel_rfl) hne ha yx vx) (?key) (fun cx hc ox ho dx yx Tx wx hd hdb hda hK hW => ?_) ⟨fun k => undef, w0⟩ (fun dx yx wx hd hW => ?_)
  case key =>
    rw [hsz]
    refine all_step (all_step (all_step (all_step (all_step (all_step (all_step (all_step (all_step (all_step (all_step (all_step (all_step (all_step (all_step (all_step (all_step all_zero ?_) ?_) ?_) ?_) ?_) ?_) ?_) ?_) ?_) ?_) ?_) ?_) ?_) ?_) ?_) ?_) ?_
    all_goals
      intro ox ho hic dx yx Tx wx hdb hK hW
      replace hdb := Lib.hid hdb
    · exact pl0 79 5 41 ho hK (by kernel_rfl) (by kernel_rfl) g5 (by subst hV; rfl) fun ps af e => k_mv e
    · exact pl0 80 8 0 ho hK (by kernel_rfl) (by kernel_rfl) g8 (by subst hV; rfl) fun ps af e => k_fa48_2 e
    · exact pl1 81 80 1 9 ho hK (by kernel_rfl) (by kernel_rfl) (by subst hV; rfl) (by subst hV; rfl) fun ps af e => k_ld9 (l2 _ _ _ hW) e
    · exact pl0 82 8 0 ho hK (by kernel_rfl) (by kernel_rfl) g8 (by subst hV; rfl) fun ps af e => k_fa48_1 e
    · exact pl1 83 82 3 9 ho hK (by kernel_rfl) (by kernel_rfl) (by subst hV; rfl) (by subst hV; rfl) fun ps af e => k_ld9 (l1 _ _ _ hW) e
    · exact pl0 84 8 0 ho hK (by kernel_rfl) (by kernel_rfl) g8 (by subst hV; rfl) fun ps af e => k_fa48_3 e
    · exact pl1 85 84 5 9 ho hK (by kernel_rfl) (by kernel_rfl) (by subst hV; rfl) (by subst hV; rfl) fun ps af e => k_ld9 (l3 _ _ _ hW) e
    · exact absurd (by decide) hic
    · exact pl0 87 6 43 ho hK (by kernel_rfl) (by kernel_rfl) g6 (by subst hV; rfl) fun ps af e => k_mv e
    · exact pl0 88 8 0 ho hK (by kernel_rfl) (by kernel_rfl) g8 (by subst hV; rfl) fun ps af e => k_fa48_2 e
    · exact pl1 89 88 9 9 ho hK (by kernel_rfl) (by kernel_rfl) (by subst hV; rfl) (by subst hV; rfl) fun ps af e => k_ld9 (l2 _ _ _ hW) e
    · exact pl0 90 8 0 ho hK (by kernel_rfl) (by kernel_rfl) g8 (by subst hV; rfl) fun ps af e => k_fa48_1 e
    · exact pl1 91 90 11 9 ho hK (by kernel_rfl) (by kernel_rfl) (by subst hV; rfl) (by subst hV; rfl) fun ps af e => k_ld9 (l1 _ _ _ hW) e
    · exact pl0 92 8 0 ho hK (by kernel_rfl) (by kernel_rfl) g8 (by subst hV; rfl) fun ps af e => k_fa48_3 e
    · exact pl1 93 92 13 9 ho hK (by kernel_rfl) (by kernel_rfl) (by subst hV; rfl) (by subst hV; rfl) fun ps af e => k_ld9 (l3 _ _ _ hW) e
    · exact absurd (by decide) hic
    · obtain ⟨ps, af, rfl⟩ := core (some 95) (.binOp BinOp.neq 4 (.tmp 86) (.tmp 94) 4) 4 none ho (by kernel_rfl)
      have e86 : Tx.getD 86 undef = .bool c := hK.is 7 ho (by kernel_rfl) (by subst hV; rfl)
      have e94 : Tx.getD 94 undef = .bool c := hK.is 15 ho (by kernel_rfl) (by subst hV; rfl)
      exact wpOp_plain ho rfl (by subst hV; go_simp; try rfl)
  · have hcase : cx = 7 ∨ cx = 15 := by simpa using hc
    rcases hcase with rfl | rfl
    · obtain ⟨ps, af, rfl⟩ := core (some 86) (.call { callee := .value (.func 26), args := #[.tmp 79, .tmp 81, .tmp 83, .tmp 85], argTypes := #[41, 9, 9, 9] }) 4 none ho (by kernel_rfl)
      have e79 : Tx.getD 79 undef = .pointer (some ⟨r, 0, none⟩) := hK.is 0 ho (by kernel_rfl) (by subst hV; rfl)
      have e81 : Tx.getD 81 undef = .string n := hK.is 2 ho (by kernel_rfl) (by subst hV; rfl)
      have e83 : Tx.getD 83 undef = .string a := hK.is 4 ho (by kernel_rfl) (by subst hV; rfl)
      have e85 : Tx.getD 85 undef = .string m := hK.is 6 ho (by kernel_rfl) (by subst hV; rfl)
      have hW1 : PW (dx 7) (dx 15)  wx := hW
      have f15 := hda 15 (by decide) (by kernel_rfl)
      clear hdb hda
      rw [hd, f15] at hW1
      replace f15 := Lib.hid f15
      clear hd hW hc
      refine wpOp_plain ho rfl ?_
      go_simp
      go_at_call 26
      refine (cl7 _ hW1).mono ?_
      rintro ex w2 ⟨rfl, hW2⟩
      subst hV
      first | refine ⟨undef, rfl, ?_⟩ | refine ⟨⟨undef, rfl⟩, ?_⟩
      simpa [updB, upd, f15.out] using hW2
    · obtain ⟨ps, af, rfl⟩ := core (some 94) (.call { callee := .value (.func 27), args := #[.tmp 87, .tmp 89, .tmp 91, .tmp 93], argTypes := #[43, 9, 9, 9] }) 4 none ho (by kernel_rfl)
      have e87 : Tx.getD 87 undef = .pointer (some ⟨x, 0, none⟩) := hK.is 8 ho (by kernel_rfl) (by subst hV; rfl)
      have e89 : Tx.getD 89 undef = .string n := hK.is 10 ho (by kernel_rfl) (by subst hV; rfl)
      have e91 : Tx.getD 91 undef = .string a := hK.is 12 ho (by kernel_rfl) (by subst hV; rfl)
      have e93 : Tx.getD 93 undef = .string m := hK.is 14 ho (by kernel_rfl) (by subst hV; rfl)
      have hW1 : PW (dx 7) (dx 15)  wx := hW
      have f7 := hdb 7 (by decide) (by kernel_rfl)
      clear hdb hda
      rw [hd, f7] at hW1
      replace f7 := Lib.hid f7
      clear hd hW hc
      refine wpOp_plain ho rfl ?_
      go_simp
      go_at_call 27
      refine (cl15 _ hW1).mono ?_
      rintro ex w2 ⟨rfl, hW2⟩
      subst hV
      first | refine ⟨undef, rfl, ?_⟩ | refine ⟨⟨undef, rfl⟩, ?_⟩
      simpa [updB, upd, f7.out] using hW2
  · have hW1 : PW (dx 7) (dx 15)  wx := hW
    rw [hd 7 (by decide), hd 15 (by decide)] at hW1
    have hQ := h _ hW1
    rw [hsz]
    subst hV hT
    refine cast (congrArg (fun Tx => Q .normal ⟨Tx, ds⟩ wx) ?_) hQ
    kernel_rfl
noncomputable def tKO : Array Oper := (Tryz.f7.body.bind fun c => findR c 25).getD #[]
def tK_m : List (List Nat) := [[], [], [], [], [], [], [], [], [], [], [6], [6, 10], [6, 10], [6, 10], [6, 10], [6, 10], [6, 10], [6, 10], [6, 10], [6, 10], [6, 10], [6, 10, 17], [6, 10, 17, 21], [6, 10, 17, 21], [6, 10, 17, 21], [6, 10, 17, 21], [6, 10, 17, 21], [6, 10, 17, 21], [6, 10, 17, 21, 26], [6, 10, 17, 21, 26, 28], [6, 10, 17, 21, 26, 28, 29], [6, 10, 17, 21, 26, 28, 29]]
set_option maxHeartbeats 32000000 in
theorem tK (PW : Bool → Bool → Bool → Bool → Bool → Bool → Bool → Value → Value → World → Prop) (r x v q y : Nat) (a n : ByteArray) (c d : Int) (w : World)  (l1 : ∀ (b6 b10 b17 b21 b26 b28 b29 : Bool) (y26 y28 : Value) (w : World), PW b6 b10 b17 b21 b26 b28 b29 y26 y28 w → w.cell? ⟨v, 1, none⟩ = some (.string a)) (l2 : ∀ (b6 b10 b17 b21 b26 b28 b29 : Bool) (y26 y28 : Value) (w : World), PW b6 b10 b17 b21 b26 b28 b29 y26 y28 w → w.cell? ⟨v, 2, none⟩ = some (.string n)) (cl6 : ∀ (y26 y28 : Value) (w : World), PW false false false false false false false y26 y28 w → Calls Tryz.prog 22 #[.pointer (some ⟨q, 0, none⟩), .string a] w fun e w1 => e = .returned (.int .i64 c) ∧ PW true false false false false false false y26 y28 w1) (cl10 : ∀ (y26 y28 : Value) (w : World), PW true false false false false false false y26 y28 w → Calls Tryz.prog 23 #[.pointer (some ⟨y, 0, none⟩), .string a] w fun e w1 => e = .returned (.int .i64 c) ∧ PW true true false false false false false y26 y28 w1) (cl17 : ∀ (y26 y28 : Value) (w : World), PW true true false false false false false y26 y28 w → Calls Tryz.prog 22 #[.pointer (some ⟨r, 0, none⟩), .string n] w fun e w1 => e = .returned (.int .i64 d) ∧ PW true true true false false false false y26 y28 w1) (cl21 : ∀ (y26 y28 : Value) (w : World), PW true true true false false false false y26 y28 w → Calls Tryz.prog 23 #[.pointer (some ⟨x, 0, none⟩), .string n] w fun e w1 => e = .returned (.int .i64 d) ∧ PW true true true true false false false y26 y28 w1) (cl26 : ∀ (y26 y28 : Value) (w : World), PW true true true true false false false y26 y28 w → Calls Tryz.prog 31 #[.pointer (some ⟨q, 0, none⟩)] w fun e w1 => ∃ v, e = .returned v ∧ PW true true true true true false false v y28 w1) (cl28 : ∀ (y26 y28 : Value) (w : World), PW true true true true true false false y26 y28 w → Calls Tryz.prog 32 #[.pointer (some ⟨y, 0, none⟩)] w fun e w1 => ∃ v, e = .returned v ∧ PW true true true true true true false y26 v w1) (cl29 : ∀ (y26 y28 : Value) (w : World), PW true true true true true true false y26 y28 w → Calls Tryz.prog 30 #[y26, y28] w fun e w1 => e = .returned (.bool true) ∧ PW true true true true true true true y26 y28 w1) {t0 t1 t2 t3 t4 t7 t9 t10 t11 t12 t15 t16 t17 t18 t19 t20 t21 t22 t23 t24 t25 t26 t27 t28 t29 t30 t31 t32 t33 t34 t35 t36 t37 t38 t39 t40 t41 t42 t43 t44 t45 t46 t47 t48 t49 t50 t51 t52 t53 t54 t55 t56 t57 t58 t59 t60 t61 t62 t63 t64 t65 t66 t67 t68 t69 t70 t71 t72 t73 t74 t75 t76 t77 t78 t79 t80 t81 t82 t83 t84 t85 t86 t87 t88 t89 t90 t91 t92 t93 t94 t95 t96 t97 t98 t99 t100 t101 t102 t103 t104 t105 t106 t107 t108 t109 t110 t111 t112 t113 t114 t115 t116 t117 t118 t119 t120 t121 t122 t123 t124 t125 t126 t127 t128 t129 t130 t131 t132 t133 t134 t135 t136 t137 t138 t139 t140 t141 t142 t143 t144 t145 t146 t147 t148 t149 t150 t151 t152 t153 t154 t155 t156 t157 t158 t159 t160 t161 t162 t163 t164 t165 t166 t167 t168 t169 : Value} (w0 : PW false false false false false false false t132 t134 w.drew) {ds : List Deferred} {Q : Exit → Act → World → Prop}
    (h : ∀ (y26 y28 : Value) (w1 : World), PW true true true true true true true y26 y28 w1 → Q .normal { tmps := #[t0, t1, t2, t3, t4, .pointer (some ⟨r, 0, none⟩), .pointer (some ⟨x, 0, none⟩), t7, .pointer (some ⟨v, 0, none⟩), t9, t10, t11, t12, .pointer (some ⟨q, 0, none⟩), .pointer (some ⟨y, 0, none⟩), t15, t16, t17, t18, t19, t20, t21, t22, t23, t24, t25, t26, t27, t28, t29, t30, t31, t32, t33, t34, t35, t36, t37, t38, t39, t40, t41, t42, t43, t44, t45, t46, t47, t48, t49, t50, t51, t52, t53, t54, t55, t56, t57, t58, t59, t60, t61, t62, t63, t64, t65, t66, t67, t68, t69, t70, t71, t72, t73, t74, t75, t76, t77, t78, t79, t80, t81, t82, t83, t84, t85, t86, t87, t88, t89, t90, t91, t92, t93, t94, t95, t96, t97, t98, t99, t100, t101, t102, t103, t104, t105, .pointer (some ⟨q, 0, none⟩), .bool false, .bool false, .pointer (some ⟨q, 0, none⟩), .pointer (some ⟨v, 1, none⟩), .string a, .int .i64 c, .pointer (some ⟨y, 0, none⟩), .pointer (some ⟨v, 1, none⟩), .string a, .int .i64 c, .bool false, .bool false, .bool false, .pointer (some ⟨r, 0, none⟩), .pointer (some ⟨v, 2, none⟩), .string n, .int .i64 d, .pointer (some ⟨x, 0, none⟩), .pointer (some ⟨v, 2, none⟩), .string n, .int .i64 d, .bool false, .bool false, .bool false, .pointer (some ⟨q, 0, none⟩), y26, .pointer (some ⟨y, 0, none⟩), y28, .bool true, .bool false, .bool false, t138, t139, t140, t141, t142, t143, t144, t145, t146, t147, t148, t149, t150, t151, t152, t153, t154, t155, t156, t157, t158, t159, t160, t161, t162, t163, t164, t165, t166, t167, t168, t169], defers := ds } w1) :
    (Code.region 25 tKO true).wp Tryz.prog Q { tmps := #[t0, t1, t2, t3, t4, .pointer (some ⟨r, 0, none⟩), .pointer (some ⟨x, 0, none⟩), t7, .pointer (some ⟨v, 0, none⟩), t9, t10, t11, t12, .pointer (some ⟨q, 0, none⟩), .pointer (some ⟨y, 0, none⟩), t15, t16, t17, t18, t19, t20, t21, t22, t23, t24, t25, t26, t27, t28, t29, t30, t31, t32, t33, t34, t35, t36, t37, t38, t39, t40, t41, t42, t43, t44, t45, t46, t47, t48, t49, t50, t51, t52, t53, t54, t55, t56, t57, t58, t59, t60, t61, t62, t63, t64, t65, t66, t67, t68, t69, t70, t71, t72, t73, t74, t75, t76, t77, t78, t79, t80, t81, t82, t83, t84, t85, t86, t87, t88, t89, t90, t91, t92, t93, t94, t95, t96, t97, t98, t99, t100, t101, t102, t103, t104, t105, t106, t107, t108, t109, t110, t111, t112, t113, t114, t115, t116, t117, t118, t119, t120, t121, t122, t123, t124, t125, t126, t127, t128, t129, t130, t131, t132, t133, t134, t135, t136, t137, t138, t139, t140, t141, t142, t143, t144, t145, t146, t147, t148, t149, t150, t151, t152, t153, t154, t155, t156, t157, t158, t159, t160, t161, t162, t163, t164, t165, t166, t167, t168, t169], defers := ds } w := by
  have hsz : tKO.size = 32 := by kernel_rfl
  generalize hT : List.toArray _ = T0
  have hs : T0.size = 170 := by subst hT; rfl
  have g5 : T0.getD 5 undef = .pointer (some ⟨r, 0, none⟩) := by subst hT; rfl
  have g6 : T0.getD 6 undef = .pointer (some ⟨x, 0, none⟩) := by subst hT; rfl
  have g8 : T0.getD 8 undef = .pointer (some ⟨v, 0, none⟩) := by subst hT; rfl
  have g13 : T0.getD 13 undef = .pointer (some ⟨q, 0, none⟩) := by subst hT; rfl
  have g14 : T0.getD 14 undef = .pointer (some ⟨y, 0, none⟩) := by subst hT; rfl
  obtain ⟨W, hV⟩ : ∃ W : List ((Nat × (Value → Value)) ⊕ Value), W = [.inr (.pointer (some ⟨q, 0, none⟩)), .inr (.bool false), .inr (.bool false), .inr (.pointer (some ⟨q, 0, none⟩)), .inr (.pointer (some ⟨v, 1, none⟩)), .inr (.string a), .inr (.int .i64 c), .inr (.pointer (some ⟨y, 0, none⟩)), .inr (.pointer (some ⟨v, 1, none⟩)), .inr (.string a), .inr (.int .i64 c), .inr (.bool false), .inr (.bool false), .inr (.bool false), .inr (.pointer (some ⟨r, 0, none⟩)), .inr (.pointer (some ⟨v, 2, none⟩)), .inr (.string n), .inr (.int .i64 d), .inr (.pointer (some ⟨x, 0, none⟩)), .inr (.pointer (some ⟨v, 2, none⟩)), .inr (.string n), .inr (.int .i64 d), .inr (.bool false), .inr (.bool false), .inr (.bool false), .inr (.pointer (some ⟨q, 0, none⟩)), .inl (26, id), .inr (.pointer (some ⟨y, 0, none⟩)), .inl (28, id), .inr (.bool true), .inr (.bool false), .inr (.bool false)] := ⟨_, rfl⟩
  refine wp_plan (by kernel_rfl) T0 ds [6, 10, 17, 21, 26, 28, 29] tK_m (mkV W) (fun dx yx wx => PW (dx 6) (dx 10) (dx 17) (dx 21) (dx 26) (dx 28) (dx 29) (yx 26) (yx 28) wx) w (by rw [hs]; kernel_rfl) (by kernel_rfl) (by kernel_rfl) (by rw [hsz]; decide) (fun cx hc ix hne ha yx vx => mkV_fix (by rw [hV]; kernel_rfl) hne ha yx vx) (?key) (fun cx hc ox ho dx yx Tx wx hd hdb hda hK hW => ?_) ⟨fun k => if k = 26 then t132 else if k = 28 then t134 else undef, w0⟩ (fun dx yx wx hd hW => ?_)
  case key =>
    rw [hsz]
    refine all_step (all_step (all_step (all_step (all_step (all_step (all_step (all_step (all_step (all_step (all_step (all_step (all_step (all_step (all_step (all_step (all_step (all_step (all_step (all_step (all_step (all_step (all_step (all_step (all_step (all_step (all_step (all_step (all_step (all_step (all_step (all_step all_zero ?_) ?_) ?_) ?_) ?_) ?_) ?_) ?_) ?_) ?_) ?_) ?_) ?_) ?_) ?_) ?_) ?_) ?_) ?_) ?_) ?_) ?_) ?_) ?_) ?_) ?_) ?_) ?_) ?_) ?_) ?_) ?_
    all_goals
      intro ox ho hic dx yx Tx wx hdb hK hW
      replace hdb := Lib.hid hdb
    · exact pl0 106 13 41 ho hK (by kernel_rfl) (by kernel_rfl) g13 (by subst hV; rfl) fun ps af e => k_mv e
    · obtain ⟨ps, af, rfl⟩ := core (some 107) (.binOp BinOp.eql 41 (.tmp 106) (.const (Value.pointer none)) 41) 4 none ho (by kernel_rfl)
      have e106 : Tx.getD 106 undef = .pointer (some ⟨q, 0, none⟩) := hK.is 0 ho (by kernel_rfl) (by subst hV; rfl)
      exact wpOp_plain ho rfl (by subst hV; go_simp; try rfl)
    · exact pl1 108 107 1 4 ho hK (by kernel_rfl) (by kernel_rfl) (by subst hV; rfl) (by subst hV; rfl) fun ps af e => k_mv e
    · exact pg0 2 108 false 109 13 41 ho hK (by kernel_rfl) (by kernel_rfl) (by kernel_rfl) (by subst hV; rfl) (by kernel_rfl) g13 (by subst hV; rfl) fun ps af e => k_mv e
    · exact pg0 2 108 false 110 8 0 ho hK (by kernel_rfl) (by kernel_rfl) (by kernel_rfl) (by subst hV; rfl) (by kernel_rfl) g8 (by subst hV; rfl) fun ps af e => k_fa48_1 e
    · exact pg1 2 108 false 111 110 4 9 ho hK (by kernel_rfl) (by kernel_rfl) (by kernel_rfl) (by subst hV; rfl) (by kernel_rfl) (by subst hV; rfl) (by subst hV; rfl) fun ps af e => k_ld9 (l1 _ _ _ _ _ _ _ _ _ _ hW) e
    · exact absurd (by decide) hic
    · exact pg0 2 108 false 113 14 43 ho hK (by kernel_rfl) (by kernel_rfl) (by kernel_rfl) (by subst hV; rfl) (by kernel_rfl) g14 (by subst hV; rfl) fun ps af e => k_mv e
    · exact pg0 2 108 false 114 8 0 ho hK (by kernel_rfl) (by kernel_rfl) (by kernel_rfl) (by subst hV; rfl) (by kernel_rfl) g8 (by subst hV; rfl) fun ps af e => k_fa48_1 e
    · exact pg1 2 108 false 115 114 8 9 ho hK (by kernel_rfl) (by kernel_rfl) (by kernel_rfl) (by subst hV; rfl) (by kernel_rfl) (by subst hV; rfl) (by subst hV; rfl) fun ps af e => k_ld9 (l1 _ _ _ _ _ _ _ _ _ _ hW) e
    · exact absurd (by decide) hic
    · obtain ⟨ps, af, rfl⟩ := core (some 117) (.binOp BinOp.neq 27 (.tmp 112) (.tmp 116) 27) 4 (some (2, false)) ho (by kernel_rfl)
      have e112 : Tx.getD 112 undef = .int .i64 c := hK.is 6 ho (by kernel_rfl) (by subst hV; rfl)
      have e116 : Tx.getD 116 undef = .int .i64 c := hK.is 10 ho (by kernel_rfl) (by subst hV; rfl)
      exact wpOp_want ho ((wanted_of (d := 108) (b := false) rfl (by kernel_rfl) (hK.is 2 ho (by kernel_rfl) (by subst hV; rfl))).trans rfl) (by subst hV; go_simp; try rfl)
    · obtain ⟨ps, af, rfl⟩ := core (some 118) (.pick (.tmp 108) (.const (Value.bool true)) (.tmp 117)) 4 none ho (by kernel_rfl)
      have e108 : Tx.getD 108 undef = .bool false := hK.is 2 ho (by kernel_rfl) (by subst hV; rfl)
      have e117 : Tx.getD 117 undef = .bool false := hK.is 11 ho (by kernel_rfl) (by subst hV; rfl)
      exact wpOp_plain ho rfl (by subst hV; go_simp; try rfl)
    · exact pl1 119 118 12 4 ho hK (by kernel_rfl) (by kernel_rfl) (by subst hV; rfl) (by subst hV; rfl) fun ps af e => k_mv e
    · exact pg0 13 119 false 120 5 41 ho hK (by kernel_rfl) (by kernel_rfl) (by kernel_rfl) (by subst hV; rfl) (by kernel_rfl) g5 (by subst hV; rfl) fun ps af e => k_mv e
    · exact pg0 13 119 false 121 8 0 ho hK (by kernel_rfl) (by kernel_rfl) (by kernel_rfl) (by subst hV; rfl) (by kernel_rfl) g8 (by subst hV; rfl) fun ps af e => k_fa48_2 e
    · exact pg1 13 119 false 122 121 15 9 ho hK (by kernel_rfl) (by kernel_rfl) (by kernel_rfl) (by subst hV; rfl) (by kernel_rfl) (by subst hV; rfl) (by subst hV; rfl) fun ps af e => k_ld9 (l2 _ _ _ _ _ _ _ _ _ _ hW) e
    · exact absurd (by decide) hic
    · exact pg0 13 119 false 124 6 43 ho hK (by kernel_rfl) (by kernel_rfl) (by kernel_rfl) (by subst hV; rfl) (by kernel_rfl) g6 (by subst hV; rfl) fun ps af e => k_mv e
    · exact pg0 13 119 false 125 8 0 ho hK (by kernel_rfl) (by kernel_rfl) (by kernel_rfl) (by subst hV; rfl) (by kernel_rfl) g8 (by subst hV; rfl) fun ps af e => k_fa48_2 e
    · exact pg1 13 119 false 126 125 19 9 ho hK (by kernel_rfl) (by kernel_rfl) (by kernel_rfl) (by subst hV; rfl) (by kernel_rfl) (by subst hV; rfl) (by subst hV; rfl) fun ps af e => k_ld9 (l2 _ _ _ _ _ _ _ _ _ _ hW) e
    · exact absurd (by decide) hic
    · obtain ⟨ps, af, rfl⟩ := core (some 128) (.binOp BinOp.neq 27 (.tmp 123) (.tmp 127) 27) 4 (some (13, false)) ho (by kernel_rfl)
      have e123 : Tx.getD 123 undef = .int .i64 d := hK.is 17 ho (by kernel_rfl) (by subst hV; rfl)
      have e127 : Tx.getD 127 undef = .int .i64 d := hK.is 21 ho (by kernel_rfl) (by subst hV; rfl)
      exact wpOp_want ho ((wanted_of (d := 119) (b := false) rfl (by kernel_rfl) (hK.is 13 ho (by kernel_rfl) (by subst hV; rfl))).trans rfl) (by subst hV; go_simp; try rfl)
    · obtain ⟨ps, af, rfl⟩ := core (some 129) (.pick (.tmp 119) (.const (Value.bool true)) (.tmp 128)) 4 none ho (by kernel_rfl)
      have e119 : Tx.getD 119 undef = .bool false := hK.is 13 ho (by kernel_rfl) (by subst hV; rfl)
      have e128 : Tx.getD 128 undef = .bool false := hK.is 22 ho (by kernel_rfl) (by subst hV; rfl)
      exact wpOp_plain ho rfl (by subst hV; go_simp; try rfl)
    · exact pl1 130 129 23 4 ho hK (by kernel_rfl) (by kernel_rfl) (by subst hV; rfl) (by subst hV; rfl) fun ps af e => k_mv e
    · exact pg0 24 130 false 131 13 41 ho hK (by kernel_rfl) (by kernel_rfl) (by kernel_rfl) (by subst hV; rfl) (by kernel_rfl) g13 (by subst hV; rfl) fun ps af e => k_mv e
    · exact absurd (by decide) hic
    · exact pg0 24 130 false 133 14 43 ho hK (by kernel_rfl) (by kernel_rfl) (by kernel_rfl) (by subst hV; rfl) (by kernel_rfl) g14 (by subst hV; rfl) fun ps af e => k_mv e
    · exact absurd (by decide) hic
    · exact absurd (by decide) hic
    · obtain ⟨ps, af, rfl⟩ := core (some 136) (.unOp UnOp.not 4 (.tmp 135)) 4 (some (24, false)) ho (by kernel_rfl)
      have e135 : Tx.getD 135 undef = .bool true := hK.is 29 ho (by kernel_rfl) (by subst hV; rfl)
      exact wpOp_want ho ((wanted_of (d := 130) (b := false) rfl (by kernel_rfl) (hK.is 24 ho (by kernel_rfl) (by subst hV; rfl))).trans rfl) (by subst hV; go_simp; try rfl)
    · obtain ⟨ps, af, rfl⟩ := core (some 137) (.pick (.tmp 130) (.const (Value.bool true)) (.tmp 136)) 4 none ho (by kernel_rfl)
      have e130 : Tx.getD 130 undef = .bool false := hK.is 24 ho (by kernel_rfl) (by subst hV; rfl)
      have e136 : Tx.getD 136 undef = .bool false := hK.is 30 ho (by kernel_rfl) (by subst hV; rfl)
      exact wpOp_plain ho rfl (by subst hV; go_simp; try rfl)
  · have hcase : cx = 6 ∨ cx = 10 ∨ cx = 17 ∨ cx = 21 ∨ cx = 26 ∨ cx = 28 ∨ cx = 29 := by simpa using hc
    rcases hcase with rfl | rfl | rfl | rfl | rfl | rfl | rfl
    · obtain ⟨ps, af, rfl⟩ := core (some 112) (.call { callee := .value (.func 22), args := #[.tmp 109, .tmp 111], argTypes := #[41, 9] }) 27 (some (2, false)) ho (by kernel_rfl)
      have e109 : Tx.getD 109 undef = .pointer (some ⟨q, 0, none⟩) := hK.is 3 ho (by kernel_rfl) (by subst hV; rfl)
      have e111 : Tx.getD 111 undef = .string a := hK.is 5 ho (by kernel_rfl) (by subst hV; rfl)
      have hW1 : PW (dx 6) (dx 10) (dx 17) (dx 21) (dx 26) (dx 28) (dx 29) (yx 26) (yx 28) wx := hW
      have f10 := hda 10 (by decide) (by kernel_rfl)
      have f17 := hda 17 (by decide) (by kernel_rfl)
      have f21 := hda 21 (by decide) (by kernel_rfl)
      have f26 := hda 26 (by decide) (by kernel_rfl)
      have f28 := hda 28 (by decide) (by kernel_rfl)
      have f29 := hda 29 (by decide) (by kernel_rfl)
      clear hdb hda
      rw [hd, f10, f17, f21, f26, f28, f29] at hW1
      replace f10 := Lib.hid f10
      replace f17 := Lib.hid f17
      replace f21 := Lib.hid f21
      replace f26 := Lib.hid f26
      replace f28 := Lib.hid f28
      replace f29 := Lib.hid f29
      clear hd hW hc
      refine wpOp_want ho ((wanted_of (d := 108) (b := false) rfl (by kernel_rfl) (hK.is 2 ho (by kernel_rfl) (by subst hV; rfl))).trans rfl) ?_
      go_simp
      go_at_call 22
      refine (cl6 _ _ _ hW1).mono ?_
      rintro ex w2 ⟨rfl, hW2⟩
      subst hV
      first | refine ⟨undef, rfl, ?_⟩ | refine ⟨⟨undef, rfl⟩, ?_⟩
      simpa [updB, upd, f10.out, f17.out, f21.out, f26.out, f28.out, f29.out] using hW2
    · obtain ⟨ps, af, rfl⟩ := core (some 116) (.call { callee := .value (.func 23), args := #[.tmp 113, .tmp 115], argTypes := #[43, 9] }) 27 (some (2, false)) ho (by kernel_rfl)
      have e113 : Tx.getD 113 undef = .pointer (some ⟨y, 0, none⟩) := hK.is 7 ho (by kernel_rfl) (by subst hV; rfl)
      have e115 : Tx.getD 115 undef = .string a := hK.is 9 ho (by kernel_rfl) (by subst hV; rfl)
      have hW1 : PW (dx 6) (dx 10) (dx 17) (dx 21) (dx 26) (dx 28) (dx 29) (yx 26) (yx 28) wx := hW
      have f6 := hdb 6 (by decide) (by kernel_rfl)
      have f17 := hda 17 (by decide) (by kernel_rfl)
      have f21 := hda 21 (by decide) (by kernel_rfl)
      have f26 := hda 26 (by decide) (by kernel_rfl)
      have f28 := hda 28 (by decide) (by kernel_rfl)
      have f29 := hda 29 (by decide) (by kernel_rfl)
      clear hdb hda
      rw [hd, f6, f17, f21, f26, f28, f29] at hW1
      replace f6 := Lib.hid f6
      replace f17 := Lib.hid f17
      replace f21 := Lib.hid f21
      replace f26 := Lib.hid f26
      replace f28 := Lib.hid f28
      replace f29 := Lib.hid f29
      clear hd hW hc
      refine wpOp_want ho ((wanted_of (d := 108) (b := false) rfl (by kernel_rfl) (hK.is 2 ho (by kernel_rfl) (by subst hV; rfl))).trans rfl) ?_
      go_simp
      go_at_call 23
      refine (cl10 _ _ _ hW1).mono ?_
      rintro ex w2 ⟨rfl, hW2⟩
      subst hV
      first | refine ⟨undef, rfl, ?_⟩ | refine ⟨⟨undef, rfl⟩, ?_⟩
      simpa [updB, upd, f6.out, f17.out, f21.out, f26.out, f28.out, f29.out] using hW2
    · obtain ⟨ps, af, rfl⟩ := core (some 123) (.call { callee := .value (.func 22), args := #[.tmp 120, .tmp 122], argTypes := #[41, 9] }) 27 (some (13, false)) ho (by kernel_rfl)
      have e120 : Tx.getD 120 undef = .pointer (some ⟨r, 0, none⟩) := hK.is 14 ho (by kernel_rfl) (by subst hV; rfl)
      have e122 : Tx.getD 122 undef = .string n := hK.is 16 ho (by kernel_rfl) (by subst hV; rfl)
      have hW1 : PW (dx 6) (dx 10) (dx 17) (dx 21) (dx 26) (dx 28) (dx 29) (yx 26) (yx 28) wx := hW
      have f6 := hdb 6 (by decide) (by kernel_rfl)
      have f10 := hdb 10 (by decide) (by kernel_rfl)
      have f21 := hda 21 (by decide) (by kernel_rfl)
      have f26 := hda 26 (by decide) (by kernel_rfl)
      have f28 := hda 28 (by decide) (by kernel_rfl)
      have f29 := hda 29 (by decide) (by kernel_rfl)
      clear hdb hda
      rw [hd, f6, f10, f21, f26, f28, f29] at hW1
      replace f6 := Lib.hid f6
      replace f10 := Lib.hid f10
      replace f21 := Lib.hid f21
      replace f26 := Lib.hid f26
      replace f28 := Lib.hid f28
      replace f29 := Lib.hid f29
      clear hd hW hc
      refine wpOp_want ho ((wanted_of (d := 119) (b := false) rfl (by kernel_rfl) (hK.is 13 ho (by kernel_rfl) (by subst hV; rfl))).trans rfl) ?_
      go_simp
      go_at_call 22
      refine (cl17 _ _ _ hW1).mono ?_
      rintro ex w2 ⟨rfl, hW2⟩
      subst hV
      first | refine ⟨undef, rfl, ?_⟩ | refine ⟨⟨undef, rfl⟩, ?_⟩
      simpa [updB, upd, f6.out, f10.out, f21.out, f26.out, f28.out, f29.out] using hW2
    · obtain ⟨ps, af, rfl⟩ := core (some 127) (.call { callee := .value (.func 23), args := #[.tmp 124, .tmp 126], argTypes := #[43, 9] }) 27 (some (13, false)) ho (by kernel_rfl)
      have e124 : Tx.getD 124 undef = .pointer (some ⟨x, 0, none⟩) := hK.is 18 ho (by kernel_rfl) (by subst hV; rfl)
      have e126 : Tx.getD 126 undef = .string n := hK.is 20 ho (by kernel_rfl) (by subst hV; rfl)
      have hW1 : PW (dx 6) (dx 10) (dx 17) (dx 21) (dx 26) (dx 28) (dx 29) (yx 26) (yx 28) wx := hW
      have f6 := hdb 6 (by decide) (by kernel_rfl)
      have f10 := hdb 10 (by decide) (by kernel_rfl)
      have f17 := hdb 17 (by decide) (by kernel_rfl)
      have f26 := hda 26 (by decide) (by kernel_rfl)
      have f28 := hda 28 (by decide) (by kernel_rfl)
      have f29 := hda 29 (by decide) (by kernel_rfl)
      clear hdb hda
      rw [hd, f6, f10, f17, f26, f28, f29] at hW1
      replace f6 := Lib.hid f6
      replace f10 := Lib.hid f10
      replace f17 := Lib.hid f17
      replace f26 := Lib.hid f26
      replace f28 := Lib.hid f28
      replace f29 := Lib.hid f29
      clear hd hW hc
      refine wpOp_want ho ((wanted_of (d := 119) (b := false) rfl (by kernel_rfl) (hK.is 13 ho (by kernel_rfl) (by subst hV; rfl))).trans rfl) ?_
      go_simp
      go_at_call 23
      refine (cl21 _ _ _ hW1).mono ?_
      rintro ex w2 ⟨rfl, hW2⟩
      subst hV
      first | refine ⟨undef, rfl, ?_⟩ | refine ⟨⟨undef, rfl⟩, ?_⟩
      simpa [updB, upd, f6.out, f10.out, f17.out, f26.out, f28.out, f29.out] using hW2
    · obtain ⟨ps, af, rfl⟩ := core (some 132) (.call { callee := .value (.func 31), args := #[.tmp 131], argTypes := #[41] }) 44 (some (24, false)) ho (by kernel_rfl)
      have e131 : Tx.getD 131 undef = .pointer (some ⟨q, 0, none⟩) := hK.is 25 ho (by kernel_rfl) (by subst hV; rfl)
      have hW1 : PW (dx 6) (dx 10) (dx 17) (dx 21) (dx 26) (dx 28) (dx 29) (yx 26) (yx 28) wx := hW
      have f6 := hdb 6 (by decide) (by kernel_rfl)
      have f10 := hdb 10 (by decide) (by kernel_rfl)
      have f17 := hdb 17 (by decide) (by kernel_rfl)
      have f21 := hdb 21 (by decide) (by kernel_rfl)
      have f28 := hda 28 (by decide) (by kernel_rfl)
      have f29 := hda 29 (by decide) (by kernel_rfl)
      clear hdb hda
      rw [hd, f6, f10, f17, f21, f28, f29] at hW1
      replace f6 := Lib.hid f6
      replace f10 := Lib.hid f10
      replace f17 := Lib.hid f17
      replace f21 := Lib.hid f21
      replace f28 := Lib.hid f28
      replace f29 := Lib.hid f29
      clear hd hW hc
      refine wpOp_want ho ((wanted_of (d := 130) (b := false) rfl (by kernel_rfl) (hK.is 24 ho (by kernel_rfl) (by subst hV; rfl))).trans rfl) ?_
      go_simp
      go_at_call 31
      refine (cl26 _ _ _ hW1).mono ?_
      rintro ex w2 ⟨vx, rfl, hW2⟩
      subst hV
      refine ⟨vx, rfl, ?_⟩
      simpa [updB, upd, f6.out, f10.out, f17.out, f21.out, f28.out, f29.out] using hW2
    · obtain ⟨ps, af, rfl⟩ := core (some 134) (.call { callee := .value (.func 32), args := #[.tmp 133], argTypes := #[43] }) 44 (some (24, false)) ho (by kernel_rfl)
      have e133 : Tx.getD 133 undef = .pointer (some ⟨y, 0, none⟩) := hK.is 27 ho (by kernel_rfl) (by subst hV; rfl)
      have hW1 : PW (dx 6) (dx 10) (dx 17) (dx 21) (dx 26) (dx 28) (dx 29) (yx 26) (yx 28) wx := hW
      have f6 := hdb 6 (by decide) (by kernel_rfl)
      have f10 := hdb 10 (by decide) (by kernel_rfl)
      have f17 := hdb 17 (by decide) (by kernel_rfl)
      have f21 := hdb 21 (by decide) (by kernel_rfl)
      have f26 := hdb 26 (by decide) (by kernel_rfl)
      have f29 := hda 29 (by decide) (by kernel_rfl)
      clear hdb hda
      rw [hd, f6, f10, f17, f21, f26, f29] at hW1
      replace f6 := Lib.hid f6
      replace f10 := Lib.hid f10
      replace f17 := Lib.hid f17
      replace f21 := Lib.hid f21
      replace f26 := Lib.hid f26
      replace f29 := Lib.hid f29
      clear hd hW hc
      refine wpOp_want ho ((wanted_of (d := 130) (b := false) rfl (by kernel_rfl) (hK.is 24 ho (by kernel_rfl) (by subst hV; rfl))).trans rfl) ?_
      go_simp
      go_at_call 32
      refine (cl28 _ _ _ hW1).mono ?_
      rintro ex w2 ⟨vx, rfl, hW2⟩
      subst hV
      refine ⟨vx, rfl, ?_⟩
      simpa [updB, upd, f6.out, f10.out, f17.out, f21.out, f26.out, f29.out] using hW2
    · obtain ⟨ps, af, rfl⟩ := core (some 135) (.call { callee := .value (.func 30), args := #[.tmp 132, .tmp 134], argTypes := #[44, 44] }) 4 (some (24, false)) ho (by kernel_rfl)
      have e132 : Tx.getD 132 undef = yx 26 := hK.is 26 ho (by kernel_rfl) (by subst hV; rfl)
      have e134 : Tx.getD 134 undef = yx 28 := hK.is 28 ho (by kernel_rfl) (by subst hV; rfl)
      have hW1 : PW (dx 6) (dx 10) (dx 17) (dx 21) (dx 26) (dx 28) (dx 29) (yx 26) (yx 28) wx := hW
      have f6 := hdb 6 (by decide) (by kernel_rfl)
      have f10 := hdb 10 (by decide) (by kernel_rfl)
      have f17 := hdb 17 (by decide) (by kernel_rfl)
      have f21 := hdb 21 (by decide) (by kernel_rfl)
      have f26 := hdb 26 (by decide) (by kernel_rfl)
      have f28 := hdb 28 (by decide) (by kernel_rfl)
      clear hdb hda
      rw [hd, f6, f10, f17, f21, f26, f28] at hW1
      replace f6 := Lib.hid f6
      replace f10 := Lib.hid f10
      replace f17 := Lib.hid f17
      replace f21 := Lib.hid f21
      replace f26 := Lib.hid f26
      replace f28 := Lib.hid f28
      clear hd hW hc
      refine wpOp_want ho ((wanted_of (d := 130) (b := false) rfl (by kernel_rfl) (hK.is 24 ho (by kernel_rfl) (by subst hV; rfl))).trans rfl) ?_
      go_simp
      go_at_call 30
      refine (cl29 _ _ _ hW1).mono ?_
      rintro ex w2 ⟨rfl, hW2⟩
      subst hV
      first | refine ⟨undef, rfl, ?_⟩ | refine ⟨⟨undef, rfl⟩, ?_⟩
      simpa [updB, upd, f6.out, f10.out, f17.out, f21.out, f26.out, f28.out] using hW2
  · have hW1 : PW (dx 6) (dx 10) (dx 17) (dx 21) (dx 26) (dx 28) (dx 29) (yx 26) (yx 28) wx := hW
    rw [hd 6 (by decide), hd 10 (by decide), hd 17 (by decide), hd 21 (by decide), hd 26 (by decide), hd 28 (by decide), hd 29 (by decide)] at hW1
    have hQ := h _ _ _ hW1
    rw [hsz]
    subst hV hT
    refine cast (congrArg (fun Tx => Q .normal ⟨Tx, ds⟩ wx) ?_) hQ
    kernel_rfl
end Go.Proofs.YtpggkfdijmnmiaaGreat.Pl
namespace Go.Proofs.YtpggkfdijmnmiaaGreat
open Go.ChangeShapes Go.WideShapes Go.ChangeAt Go.ChangeMaps Go.RowKit Go.Deep Limbs
structure ROp where
  kind : Int
  s : ByteArray
  n : ByteArray
  m : ByteArray
def ROp.cells (o : ROp) : List Value := [.int .i64 o.kind, .string o.s, .string o.n, .string o.m]
def ROpOk (o : ROp) : Prop := -9223372036854775808 ≤ o.kind ∧ o.kind ≤ 9223372036854775807 ∧ o.s.data.toList.length ≤ 140737488351232 ∧ o.n.data.toList.length ≤ 140737488351232 ∧ o.m.data.toList.length ≤ 140737488351232
def ROpsIn (w : World) (v : Value) (l : List ROp) : Prop :=
  ∃ a c, v = .slice a l.length c ∧ (l ≠ [] → ∃ b o, a = some ⟨b, o, none⟩ ∧ b < w.heap.size ∧ ∀ i (hi : i < l.length), w.cell? ⟨b, o + i * 4, none⟩ = some (.int .i64 l[i].kind) ∧ w.cell? ⟨b, o + i * 4 + 1, none⟩ = some (.string l[i].s) ∧ w.cell? ⟨b, o + i * 4 + 2, none⟩ = some (.string l[i].n) ∧ w.cell? ⟨b, o + i * 4 + 3, none⟩ = some (.string l[i].m))
theorem ROpsIn.below {w w' : World} {v : Value} {l : List ROp} (h : ROpsIn w v l) (hb : Below w.heap.size w w') : ROpsIn w' v l := by
  obtain ⟨a, c, hv, hl⟩ := h
  refine ⟨a, c, hv, fun hne => ?_⟩
  obtain ⟨b, o, ha, hlt, hc⟩ := hl hne
  have e : ∀ k, w'.cell? ⟨b, k, none⟩ = w.cell? ⟨b, k, none⟩ := fun k => hb.cell (p := ⟨b, k, none⟩) hlt
  refine ⟨b, o, ha, Nat.lt_of_lt_of_le hlt hb.size, fun i hi => ?_⟩
  simp only [e]
  exact hc i hi
theorem index40 (b o c n i : Nat) (h : i < n) (w : World) : (Instr.indexAt 40 (.slice (some ⟨b, o, none⟩) n c) (.int .i64 (i : Int))).run Tryz.prog w = .ok (.pointer (some ⟨b, o + i * 4, none⟩)) w := by
  go_simp
section
variable {H : Type} {enc : TypeId × Value → H}
theorem laidOut : laidOutB Tryz.prog = true := by kernel_rfl
theorem read40 : Tryz.prog.readableRec 40 = true := by kernel_rfl
theorem row40 : 40 < Tryz.prog.types.size := of_decide_eq_true (by kernel_rfl)
theorem trod_keep {t : TypeId} (hr : Tryz.prog.readableRec t = true) (hrow : t < Tryz.prog.types.size) {W W' : World} {v : Value} {d : DataW H} {ps : List MemPlace}
    (h : DataW.Trod enc Tryz.prog W 0 (fun _ => true) true t v d ps) (hb : Below W.heap.size W W') (hlt : ∀ x ∈ ps, x.block < W.heap.size) (sp : Nat → Bool) (hsp : ∀ x ∈ ps, sp x.block = true) :
    DataW.Trod enc Tryz.prog W' 0 sp true t v d ps :=
  WideElems.Trod_stays laidOut hr hrow h (fun x hx => hb.same (hlt x hx)) hsp
theorem cells48 : Tryz.prog.cellsOf 48 = 4 := by kernel_rfl
theorem bytes48 : Tryz.prog.bytesOf 48 = 56 := by kernel_rfl
theorem cells3' : Tryz.prog.cellsOf 3 = 1 := by kernel_rfl
theorem cells9' : Tryz.prog.cellsOf 9 = 1 := by kernel_rfl
theorem add_off {a : Addr} {W : World} {v : Value} (h : W.cell? a = some v) (j : Nat) : a.add j = ⟨a.block, a.off + j, none⟩ := by
  have hspot : a = ⟨a.block, a.off, none⟩ := by
    obtain ⟨ab, ao, asp⟩ := a
    cases asp with
    | none => rfl
    | some x =>
      exfalso
      unfold World.cell? at h
      split at h <;> simp at h
  rw [hspot]
  unfold Addr.add
  split
  · rename_i h; subst h; rfl
  · rfl
theorem weights_all {t : TypeId} {n : Nat} {d : DataW H} : ∀ {l : List (DataW H)}, d ∈ l → n ∈ d.weights Tryz.prog t → n ∈ DataW.weightsAll Tryz.prog t l
  | x :: r, hd, hn => by
    simp only [DataW.weightsAll, List.mem_append]
    cases List.mem_cons.1 hd with
    | inl e => subst e; exact .inl hn
    | inr e => exact .inr (weights_all e hn)
theorem open_rop {W : World} {sp : Nat → Bool} {held : Bool} {fuel : Nat} {cs : List Value} {x : DataW H × List MemPlace} (h : DataW.trod enc Tryz.prog W 0 sp held fuel 48 cs = some x) (hw : ∀ n ∈ x.1.weights Tryz.prog 48, n ≤ 140737488351232) :
    ∃ o : ROp, cs = o.cells ∧ ROpOk o ∧ x = (.agg [.lit (.int .i64 o.kind), .lit (.string o.s.data.toList), .lit (.string o.n.data.toList), .lit (.string o.m.data.toList)], []) := by
  obtain ⟨xs, n, rfl, rfl, hlen, hxl, hf⟩ := DataW.trod_struct Tryz.underlying48 h
  rw [cells48] at hlen
  match xs, hxl, cs, hlen with
  | [y0, y1, y2, y3], _, [v0, v1, v2, v3], _ =>
    have g0 := hf 0 _ rfl
    have g1 := hf 1 _ rfl
    have g2 := hf 2 _ rfl
    have g3 := hf 3 _ rfl
    simp [cells3', cells9'] at g0 g1 g2 g3
    obtain ⟨n0, e0, x0, w0⟩ := DataW.trod_int Tryz.underlying3 g0
    obtain ⟨s1, e1, x1, w1⟩ := DataW.trod_string Tryz.underlying9 g1
    obtain ⟨s2, e2, x2, w2⟩ := DataW.trod_string Tryz.underlying9 g2
    obtain ⟨s3, e3, x3, w3⟩ := DataW.trod_string Tryz.underlying9 g3
    simp only [List.cons.injEq, and_true] at e0 e1 e2 e3
    subst e0 e1 e2 e3 x0 x1 x2 x3
    have h1 : s1.data.toList.length ≤ 140737488351232 := hw _ (by simp [DataW.weights, Tryz.underlying48, DataW.weightsEach])
    have h2 : s2.data.toList.length ≤ 140737488351232 := hw _ (by simp [DataW.weights, Tryz.underlying48, DataW.weightsEach])
    have h3 : s3.data.toList.length ≤ 140737488351232 := hw _ (by simp [DataW.weights, Tryz.underlying48, DataW.weightsEach])
    have b0 := wf_int w0
    exact ⟨⟨n0, s1, s2, s3⟩, rfl, ⟨b0.1, b0.2, h1, h2, h3⟩, rfl⟩
theorem open_rops {W : World} {b0 : Nat} {v : Value} {d : DataW H} {ps : List MemPlace} (hv : Value.okWide Tryz.prog W .any b0 40 v) (h : DataW.Trod enc Tryz.prog W 0 (fun _ => true) true 40 v d ps)
    (hw : ∀ n ∈ d.weights Tryz.prog 40, n ≤ 140737488351232) : ∃ l : List ROp, ROpsIn W v l ∧ (∀ x ∈ l, ROpOk x) ∧ l.length ≤ 2513169434843 := by
  obtain ⟨A, n, c, rfl⟩ := okWide_slice Tryz.underlying40 hv
  obtain ⟨fuel, hf⟩ := h
  rcases open_slice Tryz.underlying40 hf with ⟨hc, hx⟩ | ⟨a, len, cap, m, n', D, Pl, hc, _, hl, hm, hmm, hx, hi⟩
  · have e : Value.slice A n c = .slice none 0 0 := by simpa [Value.cells] using hc
    rw [e]
    exact ⟨[], ⟨none, 0, rfl, fun h => absurd rfl h⟩, by simp, by simp⟩
  · have e : Value.slice A n c = .slice (some a) len cap := by simpa [Value.cells] using hc
    rw [e]
    obtain ⟨hd, _⟩ := Prod.mk.inj hx
    subst hd
    have hlm : len ≤ m := by rw [hmm]; simp; exact hl
    have hlw : (len + (m - len)) * 56 ≤ 140737488351232 := hw _ (by simp [DataW.weights, Tryz.underlying40, bytes48])
    have each : ∀ i, ∃ o : ROp, i < len → ROpOk o ∧ W.cell? (a.add (i * 4)) = some (.int .i64 o.kind) ∧ W.cell? ((a.add (i * 4)).add 1) = some (.string o.s) ∧ W.cell? ((a.add (i * 4)).add 2) = some (.string o.n) ∧ W.cell? ((a.add (i * 4)).add 3) = some (.string o.m) := by
      intro i
      by_cases hil : i < len
      · obtain ⟨cs', h2, h3⟩ := hi i (by omega)
        rw [cells48] at h2
        obtain ⟨o, rfl, hok, _⟩ := open_rop h3 (fun n hn => hw n (by
          simp only [DataW.weights, Tryz.underlying40, List.mem_cons, List.mem_append]
          exact .inr (.inl (weights_all (List.mem_map.2 ⟨i, List.mem_range.2 hil, rfl⟩) hn))))
        obtain ⟨_, _, hcell⟩ := World.cells?_some h2
        refine ⟨o, fun _ => ⟨hok, ?_, hcell 1 (by simp [ROp.cells]), hcell 2 (by simp [ROp.cells]), hcell 3 (by simp [ROp.cells])⟩⟩
        have := hcell 0 (by simp [ROp.cells])
        have e0 : (a.add (i * 4)).add 0 = a.add (i * 4) := by simp [Addr.add]
        rw [e0] at this
        exact this
      · exact ⟨⟨0, ⟨#[]⟩, ⟨#[]⟩, ⟨#[]⟩⟩, fun h => absurd h hil⟩
    obtain ⟨F, hF⟩ := Classical.skolem.1 each
    have hlen : ((List.range len).map F).length = len := by simp
    refine ⟨(List.range len).map F, ⟨some a, cap, by rw [hlen], fun hne => ?_⟩, ?_, by rw [hlen]; omega⟩
    · have h0 : 0 < len := by
        rcases Nat.eq_zero_or_pos len with h | h
        · subst h; exact absurd rfl hne
        · exact h
      have c0 := (hF 0 h0).2.1
      have e0 : a.add (0 * 4) = a := by simp [Addr.add]
      rw [e0] at c0
      have hadd := add_off c0
      refine ⟨a.block, a.off, by have := hadd 0; simpa [Addr.add] using this, World.block_lt_of_cell? W _ c0, fun i hi' => ?_⟩
      have hil : i < len := by rwa [hlen] at hi'
      obtain ⟨f1, f2, f3, f4, f5⟩ := hF i hil
      have hadd2 := add_off f2
      rw [hadd2] at f3 f4 f5
      rw [hadd] at f2 f3 f4 f5
      have hg : ((List.range len).map F)[i] = F i := by simp
      rw [hg]
      exact ⟨f2, f3, f4, f5⟩
    · intro o ho
      obtain ⟨i, hir, rfl⟩ := List.mem_map.1 ho
      exact (hF i (List.mem_range.1 hir)).1
end
end Go.Proofs.YtpggkfdijmnmiaaGreat
namespace Go.Proofs.YtpggkfdijmnmiaaGreat
open Go.RowKit Limbs Curve
theorem kid_ab : kidOf [97] ≠ kidOf [98] := by decide +kernel
theorem pub_one : pubOf 1 = G := by unfold pubOf; rw [mul_is (by decide) G_on, mul_one_p, (on_iff G_on).2.1]
theorem kid_b : kidOf [98] ≠ [] := by decide +kernel
theorem kid_a : kidOf [97] ≠ [] := by decide +kernel
end Go.Proofs.YtpggkfdijmnmiaaGreat
