/- Drawn regions of the pair that is asked. No condition. -/
import Derived.Test.YtmoihgniglomiaaDoorZd20
set_option linter.unusedVariables false
set_option linter.unusedSimpArgs false
set_option maxRecDepth 100000
namespace Go.Proofs.YtmoihgniglomiaaDoor
open Go.RowKit Go.Sort
noncomputable def rDAO : Array Oper := (Tryd.f20.body.bind fun c => findR c 3).getD #[]
def rDA_m : List (List Nat) := [[], [], [], [], [], [], [], [], [], [], [], [], [], [6], [6, 13], [6, 13]]
set_option maxHeartbeats 16000000 in
theorem rDA (PW : Bool → Bool → World → Prop) (P q b rb : Nat) (cd : Int) (s : ByteArray) (w : World) (w0 : PW false false  w.drew)  (l0 : ∀ (b6 b13 : Bool) (w : World), PW b6 b13  w → w.cell? ⟨P, 0, none⟩ = some (.pointer (some ⟨b, 0, none⟩))) (q4 : ∀ (b6 b13 : Bool) (w : World), PW b6 b13  w → w.cell? ⟨q, 4, none⟩ = some (.string s)) (l2 : ∀ (b6 b13 : Bool) (w : World), PW b6 b13  w → w.cell? ⟨P, 2, none⟩ = some (.pointer (some ⟨rb, 0, none⟩))) (cl6 : ∀ (w : World), PW false false w → Calls Tryd.prog 38 #[.pointer (some ⟨b, 0, none⟩), .string s] w fun e w1 => e = .returned (.int .i64 cd) ∧ PW true false  w1) (cl13 : ∀ (w : World), PW true false w → Calls Tryd.prog 52 #[.pointer (some ⟨rb, 0, none⟩), .string s] w fun e w1 => e = .returned (.int .i64 cd) ∧ PW true true  w1) {t1 t2 t4 t5 t6 t7 t8 t9 t10 t11 t12 t13 t14 t15 t16 t17 t18 t19 t20 t21 t22 t23 t24 t25 t26 t27 t28 t29 t30 t31 t32 t33 t34 t35 t36 t37 t38 t39 t40 t41 t42 t43 t44 t45 t46 t47 t48 t49 t50 t51 t52 t53 t54 t55 t56 t57 t58 t59 t60 t61 t62 t63 t64 t65 t66 t67 t68 t69 t70 t71 t72 t73 t74 t75 t76 t77 t78 t79 t80 t81 t82 t83 t84 t85 t86 t87 t88 t89 t90 t91 t92 t93 t94 t95 t96 t97 t98 t99 t100 t101 t102 t103 t104 t105 t106 t107 t108 t109 t110 t111 t112 t113 t114 t115 t116 t117 t118 t119 t120 t121 t122 t123 t124 t125 t126 t127 t128 t129 t130 t131 : Value} {ds : List Deferred} {Q : Exit → Act → World → Prop}
    (h : ∀ (w1 : World), PW true true  w1 → Q .normal { tmps := #[.pointer (some ⟨P, 0, none⟩), t1, t2, .pointer (some ⟨q, 0, none⟩), .bool true, t5, t6, t7, t8, t9, t10, t11, .pointer (some ⟨P, 0, none⟩), .pointer (some ⟨P, 0, none⟩), .pointer (some ⟨P, 0, none⟩), .pointer (some ⟨b, 0, none⟩), .pointer (some ⟨q, 4, none⟩), .string s, .int .i64 cd, .pointer (some ⟨P, 0, none⟩), .pointer (some ⟨P, 0, none⟩), .pointer (some ⟨P, 2, none⟩), .pointer (some ⟨rb, 0, none⟩), .pointer (some ⟨q, 4, none⟩), .string s, .int .i64 cd, .bool true, t27, t28, t29, t30, t31, t32, t33, t34, t35, t36, t37, t38, t39, t40, t41, t42, t43, t44, t45, t46, t47, t48, t49, t50, t51, t52, t53, t54, t55, t56, t57, t58, t59, t60, t61, t62, t63, t64, t65, t66, t67, t68, t69, t70, t71, t72, t73, t74, t75, t76, t77, t78, t79, t80, t81, t82, t83, t84, t85, t86, t87, t88, t89, t90, t91, t92, t93, t94, t95, t96, t97, t98, t99, t100, t101, t102, t103, t104, t105, t106, t107, t108, t109, t110, t111, t112, t113, t114, t115, t116, t117, t118, t119, t120, t121, t122, t123, t124, t125, t126, t127, t128, t129, t130, t131], defers := ds } w1) :
    (Code.region 3 rDAO true).wp Tryd.prog Q { tmps := #[.pointer (some ⟨P, 0, none⟩), t1, t2, .pointer (some ⟨q, 0, none⟩), t4, t5, t6, t7, t8, t9, t10, t11, t12, t13, t14, t15, t16, t17, t18, t19, t20, t21, t22, t23, t24, t25, t26, t27, t28, t29, t30, t31, t32, t33, t34, t35, t36, t37, t38, t39, t40, t41, t42, t43, t44, t45, t46, t47, t48, t49, t50, t51, t52, t53, t54, t55, t56, t57, t58, t59, t60, t61, t62, t63, t64, t65, t66, t67, t68, t69, t70, t71, t72, t73, t74, t75, t76, t77, t78, t79, t80, t81, t82, t83, t84, t85, t86, t87, t88, t89, t90, t91, t92, t93, t94, t95, t96, t97, t98, t99, t100, t101, t102, t103, t104, t105, t106, t107, t108, t109, t110, t111, t112, t113, t114, t115, t116, t117, t118, t119, t120, t121, t122, t123, t124, t125, t126, t127, t128, t129, t130, t131], defers := ds } w := by
  have hsz : rDAO.size = 16 := by kernel_rfl
  generalize hT : List.toArray _ = T0
  have hs : T0.size = 132 := by subst hT; rfl
  have g0 : T0.getD 0 undef = .pointer (some ⟨P, 0, none⟩) := by subst hT; rfl
  have g3 : T0.getD 3 undef = .pointer (some ⟨q, 0, none⟩) := by subst hT; rfl
  obtain ⟨W, hV⟩ : ∃ W : List ((Nat × (Value → Value)) ⊕ Value), W = [.inr (.pointer (some ⟨P, 0, none⟩)), .inr (.pointer (some ⟨P, 0, none⟩)), .inr (.pointer (some ⟨P, 0, none⟩)), .inr (.pointer (some ⟨b, 0, none⟩)), .inr (.pointer (some ⟨q, 4, none⟩)), .inr (.string s), .inr (.int .i64 cd), .inr (.pointer (some ⟨P, 0, none⟩)), .inr (.pointer (some ⟨P, 0, none⟩)), .inr (.pointer (some ⟨P, 2, none⟩)), .inr (.pointer (some ⟨rb, 0, none⟩)), .inr (.pointer (some ⟨q, 4, none⟩)), .inr (.string s), .inr (.int .i64 cd), .inr (.bool true), .inr (.bool true)] := ⟨_, rfl⟩
  refine wp_plan (by kernel_rfl) T0 ds [6, 13] rDA_m (mkV W) (fun dx yx wx => PW (dx 6) (dx 13)  wx) w (by rw [hs]; kernel_rfl) (by kernel_rfl) (by kernel_rfl) (by rw [hsz]; decide) (fun cx hc ix hne ha yx vx => mkV_fix (by rw [hV]; kernel_rfl) hne ha yx vx) (?key) (fun cx hc ox ho dx yx Tx wx hd hdb hda hK hW => ?_) ⟨fun k => undef, w0⟩ (fun dx yx wx hd hW => ?_)
  case key =>
    rw [hsz]
    refine all_step (all_step (all_step (all_step (all_step (all_step (all_step (all_step (all_step (all_step (all_step (all_step (all_step (all_step (all_step (all_step all_zero ?_) ?_) ?_) ?_) ?_) ?_) ?_) ?_) ?_) ?_) ?_) ?_) ?_) ?_) ?_) ?_
    all_goals
      intro ox ho hic dx yx Tx wx hdb hK hW
      replace hdb := Lib.hid hdb
    · exact pl0 12 0 41 ho hK (by kernel_rfl) (by kernel_rfl) g0 (by subst hV; rfl) fun ps af e => k_mv e
    · exact pl1 13 12 0 0 ho hK (by kernel_rfl) (by kernel_rfl) (by subst hV; rfl) (by subst hV; rfl) fun ps af e => k_nc e
    · exact pl1 14 13 1 0 ho hK (by kernel_rfl) (by kernel_rfl) (by subst hV; rfl) (by subst hV; rfl) fun ps af e => k_fa43_0 e
    · exact pl1 15 14 2 35 ho hK (by kernel_rfl) (by kernel_rfl) (by subst hV; rfl) (by subst hV; rfl) fun ps af e => k_ld35 (l0 _ _ _ hW) e
    · exact pl0 16 3 0 ho hK (by kernel_rfl) (by kernel_rfl) g3 (by subst hV; rfl) fun ps af e => k_fa46_4 e
    · exact pl1 17 16 4 9 ho hK (by kernel_rfl) (by kernel_rfl) (by subst hV; rfl) (by subst hV; rfl) fun ps af e => k_ld9 (q4 _ _ _ hW) e
    · exact absurd (by decide) hic
    · exact pl0 19 0 41 ho hK (by kernel_rfl) (by kernel_rfl) g0 (by subst hV; rfl) fun ps af e => k_mv e
    · exact pl1 20 19 7 0 ho hK (by kernel_rfl) (by kernel_rfl) (by subst hV; rfl) (by subst hV; rfl) fun ps af e => k_nc e
    · exact pl1 21 20 8 0 ho hK (by kernel_rfl) (by kernel_rfl) (by subst hV; rfl) (by subst hV; rfl) fun ps af e => k_fa43_2 e
    · exact pl1 22 21 9 38 ho hK (by kernel_rfl) (by kernel_rfl) (by subst hV; rfl) (by subst hV; rfl) fun ps af e => k_ld38 (l2 _ _ _ hW) e
    · exact pl0 23 3 0 ho hK (by kernel_rfl) (by kernel_rfl) g3 (by subst hV; rfl) fun ps af e => k_fa46_4 e
    · exact pl1 24 23 11 9 ho hK (by kernel_rfl) (by kernel_rfl) (by subst hV; rfl) (by subst hV; rfl) fun ps af e => k_ld9 (q4 _ _ _ hW) e
    · exact absurd (by decide) hic
    · obtain ⟨ps, af, rfl⟩ := core (some 26) (.binOp BinOp.eql 28 (.tmp 18) (.tmp 25) 28) 4 none ho (by kernel_rfl)
      have e18 : Tx.getD 18 undef = .int .i64 cd := hK.is 6 ho (by kernel_rfl) (by subst hV; rfl)
      have e25 : Tx.getD 25 undef = .int .i64 cd := hK.is 13 ho (by kernel_rfl) (by subst hV; rfl)
      exact wpOp_plain ho rfl (by subst hV; go_simp; try rfl)
    · exact pl1 4 26 14 4 ho hK (by kernel_rfl) (by kernel_rfl) (by subst hV; rfl) (by subst hV; rfl) fun ps af e => k_as e
  · have hcase : cx = 6 ∨ cx = 13 := by simpa using hc
    rcases hcase with rfl | rfl
    · obtain ⟨ps, af, rfl⟩ := core (some 18) (.call { callee := .value (.func 38), args := #[.tmp 15, .tmp 17], argTypes := #[35, 9] }) 28 none ho (by kernel_rfl)
      have e15 : Tx.getD 15 undef = .pointer (some ⟨b, 0, none⟩) := hK.is 3 ho (by kernel_rfl) (by subst hV; rfl)
      have e17 : Tx.getD 17 undef = .string s := hK.is 5 ho (by kernel_rfl) (by subst hV; rfl)
      have hW1 : PW (dx 6) (dx 13)  wx := hW
      have f13 := hda 13 (by decide) (by kernel_rfl)
      clear hdb hda
      rw [hd, f13] at hW1
      replace f13 := Lib.hid f13
      clear hd hW hc
      refine wpOp_plain ho rfl ?_
      go_simp
      go_at_call 38
      refine (cl6 _ hW1).mono ?_
      rintro ex w2 ⟨rfl, hW2⟩
      subst hV
      first | refine ⟨undef, rfl, ?_⟩ | refine ⟨⟨undef, rfl⟩, ?_⟩
      simpa [updB, upd, f13.out] using hW2
    · obtain ⟨ps, af, rfl⟩ := core (some 25) (.call { callee := .value (.func 52), args := #[.tmp 22, .tmp 24], argTypes := #[38, 9] }) 28 none ho (by kernel_rfl)
      have e22 : Tx.getD 22 undef = .pointer (some ⟨rb, 0, none⟩) := hK.is 10 ho (by kernel_rfl) (by subst hV; rfl)
      have e24 : Tx.getD 24 undef = .string s := hK.is 12 ho (by kernel_rfl) (by subst hV; rfl)
      have hW1 : PW (dx 6) (dx 13)  wx := hW
      have f6 := hdb 6 (by decide) (by kernel_rfl)
      clear hdb hda
      rw [hd, f6] at hW1
      replace f6 := Lib.hid f6
      clear hd hW hc
      refine wpOp_plain ho rfl ?_
      go_simp
      go_at_call 52
      refine (cl13 _ hW1).mono ?_
      rintro ex w2 ⟨rfl, hW2⟩
      subst hV
      first | refine ⟨undef, rfl, ?_⟩ | refine ⟨⟨undef, rfl⟩, ?_⟩
      simpa [updB, upd, f6.out] using hW2
  · have hW1 : PW (dx 6) (dx 13)  wx := hW
    rw [hd 6 (by decide), hd 13 (by decide)] at hW1
    have hQ := h _ hW1
    rw [hsz]
    subst hV hT
    refine cast (congrArg (fun Tx => Q .normal ⟨Tx, ds⟩ wx) ?_) hQ
    kernel_rfl
noncomputable def rDCO : Array Oper := (Tryd.f20.body.bind fun c => findR c 7).getD #[]
def rDC_m : List (List Nat) := [[], [], [], [], [], [], [], [], [], [], [], [], [], [6], [6, 13], [6, 13]]
set_option maxHeartbeats 16000000 in
theorem rDC (PW : Bool → Bool → World → Prop) (P q b rb : Nat) (cd : Int) (s : ByteArray) (w : World) (w0 : PW false false  w.drew)  (l0 : ∀ (b6 b13 : Bool) (w : World), PW b6 b13  w → w.cell? ⟨P, 0, none⟩ = some (.pointer (some ⟨b, 0, none⟩))) (q4 : ∀ (b6 b13 : Bool) (w : World), PW b6 b13  w → w.cell? ⟨q, 4, none⟩ = some (.string s)) (l2 : ∀ (b6 b13 : Bool) (w : World), PW b6 b13  w → w.cell? ⟨P, 2, none⟩ = some (.pointer (some ⟨rb, 0, none⟩))) (cl6 : ∀ (w : World), PW false false w → Calls Tryd.prog 39 #[.pointer (some ⟨b, 0, none⟩), .string s] w fun e w1 => e = .returned (.int .i64 cd) ∧ PW true false  w1) (cl13 : ∀ (w : World), PW true false w → Calls Tryd.prog 54 #[.pointer (some ⟨rb, 0, none⟩), .string s] w fun e w1 => e = .returned (.int .i64 cd) ∧ PW true true  w1) {t1 t2 t4 t5 t6 t7 t8 t9 t10 t11 t12 t13 t14 t15 t16 t17 t18 t19 t20 t21 t22 t23 t24 t25 t26 t27 t28 t29 t30 t31 t32 t33 t34 t35 t36 t37 t38 t39 t40 t41 t42 t43 t44 t45 t46 t47 t48 t49 t50 t51 t52 t53 t54 t55 t56 t57 t58 t59 t60 t61 t62 t63 t64 t65 t66 t67 t68 t69 t70 t71 t72 t73 t74 t75 t76 t77 t78 t79 t80 t81 t82 t83 t84 t85 t86 t87 t88 t89 t90 t91 t92 t93 t94 t95 t96 t97 t98 t99 t100 t101 t102 t103 t104 t105 t106 t107 t108 t109 t110 t111 t112 t113 t114 t115 t116 t117 t118 t119 t120 t121 t122 t123 t124 t125 t126 t127 t128 t129 t130 t131 : Value} {ds : List Deferred} {Q : Exit → Act → World → Prop}
    (h : ∀ (w1 : World), PW true true  w1 → Q .normal { tmps := #[.pointer (some ⟨P, 0, none⟩), t1, t2, .pointer (some ⟨q, 0, none⟩), .bool true, t5, t6, t7, t8, t9, t10, t11, t12, t13, t14, t15, t16, t17, t18, t19, t20, t21, t22, t23, t24, t25, t26, t27, t28, t29, t30, t31, t32, t33, t34, t35, t36, t37, t38, t39, t40, t41, .pointer (some ⟨P, 0, none⟩), .pointer (some ⟨P, 0, none⟩), .pointer (some ⟨P, 0, none⟩), .pointer (some ⟨b, 0, none⟩), .pointer (some ⟨q, 4, none⟩), .string s, .int .i64 cd, .pointer (some ⟨P, 0, none⟩), .pointer (some ⟨P, 0, none⟩), .pointer (some ⟨P, 2, none⟩), .pointer (some ⟨rb, 0, none⟩), .pointer (some ⟨q, 4, none⟩), .string s, .int .i64 cd, .bool true, t57, t58, t59, t60, t61, t62, t63, t64, t65, t66, t67, t68, t69, t70, t71, t72, t73, t74, t75, t76, t77, t78, t79, t80, t81, t82, t83, t84, t85, t86, t87, t88, t89, t90, t91, t92, t93, t94, t95, t96, t97, t98, t99, t100, t101, t102, t103, t104, t105, t106, t107, t108, t109, t110, t111, t112, t113, t114, t115, t116, t117, t118, t119, t120, t121, t122, t123, t124, t125, t126, t127, t128, t129, t130, t131], defers := ds } w1) :
    (Code.region 7 rDCO true).wp Tryd.prog Q { tmps := #[.pointer (some ⟨P, 0, none⟩), t1, t2, .pointer (some ⟨q, 0, none⟩), t4, t5, t6, t7, t8, t9, t10, t11, t12, t13, t14, t15, t16, t17, t18, t19, t20, t21, t22, t23, t24, t25, t26, t27, t28, t29, t30, t31, t32, t33, t34, t35, t36, t37, t38, t39, t40, t41, t42, t43, t44, t45, t46, t47, t48, t49, t50, t51, t52, t53, t54, t55, t56, t57, t58, t59, t60, t61, t62, t63, t64, t65, t66, t67, t68, t69, t70, t71, t72, t73, t74, t75, t76, t77, t78, t79, t80, t81, t82, t83, t84, t85, t86, t87, t88, t89, t90, t91, t92, t93, t94, t95, t96, t97, t98, t99, t100, t101, t102, t103, t104, t105, t106, t107, t108, t109, t110, t111, t112, t113, t114, t115, t116, t117, t118, t119, t120, t121, t122, t123, t124, t125, t126, t127, t128, t129, t130, t131], defers := ds } w := by
  have hsz : rDCO.size = 16 := by kernel_rfl
  generalize hT : List.toArray _ = T0
  have hs : T0.size = 132 := by subst hT; rfl
  have g0 : T0.getD 0 undef = .pointer (some ⟨P, 0, none⟩) := by subst hT; rfl
  have g3 : T0.getD 3 undef = .pointer (some ⟨q, 0, none⟩) := by subst hT; rfl
  obtain ⟨W, hV⟩ : ∃ W : List ((Nat × (Value → Value)) ⊕ Value), W = [.inr (.pointer (some ⟨P, 0, none⟩)), .inr (.pointer (some ⟨P, 0, none⟩)), .inr (.pointer (some ⟨P, 0, none⟩)), .inr (.pointer (some ⟨b, 0, none⟩)), .inr (.pointer (some ⟨q, 4, none⟩)), .inr (.string s), .inr (.int .i64 cd), .inr (.pointer (some ⟨P, 0, none⟩)), .inr (.pointer (some ⟨P, 0, none⟩)), .inr (.pointer (some ⟨P, 2, none⟩)), .inr (.pointer (some ⟨rb, 0, none⟩)), .inr (.pointer (some ⟨q, 4, none⟩)), .inr (.string s), .inr (.int .i64 cd), .inr (.bool true), .inr (.bool true)] := ⟨_, rfl⟩
  refine wp_plan (by kernel_rfl) T0 ds [6, 13] rDC_m (mkV W) (fun dx yx wx => PW (dx 6) (dx 13)  wx) w (by rw [hs]; kernel_rfl) (by kernel_rfl) (by kernel_rfl) (by rw [hsz]; decide) (fun cx hc ix hne ha yx vx => mkV_fix (by rw [hV]; kernel_rfl) hne ha yx vx) (?key) (fun cx hc ox ho dx yx Tx wx hd hdb hda hK hW => ?_) ⟨fun k => undef, w0⟩ (fun dx yx wx hd hW => ?_)
  case key =>
    rw [hsz]
    refine all_step (all_step (all_step (all_step (all_step (all_step (all_step (all_step (all_step (all_step (all_step (all_step (all_step (all_step (all_step (all_step all_zero ?_) ?_) ?_) ?_) ?_) ?_) ?_) ?_) ?_) ?_) ?_) ?_) ?_) ?_) ?_) ?_
    all_goals
      intro ox ho hic dx yx Tx wx hdb hK hW
      replace hdb := Lib.hid hdb
    · exact pl0 42 0 41 ho hK (by kernel_rfl) (by kernel_rfl) g0 (by subst hV; rfl) fun ps af e => k_mv e
    · exact pl1 43 42 0 0 ho hK (by kernel_rfl) (by kernel_rfl) (by subst hV; rfl) (by subst hV; rfl) fun ps af e => k_nc e
    · exact pl1 44 43 1 0 ho hK (by kernel_rfl) (by kernel_rfl) (by subst hV; rfl) (by subst hV; rfl) fun ps af e => k_fa43_0 e
    · exact pl1 45 44 2 35 ho hK (by kernel_rfl) (by kernel_rfl) (by subst hV; rfl) (by subst hV; rfl) fun ps af e => k_ld35 (l0 _ _ _ hW) e
    · exact pl0 46 3 0 ho hK (by kernel_rfl) (by kernel_rfl) g3 (by subst hV; rfl) fun ps af e => k_fa46_4 e
    · exact pl1 47 46 4 9 ho hK (by kernel_rfl) (by kernel_rfl) (by subst hV; rfl) (by subst hV; rfl) fun ps af e => k_ld9 (q4 _ _ _ hW) e
    · exact absurd (by decide) hic
    · exact pl0 49 0 41 ho hK (by kernel_rfl) (by kernel_rfl) g0 (by subst hV; rfl) fun ps af e => k_mv e
    · exact pl1 50 49 7 0 ho hK (by kernel_rfl) (by kernel_rfl) (by subst hV; rfl) (by subst hV; rfl) fun ps af e => k_nc e
    · exact pl1 51 50 8 0 ho hK (by kernel_rfl) (by kernel_rfl) (by subst hV; rfl) (by subst hV; rfl) fun ps af e => k_fa43_2 e
    · exact pl1 52 51 9 38 ho hK (by kernel_rfl) (by kernel_rfl) (by subst hV; rfl) (by subst hV; rfl) fun ps af e => k_ld38 (l2 _ _ _ hW) e
    · exact pl0 53 3 0 ho hK (by kernel_rfl) (by kernel_rfl) g3 (by subst hV; rfl) fun ps af e => k_fa46_4 e
    · exact pl1 54 53 11 9 ho hK (by kernel_rfl) (by kernel_rfl) (by subst hV; rfl) (by subst hV; rfl) fun ps af e => k_ld9 (q4 _ _ _ hW) e
    · exact absurd (by decide) hic
    · obtain ⟨ps, af, rfl⟩ := core (some 56) (.binOp BinOp.eql 28 (.tmp 48) (.tmp 55) 28) 4 none ho (by kernel_rfl)
      have e48 : Tx.getD 48 undef = .int .i64 cd := hK.is 6 ho (by kernel_rfl) (by subst hV; rfl)
      have e55 : Tx.getD 55 undef = .int .i64 cd := hK.is 13 ho (by kernel_rfl) (by subst hV; rfl)
      exact wpOp_plain ho rfl (by subst hV; go_simp; try rfl)
    · exact pl1 4 56 14 4 ho hK (by kernel_rfl) (by kernel_rfl) (by subst hV; rfl) (by subst hV; rfl) fun ps af e => k_as e
  · have hcase : cx = 6 ∨ cx = 13 := by simpa using hc
    rcases hcase with rfl | rfl
    · obtain ⟨ps, af, rfl⟩ := core (some 48) (.call { callee := .value (.func 39), args := #[.tmp 45, .tmp 47], argTypes := #[35, 9] }) 28 none ho (by kernel_rfl)
      have e45 : Tx.getD 45 undef = .pointer (some ⟨b, 0, none⟩) := hK.is 3 ho (by kernel_rfl) (by subst hV; rfl)
      have e47 : Tx.getD 47 undef = .string s := hK.is 5 ho (by kernel_rfl) (by subst hV; rfl)
      have hW1 : PW (dx 6) (dx 13)  wx := hW
      have f13 := hda 13 (by decide) (by kernel_rfl)
      clear hdb hda
      rw [hd, f13] at hW1
      replace f13 := Lib.hid f13
      clear hd hW hc
      refine wpOp_plain ho rfl ?_
      go_simp
      go_at_call 39
      refine (cl6 _ hW1).mono ?_
      rintro ex w2 ⟨rfl, hW2⟩
      subst hV
      first | refine ⟨undef, rfl, ?_⟩ | refine ⟨⟨undef, rfl⟩, ?_⟩
      simpa [updB, upd, f13.out] using hW2
    · obtain ⟨ps, af, rfl⟩ := core (some 55) (.call { callee := .value (.func 54), args := #[.tmp 52, .tmp 54], argTypes := #[38, 9] }) 28 none ho (by kernel_rfl)
      have e52 : Tx.getD 52 undef = .pointer (some ⟨rb, 0, none⟩) := hK.is 10 ho (by kernel_rfl) (by subst hV; rfl)
      have e54 : Tx.getD 54 undef = .string s := hK.is 12 ho (by kernel_rfl) (by subst hV; rfl)
      have hW1 : PW (dx 6) (dx 13)  wx := hW
      have f6 := hdb 6 (by decide) (by kernel_rfl)
      clear hdb hda
      rw [hd, f6] at hW1
      replace f6 := Lib.hid f6
      clear hd hW hc
      refine wpOp_plain ho rfl ?_
      go_simp
      go_at_call 54
      refine (cl13 _ hW1).mono ?_
      rintro ex w2 ⟨rfl, hW2⟩
      subst hV
      first | refine ⟨undef, rfl, ?_⟩ | refine ⟨⟨undef, rfl⟩, ?_⟩
      simpa [updB, upd, f6.out] using hW2
  · have hW1 : PW (dx 6) (dx 13)  wx := hW
    rw [hd 6 (by decide), hd 13 (by decide)] at hW1
    have hQ := h _ hW1
    rw [hsz]
    subst hV hT
    refine cast (congrArg (fun Tx => Q .normal ⟨Tx, ds⟩ wx) ?_) hQ
    kernel_rfl
noncomputable def rDBO : Array Oper := (Tryd.f20.body.bind fun c => findR c 5).getD #[]
def rDB_m : List (List Nat) := [[], [], [], [], [], [], [], [], [], [4], [4, 9], [4, 9]]
set_option maxHeartbeats 16000000 in
theorem rDB (PW : Bool → Bool → World → Prop) (P q b rb : Nat) (cd : Int) (w : World) (w0 : PW false false  w.drew)  (l0 : ∀ (b4 b9 : Bool) (w : World), PW b4 b9  w → w.cell? ⟨P, 0, none⟩ = some (.pointer (some ⟨b, 0, none⟩))) (l2 : ∀ (b4 b9 : Bool) (w : World), PW b4 b9  w → w.cell? ⟨P, 2, none⟩ = some (.pointer (some ⟨rb, 0, none⟩))) (cl4 : ∀ (w : World), PW false false w → Calls Tryd.prog 40 #[.pointer (some ⟨b, 0, none⟩)] w fun e w1 => e = .returned (.int .i64 cd) ∧ PW true false  w1) (cl9 : ∀ (w : World), PW true false w → Calls Tryd.prog 53 #[.pointer (some ⟨rb, 0, none⟩)] w fun e w1 => e = .returned (.int .i64 cd) ∧ PW true true  w1) {t1 t2 t4 t5 t6 t7 t8 t9 t10 t11 t12 t13 t14 t15 t16 t17 t18 t19 t20 t21 t22 t23 t24 t25 t26 t27 t28 t29 t30 t31 t32 t33 t34 t35 t36 t37 t38 t39 t40 t41 t42 t43 t44 t45 t46 t47 t48 t49 t50 t51 t52 t53 t54 t55 t56 t57 t58 t59 t60 t61 t62 t63 t64 t65 t66 t67 t68 t69 t70 t71 t72 t73 t74 t75 t76 t77 t78 t79 t80 t81 t82 t83 t84 t85 t86 t87 t88 t89 t90 t91 t92 t93 t94 t95 t96 t97 t98 t99 t100 t101 t102 t103 t104 t105 t106 t107 t108 t109 t110 t111 t112 t113 t114 t115 t116 t117 t118 t119 t120 t121 t122 t123 t124 t125 t126 t127 t128 t129 t130 t131 : Value} {ds : List Deferred} {Q : Exit → Act → World → Prop}
    (h : ∀ (w1 : World), PW true true  w1 → Q .normal { tmps := #[.pointer (some ⟨P, 0, none⟩), t1, t2, .pointer (some ⟨q, 0, none⟩), .bool true, t5, t6, t7, t8, t9, t10, t11, t12, t13, t14, t15, t16, t17, t18, t19, t20, t21, t22, t23, t24, t25, t26, t27, t28, .pointer (some ⟨P, 0, none⟩), .pointer (some ⟨P, 0, none⟩), .pointer (some ⟨P, 0, none⟩), .pointer (some ⟨b, 0, none⟩), .int .i64 cd, .pointer (some ⟨P, 0, none⟩), .pointer (some ⟨P, 0, none⟩), .pointer (some ⟨P, 2, none⟩), .pointer (some ⟨rb, 0, none⟩), .int .i64 cd, .bool true, t40, t41, t42, t43, t44, t45, t46, t47, t48, t49, t50, t51, t52, t53, t54, t55, t56, t57, t58, t59, t60, t61, t62, t63, t64, t65, t66, t67, t68, t69, t70, t71, t72, t73, t74, t75, t76, t77, t78, t79, t80, t81, t82, t83, t84, t85, t86, t87, t88, t89, t90, t91, t92, t93, t94, t95, t96, t97, t98, t99, t100, t101, t102, t103, t104, t105, t106, t107, t108, t109, t110, t111, t112, t113, t114, t115, t116, t117, t118, t119, t120, t121, t122, t123, t124, t125, t126, t127, t128, t129, t130, t131], defers := ds } w1) :
    (Code.region 5 rDBO true).wp Tryd.prog Q { tmps := #[.pointer (some ⟨P, 0, none⟩), t1, t2, .pointer (some ⟨q, 0, none⟩), t4, t5, t6, t7, t8, t9, t10, t11, t12, t13, t14, t15, t16, t17, t18, t19, t20, t21, t22, t23, t24, t25, t26, t27, t28, t29, t30, t31, t32, t33, t34, t35, t36, t37, t38, t39, t40, t41, t42, t43, t44, t45, t46, t47, t48, t49, t50, t51, t52, t53, t54, t55, t56, t57, t58, t59, t60, t61, t62, t63, t64, t65, t66, t67, t68, t69, t70, t71, t72, t73, t74, t75, t76, t77, t78, t79, t80, t81, t82, t83, t84, t85, t86, t87, t88, t89, t90, t91, t92, t93, t94, t95, t96, t97, t98, t99, t100, t101, t102, t103, t104, t105, t106, t107, t108, t109, t110, t111, t112, t113, t114, t115, t116, t117, t118, t119, t120, t121, t122, t123, t124, t125, t126, t127, t128, t129, t130, t131], defers := ds } w := by
  have hsz : rDBO.size = 12 := by kernel_rfl
  generalize hT : List.toArray _ = T0
  have hs : T0.size = 132 := by subst hT; rfl
  have g0 : T0.getD 0 undef = .pointer (some ⟨P, 0, none⟩) := by subst hT; rfl
  obtain ⟨W, hV⟩ : ∃ W : List ((Nat × (Value → Value)) ⊕ Value), W = [.inr (.pointer (some ⟨P, 0, none⟩)), .inr (.pointer (some ⟨P, 0, none⟩)), .inr (.pointer (some ⟨P, 0, none⟩)), .inr (.pointer (some ⟨b, 0, none⟩)), .inr (.int .i64 cd), .inr (.pointer (some ⟨P, 0, none⟩)), .inr (.pointer (some ⟨P, 0, none⟩)), .inr (.pointer (some ⟨P, 2, none⟩)), .inr (.pointer (some ⟨rb, 0, none⟩)), .inr (.int .i64 cd), .inr (.bool true), .inr (.bool true)] := ⟨_, rfl⟩
  refine wp_plan (by kernel_rfl) T0 ds [4, 9] rDB_m (mkV W) (fun dx yx wx => PW (dx 4) (dx 9)  wx) w (by rw [hs]; kernel_rfl) (by kernel_rfl) (by kernel_rfl) (by rw [hsz]; decide) (fun cx hc ix hne ha yx vx => mkV_fix (by rw [hV]; kernel_rfl) hne ha yx vx) (?key) (fun cx hc ox ho dx yx Tx wx hd hdb hda hK hW => ?_) ⟨fun k => undef, w0⟩ (fun dx yx wx hd hW => ?_)
  case key =>
    rw [hsz]
    refine all_step (all_step (all_step (all_step (all_step (all_step (all_step (all_step (all_step (all_step (all_step (all_step all_zero ?_) ?_) ?_) ?_) ?_) ?_) ?_) ?_) ?_) ?_) ?_) ?_
    all_goals
      intro ox ho hic dx yx Tx wx hdb hK hW
      replace hdb := Lib.hid hdb
    · exact pl0 29 0 41 ho hK (by kernel_rfl) (by kernel_rfl) g0 (by subst hV; rfl) fun ps af e => k_mv e
    · exact pl1 30 29 0 0 ho hK (by kernel_rfl) (by kernel_rfl) (by subst hV; rfl) (by subst hV; rfl) fun ps af e => k_nc e
    · exact pl1 31 30 1 0 ho hK (by kernel_rfl) (by kernel_rfl) (by subst hV; rfl) (by subst hV; rfl) fun ps af e => k_fa43_0 e
    · exact pl1 32 31 2 35 ho hK (by kernel_rfl) (by kernel_rfl) (by subst hV; rfl) (by subst hV; rfl) fun ps af e => k_ld35 (l0 _ _ _ hW) e
    · exact absurd (by decide) hic
    · exact pl0 34 0 41 ho hK (by kernel_rfl) (by kernel_rfl) g0 (by subst hV; rfl) fun ps af e => k_mv e
    · exact pl1 35 34 5 0 ho hK (by kernel_rfl) (by kernel_rfl) (by subst hV; rfl) (by subst hV; rfl) fun ps af e => k_nc e
    · exact pl1 36 35 6 0 ho hK (by kernel_rfl) (by kernel_rfl) (by subst hV; rfl) (by subst hV; rfl) fun ps af e => k_fa43_2 e
    · exact pl1 37 36 7 38 ho hK (by kernel_rfl) (by kernel_rfl) (by subst hV; rfl) (by subst hV; rfl) fun ps af e => k_ld38 (l2 _ _ _ hW) e
    · exact absurd (by decide) hic
    · obtain ⟨ps, af, rfl⟩ := core (some 39) (.binOp BinOp.eql 28 (.tmp 33) (.tmp 38) 28) 4 none ho (by kernel_rfl)
      have e33 : Tx.getD 33 undef = .int .i64 cd := hK.is 4 ho (by kernel_rfl) (by subst hV; rfl)
      have e38 : Tx.getD 38 undef = .int .i64 cd := hK.is 9 ho (by kernel_rfl) (by subst hV; rfl)
      exact wpOp_plain ho rfl (by subst hV; go_simp; try rfl)
    · exact pl1 4 39 10 4 ho hK (by kernel_rfl) (by kernel_rfl) (by subst hV; rfl) (by subst hV; rfl) fun ps af e => k_as e
  · have hcase : cx = 4 ∨ cx = 9 := by simpa using hc
    rcases hcase with rfl | rfl
    · obtain ⟨ps, af, rfl⟩ := core (some 33) (.call { callee := .value (.func 40), args := #[.tmp 32], argTypes := #[35] }) 28 none ho (by kernel_rfl)
      have e32 : Tx.getD 32 undef = .pointer (some ⟨b, 0, none⟩) := hK.is 3 ho (by kernel_rfl) (by subst hV; rfl)
      have hW1 : PW (dx 4) (dx 9)  wx := hW
      have f9 := hda 9 (by decide) (by kernel_rfl)
      clear hdb hda
      rw [hd, f9] at hW1
      replace f9 := Lib.hid f9
      clear hd hW hc
      refine wpOp_plain ho rfl ?_
      go_simp
      go_at_call 40
      refine (cl4 _ hW1).mono ?_
      rintro ex w2 ⟨rfl, hW2⟩
      subst hV
      first | refine ⟨undef, rfl, ?_⟩ | refine ⟨⟨undef, rfl⟩, ?_⟩
      simpa [updB, upd, f9.out] using hW2
    · obtain ⟨ps, af, rfl⟩ := core (some 38) (.call { callee := .value (.func 53), args := #[.tmp 37], argTypes := #[38] }) 28 none ho (by kernel_rfl)
      have e37 : Tx.getD 37 undef = .pointer (some ⟨rb, 0, none⟩) := hK.is 8 ho (by kernel_rfl) (by subst hV; rfl)
      have hW1 : PW (dx 4) (dx 9)  wx := hW
      have f4 := hdb 4 (by decide) (by kernel_rfl)
      clear hdb hda
      rw [hd, f4] at hW1
      replace f4 := Lib.hid f4
      clear hd hW hc
      refine wpOp_plain ho rfl ?_
      go_simp
      go_at_call 53
      refine (cl9 _ hW1).mono ?_
      rintro ex w2 ⟨rfl, hW2⟩
      subst hV
      first | refine ⟨undef, rfl, ?_⟩ | refine ⟨⟨undef, rfl⟩, ?_⟩
      simpa [updB, upd, f4.out] using hW2
  · have hW1 : PW (dx 4) (dx 9)  wx := hW
    rw [hd 4 (by decide), hd 9 (by decide)] at hW1
    have hQ := h _ hW1
    rw [hsz]
    subst hV hT
    refine cast (congrArg (fun Tx => Q .normal ⟨Tx, ds⟩ wx) ?_) hQ
    kernel_rfl
noncomputable def rDDO : Array Oper := (Tryd.f20.body.bind fun c => findR c 9).getD #[]
def rDD_m : List (List Nat) := [[], [], [], [], [], [], [], [], [], [], [], [], [], [], [], [], [], [8], [8, 17], [8, 17]]
set_option maxHeartbeats 16000000 in
theorem rDD (PW : Bool → Bool → World → Prop) (P q d r : Nat) (cd na nb : Int) (w : World) (w0 : PW false false  w.drew)  (l1 : ∀ (b8 b17 : Bool) (w : World), PW b8 b17  w → w.cell? ⟨P, 1, none⟩ = some (.pointer (some ⟨d, 0, none⟩))) (q2 : ∀ (b8 b17 : Bool) (w : World), PW b8 b17  w → w.cell? ⟨q, 2, none⟩ = some (.int .i64 na)) (q3 : ∀ (b8 b17 : Bool) (w : World), PW b8 b17  w → w.cell? ⟨q, 3, none⟩ = some (.int .i64 nb)) (l3 : ∀ (b8 b17 : Bool) (w : World), PW b8 b17  w → w.cell? ⟨P, 3, none⟩ = some (.pointer (some ⟨r, 0, none⟩))) (cl8 : ∀ (w : World), PW false false w → Calls Tryd.prog 22 #[.pointer (some ⟨d, 0, none⟩), .int .i64 na, .int .i64 nb] w fun e w1 => e = .returned (.int .i64 cd) ∧ PW true false  w1) (cl17 : ∀ (w : World), PW true false w → Calls Tryd.prog 23 #[.pointer (some ⟨r, 0, none⟩), .int .i64 na, .int .i64 nb] w fun e w1 => e = .returned (.int .i64 cd) ∧ PW true true  w1) {t1 t2 t4 t5 t6 t7 t8 t9 t10 t11 t12 t13 t14 t15 t16 t17 t18 t19 t20 t21 t22 t23 t24 t25 t26 t27 t28 t29 t30 t31 t32 t33 t34 t35 t36 t37 t38 t39 t40 t41 t42 t43 t44 t45 t46 t47 t48 t49 t50 t51 t52 t53 t54 t55 t56 t57 t58 t59 t60 t61 t62 t63 t64 t65 t66 t67 t68 t69 t70 t71 t72 t73 t74 t75 t76 t77 t78 t79 t80 t81 t82 t83 t84 t85 t86 t87 t88 t89 t90 t91 t92 t93 t94 t95 t96 t97 t98 t99 t100 t101 t102 t103 t104 t105 t106 t107 t108 t109 t110 t111 t112 t113 t114 t115 t116 t117 t118 t119 t120 t121 t122 t123 t124 t125 t126 t127 t128 t129 t130 t131 : Value} {ds : List Deferred} {Q : Exit → Act → World → Prop}
    (h : ∀ (w1 : World), PW true true  w1 → Q .normal { tmps := #[.pointer (some ⟨P, 0, none⟩), t1, t2, .pointer (some ⟨q, 0, none⟩), .bool true, t5, t6, t7, t8, t9, t10, t11, t12, t13, t14, t15, t16, t17, t18, t19, t20, t21, t22, t23, t24, t25, t26, t27, t28, t29, t30, t31, t32, t33, t34, t35, t36, t37, t38, t39, t40, t41, t42, t43, t44, t45, t46, t47, t48, t49, t50, t51, t52, t53, t54, t55, t56, t57, t58, .pointer (some ⟨P, 0, none⟩), .pointer (some ⟨P, 0, none⟩), .pointer (some ⟨P, 1, none⟩), .pointer (some ⟨d, 0, none⟩), .pointer (some ⟨q, 2, none⟩), .int .i64 na, .pointer (some ⟨q, 3, none⟩), .int .i64 nb, .int .i64 cd, .pointer (some ⟨P, 0, none⟩), .pointer (some ⟨P, 0, none⟩), .pointer (some ⟨P, 3, none⟩), .pointer (some ⟨r, 0, none⟩), .pointer (some ⟨q, 2, none⟩), .int .i64 na, .pointer (some ⟨q, 3, none⟩), .int .i64 nb, .int .i64 cd, .bool true, t78, t79, t80, t81, t82, t83, t84, t85, t86, t87, t88, t89, t90, t91, t92, t93, t94, t95, t96, t97, t98, t99, t100, t101, t102, t103, t104, t105, t106, t107, t108, t109, t110, t111, t112, t113, t114, t115, t116, t117, t118, t119, t120, t121, t122, t123, t124, t125, t126, t127, t128, t129, t130, t131], defers := ds } w1) :
    (Code.region 9 rDDO true).wp Tryd.prog Q { tmps := #[.pointer (some ⟨P, 0, none⟩), t1, t2, .pointer (some ⟨q, 0, none⟩), t4, t5, t6, t7, t8, t9, t10, t11, t12, t13, t14, t15, t16, t17, t18, t19, t20, t21, t22, t23, t24, t25, t26, t27, t28, t29, t30, t31, t32, t33, t34, t35, t36, t37, t38, t39, t40, t41, t42, t43, t44, t45, t46, t47, t48, t49, t50, t51, t52, t53, t54, t55, t56, t57, t58, t59, t60, t61, t62, t63, t64, t65, t66, t67, t68, t69, t70, t71, t72, t73, t74, t75, t76, t77, t78, t79, t80, t81, t82, t83, t84, t85, t86, t87, t88, t89, t90, t91, t92, t93, t94, t95, t96, t97, t98, t99, t100, t101, t102, t103, t104, t105, t106, t107, t108, t109, t110, t111, t112, t113, t114, t115, t116, t117, t118, t119, t120, t121, t122, t123, t124, t125, t126, t127, t128, t129, t130, t131], defers := ds } w := by
  have hsz : rDDO.size = 20 := by kernel_rfl
  generalize hT : List.toArray _ = T0
  have hs : T0.size = 132 := by subst hT; rfl
  have g0 : T0.getD 0 undef = .pointer (some ⟨P, 0, none⟩) := by subst hT; rfl
  have g3 : T0.getD 3 undef = .pointer (some ⟨q, 0, none⟩) := by subst hT; rfl
  obtain ⟨W, hV⟩ : ∃ W : List ((Nat × (Value → Value)) ⊕ Value), W = [.inr (.pointer (some ⟨P, 0, none⟩)), .inr (.pointer (some ⟨P, 0, none⟩)), .inr (.pointer (some ⟨P, 1, none⟩)), .inr (.pointer (some ⟨d, 0, none⟩)), .inr (.pointer (some ⟨q, 2, none⟩)), .inr (.int .i64 na), .inr (.pointer (some ⟨q, 3, none⟩)), .inr (.int .i64 nb), .inr (.int .i64 cd), .inr (.pointer (some ⟨P, 0, none⟩)), .inr (.pointer (some ⟨P, 0, none⟩)), .inr (.pointer (some ⟨P, 3, none⟩)), .inr (.pointer (some ⟨r, 0, none⟩)), .inr (.pointer (some ⟨q, 2, none⟩)), .inr (.int .i64 na), .inr (.pointer (some ⟨q, 3, none⟩)), .inr (.int .i64 nb), .inr (.int .i64 cd), .inr (.bool true), .inr (.bool true)] := ⟨_, rfl⟩
  refine wp_plan (by kernel_rfl) T0 ds [8, 17] rDD_m (mkV W) (fun dx yx wx => PW (dx 8) (dx 17)  wx) w (by rw [hs]; kernel_rfl) (by kernel_rfl) (by kernel_rfl) (by rw [hsz]; decide) (fun cx hc ix hne ha yx vx => mkV_fix (by rw [hV]; kernel_rfl) hne ha yx vx) (?key) (fun cx hc ox ho dx yx Tx wx hd hdb hda hK hW => ?_) ⟨fun k => undef, w0⟩ (fun dx yx wx hd hW => ?_)
  case key =>
    rw [hsz]
    refine all_step (all_step (all_step (all_step (all_step (all_step (all_step (all_step (all_step (all_step (all_step (all_step (all_step (all_step (all_step (all_step (all_step (all_step (all_step (all_step all_zero ?_) ?_) ?_) ?_) ?_) ?_) ?_) ?_) ?_) ?_) ?_) ?_) ?_) ?_) ?_) ?_) ?_) ?_) ?_) ?_
    all_goals
      intro ox ho hic dx yx Tx wx hdb hK hW
      replace hdb := Lib.hid hdb
    · exact pl0 59 0 41 ho hK (by kernel_rfl) (by kernel_rfl) g0 (by subst hV; rfl) fun ps af e => k_mv e
    · exact pl1 60 59 0 0 ho hK (by kernel_rfl) (by kernel_rfl) (by subst hV; rfl) (by subst hV; rfl) fun ps af e => k_nc e
    · exact pl1 61 60 1 0 ho hK (by kernel_rfl) (by kernel_rfl) (by subst hV; rfl) (by subst hV; rfl) fun ps af e => k_fa43_1 e
    · exact pl1 62 61 2 27 ho hK (by kernel_rfl) (by kernel_rfl) (by subst hV; rfl) (by subst hV; rfl) fun ps af e => k_ld27 (l1 _ _ _ hW) e
    · exact pl0 63 3 0 ho hK (by kernel_rfl) (by kernel_rfl) g3 (by subst hV; rfl) fun ps af e => k_fa46_2 e
    · exact pl1 64 63 4 3 ho hK (by kernel_rfl) (by kernel_rfl) (by subst hV; rfl) (by subst hV; rfl) fun ps af e => k_ld3 (q2 _ _ _ hW) e
    · exact pl0 65 3 0 ho hK (by kernel_rfl) (by kernel_rfl) g3 (by subst hV; rfl) fun ps af e => k_fa46_3 e
    · exact pl1 66 65 6 3 ho hK (by kernel_rfl) (by kernel_rfl) (by subst hV; rfl) (by subst hV; rfl) fun ps af e => k_ld3 (q3 _ _ _ hW) e
    · exact absurd (by decide) hic
    · exact pl0 68 0 41 ho hK (by kernel_rfl) (by kernel_rfl) g0 (by subst hV; rfl) fun ps af e => k_mv e
    · exact pl1 69 68 9 0 ho hK (by kernel_rfl) (by kernel_rfl) (by subst hV; rfl) (by subst hV; rfl) fun ps af e => k_nc e
    · exact pl1 70 69 10 0 ho hK (by kernel_rfl) (by kernel_rfl) (by subst hV; rfl) (by subst hV; rfl) fun ps af e => k_fa43_3 e
    · exact pl1 71 70 11 32 ho hK (by kernel_rfl) (by kernel_rfl) (by subst hV; rfl) (by subst hV; rfl) fun ps af e => k_ld32 (l3 _ _ _ hW) e
    · exact pl0 72 3 0 ho hK (by kernel_rfl) (by kernel_rfl) g3 (by subst hV; rfl) fun ps af e => k_fa46_2 e
    · exact pl1 73 72 13 3 ho hK (by kernel_rfl) (by kernel_rfl) (by subst hV; rfl) (by subst hV; rfl) fun ps af e => k_ld3 (q2 _ _ _ hW) e
    · exact pl0 74 3 0 ho hK (by kernel_rfl) (by kernel_rfl) g3 (by subst hV; rfl) fun ps af e => k_fa46_3 e
    · exact pl1 75 74 15 3 ho hK (by kernel_rfl) (by kernel_rfl) (by subst hV; rfl) (by subst hV; rfl) fun ps af e => k_ld3 (q3 _ _ _ hW) e
    · exact absurd (by decide) hic
    · obtain ⟨ps, af, rfl⟩ := core (some 77) (.binOp BinOp.eql 28 (.tmp 67) (.tmp 76) 28) 4 none ho (by kernel_rfl)
      have e67 : Tx.getD 67 undef = .int .i64 cd := hK.is 8 ho (by kernel_rfl) (by subst hV; rfl)
      have e76 : Tx.getD 76 undef = .int .i64 cd := hK.is 17 ho (by kernel_rfl) (by subst hV; rfl)
      exact wpOp_plain ho rfl (by subst hV; go_simp; try rfl)
    · exact pl1 4 77 18 4 ho hK (by kernel_rfl) (by kernel_rfl) (by subst hV; rfl) (by subst hV; rfl) fun ps af e => k_as e
  · have hcase : cx = 8 ∨ cx = 17 := by simpa using hc
    rcases hcase with rfl | rfl
    · obtain ⟨ps, af, rfl⟩ := core (some 67) (.call { callee := .value (.func 22), args := #[.tmp 62, .tmp 64, .tmp 66], argTypes := #[27, 3, 3] }) 28 none ho (by kernel_rfl)
      have e62 : Tx.getD 62 undef = .pointer (some ⟨d, 0, none⟩) := hK.is 3 ho (by kernel_rfl) (by subst hV; rfl)
      have e64 : Tx.getD 64 undef = .int .i64 na := hK.is 5 ho (by kernel_rfl) (by subst hV; rfl)
      have e66 : Tx.getD 66 undef = .int .i64 nb := hK.is 7 ho (by kernel_rfl) (by subst hV; rfl)
      have hW1 : PW (dx 8) (dx 17)  wx := hW
      have f17 := hda 17 (by decide) (by kernel_rfl)
      clear hdb hda
      rw [hd, f17] at hW1
      replace f17 := Lib.hid f17
      clear hd hW hc
      refine wpOp_plain ho rfl ?_
      go_simp
      go_at_call 22
      refine (cl8 _ hW1).mono ?_
      rintro ex w2 ⟨rfl, hW2⟩
      subst hV
      first | refine ⟨undef, rfl, ?_⟩ | refine ⟨⟨undef, rfl⟩, ?_⟩
      simpa [updB, upd, f17.out] using hW2
    · obtain ⟨ps, af, rfl⟩ := core (some 76) (.call { callee := .value (.func 23), args := #[.tmp 71, .tmp 73, .tmp 75], argTypes := #[32, 3, 3] }) 28 none ho (by kernel_rfl)
      have e71 : Tx.getD 71 undef = .pointer (some ⟨r, 0, none⟩) := hK.is 12 ho (by kernel_rfl) (by subst hV; rfl)
      have e73 : Tx.getD 73 undef = .int .i64 na := hK.is 14 ho (by kernel_rfl) (by subst hV; rfl)
      have e75 : Tx.getD 75 undef = .int .i64 nb := hK.is 16 ho (by kernel_rfl) (by subst hV; rfl)
      have hW1 : PW (dx 8) (dx 17)  wx := hW
      have f8 := hdb 8 (by decide) (by kernel_rfl)
      clear hdb hda
      rw [hd, f8] at hW1
      replace f8 := Lib.hid f8
      clear hd hW hc
      refine wpOp_plain ho rfl ?_
      go_simp
      go_at_call 23
      refine (cl17 _ hW1).mono ?_
      rintro ex w2 ⟨rfl, hW2⟩
      subst hV
      first | refine ⟨undef, rfl, ?_⟩ | refine ⟨⟨undef, rfl⟩, ?_⟩
      simpa [updB, upd, f8.out] using hW2
  · have hW1 : PW (dx 8) (dx 17)  wx := hW
    rw [hd 8 (by decide), hd 17 (by decide)] at hW1
    have hQ := h _ hW1
    rw [hsz]
    subst hV hT
    refine cast (congrArg (fun Tx => Q .normal ⟨Tx, ds⟩ wx) ?_) hQ
    kernel_rfl
noncomputable def rDEO : Array Oper := (Tryd.f20.body.bind fun c => findR c 11).getD #[]
def rDE_m : List (List Nat) := [[], [], [], [], [], [], [], [], [], [], [], [], [], [6], [6, 13]]
set_option maxHeartbeats 16000000 in
theorem rDE (PW : Bool → Bool → World → Prop) (P q d r : Nat) (cd na : Int) (w : World) (w0 : PW false false  w.drew)  (l1 : ∀ (b6 b13 : Bool) (w : World), PW b6 b13  w → w.cell? ⟨P, 1, none⟩ = some (.pointer (some ⟨d, 0, none⟩))) (q2 : ∀ (b6 b13 : Bool) (w : World), PW b6 b13  w → w.cell? ⟨q, 2, none⟩ = some (.int .i64 na)) (l3 : ∀ (b6 b13 : Bool) (w : World), PW b6 b13  w → w.cell? ⟨P, 3, none⟩ = some (.pointer (some ⟨r, 0, none⟩))) (cl6 : ∀ (w : World), PW false false w → Calls Tryd.prog 33 #[.pointer (some ⟨d, 0, none⟩), .int .i64 na] w fun e w1 => e = .returned (.int .i64 cd) ∧ PW true false  w1) (cl13 : ∀ (w : World), PW true false w → Calls Tryd.prog 55 #[.pointer (some ⟨r, 0, none⟩), .int .i64 na] w fun e w1 => e = .returned (.int .i64 cd) ∧ PW true true  w1) {t1 t2 t4 t5 t6 t7 t8 t9 t10 t11 t12 t13 t14 t15 t16 t17 t18 t19 t20 t21 t22 t23 t24 t25 t26 t27 t28 t29 t30 t31 t32 t33 t34 t35 t36 t37 t38 t39 t40 t41 t42 t43 t44 t45 t46 t47 t48 t49 t50 t51 t52 t53 t54 t55 t56 t57 t58 t59 t60 t61 t62 t63 t64 t65 t66 t67 t68 t69 t70 t71 t72 t73 t74 t75 t76 t77 t78 t79 t80 t81 t82 t83 t84 t85 t86 t87 t88 t89 t90 t91 t92 t93 t94 t95 t96 t97 t98 t99 t100 t101 t102 t103 t104 t105 t106 t107 t108 t109 t110 t111 t112 t113 t114 t115 t116 t117 t118 t119 t120 t121 t122 t123 t124 t125 t126 t127 t128 t129 t130 t131 : Value} {ds : List Deferred} {Q : Exit → Act → World → Prop}
    (h : ∀ (w1 : World), PW true true  w1 → Q .normal { tmps := #[.pointer (some ⟨P, 0, none⟩), t1, t2, .pointer (some ⟨q, 0, none⟩), t4, t5, t6, t7, t8, t9, t10, t11, t12, t13, t14, t15, t16, t17, t18, t19, t20, t21, t22, t23, t24, t25, t26, t27, t28, t29, t30, t31, t32, t33, t34, t35, t36, t37, t38, t39, t40, t41, t42, t43, t44, t45, t46, t47, t48, t49, t50, t51, t52, t53, t54, t55, t56, t57, t58, t59, t60, t61, t62, t63, t64, t65, t66, t67, t68, t69, t70, t71, t72, t73, t74, t75, t76, t77, t78, t79, .pointer (some ⟨P, 0, none⟩), .pointer (some ⟨P, 0, none⟩), .pointer (some ⟨P, 1, none⟩), .pointer (some ⟨d, 0, none⟩), .pointer (some ⟨q, 2, none⟩), .int .i64 na, .int .i64 cd, .pointer (some ⟨P, 0, none⟩), .pointer (some ⟨P, 0, none⟩), .pointer (some ⟨P, 3, none⟩), .pointer (some ⟨r, 0, none⟩), .pointer (some ⟨q, 2, none⟩), .int .i64 na, .int .i64 cd, .bool false, t95, t96, t97, t98, t99, t100, t101, t102, t103, t104, t105, t106, t107, t108, t109, t110, t111, t112, t113, t114, t115, t116, t117, t118, t119, t120, t121, t122, t123, t124, t125, t126, t127, t128, t129, t130, t131], defers := ds } w1) :
    (Code.region 11 rDEO true).wp Tryd.prog Q { tmps := #[.pointer (some ⟨P, 0, none⟩), t1, t2, .pointer (some ⟨q, 0, none⟩), t4, t5, t6, t7, t8, t9, t10, t11, t12, t13, t14, t15, t16, t17, t18, t19, t20, t21, t22, t23, t24, t25, t26, t27, t28, t29, t30, t31, t32, t33, t34, t35, t36, t37, t38, t39, t40, t41, t42, t43, t44, t45, t46, t47, t48, t49, t50, t51, t52, t53, t54, t55, t56, t57, t58, t59, t60, t61, t62, t63, t64, t65, t66, t67, t68, t69, t70, t71, t72, t73, t74, t75, t76, t77, t78, t79, t80, t81, t82, t83, t84, t85, t86, t87, t88, t89, t90, t91, t92, t93, t94, t95, t96, t97, t98, t99, t100, t101, t102, t103, t104, t105, t106, t107, t108, t109, t110, t111, t112, t113, t114, t115, t116, t117, t118, t119, t120, t121, t122, t123, t124, t125, t126, t127, t128, t129, t130, t131], defers := ds } w := by
  have hsz : rDEO.size = 15 := by kernel_rfl
  generalize hT : List.toArray _ = T0
  have hs : T0.size = 132 := by subst hT; rfl
  have g0 : T0.getD 0 undef = .pointer (some ⟨P, 0, none⟩) := by subst hT; rfl
  have g3 : T0.getD 3 undef = .pointer (some ⟨q, 0, none⟩) := by subst hT; rfl
  obtain ⟨W, hV⟩ : ∃ W : List ((Nat × (Value → Value)) ⊕ Value), W = [.inr (.pointer (some ⟨P, 0, none⟩)), .inr (.pointer (some ⟨P, 0, none⟩)), .inr (.pointer (some ⟨P, 1, none⟩)), .inr (.pointer (some ⟨d, 0, none⟩)), .inr (.pointer (some ⟨q, 2, none⟩)), .inr (.int .i64 na), .inr (.int .i64 cd), .inr (.pointer (some ⟨P, 0, none⟩)), .inr (.pointer (some ⟨P, 0, none⟩)), .inr (.pointer (some ⟨P, 3, none⟩)), .inr (.pointer (some ⟨r, 0, none⟩)), .inr (.pointer (some ⟨q, 2, none⟩)), .inr (.int .i64 na), .inr (.int .i64 cd), .inr (.bool false)] := ⟨_, rfl⟩
  refine wp_plan (by kernel_rfl) T0 ds [6, 13] rDE_m (mkV W) (fun dx yx wx => PW (dx 6) (dx 13)  wx) w (by rw [hs]; kernel_rfl) (by kernel_rfl) (by kernel_rfl) (by rw [hsz]; decide) (fun cx hc ix hne ha yx vx => mkV_fix (by rw [hV]; kernel_rfl) hne ha yx vx) (?key) (fun cx hc ox ho dx yx Tx wx hd hdb hda hK hW => ?_) ⟨fun k => undef, w0⟩ (fun dx yx wx hd hW => ?_)
  case key =>
    rw [hsz]
    refine all_step (all_step (all_step (all_step (all_step (all_step (all_step (all_step (all_step (all_step (all_step (all_step (all_step (all_step (all_step all_zero ?_) ?_) ?_) ?_) ?_) ?_) ?_) ?_) ?_) ?_) ?_) ?_) ?_) ?_) ?_
    all_goals
      intro ox ho hic dx yx Tx wx hdb hK hW
      replace hdb := Lib.hid hdb
    · exact pl0 80 0 41 ho hK (by kernel_rfl) (by kernel_rfl) g0 (by subst hV; rfl) fun ps af e => k_mv e
    · exact pl1 81 80 0 0 ho hK (by kernel_rfl) (by kernel_rfl) (by subst hV; rfl) (by subst hV; rfl) fun ps af e => k_nc e
    · exact pl1 82 81 1 0 ho hK (by kernel_rfl) (by kernel_rfl) (by subst hV; rfl) (by subst hV; rfl) fun ps af e => k_fa43_1 e
    · exact pl1 83 82 2 27 ho hK (by kernel_rfl) (by kernel_rfl) (by subst hV; rfl) (by subst hV; rfl) fun ps af e => k_ld27 (l1 _ _ _ hW) e
    · exact pl0 84 3 0 ho hK (by kernel_rfl) (by kernel_rfl) g3 (by subst hV; rfl) fun ps af e => k_fa46_2 e
    · exact pl1 85 84 4 3 ho hK (by kernel_rfl) (by kernel_rfl) (by subst hV; rfl) (by subst hV; rfl) fun ps af e => k_ld3 (q2 _ _ _ hW) e
    · exact absurd (by decide) hic
    · exact pl0 87 0 41 ho hK (by kernel_rfl) (by kernel_rfl) g0 (by subst hV; rfl) fun ps af e => k_mv e
    · exact pl1 88 87 7 0 ho hK (by kernel_rfl) (by kernel_rfl) (by subst hV; rfl) (by subst hV; rfl) fun ps af e => k_nc e
    · exact pl1 89 88 8 0 ho hK (by kernel_rfl) (by kernel_rfl) (by subst hV; rfl) (by subst hV; rfl) fun ps af e => k_fa43_3 e
    · exact pl1 90 89 9 32 ho hK (by kernel_rfl) (by kernel_rfl) (by subst hV; rfl) (by subst hV; rfl) fun ps af e => k_ld32 (l3 _ _ _ hW) e
    · exact pl0 91 3 0 ho hK (by kernel_rfl) (by kernel_rfl) g3 (by subst hV; rfl) fun ps af e => k_fa46_2 e
    · exact pl1 92 91 11 3 ho hK (by kernel_rfl) (by kernel_rfl) (by subst hV; rfl) (by subst hV; rfl) fun ps af e => k_ld3 (q2 _ _ _ hW) e
    · exact absurd (by decide) hic
    · obtain ⟨ps, af, rfl⟩ := core (some 94) (.binOp BinOp.neq 28 (.tmp 86) (.tmp 93) 28) 4 none ho (by kernel_rfl)
      have e86 : Tx.getD 86 undef = .int .i64 cd := hK.is 6 ho (by kernel_rfl) (by subst hV; rfl)
      have e93 : Tx.getD 93 undef = .int .i64 cd := hK.is 13 ho (by kernel_rfl) (by subst hV; rfl)
      exact wpOp_plain ho rfl (by subst hV; go_simp; try rfl)
  · have hcase : cx = 6 ∨ cx = 13 := by simpa using hc
    rcases hcase with rfl | rfl
    · obtain ⟨ps, af, rfl⟩ := core (some 86) (.call { callee := .value (.func 33), args := #[.tmp 83, .tmp 85], argTypes := #[27, 3] }) 28 none ho (by kernel_rfl)
      have e83 : Tx.getD 83 undef = .pointer (some ⟨d, 0, none⟩) := hK.is 3 ho (by kernel_rfl) (by subst hV; rfl)
      have e85 : Tx.getD 85 undef = .int .i64 na := hK.is 5 ho (by kernel_rfl) (by subst hV; rfl)
      have hW1 : PW (dx 6) (dx 13)  wx := hW
      have f13 := hda 13 (by decide) (by kernel_rfl)
      clear hdb hda
      rw [hd, f13] at hW1
      replace f13 := Lib.hid f13
      clear hd hW hc
      refine wpOp_plain ho rfl ?_
      go_simp
      go_at_call 33
      refine (cl6 _ hW1).mono ?_
      rintro ex w2 ⟨rfl, hW2⟩
      subst hV
      first | refine ⟨undef, rfl, ?_⟩ | refine ⟨⟨undef, rfl⟩, ?_⟩
      simpa [updB, upd, f13.out] using hW2
    · obtain ⟨ps, af, rfl⟩ := core (some 93) (.call { callee := .value (.func 55), args := #[.tmp 90, .tmp 92], argTypes := #[32, 3] }) 28 none ho (by kernel_rfl)
      have e90 : Tx.getD 90 undef = .pointer (some ⟨r, 0, none⟩) := hK.is 10 ho (by kernel_rfl) (by subst hV; rfl)
      have e92 : Tx.getD 92 undef = .int .i64 na := hK.is 12 ho (by kernel_rfl) (by subst hV; rfl)
      have hW1 : PW (dx 6) (dx 13)  wx := hW
      have f6 := hdb 6 (by decide) (by kernel_rfl)
      clear hdb hda
      rw [hd, f6] at hW1
      replace f6 := Lib.hid f6
      clear hd hW hc
      refine wpOp_plain ho rfl ?_
      go_simp
      go_at_call 55
      refine (cl13 _ hW1).mono ?_
      rintro ex w2 ⟨rfl, hW2⟩
      subst hV
      first | refine ⟨undef, rfl, ?_⟩ | refine ⟨⟨undef, rfl⟩, ?_⟩
      simpa [updB, upd, f6.out] using hW2
  · have hW1 : PW (dx 6) (dx 13)  wx := hW
    rw [hd 6 (by decide), hd 13 (by decide)] at hW1
    have hQ := h _ hW1
    rw [hsz]
    subst hV hT
    refine cast (congrArg (fun Tx => Q .normal ⟨Tx, ds⟩ wx) ?_) hQ
    kernel_rfl
def prj : Value → Nat → Value
  | .tuple xs, i => xs.getD i undef
  | _, _ => undef
noncomputable def rDFO : Array Oper := (Tryd.f20.body.bind fun c => findR c 15).getD #[]
def rDF_m : List (List Nat) := [[], [], [], [], [], [], [], [], [], [8], [8], [8], [8], [8], [8], [8]]
set_option maxHeartbeats 16000000 in
theorem rDF (PW : Bool → Value → World → Prop) (q d r : Nat) (w : World)  (l1 : ∀ (b8 : Bool) (y8 : Value) (w : World), PW b8 y8 w → w.cell? ⟨q, 1, none⟩ = some (.pointer (some ⟨d, 0, none⟩))) (l3 : ∀ (b8 : Bool) (y8 : Value) (w : World), PW b8 y8 w → w.cell? ⟨q, 3, none⟩ = some (.pointer (some ⟨r, 0, none⟩))) (cl8 : ∀ (y8 : Value) (w : World), PW false y8 w → Calls Tryd.prog 24 #[.pointer (some ⟨d, 0, none⟩), .pointer (some ⟨r, 0, none⟩)] w fun e w1 => ∃ v, e = .returned v ∧ PW true v w1) (sh : ∀ (b8 : Bool) (y8 : Value) (w : World), PW b8 y8 w → b8 = true → ∃ lv rv, y8 = .tuple #[lv, rv, .bool true]) {t1 t2 t3 t4 t5 t6 t7 t8 t9 t10 t11 t12 t13 t14 t15 t16 t17 t18 t19 t20 t21 t22 t23 t24 t25 t26 t27 t28 t29 t30 t31 t32 t33 t34 t35 t36 t37 t38 t39 t40 t41 t42 t43 t44 t45 t46 t47 t48 t49 t50 t51 t52 t53 t54 t55 t56 t57 t58 t59 t60 t61 t62 t63 t64 t65 t66 t67 t68 t69 t70 t71 t72 t73 t74 t75 t76 t77 t78 t79 t80 t81 t82 t83 t84 t85 t86 t87 t88 t89 t90 t91 t92 t93 t94 t95 t96 t97 t98 t99 t100 t101 t102 t103 t104 t105 t106 t107 t108 t109 t110 t111 t112 t113 t114 t115 t116 t117 t118 t119 t120 t121 t122 t123 t124 t125 t126 t127 t128 t129 t130 t131 : Value} (w0 : PW false t114 w.drew) {ds : List Deferred} {Q : Exit → Act → World → Prop}
    (h : ∀ (y8 : Value) (w1 : World), PW true y8 w1 → Q .normal { tmps := #[.pointer (some ⟨q, 0, none⟩), t1, t2, t3, t4, prj y8 0, prj y8 1, prj y8 2, t8, t9, t10, t11, t12, t13, t14, t15, t16, t17, t18, t19, t20, t21, t22, t23, t24, t25, t26, t27, t28, t29, t30, t31, t32, t33, t34, t35, t36, t37, t38, t39, t40, t41, t42, t43, t44, t45, t46, t47, t48, t49, t50, t51, t52, t53, t54, t55, t56, t57, t58, t59, t60, t61, t62, t63, t64, t65, t66, t67, t68, t69, t70, t71, t72, t73, t74, t75, t76, t77, t78, t79, t80, t81, t82, t83, t84, t85, t86, t87, t88, t89, t90, t91, t92, t93, t94, t95, t96, t97, t98, t99, t100, t101, t102, t103, t104, y8, .pointer (some ⟨q, 0, none⟩), .pointer (some ⟨q, 0, none⟩), .pointer (some ⟨q, 1, none⟩), .pointer (some ⟨d, 0, none⟩), .pointer (some ⟨q, 0, none⟩), .pointer (some ⟨q, 0, none⟩), .pointer (some ⟨q, 3, none⟩), .pointer (some ⟨r, 0, none⟩), y8, prj y8 0, prj y8 1, prj y8 2, t118, t119, t120, t121, t122, t123, t124, t125, t126, t127, t128, t129, t130, t131], defers := ds } w1) :
    (Code.region 15 rDFO true).wp Tryd.prog Q { tmps := #[.pointer (some ⟨q, 0, none⟩), t1, t2, t3, t4, t5, t6, t7, t8, t9, t10, t11, t12, t13, t14, t15, t16, t17, t18, t19, t20, t21, t22, t23, t24, t25, t26, t27, t28, t29, t30, t31, t32, t33, t34, t35, t36, t37, t38, t39, t40, t41, t42, t43, t44, t45, t46, t47, t48, t49, t50, t51, t52, t53, t54, t55, t56, t57, t58, t59, t60, t61, t62, t63, t64, t65, t66, t67, t68, t69, t70, t71, t72, t73, t74, t75, t76, t77, t78, t79, t80, t81, t82, t83, t84, t85, t86, t87, t88, t89, t90, t91, t92, t93, t94, t95, t96, t97, t98, t99, t100, t101, t102, t103, t104, t105, t106, t107, t108, t109, t110, t111, t112, t113, t114, t115, t116, t117, t118, t119, t120, t121, t122, t123, t124, t125, t126, t127, t128, t129, t130, t131], defers := ds } w := by
  have hsz : rDFO.size = 16 := by kernel_rfl
  generalize hT : List.toArray _ = T0
  have hs : T0.size = 132 := by subst hT; rfl
  have g0 : T0.getD 0 undef = .pointer (some ⟨q, 0, none⟩) := by subst hT; rfl
  obtain ⟨W, hV⟩ : ∃ W : List ((Nat × (Value → Value)) ⊕ Value), W = [.inr (.pointer (some ⟨q, 0, none⟩)), .inr (.pointer (some ⟨q, 0, none⟩)), .inr (.pointer (some ⟨q, 1, none⟩)), .inr (.pointer (some ⟨d, 0, none⟩)), .inr (.pointer (some ⟨q, 0, none⟩)), .inr (.pointer (some ⟨q, 0, none⟩)), .inr (.pointer (some ⟨q, 3, none⟩)), .inr (.pointer (some ⟨r, 0, none⟩)), .inl (8, id), .inl (8, fun v => v), .inl (8, fun v => prj v 0), .inl (8, fun v => prj v 1), .inl (8, fun v => prj v 2), .inl (8, fun v => prj v 0), .inl (8, fun v => prj v 1), .inl (8, fun v => prj v 2)] := ⟨_, rfl⟩
  refine wp_plan (by kernel_rfl) T0 ds [8] rDF_m (mkV W) (fun dx yx wx => PW (dx 8) (yx 8) wx) w (by rw [hs]; kernel_rfl) (by kernel_rfl) (by kernel_rfl) (by rw [hsz]; decide) (fun cx hc ix hne ha yx vx => mkV_fix (by rw [hV]; kernel_rfl) hne ha yx vx) (?key) (fun cx hc ox ho dx yx Tx wx hd hdb hda hK hW => ?_) ⟨fun k => if k = 8 then t114 else undef, w0⟩ (fun dx yx wx hd hW => ?_)
  case key =>
    rw [hsz]
    refine all_step (all_step (all_step (all_step (all_step (all_step (all_step (all_step (all_step (all_step (all_step (all_step (all_step (all_step (all_step (all_step all_zero ?_) ?_) ?_) ?_) ?_) ?_) ?_) ?_) ?_) ?_) ?_) ?_) ?_) ?_) ?_) ?_
    all_goals
      intro ox ho hic dx yx Tx wx hdb hK hW
      replace hdb := Lib.hid hdb
    · exact pl0 106 0 41 ho hK (by kernel_rfl) (by kernel_rfl) g0 (by subst hV; rfl) fun ps af e => k_mv e
    · exact pl1 107 106 0 0 ho hK (by kernel_rfl) (by kernel_rfl) (by subst hV; rfl) (by subst hV; rfl) fun ps af e => k_nc e
    · exact pl1 108 107 1 0 ho hK (by kernel_rfl) (by kernel_rfl) (by subst hV; rfl) (by subst hV; rfl) fun ps af e => k_fa43_1 e
    · exact pl1 109 108 2 27 ho hK (by kernel_rfl) (by kernel_rfl) (by subst hV; rfl) (by subst hV; rfl) fun ps af e => k_ld27 (l1 _ _ _ hW) e
    · exact pl0 110 0 41 ho hK (by kernel_rfl) (by kernel_rfl) g0 (by subst hV; rfl) fun ps af e => k_mv e
    · exact pl1 111 110 4 0 ho hK (by kernel_rfl) (by kernel_rfl) (by subst hV; rfl) (by subst hV; rfl) fun ps af e => k_nc e
    · exact pl1 112 111 5 0 ho hK (by kernel_rfl) (by kernel_rfl) (by subst hV; rfl) (by subst hV; rfl) fun ps af e => k_fa43_3 e
    · exact pl1 113 112 6 32 ho hK (by kernel_rfl) (by kernel_rfl) (by subst hV; rfl) (by subst hV; rfl) fun ps af e => k_ld32 (l3 _ _ _ hW) e
    · exact absurd (by decide) hic
    · exact pl1 105 114 8 55 ho hK (by kernel_rfl) (by kernel_rfl) (by subst hV; rfl) (by subst hV; rfl) fun ps af e => k_mv e
    · obtain ⟨ps, af, rfl⟩ := core (some 115) (.extract (.tmp 105) 0) 35 none ho (by kernel_rfl)
      have e105 : Tx.getD 105 undef = (yx 8) := hK.is 9 ho (by kernel_rfl) (by subst hV; rfl)
      obtain ⟨lv, rv, e8⟩ := sh _ _ _ hW (hdb.out 8 (by decide) (by kernel_rfl))
      rw [e8] at e105
      exact wpOp_plain ho rfl (by subst hV; go_simp; show _ = Tx.setIfInBounds 115 (prj (yx 8) 0); rw [e8]; rfl)
    · obtain ⟨ps, af, rfl⟩ := core (some 116) (.extract (.tmp 105) 1) 38 none ho (by kernel_rfl)
      have e105 : Tx.getD 105 undef = (yx 8) := hK.is 9 ho (by kernel_rfl) (by subst hV; rfl)
      obtain ⟨lv, rv, e8⟩ := sh _ _ _ hW (hdb.out 8 (by decide) (by kernel_rfl))
      rw [e8] at e105
      exact wpOp_plain ho rfl (by subst hV; go_simp; show _ = Tx.setIfInBounds 116 (prj (yx 8) 1); rw [e8]; rfl)
    · obtain ⟨ps, af, rfl⟩ := core (some 117) (.extract (.tmp 105) 2) 4 none ho (by kernel_rfl)
      have e105 : Tx.getD 105 undef = (yx 8) := hK.is 9 ho (by kernel_rfl) (by subst hV; rfl)
      obtain ⟨lv, rv, e8⟩ := sh _ _ _ hW (hdb.out 8 (by decide) (by kernel_rfl))
      rw [e8] at e105
      exact wpOp_plain ho rfl (by subst hV; go_simp; show _ = Tx.setIfInBounds 117 (prj (yx 8) 2); rw [e8]; rfl)
    · exact pl1 5 115 10 35 ho hK (by kernel_rfl) (by kernel_rfl) (by subst hV; rfl) (by subst hV; rfl) fun ps af e => k_as e
    · exact pl1 6 116 11 38 ho hK (by kernel_rfl) (by kernel_rfl) (by subst hV; rfl) (by subst hV; rfl) fun ps af e => k_as e
    · exact pl1 7 117 12 4 ho hK (by kernel_rfl) (by kernel_rfl) (by subst hV; rfl) (by subst hV; rfl) fun ps af e => k_as e
  · obtain rfl : cx = 8 := by simpa using hc
    · obtain ⟨ps, af, rfl⟩ := core (some 114) (.call { callee := .value (.func 24), args := #[.tmp 109, .tmp 113], argTypes := #[27, 32] }) 55 none ho (by kernel_rfl)
      have e109 : Tx.getD 109 undef = .pointer (some ⟨d, 0, none⟩) := hK.is 3 ho (by kernel_rfl) (by subst hV; rfl)
      have e113 : Tx.getD 113 undef = .pointer (some ⟨r, 0, none⟩) := hK.is 7 ho (by kernel_rfl) (by subst hV; rfl)
      have hW1 : PW (dx 8) (yx 8) wx := hW
      clear hdb hda
      rw [hd] at hW1
      clear hd hW hc
      refine wpOp_plain ho rfl ?_
      go_simp
      go_at_call 24
      refine (cl8 _ _ hW1).mono ?_
      rintro ex w2 ⟨vx, rfl, hW2⟩
      subst hV
      refine ⟨vx, rfl, ?_⟩
      simpa [updB, upd] using hW2
  · have hW1 : PW (dx 8) (yx 8) wx := hW
    rw [hd 8 (by decide)] at hW1
    have hQ := h _ _ hW1
    rw [hsz]
    subst hV hT
    refine cast (congrArg (fun Tx => Q .normal ⟨Tx, ds⟩ wx) ?_) hQ
    kernel_rfl
end Go.Proofs.YtmoihgniglomiaaDoor
