/- The law of rings: the region that lays a product and a sum. No condition but what it reads. -/
import Derived.Test.YtglmmodkflkkkaaRa
set_option linter.unusedVariables false
set_option linter.unusedSimpArgs false
set_option maxRecDepth 100000
namespace Go.Proofs.Ytglmmodkflkkkaa
open Go.RowKit Go.Sort Limbs


/-- what holds whichever operations of the region have come up -/
def ri4I (w0 : World) (ga gb gc ua ub uc uab ubc : Nat) (mm : Int) (t1 t2 t3 t4 t10 t11 t12 t13 t14 t15 t16 t17 t18 t19 t20 t29 t30 t31 t32 t33 t34 t35 t36 t37 t38 t39 t40 t41 t42 t43 t44 t45 t46 t47 t48 t49 t50 t51 t52 t53 t54 t55 t56 t57 t58 t59 t60 t61 t62 t63 t64 t65 t66 t67 t68 t69 t70 t71 t72 t73 t74 t75 t76 t77 t78 t79 t80 t81 t82 t83 t84 t85 t86 t87 t88 t89 t90 t91 t92 t93 t94 t95 t96 t97 t98 t99 t100 t101 t102 t103 t104 t105 t106 t107 t108 t109 t110 t111 t112 t113 t114 t115 t116 t117 t118 t119 t120 t121 t122 t123 t124 t125 t126 t127 t128 t129 t130 t131 t132 t133 t134 t135 t136 t137 t138 t139 t140 t141 t142 t143 t144 t145 t146 t147 t148 t149 t150 t151 t152 t153 t154 t155 t156 t157 t158 t159 t160 : Value) (ds : List Deferred) (l : Array Bool) (a : Act) (w : World) : Prop :=
  ∃ j0 j1 j2 j3 j4 j5 j6 j7 j8 j9 j10 j11 : Bool, ∃ x0 x1 x2 x3 x4 x5 x6 x7 x8 x9 : Value, ∃ g8 g9 : Nat, l = #[j0, j1, j2, j3, j4, j5, j6, j7, j8, j9, j10, j11] ∧ a = { tmps := #[.int .i64 mm, t1, t2, t3, t4, .pointer (some ⟨ga, 0, none⟩), .pointer (some ⟨gb, 0, none⟩), .pointer (some ⟨gc, 0, none⟩), x8, x9, t10, t11, t12, t13, t14, t15, t16, t17, t18, t19, t20, x0, x1, x2, x3, x4, x5, x6, x7, t29, t30, t31, t32, t33, t34, t35, t36, t37, t38, t39, t40, t41, t42, t43, t44, t45, t46, t47, t48, t49, t50, t51, t52, t53, t54, t55, t56, t57, t58, t59, t60, t61, t62, t63, t64, t65, t66, t67, t68, t69, t70, t71, t72, t73, t74, t75, t76, t77, t78, t79, t80, t81, t82, t83, t84, t85, t86, t87, t88, t89, t90, t91, t92, t93, t94, t95, t96, t97, t98, t99, t100, t101, t102, t103, t104, t105, t106, t107, t108, t109, t110, t111, t112, t113, t114, t115, t116, t117, t118, t119, t120, t121, t122, t123, t124, t125, t126, t127, t128, t129, t130, t131, t132, t133, t134, t135, t136, t137, t138, t139, t140, t141, t142, t143, t144, t145, t146, t147, t148, t149, t150, t151, t152, t153, t154, t155, t156, t157, t158, t159, t160], defers := ds } ∧ Below w0.heap.size w0 w ∧
  (j0 = true → x0 = .int .i64 mm) ∧
  (j1 = true → x1 = .agg #[.int .u64 (lb ua 0 : Nat), .int .u64 (lb ua 1 : Nat), .int .u64 (lb ua 2 : Nat), .int .u64 (lb ua 3 : Nat)]) ∧
  (j2 = true → x2 = .agg #[.int .u64 (lb ub 0 : Nat), .int .u64 (lb ub 1 : Nat), .int .u64 (lb ub 2 : Nat), .int .u64 (lb ub 3 : Nat)]) ∧
  (j3 = true → x3 = .agg #[.int .u64 (lb uab 0 : Nat), .int .u64 (lb uab 1 : Nat), .int .u64 (lb uab 2 : Nat), .int .u64 (lb uab 3 : Nat)]) ∧
  (j4 = true → x4 = .int .i64 mm) ∧
  (j5 = true → x5 = .agg #[.int .u64 (lb ub 0 : Nat), .int .u64 (lb ub 1 : Nat), .int .u64 (lb ub 2 : Nat), .int .u64 (lb ub 3 : Nat)]) ∧
  (j6 = true → x6 = .agg #[.int .u64 (lb uc 0 : Nat), .int .u64 (lb uc 1 : Nat), .int .u64 (lb uc 2 : Nat), .int .u64 (lb uc 3 : Nat)]) ∧
  (j7 = true → x7 = .agg #[.int .u64 (lb ubc 0 : Nat), .int .u64 (lb ubc 1 : Nat), .int .u64 (lb ubc 2 : Nat), .int .u64 (lb ubc 3 : Nat)]) ∧
  (j8 = true → x8 = .pointer (some ⟨g8, 0, none⟩) ∧ w0.heap.size ≤ g8 ∧ ∃ z0 z1 z2 z3 : Value, Bk 24 w g8 #[z0, z1, z2, z3] ∧ (j10 = true → #[z0, z1, z2, z3] = #[.int .u64 (lb uab 0 : Nat), .int .u64 (lb uab 1 : Nat), .int .u64 (lb uab 2 : Nat), .int .u64 (lb uab 3 : Nat)])) ∧
  (j10 = true → j8 = true) ∧
  (j9 = true → x9 = .pointer (some ⟨g9, 0, none⟩) ∧ w0.heap.size ≤ g9 ∧ ∃ z0 z1 z2 z3 : Value, Bk 24 w g9 #[z0, z1, z2, z3] ∧ (j11 = true → #[z0, z1, z2, z3] = #[.int .u64 (lb ubc 0 : Nat), .int .u64 (lb ubc 1 : Nat), .int .u64 (lb ubc 2 : Nat), .int .u64 (lb ubc 3 : Nat)])) ∧
  (j11 = true → j9 = true) ∧
  (j8 = true → j9 = true → g8 ≠ g9)

noncomputable def ri4O : Array Oper := (Try.f7.body.bind fun c => findR c 4).getD #[]
set_option maxHeartbeats 16000000 in
theorem ri4_steps (ga gb gc ua ub uc uab ubc : Nat) (mm : Int) (w : World) (KA : Bk 24 w ga #[.int .u64 (lb ua 0 : Nat), .int .u64 (lb ua 1 : Nat), .int .u64 (lb ua 2 : Nat), .int .u64 (lb ua 3 : Nat)]) (KB : Bk 24 w gb #[.int .u64 (lb ub 0 : Nat), .int .u64 (lb ub 1 : Nat), .int .u64 (lb ub 2 : Nat), .int .u64 (lb ub 3 : Nat)]) (KC : Bk 24 w gc #[.int .u64 (lb uc 0 : Nat), .int .u64 (lb uc 1 : Nat), .int .u64 (lb uc 2 : Nat), .int .u64 (lb uc 3 : Nat)]) (H1 : Hid (∀ w, Calls Try.prog 23 #[.int .i64 mm, .agg #[.int .u64 (lb ua 0 : Nat), .int .u64 (lb ua 1 : Nat), .int .u64 (lb ua 2 : Nat), .int .u64 (lb ua 3 : Nat)], .agg #[.int .u64 (lb ub 0 : Nat), .int .u64 (lb ub 1 : Nat), .int .u64 (lb ub 2 : Nat), .int .u64 (lb ub 3 : Nat)]] w fun e w' => e = .returned (.agg #[.int .u64 (lb uab 0 : Nat), .int .u64 (lb uab 1 : Nat), .int .u64 (lb uab 2 : Nat), .int .u64 (lb uab 3 : Nat)]) ∧ Below w.heap.size w w')) (H2 : Hid (∀ w, Calls Try.prog 19 #[.int .i64 mm, .agg #[.int .u64 (lb ub 0 : Nat), .int .u64 (lb ub 1 : Nat), .int .u64 (lb ub 2 : Nat), .int .u64 (lb ub 3 : Nat)], .agg #[.int .u64 (lb uc 0 : Nat), .int .u64 (lb uc 1 : Nat), .int .u64 (lb uc 2 : Nat), .int .u64 (lb uc 3 : Nat)]] w fun e w' => e = .returned (.agg #[.int .u64 (lb ubc 0 : Nat), .int .u64 (lb ubc 1 : Nat), .int .u64 (lb ubc 2 : Nat), .int .u64 (lb ubc 3 : Nat)]) ∧ Below w.heap.size w w'))
    {t1 t2 t3 t4 t10 t11 t12 t13 t14 t15 t16 t17 t18 t19 t20 t29 t30 t31 t32 t33 t34 t35 t36 t37 t38 t39 t40 t41 t42 t43 t44 t45 t46 t47 t48 t49 t50 t51 t52 t53 t54 t55 t56 t57 t58 t59 t60 t61 t62 t63 t64 t65 t66 t67 t68 t69 t70 t71 t72 t73 t74 t75 t76 t77 t78 t79 t80 t81 t82 t83 t84 t85 t86 t87 t88 t89 t90 t91 t92 t93 t94 t95 t96 t97 t98 t99 t100 t101 t102 t103 t104 t105 t106 t107 t108 t109 t110 t111 t112 t113 t114 t115 t116 t117 t118 t119 t120 t121 t122 t123 t124 t125 t126 t127 t128 t129 t130 t131 t132 t133 t134 t135 t136 t137 t138 t139 t140 t141 t142 t143 t144 t145 t146 t147 t148 t149 t150 t151 t152 t153 t154 t155 t156 t157 t158 t159 t160 : Value} {ds : List Deferred} {Q : Exit → Act → World → Prop} :
    ∀ l a w', ri4I w ga gb gc ua ub uc uab ubc mm t1 t2 t3 t4 t10 t11 t12 t13 t14 t15 t16 t17 t18 t19 t20 t29 t30 t31 t32 t33 t34 t35 t36 t37 t38 t39 t40 t41 t42 t43 t44 t45 t46 t47 t48 t49 t50 t51 t52 t53 t54 t55 t56 t57 t58 t59 t60 t61 t62 t63 t64 t65 t66 t67 t68 t69 t70 t71 t72 t73 t74 t75 t76 t77 t78 t79 t80 t81 t82 t83 t84 t85 t86 t87 t88 t89 t90 t91 t92 t93 t94 t95 t96 t97 t98 t99 t100 t101 t102 t103 t104 t105 t106 t107 t108 t109 t110 t111 t112 t113 t114 t115 t116 t117 t118 t119 t120 t121 t122 t123 t124 t125 t126 t127 t128 t129 t130 t131 t132 t133 t134 t135 t136 t137 t138 t139 t140 t141 t142 t143 t144 t145 t146 t147 t148 t149 t150 t151 t152 t153 t154 t155 t156 t157 t158 t159 t160 ds l a w' → ∀ i ∈ Region.ready .any ri4O l, wpOp Try.prog ri4O Q i (fun a' w'' => ri4I w ga gb gc ua ub uc uab ubc mm t1 t2 t3 t4 t10 t11 t12 t13 t14 t15 t16 t17 t18 t19 t20 t29 t30 t31 t32 t33 t34 t35 t36 t37 t38 t39 t40 t41 t42 t43 t44 t45 t46 t47 t48 t49 t50 t51 t52 t53 t54 t55 t56 t57 t58 t59 t60 t61 t62 t63 t64 t65 t66 t67 t68 t69 t70 t71 t72 t73 t74 t75 t76 t77 t78 t79 t80 t81 t82 t83 t84 t85 t86 t87 t88 t89 t90 t91 t92 t93 t94 t95 t96 t97 t98 t99 t100 t101 t102 t103 t104 t105 t106 t107 t108 t109 t110 t111 t112 t113 t114 t115 t116 t117 t118 t119 t120 t121 t122 t123 t124 t125 t126 t127 t128 t129 t130 t131 t132 t133 t134 t135 t136 t137 t138 t139 t140 t141 t142 t143 t144 t145 t146 t147 t148 t149 t150 t151 t152 t153 t154 t155 t156 t157 t158 t159 t160 ds (l.setIfInBounds i true) a' w'') a w' := by
  simp only [ri4O, findR, Try.f7, Option.bind_some, Option.or, Option.getD, Nat.reduceEqDiff, if_true, if_false, reduceIte]
  rintro l a w' ⟨j0, j1, j2, j3, j4, j5, j6, j7, j8, j9, j10, j11, x0, x1, x2, x3, x4, x5, x6, x7, x8, x9, g8, g9, rfl, rfl, hB, h0, h1, h2, h3, h4, h5, h6, h7, a8, s8, a9, s9, n8_9⟩ i hi
  rw [mem_ready] at hi
  obtain ⟨hu, oo, ho, hd⟩ := hi
  have hin : i < 12 := by
    have := (Array.getElem?_eq_some_iff.1 ho).1
    simpa using this
  replace h0 := Lib.hid h0
  replace h1 := Lib.hid h1
  replace h2 := Lib.hid h2
  replace h3 := Lib.hid h3
  replace h4 := Lib.hid h4
  replace h5 := Lib.hid h5
  replace h6 := Lib.hid h6
  replace h7 := Lib.hid h7
  have hcase : i = 0 ∨ i = 1 ∨ i = 2 ∨ i = 3 ∨ i = 4 ∨ i = 5 ∨ i = 6 ∨ i = 7 ∨ i = 8 ∨ i = 9 ∨ i = 10 ∨ i = 11 := by omega
  rcases hcase with rfl | rfl | rfl | rfl | rfl | rfl | rfl | rfl | rfl | rfl | rfl | rfl
  · obtain rfl := Option.some.inj ho
    simp [Region.binds] at hu hd
    clear hd
    refine wpOp_of rfl rfl ?_
    go_simp
    unfold ri4I
    exact ⟨true, j1, j2, j3, j4, j5, j6, j7, j8, j9, j10, j11, _, x1, x2, x3, x4, x5, x6, x7, x8, x9, g8, g9, rfl, rfl, hB, fun _ => rfl, h1.out, h2.out, h3.out, h4.out, h5.out, h6.out, h7.out, a8, s8, a9, s9, n8_9⟩
  · obtain rfl := Option.some.inj ho
    simp [Region.binds] at hu hd
    clear hd
    refine wpOp_of rfl rfl ?_
    have i0 : w'.cell? ⟨ga, 0, none⟩ = some (.int .u64 (lb ua 0 : Nat)) := (KA.below hB).cell 0
    have i1 : w'.cell? ⟨ga, 1, none⟩ = some (.int .u64 (lb ua 1 : Nat)) := (KA.below hB).cell 1
    have i2 : w'.cell? ⟨ga, 2, none⟩ = some (.int .u64 (lb ua 2 : Nat)) := (KA.below hB).cell 2
    have i3 : w'.cell? ⟨ga, 3, none⟩ = some (.int .u64 (lb ua 3 : Nat)) := (KA.below hB).cell 3
    go_simp
    unfold ri4I
    exact ⟨j0, true, j2, j3, j4, j5, j6, j7, j8, j9, j10, j11, x0, _, x2, x3, x4, x5, x6, x7, x8, x9, g8, g9, rfl, rfl, hB, h0.out, fun _ => rfl, h2.out, h3.out, h4.out, h5.out, h6.out, h7.out, a8, s8, a9, s9, n8_9⟩
  · obtain rfl := Option.some.inj ho
    simp [Region.binds] at hu hd
    clear hd
    refine wpOp_of rfl rfl ?_
    have i0 : w'.cell? ⟨gb, 0, none⟩ = some (.int .u64 (lb ub 0 : Nat)) := (KB.below hB).cell 0
    have i1 : w'.cell? ⟨gb, 1, none⟩ = some (.int .u64 (lb ub 1 : Nat)) := (KB.below hB).cell 1
    have i2 : w'.cell? ⟨gb, 2, none⟩ = some (.int .u64 (lb ub 2 : Nat)) := (KB.below hB).cell 2
    have i3 : w'.cell? ⟨gb, 3, none⟩ = some (.int .u64 (lb ub 3 : Nat)) := (KB.below hB).cell 3
    go_simp
    unfold ri4I
    exact ⟨j0, j1, true, j3, j4, j5, j6, j7, j8, j9, j10, j11, x0, x1, _, x3, x4, x5, x6, x7, x8, x9, g8, g9, rfl, rfl, hB, h0.out, h1.out, fun _ => rfl, h3.out, h4.out, h5.out, h6.out, h7.out, a8, s8, a9, s9, n8_9⟩
  · obtain rfl := Option.some.inj ho
    simp [Region.binds] at hu hd
    have d0 : j0 = true := by simp [hd]
    have e0 := h0.out d0
    subst e0
    have d1 : j1 = true := by simp [hd]
    have e1 := h1.out d1
    subst e1
    have d2 : j2 = true := by simp [hd]
    have e2 := h2.out d2
    subst e2
    subst d0
    subst d1
    subst d2
    clear hd
    refine wpOp_of rfl rfl ?_
    go_simp
    go_at_call 23
    refine (keep w.heap.size w (H1.out _) hB (Nat.le_refl _)).mono ?_
    rintro e w2 ⟨rfl, hB2, hb2⟩
    unfold ri4I
    exact ⟨true, true, true, true, j4, j5, j6, j7, j8, j9, j10, j11, _, _, _, _, x4, x5, x6, x7, x8, x9, g8, g9, rfl, rfl, hB2, h0.out, h1.out, h2.out, fun _ => rfl, h4.out, h5.out, h6.out, h7.out, (fun hj => by obtain ⟨q1, q2, z0, z1, z2, z3, q3, q4⟩ := a8 hj; exact ⟨q1, q2, z0, z1, z2, z3, q3.below hb2, q4⟩), s8, (fun hj => by obtain ⟨q1, q2, z0, z1, z2, z3, q3, q4⟩ := a9 hj; exact ⟨q1, q2, z0, z1, z2, z3, q3.below hb2, q4⟩), s9, n8_9⟩
  · obtain rfl := Option.some.inj ho
    simp [Region.binds] at hu hd
    clear hd
    refine wpOp_of rfl rfl ?_
    go_simp
    unfold ri4I
    exact ⟨j0, j1, j2, j3, true, j5, j6, j7, j8, j9, j10, j11, x0, x1, x2, x3, _, x5, x6, x7, x8, x9, g8, g9, rfl, rfl, hB, h0.out, h1.out, h2.out, h3.out, fun _ => rfl, h5.out, h6.out, h7.out, a8, s8, a9, s9, n8_9⟩
  · obtain rfl := Option.some.inj ho
    simp [Region.binds] at hu hd
    clear hd
    refine wpOp_of rfl rfl ?_
    have i0 : w'.cell? ⟨gb, 0, none⟩ = some (.int .u64 (lb ub 0 : Nat)) := (KB.below hB).cell 0
    have i1 : w'.cell? ⟨gb, 1, none⟩ = some (.int .u64 (lb ub 1 : Nat)) := (KB.below hB).cell 1
    have i2 : w'.cell? ⟨gb, 2, none⟩ = some (.int .u64 (lb ub 2 : Nat)) := (KB.below hB).cell 2
    have i3 : w'.cell? ⟨gb, 3, none⟩ = some (.int .u64 (lb ub 3 : Nat)) := (KB.below hB).cell 3
    go_simp
    unfold ri4I
    exact ⟨j0, j1, j2, j3, j4, true, j6, j7, j8, j9, j10, j11, x0, x1, x2, x3, x4, _, x6, x7, x8, x9, g8, g9, rfl, rfl, hB, h0.out, h1.out, h2.out, h3.out, h4.out, fun _ => rfl, h6.out, h7.out, a8, s8, a9, s9, n8_9⟩
  · obtain rfl := Option.some.inj ho
    simp [Region.binds] at hu hd
    clear hd
    refine wpOp_of rfl rfl ?_
    have i0 : w'.cell? ⟨gc, 0, none⟩ = some (.int .u64 (lb uc 0 : Nat)) := (KC.below hB).cell 0
    have i1 : w'.cell? ⟨gc, 1, none⟩ = some (.int .u64 (lb uc 1 : Nat)) := (KC.below hB).cell 1
    have i2 : w'.cell? ⟨gc, 2, none⟩ = some (.int .u64 (lb uc 2 : Nat)) := (KC.below hB).cell 2
    have i3 : w'.cell? ⟨gc, 3, none⟩ = some (.int .u64 (lb uc 3 : Nat)) := (KC.below hB).cell 3
    go_simp
    unfold ri4I
    exact ⟨j0, j1, j2, j3, j4, j5, true, j7, j8, j9, j10, j11, x0, x1, x2, x3, x4, x5, _, x7, x8, x9, g8, g9, rfl, rfl, hB, h0.out, h1.out, h2.out, h3.out, h4.out, h5.out, fun _ => rfl, h7.out, a8, s8, a9, s9, n8_9⟩
  · obtain rfl := Option.some.inj ho
    simp [Region.binds] at hu hd
    have d4 : j4 = true := by simp [hd]
    have e4 := h4.out d4
    subst e4
    have d5 : j5 = true := by simp [hd]
    have e5 := h5.out d5
    subst e5
    have d6 : j6 = true := by simp [hd]
    have e6 := h6.out d6
    subst e6
    subst d4
    subst d5
    subst d6
    clear hd
    refine wpOp_of rfl rfl ?_
    go_simp
    go_at_call 19
    refine (keep w.heap.size w (H2.out _) hB (Nat.le_refl _)).mono ?_
    rintro e w2 ⟨rfl, hB2, hb2⟩
    unfold ri4I
    exact ⟨j0, j1, j2, j3, true, true, true, true, j8, j9, j10, j11, x0, x1, x2, x3, _, _, _, _, x8, x9, g8, g9, rfl, rfl, hB2, h0.out, h1.out, h2.out, h3.out, h4.out, h5.out, h6.out, fun _ => rfl, (fun hj => by obtain ⟨q1, q2, z0, z1, z2, z3, q3, q4⟩ := a8 hj; exact ⟨q1, q2, z0, z1, z2, z3, q3.below hb2, q4⟩), s8, (fun hj => by obtain ⟨q1, q2, z0, z1, z2, z3, q3, q4⟩ := a9 hj; exact ⟨q1, q2, z0, z1, z2, z3, q3.below hb2, q4⟩), s9, n8_9⟩
  · obtain rfl := Option.some.inj ho
    simp [Region.binds] at hu hd
    clear hd
    refine wpOp_of rfl rfl ?_
    have hs := hB.size
    go_simp
    unfold ri4I
    exact ⟨j0, j1, j2, j3, j4, j5, j6, j7, true, j9, j10, j11, x0, x1, x2, x3, x4, x5, x6, x7, _, x9, w'.heap.size, g9, rfl, rfl, (by go_grown), h0.out, h1.out, h2.out, h3.out, h4.out, h5.out, h6.out, h7.out, (fun _ => ⟨rfl, hs, _, _, _, _, Bk.new rfl, fun hj => absurd (s8 hj) (by simp [hu])⟩), (fun _ => rfl), (fun hj => by obtain ⟨q1, q2, z0, z1, z2, z3, q3, q4⟩ := a9 hj; exact ⟨q1, q2, z0, z1, z2, z3, q3.alloc, q4⟩), s9, (fun _ hj => by obtain ⟨q1, q2, z0, z1, z2, z3, q3, q4⟩ := a9 hj; exact Nat.ne_of_gt q3.lt)⟩
  · obtain rfl := Option.some.inj ho
    simp [Region.binds] at hu hd
    clear hd
    refine wpOp_of rfl rfl ?_
    have hs := hB.size
    go_simp
    unfold ri4I
    exact ⟨j0, j1, j2, j3, j4, j5, j6, j7, j8, true, j10, j11, x0, x1, x2, x3, x4, x5, x6, x7, x8, _, g8, w'.heap.size, rfl, rfl, (by go_grown), h0.out, h1.out, h2.out, h3.out, h4.out, h5.out, h6.out, h7.out, (fun hj => by obtain ⟨q1, q2, z0, z1, z2, z3, q3, q4⟩ := a8 hj; exact ⟨q1, q2, z0, z1, z2, z3, q3.alloc, q4⟩), s8, (fun _ => ⟨rfl, hs, _, _, _, _, Bk.new rfl, fun hj => absurd (s9 hj) (by simp [hu])⟩), (fun _ => rfl), (fun hj _ => by obtain ⟨q1, q2, z0, z1, z2, z3, q3, q4⟩ := a8 hj; exact Nat.ne_of_lt q3.lt)⟩
  · obtain rfl := Option.some.inj ho
    simp [Region.binds] at hu hd
    have d3 : j3 = true := by simp [hd]
    have e3 := h3.out d3
    subst e3
    have d8 : j8 = true := by simp [hd]
    subst d3
    subst d8
    clear hd
    refine wpOp_of rfl rfl ?_
    obtain ⟨p1, p2, z0, z1, z2, z3, p3, p4⟩ := a8 rfl
    subst p1
    obtain ⟨f0, f1, f2, f3⟩ := p3.fros
    obtain ⟨c0, c1, c2, c3⟩ := p3.cells
    go_simp
    unfold ri4I
    exact ⟨j0, j1, j2, true, j4, j5, j6, j7, true, j9, true, j11, x0, x1, x2, _, x4, x5, x6, x7, _, x9, g8, g9, rfl, rfl, (by go_grown), h0.out, h1.out, h2.out, h3.out, h4.out, h5.out, h6.out, h7.out, (fun _ => ⟨rfl, p2, _, _, _, _, Bk.put p3, fun _ => rfl⟩), (fun _ => rfl), (fun hj => by obtain ⟨q1, q2, z0, z1, z2, z3, q3, q4⟩ := a9 hj; exact ⟨q1, q2, z0, z1, z2, z3, Bk.puto ((Ne.symm (n8_9 rfl hj))) q3, q4⟩), s9, n8_9⟩
  · obtain rfl := Option.some.inj ho
    simp [Region.binds] at hu hd
    have d7 : j7 = true := by simp [hd]
    have e7 := h7.out d7
    subst e7
    have d9 : j9 = true := by simp [hd]
    subst d7
    subst d9
    clear hd
    refine wpOp_of rfl rfl ?_
    obtain ⟨p1, p2, z0, z1, z2, z3, p3, p4⟩ := a9 rfl
    subst p1
    obtain ⟨f0, f1, f2, f3⟩ := p3.fros
    obtain ⟨c0, c1, c2, c3⟩ := p3.cells
    go_simp
    unfold ri4I
    exact ⟨j0, j1, j2, j3, j4, j5, j6, true, j8, true, j10, true, x0, x1, x2, x3, x4, x5, x6, _, x8, _, g8, g9, rfl, rfl, (by go_grown), h0.out, h1.out, h2.out, h3.out, h4.out, h5.out, h6.out, h7.out, (fun hj => by obtain ⟨q1, q2, z0, z1, z2, z3, q3, q4⟩ := a8 hj; exact ⟨q1, q2, z0, z1, z2, z3, Bk.puto (n8_9 hj rfl) q3, q4⟩), s8, (fun _ => ⟨rfl, p2, _, _, _, _, Bk.put p3, fun _ => rfl⟩), (fun _ => rfl), n8_9⟩

set_option maxHeartbeats 16000000 in
theorem ri4_fin (ga gb gc ua ub uc uab ubc : Nat) (mm : Int) (w : World)
    {t1 t2 t3 t4 t10 t11 t12 t13 t14 t15 t16 t17 t18 t19 t20 t29 t30 t31 t32 t33 t34 t35 t36 t37 t38 t39 t40 t41 t42 t43 t44 t45 t46 t47 t48 t49 t50 t51 t52 t53 t54 t55 t56 t57 t58 t59 t60 t61 t62 t63 t64 t65 t66 t67 t68 t69 t70 t71 t72 t73 t74 t75 t76 t77 t78 t79 t80 t81 t82 t83 t84 t85 t86 t87 t88 t89 t90 t91 t92 t93 t94 t95 t96 t97 t98 t99 t100 t101 t102 t103 t104 t105 t106 t107 t108 t109 t110 t111 t112 t113 t114 t115 t116 t117 t118 t119 t120 t121 t122 t123 t124 t125 t126 t127 t128 t129 t130 t131 t132 t133 t134 t135 t136 t137 t138 t139 t140 t141 t142 t143 t144 t145 t146 t147 t148 t149 t150 t151 t152 t153 t154 t155 t156 t157 t158 t159 t160 : Value} {ds : List Deferred} : ∀ l a w', ri4I w ga gb gc ua ub uc uab ubc mm t1 t2 t3 t4 t10 t11 t12 t13 t14 t15 t16 t17 t18 t19 t20 t29 t30 t31 t32 t33 t34 t35 t36 t37 t38 t39 t40 t41 t42 t43 t44 t45 t46 t47 t48 t49 t50 t51 t52 t53 t54 t55 t56 t57 t58 t59 t60 t61 t62 t63 t64 t65 t66 t67 t68 t69 t70 t71 t72 t73 t74 t75 t76 t77 t78 t79 t80 t81 t82 t83 t84 t85 t86 t87 t88 t89 t90 t91 t92 t93 t94 t95 t96 t97 t98 t99 t100 t101 t102 t103 t104 t105 t106 t107 t108 t109 t110 t111 t112 t113 t114 t115 t116 t117 t118 t119 t120 t121 t122 t123 t124 t125 t126 t127 t128 t129 t130 t131 t132 t133 t134 t135 t136 t137 t138 t139 t140 t141 t142 t143 t144 t145 t146 t147 t148 t149 t150 t151 t152 t153 t154 t155 t156 t157 t158 t159 t160 ds l a w' → Region.ready .any ri4O l = [] →
    ∃ (y0 y1 y2 y3 y4 y5 y6 y7 : Value) (g8 g9 : Nat), a = { tmps := #[.int .i64 mm, t1, t2, t3, t4, .pointer (some ⟨ga, 0, none⟩), .pointer (some ⟨gb, 0, none⟩), .pointer (some ⟨gc, 0, none⟩), .pointer (some ⟨g8, 0, none⟩), .pointer (some ⟨g9, 0, none⟩), t10, t11, t12, t13, t14, t15, t16, t17, t18, t19, t20, y0, y1, y2, y3, y4, y5, y6, y7, t29, t30, t31, t32, t33, t34, t35, t36, t37, t38, t39, t40, t41, t42, t43, t44, t45, t46, t47, t48, t49, t50, t51, t52, t53, t54, t55, t56, t57, t58, t59, t60, t61, t62, t63, t64, t65, t66, t67, t68, t69, t70, t71, t72, t73, t74, t75, t76, t77, t78, t79, t80, t81, t82, t83, t84, t85, t86, t87, t88, t89, t90, t91, t92, t93, t94, t95, t96, t97, t98, t99, t100, t101, t102, t103, t104, t105, t106, t107, t108, t109, t110, t111, t112, t113, t114, t115, t116, t117, t118, t119, t120, t121, t122, t123, t124, t125, t126, t127, t128, t129, t130, t131, t132, t133, t134, t135, t136, t137, t138, t139, t140, t141, t142, t143, t144, t145, t146, t147, t148, t149, t150, t151, t152, t153, t154, t155, t156, t157, t158, t159, t160], defers := ds } ∧ Below w.heap.size w w' ∧ w.heap.size ≤ g8 ∧ w.heap.size ≤ g9 ∧ Bk 24 w' g8 #[.int .u64 (lb uab 0 : Nat), .int .u64 (lb uab 1 : Nat), .int .u64 (lb uab 2 : Nat), .int .u64 (lb uab 3 : Nat)] ∧ Bk 24 w' g9 #[.int .u64 (lb ubc 0 : Nat), .int .u64 (lb ubc 1 : Nat), .int .u64 (lb ubc 2 : Nat), .int .u64 (lb ubc 3 : Nat)] ∧ g8 ≠ g9 := by
  simp only [ri4O, findR, Try.f7, Option.bind_some, Option.or, Option.getD, Nat.reduceEqDiff, if_true, if_false, reduceIte]
  rintro l a w' ⟨j0, j1, j2, j3, j4, j5, j6, j7, j8, j9, j10, j11, x0, x1, x2, x3, x4, x5, x6, x7, x8, x9, g8, g9, rfl, rfl, hB, h0, h1, h2, h3, h4, h5, h6, h7, a8, s8, a9, s9, n8_9⟩ hr
  have hn := fun i => List.eq_nil_iff_forall_not_mem.1 hr i
  clear hr
  have d0 : j0 = true := by
    cases hj : j0
    · exact absurd (mem_ready.2 ⟨by simp [hj], _, rfl, by simp [Region.binds, hj]⟩) (hn 0)
    · rfl
  subst d0
  obtain rfl := h0 rfl
  have d1 : j1 = true := by
    cases hj : j1
    · exact absurd (mem_ready.2 ⟨by simp [hj], _, rfl, by simp [Region.binds, hj]⟩) (hn 1)
    · rfl
  subst d1
  obtain rfl := h1 rfl
  have d2 : j2 = true := by
    cases hj : j2
    · exact absurd (mem_ready.2 ⟨by simp [hj], _, rfl, by simp [Region.binds, hj]⟩) (hn 2)
    · rfl
  subst d2
  obtain rfl := h2 rfl
  have d3 : j3 = true := by
    cases hj : j3
    · exact absurd (mem_ready.2 ⟨by simp [hj], _, rfl, by simp [Region.binds, hj]⟩) (hn 3)
    · rfl
  subst d3
  obtain rfl := h3 rfl
  have d4 : j4 = true := by
    cases hj : j4
    · exact absurd (mem_ready.2 ⟨by simp [hj], _, rfl, by simp [Region.binds, hj]⟩) (hn 4)
    · rfl
  subst d4
  obtain rfl := h4 rfl
  have d5 : j5 = true := by
    cases hj : j5
    · exact absurd (mem_ready.2 ⟨by simp [hj], _, rfl, by simp [Region.binds, hj]⟩) (hn 5)
    · rfl
  subst d5
  obtain rfl := h5 rfl
  have d6 : j6 = true := by
    cases hj : j6
    · exact absurd (mem_ready.2 ⟨by simp [hj], _, rfl, by simp [Region.binds, hj]⟩) (hn 6)
    · rfl
  subst d6
  obtain rfl := h6 rfl
  have d7 : j7 = true := by
    cases hj : j7
    · exact absurd (mem_ready.2 ⟨by simp [hj], _, rfl, by simp [Region.binds, hj]⟩) (hn 7)
    · rfl
  subst d7
  obtain rfl := h7 rfl
  have d8 : j8 = true := by
    cases hj : j8
    · exact absurd (mem_ready.2 ⟨by simp [hj], _, rfl, by simp [Region.binds, hj]⟩) (hn 8)
    · rfl
  subst d8
  have d9 : j9 = true := by
    cases hj : j9
    · exact absurd (mem_ready.2 ⟨by simp [hj], _, rfl, by simp [Region.binds, hj]⟩) (hn 9)
    · rfl
  subst d9
  have d10 : j10 = true := by
    cases hj : j10
    · exact absurd (mem_ready.2 ⟨by simp [hj], _, rfl, by simp [Region.binds, hj]⟩) (hn 10)
    · rfl
  subst d10
  have d11 : j11 = true := by
    cases hj : j11
    · exact absurd (mem_ready.2 ⟨by simp [hj], _, rfl, by simp [Region.binds, hj]⟩) (hn 11)
    · rfl
  subst d11
  obtain ⟨rfl, l8, z0, z1, z2, z3, b8, r8⟩ := a8 rfl
  rw [r8 rfl] at b8
  obtain ⟨rfl, l9, z0, z1, z2, z3, b9, r9⟩ := a9 rfl
  rw [r9 rfl] at b9
  exact ⟨_, _, _, _, _, _, _, _, g8, g9, rfl, hB, l8, l9, b8, b9, n8_9 rfl rfl⟩

theorem ri4 (ga gb gc ua ub uc uab ubc : Nat) (mm : Int) (w : World) (KA : Bk 24 w ga #[.int .u64 (lb ua 0 : Nat), .int .u64 (lb ua 1 : Nat), .int .u64 (lb ua 2 : Nat), .int .u64 (lb ua 3 : Nat)]) (KB : Bk 24 w gb #[.int .u64 (lb ub 0 : Nat), .int .u64 (lb ub 1 : Nat), .int .u64 (lb ub 2 : Nat), .int .u64 (lb ub 3 : Nat)]) (KC : Bk 24 w gc #[.int .u64 (lb uc 0 : Nat), .int .u64 (lb uc 1 : Nat), .int .u64 (lb uc 2 : Nat), .int .u64 (lb uc 3 : Nat)]) (H1 : Hid (∀ w, Calls Try.prog 23 #[.int .i64 mm, .agg #[.int .u64 (lb ua 0 : Nat), .int .u64 (lb ua 1 : Nat), .int .u64 (lb ua 2 : Nat), .int .u64 (lb ua 3 : Nat)], .agg #[.int .u64 (lb ub 0 : Nat), .int .u64 (lb ub 1 : Nat), .int .u64 (lb ub 2 : Nat), .int .u64 (lb ub 3 : Nat)]] w fun e w' => e = .returned (.agg #[.int .u64 (lb uab 0 : Nat), .int .u64 (lb uab 1 : Nat), .int .u64 (lb uab 2 : Nat), .int .u64 (lb uab 3 : Nat)]) ∧ Below w.heap.size w w')) (H2 : Hid (∀ w, Calls Try.prog 19 #[.int .i64 mm, .agg #[.int .u64 (lb ub 0 : Nat), .int .u64 (lb ub 1 : Nat), .int .u64 (lb ub 2 : Nat), .int .u64 (lb ub 3 : Nat)], .agg #[.int .u64 (lb uc 0 : Nat), .int .u64 (lb uc 1 : Nat), .int .u64 (lb uc 2 : Nat), .int .u64 (lb uc 3 : Nat)]] w fun e w' => e = .returned (.agg #[.int .u64 (lb ubc 0 : Nat), .int .u64 (lb ubc 1 : Nat), .int .u64 (lb ubc 2 : Nat), .int .u64 (lb ubc 3 : Nat)]) ∧ Below w.heap.size w w'))
    {t1 t2 t3 t4 t8 t9 t10 t11 t12 t13 t14 t15 t16 t17 t18 t19 t20 t21 t22 t23 t24 t25 t26 t27 t28 t29 t30 t31 t32 t33 t34 t35 t36 t37 t38 t39 t40 t41 t42 t43 t44 t45 t46 t47 t48 t49 t50 t51 t52 t53 t54 t55 t56 t57 t58 t59 t60 t61 t62 t63 t64 t65 t66 t67 t68 t69 t70 t71 t72 t73 t74 t75 t76 t77 t78 t79 t80 t81 t82 t83 t84 t85 t86 t87 t88 t89 t90 t91 t92 t93 t94 t95 t96 t97 t98 t99 t100 t101 t102 t103 t104 t105 t106 t107 t108 t109 t110 t111 t112 t113 t114 t115 t116 t117 t118 t119 t120 t121 t122 t123 t124 t125 t126 t127 t128 t129 t130 t131 t132 t133 t134 t135 t136 t137 t138 t139 t140 t141 t142 t143 t144 t145 t146 t147 t148 t149 t150 t151 t152 t153 t154 t155 t156 t157 t158 t159 t160 : Value} {ds : List Deferred} {K : Act → World → Prop} {Q : Exit → Act → World → Prop}
    (h : ∀ (y0 y1 y2 y3 y4 y5 y6 y7 : Value) (g8 g9 : Nat) (w' : World) (hb : Below w.heap.size w w') (hg8 : w.heap.size ≤ g8) (hg9 : w.heap.size ≤ g9) (hk8 : Bk 24 w' g8 #[.int .u64 (lb uab 0 : Nat), .int .u64 (lb uab 1 : Nat), .int .u64 (lb uab 2 : Nat), .int .u64 (lb uab 3 : Nat)]) (hk9 : Bk 24 w' g9 #[.int .u64 (lb ubc 0 : Nat), .int .u64 (lb ubc 1 : Nat), .int .u64 (lb ubc 2 : Nat), .int .u64 (lb ubc 3 : Nat)]) (hn8_9 : g8 ≠ g9), K { tmps := #[.int .i64 mm, t1, t2, t3, t4, .pointer (some ⟨ga, 0, none⟩), .pointer (some ⟨gb, 0, none⟩), .pointer (some ⟨gc, 0, none⟩), .pointer (some ⟨g8, 0, none⟩), .pointer (some ⟨g9, 0, none⟩), t10, t11, t12, t13, t14, t15, t16, t17, t18, t19, t20, y0, y1, y2, y3, y4, y5, y6, y7, t29, t30, t31, t32, t33, t34, t35, t36, t37, t38, t39, t40, t41, t42, t43, t44, t45, t46, t47, t48, t49, t50, t51, t52, t53, t54, t55, t56, t57, t58, t59, t60, t61, t62, t63, t64, t65, t66, t67, t68, t69, t70, t71, t72, t73, t74, t75, t76, t77, t78, t79, t80, t81, t82, t83, t84, t85, t86, t87, t88, t89, t90, t91, t92, t93, t94, t95, t96, t97, t98, t99, t100, t101, t102, t103, t104, t105, t106, t107, t108, t109, t110, t111, t112, t113, t114, t115, t116, t117, t118, t119, t120, t121, t122, t123, t124, t125, t126, t127, t128, t129, t130, t131, t132, t133, t134, t135, t136, t137, t138, t139, t140, t141, t142, t143, t144, t145, t146, t147, t148, t149, t150, t151, t152, t153, t154, t155, t156, t157, t158, t159, t160], defers := ds } w') :
    (Code.region 4 ri4O true).wp Try.prog (Exit.then K Q) { tmps := #[.int .i64 mm, t1, t2, t3, t4, .pointer (some ⟨ga, 0, none⟩), .pointer (some ⟨gb, 0, none⟩), .pointer (some ⟨gc, 0, none⟩), t8, t9, t10, t11, t12, t13, t14, t15, t16, t17, t18, t19, t20, t21, t22, t23, t24, t25, t26, t27, t28, t29, t30, t31, t32, t33, t34, t35, t36, t37, t38, t39, t40, t41, t42, t43, t44, t45, t46, t47, t48, t49, t50, t51, t52, t53, t54, t55, t56, t57, t58, t59, t60, t61, t62, t63, t64, t65, t66, t67, t68, t69, t70, t71, t72, t73, t74, t75, t76, t77, t78, t79, t80, t81, t82, t83, t84, t85, t86, t87, t88, t89, t90, t91, t92, t93, t94, t95, t96, t97, t98, t99, t100, t101, t102, t103, t104, t105, t106, t107, t108, t109, t110, t111, t112, t113, t114, t115, t116, t117, t118, t119, t120, t121, t122, t123, t124, t125, t126, t127, t128, t129, t130, t131, t132, t133, t134, t135, t136, t137, t138, t139, t140, t141, t142, t143, t144, t145, t146, t147, t148, t149, t150, t151, t152, t153, t154, t155, t156, t157, t158, t159, t160], defers := ds } w := by
  have hsz : ri4O.size = 12 := by kernel_rfl
  refine wp_region_any mixed ?_
  rw [hsz]
  refine wpAny_inv (I := ri4I w ga gb gc ua ub uc uab ubc mm t1 t2 t3 t4 t10 t11 t12 t13 t14 t15 t16 t17 t18 t19 t20 t29 t30 t31 t32 t33 t34 t35 t36 t37 t38 t39 t40 t41 t42 t43 t44 t45 t46 t47 t48 t49 t50 t51 t52 t53 t54 t55 t56 t57 t58 t59 t60 t61 t62 t63 t64 t65 t66 t67 t68 t69 t70 t71 t72 t73 t74 t75 t76 t77 t78 t79 t80 t81 t82 t83 t84 t85 t86 t87 t88 t89 t90 t91 t92 t93 t94 t95 t96 t97 t98 t99 t100 t101 t102 t103 t104 t105 t106 t107 t108 t109 t110 t111 t112 t113 t114 t115 t116 t117 t118 t119 t120 t121 t122 t123 t124 t125 t126 t127 t128 t129 t130 t131 t132 t133 t134 t135 t136 t137 t138 t139 t140 t141 t142 t143 t144 t145 t146 t147 t148 t149 t150 t151 t152 t153 t154 t155 t156 t157 t158 t159 t160 ds) (ri4_steps ga gb gc ua ub uc uab ubc mm w KA KB KC H1 H2) (fun l a w' hI hr => ?_) 12 _ _ _ (by decide) ?_
  · obtain ⟨y0, y1, y2, y3, y4, y5, y6, y7, g8, g9, rfl, hb, l8, l9, b8, b9, n8_9⟩ := ri4_fin ga gb gc ua ub uc uab ubc mm w l a w' hI hr
    exact h _ _ _ _ _ _ _ _ g8 g9 w' hb l8 l9 b8 b9 n8_9
  · exact ⟨false, false, false, false, false, false, false, false, false, false, false, false, t21, t22, t23, t24, t25, t26, t27, t28, t8, t9, 0, 0, rfl, rfl, ⟨rfl, rfl, rfl, Nat.le_refl _, fun _ _ => rfl⟩, (fun h => by cases h), (fun h => by cases h), (fun h => by cases h), (fun h => by cases h), (fun h => by cases h), (fun h => by cases h), (fun h => by cases h), (fun h => by cases h), (fun h => by cases h), (fun h => by cases h), (fun h => by cases h), (fun h => by cases h), (fun h => by cases h)⟩
end Go.Proofs.Ytglmmodkflkkkaa
