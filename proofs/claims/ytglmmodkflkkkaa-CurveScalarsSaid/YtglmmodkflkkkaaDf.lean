/- The regions of the law of multiples that draw their order. No condition but what they read. -/
import Derived.Test.YtglmmodkflkkkaaIv
import Derived.Test.YtglmmodkflkkkaaCc
set_option linter.unusedVariables false
set_option linter.unusedSimpArgs false
set_option maxRecDepth 100000
namespace Go.Proofs.Ytglmmodkflkkkaa
open Go.RowKit Go.Sort Limbs


/-- what holds whichever operations of the region have come up -/
def sc7I (w0 : World) (gP gA gB px py ua ub us rx ry : Nat) (pi ri : Bool) (t0 t1 t2 t6 t7 t8 t9 t10 t13 t14 t15 t16 t17 t18 t19 t20 t21 t22 t23 t24 t25 t26 t27 t28 t29 t30 t31 t32 t33 t34 t43 t44 t45 t46 t47 t48 t49 t50 t51 t52 t53 t54 t55 t56 t57 t58 t59 t60 t61 t62 t63 t64 t65 t66 t67 t68 t69 t70 t71 t72 t73 t74 t75 t76 t77 t78 t79 t80 t81 t82 t83 t84 t85 t86 t87 t88 t89 t90 t91 t92 t93 t94 t95 t96 t97 t98 t99 t100 t101 t102 t103 t104 t105 t106 t107 : Value) (ds : List Deferred) (l : Array Bool) (a : Act) (w : World) : Prop :=
  ∃ j0 j1 j2 j3 j4 j5 j6 j7 j8 j9 j10 : Bool, ∃ x0 x1 x2 x3 x4 x5 x6 x7 x8 x10 : Value, ∃ g8 : Nat, l = #[j0, j1, j2, j3, j4, j5, j6, j7, j8, j9, j10] ∧ a = { tmps := #[t0, t1, t2, .pointer (some ⟨gP, 0, none⟩), .pointer (some ⟨gA, 0, none⟩), .pointer (some ⟨gB, 0, none⟩), t6, t7, t8, t9, t10, x8, x10, t13, t14, t15, t16, t17, t18, t19, t20, t21, t22, t23, t24, t25, t26, t27, t28, t29, t30, t31, t32, t33, t34, x5, x0, x1, x2, x3, x4, x6, x7, t43, t44, t45, t46, t47, t48, t49, t50, t51, t52, t53, t54, t55, t56, t57, t58, t59, t60, t61, t62, t63, t64, t65, t66, t67, t68, t69, t70, t71, t72, t73, t74, t75, t76, t77, t78, t79, t80, t81, t82, t83, t84, t85, t86, t87, t88, t89, t90, t91, t92, t93, t94, t95, t96, t97, t98, t99, t100, t101, t102, t103, t104, t105, t106, t107], defers := ds } ∧ Below w0.heap.size w0 w ∧
  (j0 = true → x0 = .agg #[.int .u64 (lb ua 0 : Nat), .int .u64 (lb ua 1 : Nat), .int .u64 (lb ua 2 : Nat), .int .u64 (lb ua 3 : Nat)]) ∧
  (j1 = true → x1 = .agg #[.int .u64 (lb ub 0 : Nat), .int .u64 (lb ub 1 : Nat), .int .u64 (lb ub 2 : Nat), .int .u64 (lb ub 3 : Nat)]) ∧
  (j2 = true → x2 = .agg #[.int .u64 (lb us 0 : Nat), .int .u64 (lb us 1 : Nat), .int .u64 (lb us 2 : Nat), .int .u64 (lb us 3 : Nat)]) ∧
  (j3 = true → x3 = .agg #[.int .u64 (lb px 0 : Nat), .int .u64 (lb px 1 : Nat), .int .u64 (lb px 2 : Nat), .int .u64 (lb px 3 : Nat), .int .u64 (lb py 0 : Nat), .int .u64 (lb py 1 : Nat), .int .u64 (lb py 2 : Nat), .int .u64 (lb py 3 : Nat), .bool pi]) ∧
  (j4 = true → x4 = .tuple #[.agg #[.int .u64 (lb rx 0 : Nat), .int .u64 (lb rx 1 : Nat), .int .u64 (lb rx 2 : Nat), .int .u64 (lb rx 3 : Nat), .int .u64 (lb ry 0 : Nat), .int .u64 (lb ry 1 : Nat), .int .u64 (lb ry 2 : Nat), .int .u64 (lb ry 3 : Nat), .bool ri], .int .i64 0]) ∧
  (j5 = true → x5 = .tuple #[.agg #[.int .u64 (lb rx 0 : Nat), .int .u64 (lb rx 1 : Nat), .int .u64 (lb rx 2 : Nat), .int .u64 (lb rx 3 : Nat), .int .u64 (lb ry 0 : Nat), .int .u64 (lb ry 1 : Nat), .int .u64 (lb ry 2 : Nat), .int .u64 (lb ry 3 : Nat), .bool ri], .int .i64 0]) ∧
  (j6 = true → x6 = .agg #[.int .u64 (lb rx 0 : Nat), .int .u64 (lb rx 1 : Nat), .int .u64 (lb rx 2 : Nat), .int .u64 (lb rx 3 : Nat), .int .u64 (lb ry 0 : Nat), .int .u64 (lb ry 1 : Nat), .int .u64 (lb ry 2 : Nat), .int .u64 (lb ry 3 : Nat), .bool ri]) ∧
  (j7 = true → x7 = .int .i64 0) ∧
  (j10 = true → x10 = .int .i64 0) ∧
  (j8 = true → x8 = .pointer (some ⟨g8, 0, none⟩) ∧ w0.heap.size ≤ g8 ∧ ∃ z0 z1 z2 z3 z4 z5 z6 z7 z8 : Value, Bk 51 w g8 #[z0, z1, z2, z3, z4, z5, z6, z7, z8] ∧ (j9 = true → #[z0, z1, z2, z3, z4, z5, z6, z7, z8] = #[.int .u64 (lb rx 0 : Nat), .int .u64 (lb rx 1 : Nat), .int .u64 (lb rx 2 : Nat), .int .u64 (lb rx 3 : Nat), .int .u64 (lb ry 0 : Nat), .int .u64 (lb ry 1 : Nat), .int .u64 (lb ry 2 : Nat), .int .u64 (lb ry 3 : Nat), .bool ri])) ∧
  (j9 = true → j8 = true)

noncomputable def sc7O : Array Oper := (Try.f12.body.bind fun c => findR c 7).getD #[]
set_option maxHeartbeats 16000000 in
theorem sc7_steps (gP gA gB px py ua ub us rx ry : Nat) (pi ri : Bool) (w : World) (KP : Bk 51 w gP #[.int .u64 (lb px 0 : Nat), .int .u64 (lb px 1 : Nat), .int .u64 (lb px 2 : Nat), .int .u64 (lb px 3 : Nat), .int .u64 (lb py 0 : Nat), .int .u64 (lb py 1 : Nat), .int .u64 (lb py 2 : Nat), .int .u64 (lb py 3 : Nat), .bool pi]) (KA : Bk 24 w gA #[.int .u64 (lb ua 0 : Nat), .int .u64 (lb ua 1 : Nat), .int .u64 (lb ua 2 : Nat), .int .u64 (lb ua 3 : Nat)]) (KB : Bk 24 w gB #[.int .u64 (lb ub 0 : Nat), .int .u64 (lb ub 1 : Nat), .int .u64 (lb ub 2 : Nat), .int .u64 (lb ub 3 : Nat)]) (H1 : Hid (∀ w, Calls Try.prog 19 #[.int .i64 1, .agg #[.int .u64 (lb ua 0 : Nat), .int .u64 (lb ua 1 : Nat), .int .u64 (lb ua 2 : Nat), .int .u64 (lb ua 3 : Nat)], .agg #[.int .u64 (lb ub 0 : Nat), .int .u64 (lb ub 1 : Nat), .int .u64 (lb ub 2 : Nat), .int .u64 (lb ub 3 : Nat)]] w fun e w' => e = .returned (.agg #[.int .u64 (lb us 0 : Nat), .int .u64 (lb us 1 : Nat), .int .u64 (lb us 2 : Nat), .int .u64 (lb us 3 : Nat)]) ∧ Below w.heap.size w w')) (H2 : Hid (∀ w, Calls Try.prog 50 #[.agg #[.int .u64 (lb us 0 : Nat), .int .u64 (lb us 1 : Nat), .int .u64 (lb us 2 : Nat), .int .u64 (lb us 3 : Nat)], .agg #[.int .u64 (lb px 0 : Nat), .int .u64 (lb px 1 : Nat), .int .u64 (lb px 2 : Nat), .int .u64 (lb px 3 : Nat), .int .u64 (lb py 0 : Nat), .int .u64 (lb py 1 : Nat), .int .u64 (lb py 2 : Nat), .int .u64 (lb py 3 : Nat), .bool pi]] w fun e w' => e = .returned (.tuple #[.agg #[.int .u64 (lb rx 0 : Nat), .int .u64 (lb rx 1 : Nat), .int .u64 (lb rx 2 : Nat), .int .u64 (lb rx 3 : Nat), .int .u64 (lb ry 0 : Nat), .int .u64 (lb ry 1 : Nat), .int .u64 (lb ry 2 : Nat), .int .u64 (lb ry 3 : Nat), .bool ri], .int .i64 0]) ∧ Below w.heap.size w w'))
    {t0 t1 t2 t6 t7 t8 t9 t10 t13 t14 t15 t16 t17 t18 t19 t20 t21 t22 t23 t24 t25 t26 t27 t28 t29 t30 t31 t32 t33 t34 t43 t44 t45 t46 t47 t48 t49 t50 t51 t52 t53 t54 t55 t56 t57 t58 t59 t60 t61 t62 t63 t64 t65 t66 t67 t68 t69 t70 t71 t72 t73 t74 t75 t76 t77 t78 t79 t80 t81 t82 t83 t84 t85 t86 t87 t88 t89 t90 t91 t92 t93 t94 t95 t96 t97 t98 t99 t100 t101 t102 t103 t104 t105 t106 t107 : Value} {ds : List Deferred} {Q : Exit → Act → World → Prop} :
    ∀ l a w', sc7I w gP gA gB px py ua ub us rx ry pi ri t0 t1 t2 t6 t7 t8 t9 t10 t13 t14 t15 t16 t17 t18 t19 t20 t21 t22 t23 t24 t25 t26 t27 t28 t29 t30 t31 t32 t33 t34 t43 t44 t45 t46 t47 t48 t49 t50 t51 t52 t53 t54 t55 t56 t57 t58 t59 t60 t61 t62 t63 t64 t65 t66 t67 t68 t69 t70 t71 t72 t73 t74 t75 t76 t77 t78 t79 t80 t81 t82 t83 t84 t85 t86 t87 t88 t89 t90 t91 t92 t93 t94 t95 t96 t97 t98 t99 t100 t101 t102 t103 t104 t105 t106 t107 ds l a w' → ∀ i ∈ Region.ready .any sc7O l, wpOp Try.prog sc7O Q i (fun a' w'' => sc7I w gP gA gB px py ua ub us rx ry pi ri t0 t1 t2 t6 t7 t8 t9 t10 t13 t14 t15 t16 t17 t18 t19 t20 t21 t22 t23 t24 t25 t26 t27 t28 t29 t30 t31 t32 t33 t34 t43 t44 t45 t46 t47 t48 t49 t50 t51 t52 t53 t54 t55 t56 t57 t58 t59 t60 t61 t62 t63 t64 t65 t66 t67 t68 t69 t70 t71 t72 t73 t74 t75 t76 t77 t78 t79 t80 t81 t82 t83 t84 t85 t86 t87 t88 t89 t90 t91 t92 t93 t94 t95 t96 t97 t98 t99 t100 t101 t102 t103 t104 t105 t106 t107 ds (l.setIfInBounds i true) a' w'') a w' := by
  simp only [sc7O, findR, Try.f12, Option.bind_some, Option.or, Option.getD, Nat.reduceEqDiff, if_true, if_false, reduceIte]
  rintro l a w' ⟨j0, j1, j2, j3, j4, j5, j6, j7, j8, j9, j10, x0, x1, x2, x3, x4, x5, x6, x7, x8, x10, g8, rfl, rfl, hB, h0, h1, h2, h3, h4, h5, h6, h7, h10, a8, s8⟩ i hi
  rw [mem_ready] at hi
  obtain ⟨hu, oo, ho, hd⟩ := hi
  have hin : i < 11 := by
    have := (Array.getElem?_eq_some_iff.1 ho).1
    simpa using this
  replace h0 := Lib.hid h0
  replace h1 := Lib.hid h1
  replace h2 := Lib.hid h2
  replace h3 := Lib.hid h3
  replace h4 := Lib.hid h4
  replace h5 := Lib.hid h5
  replace h6 := Lib.hid h6
  replace h7 := Lib.hid h7
  replace h10 := Lib.hid h10
  have hcase : i = 0 ∨ i = 1 ∨ i = 2 ∨ i = 3 ∨ i = 4 ∨ i = 5 ∨ i = 6 ∨ i = 7 ∨ i = 8 ∨ i = 9 ∨ i = 10 := by omega
  rcases hcase with rfl | rfl | rfl | rfl | rfl | rfl | rfl | rfl | rfl | rfl | rfl
  · obtain rfl := Option.some.inj ho
    simp [Region.binds] at hu hd
    clear hd
    refine wpOp_of rfl rfl ?_
    have i0 : w'.cell? ⟨gA, 0, none⟩ = some (.int .u64 (lb ua 0 : Nat)) := (KA.below hB).cell 0
    have i1 : w'.cell? ⟨gA, 1, none⟩ = some (.int .u64 (lb ua 1 : Nat)) := (KA.below hB).cell 1
    have i2 : w'.cell? ⟨gA, 2, none⟩ = some (.int .u64 (lb ua 2 : Nat)) := (KA.below hB).cell 2
    have i3 : w'.cell? ⟨gA, 3, none⟩ = some (.int .u64 (lb ua 3 : Nat)) := (KA.below hB).cell 3
    go_simp
    unfold sc7I
    exact ⟨true, j1, j2, j3, j4, j5, j6, j7, j8, j9, j10, _, x1, x2, x3, x4, x5, x6, x7, x8, x10, g8, rfl, rfl, hB, fun _ => rfl, h1.out, h2.out, h3.out, h4.out, h5.out, h6.out, h7.out, h10.out, a8, s8⟩
  · obtain rfl := Option.some.inj ho
    simp [Region.binds] at hu hd
    clear hd
    refine wpOp_of rfl rfl ?_
    have i0 : w'.cell? ⟨gB, 0, none⟩ = some (.int .u64 (lb ub 0 : Nat)) := (KB.below hB).cell 0
    have i1 : w'.cell? ⟨gB, 1, none⟩ = some (.int .u64 (lb ub 1 : Nat)) := (KB.below hB).cell 1
    have i2 : w'.cell? ⟨gB, 2, none⟩ = some (.int .u64 (lb ub 2 : Nat)) := (KB.below hB).cell 2
    have i3 : w'.cell? ⟨gB, 3, none⟩ = some (.int .u64 (lb ub 3 : Nat)) := (KB.below hB).cell 3
    go_simp
    unfold sc7I
    exact ⟨j0, true, j2, j3, j4, j5, j6, j7, j8, j9, j10, x0, _, x2, x3, x4, x5, x6, x7, x8, x10, g8, rfl, rfl, hB, h0.out, fun _ => rfl, h2.out, h3.out, h4.out, h5.out, h6.out, h7.out, h10.out, a8, s8⟩
  · obtain rfl := Option.some.inj ho
    simp [Region.binds] at hu hd
    have d0 : j0 = true := by simp [hd]
    have e0 := h0.out d0
    subst e0
    have d1 : j1 = true := by simp [hd]
    have e1 := h1.out d1
    subst e1
    subst d0
    subst d1
    clear hd
    refine wpOp_of rfl rfl ?_
    go_simp
    go_at_call 19
    refine (keep w.heap.size w (H1.out _) hB (Nat.le_refl _)).mono ?_
    rintro e w2 ⟨rfl, hB2, hb2⟩
    unfold sc7I
    exact ⟨true, true, true, j3, j4, j5, j6, j7, j8, j9, j10, _, _, _, x3, x4, x5, x6, x7, x8, x10, g8, rfl, rfl, hB2, h0.out, h1.out, fun _ => rfl, h3.out, h4.out, h5.out, h6.out, h7.out, h10.out, (fun hj => by obtain ⟨q1, q2, z0, z1, z2, z3, z4, z5, z6, z7, z8, q3, q4⟩ := a8 hj; exact ⟨q1, q2, z0, z1, z2, z3, z4, z5, z6, z7, z8, q3.below hb2, q4⟩), s8⟩
  · obtain rfl := Option.some.inj ho
    simp [Region.binds] at hu hd
    clear hd
    refine wpOp_of rfl rfl ?_
    have i0 : w'.cell? ⟨gP, 0, none⟩ = some (.int .u64 (lb px 0 : Nat)) := (KP.below hB).cell 0
    have i1 : w'.cell? ⟨gP, 1, none⟩ = some (.int .u64 (lb px 1 : Nat)) := (KP.below hB).cell 1
    have i2 : w'.cell? ⟨gP, 2, none⟩ = some (.int .u64 (lb px 2 : Nat)) := (KP.below hB).cell 2
    have i3 : w'.cell? ⟨gP, 3, none⟩ = some (.int .u64 (lb px 3 : Nat)) := (KP.below hB).cell 3
    have i4 : w'.cell? ⟨gP, 4, none⟩ = some (.int .u64 (lb py 0 : Nat)) := (KP.below hB).cell 4
    have i5 : w'.cell? ⟨gP, 5, none⟩ = some (.int .u64 (lb py 1 : Nat)) := (KP.below hB).cell 5
    have i6 : w'.cell? ⟨gP, 6, none⟩ = some (.int .u64 (lb py 2 : Nat)) := (KP.below hB).cell 6
    have i7 : w'.cell? ⟨gP, 7, none⟩ = some (.int .u64 (lb py 3 : Nat)) := (KP.below hB).cell 7
    have i8 : w'.cell? ⟨gP, 8, none⟩ = some (.bool pi) := (KP.below hB).cell 8
    go_simp
    unfold sc7I
    exact ⟨j0, j1, j2, true, j4, j5, j6, j7, j8, j9, j10, x0, x1, x2, _, x4, x5, x6, x7, x8, x10, g8, rfl, rfl, hB, h0.out, h1.out, h2.out, fun _ => rfl, h4.out, h5.out, h6.out, h7.out, h10.out, a8, s8⟩
  · obtain rfl := Option.some.inj ho
    simp [Region.binds] at hu hd
    have d2 : j2 = true := by simp [hd]
    have e2 := h2.out d2
    subst e2
    have d3 : j3 = true := by simp [hd]
    have e3 := h3.out d3
    subst e3
    subst d2
    subst d3
    clear hd
    refine wpOp_of rfl rfl ?_
    go_simp
    go_at_call 50
    refine (keep w.heap.size w (H2.out _) hB (Nat.le_refl _)).mono ?_
    rintro e w2 ⟨rfl, hB2, hb2⟩
    unfold sc7I
    exact ⟨j0, j1, true, true, true, j5, j6, j7, j8, j9, j10, x0, x1, _, _, _, x5, x6, x7, x8, x10, g8, rfl, rfl, hB2, h0.out, h1.out, h2.out, h3.out, fun _ => rfl, h5.out, h6.out, h7.out, h10.out, (fun hj => by obtain ⟨q1, q2, z0, z1, z2, z3, z4, z5, z6, z7, z8, q3, q4⟩ := a8 hj; exact ⟨q1, q2, z0, z1, z2, z3, z4, z5, z6, z7, z8, q3.below hb2, q4⟩), s8⟩
  · obtain rfl := Option.some.inj ho
    simp [Region.binds] at hu hd
    have d4 : j4 = true := by simp [hd]
    have e4 := h4.out d4
    subst e4
    subst d4
    clear hd
    refine wpOp_of rfl rfl ?_
    go_simp
    unfold sc7I
    exact ⟨j0, j1, j2, j3, true, true, j6, j7, j8, j9, j10, x0, x1, x2, x3, _, _, x6, x7, x8, x10, g8, rfl, rfl, hB, h0.out, h1.out, h2.out, h3.out, h4.out, fun _ => rfl, h6.out, h7.out, h10.out, a8, s8⟩
  · obtain rfl := Option.some.inj ho
    simp [Region.binds] at hu hd
    have d5 : j5 = true := by simp [hd]
    have e5 := h5.out d5
    subst e5
    subst d5
    clear hd
    refine wpOp_of rfl rfl ?_
    go_simp
    unfold sc7I
    exact ⟨j0, j1, j2, j3, j4, true, true, j7, j8, j9, j10, x0, x1, x2, x3, x4, _, _, x7, x8, x10, g8, rfl, rfl, hB, h0.out, h1.out, h2.out, h3.out, h4.out, h5.out, fun _ => rfl, h7.out, h10.out, a8, s8⟩
  · obtain rfl := Option.some.inj ho
    simp [Region.binds] at hu hd
    have d5 : j5 = true := by simp [hd]
    have e5 := h5.out d5
    subst e5
    subst d5
    clear hd
    refine wpOp_of rfl rfl ?_
    go_simp
    unfold sc7I
    exact ⟨j0, j1, j2, j3, j4, true, j6, true, j8, j9, j10, x0, x1, x2, x3, x4, _, x6, _, x8, x10, g8, rfl, rfl, hB, h0.out, h1.out, h2.out, h3.out, h4.out, h5.out, h6.out, fun _ => rfl, h10.out, a8, s8⟩
  · obtain rfl := Option.some.inj ho
    simp [Region.binds] at hu hd
    clear hd
    refine wpOp_of rfl rfl ?_
    have hs := hB.size
    go_simp
    unfold sc7I
    exact ⟨j0, j1, j2, j3, j4, j5, j6, j7, true, j9, j10, x0, x1, x2, x3, x4, x5, x6, x7, _, x10, w'.heap.size, rfl, rfl, (by go_grown), h0.out, h1.out, h2.out, h3.out, h4.out, h5.out, h6.out, h7.out, h10.out, (fun _ => ⟨rfl, hs, _, _, _, _, _, _, _, _, _, Bk.new rfl, fun hj => absurd (s8 hj) (by simp [hu])⟩), (fun _ => rfl)⟩
  · obtain rfl := Option.some.inj ho
    simp [Region.binds] at hu hd
    have d6 : j6 = true := by simp [hd]
    have e6 := h6.out d6
    subst e6
    have d8 : j8 = true := by simp [hd]
    subst d6
    subst d8
    clear hd
    refine wpOp_of rfl rfl ?_
    obtain ⟨p1, p2, z0, z1, z2, z3, z4, z5, z6, z7, z8, p3, p4⟩ := a8 rfl
    subst p1
    obtain ⟨⟨f0, f1, f2, f3⟩, ⟨f4, f5, f6, f7⟩, f8⟩ := p3.fros9
    obtain ⟨⟨c0, c1, c2, c3⟩, ⟨c4, c5, c6, c7⟩, c8⟩ := p3.cells9
    clear a8
    go_simp
    unfold sc7I
    exact ⟨j0, j1, j2, j3, j4, j5, true, j7, true, true, j10, x0, x1, x2, x3, x4, x5, _, x7, _, x10, g8, rfl, rfl, (by go_grown), h0.out, h1.out, h2.out, h3.out, h4.out, h5.out, h6.out, h7.out, h10.out, (fun _ => ⟨rfl, p2, _, _, _, _, _, _, _, _, _, Bk.put9 p3, fun _ => rfl⟩), (fun _ => rfl)⟩
  · obtain rfl := Option.some.inj ho
    simp [Region.binds] at hu hd
    have d7 : j7 = true := by simp [hd]
    have e7 := h7.out d7
    subst e7
    subst d7
    clear hd
    refine wpOp_of rfl rfl ?_
    go_simp
    unfold sc7I
    exact ⟨j0, j1, j2, j3, j4, j5, j6, true, j8, j9, true, x0, x1, x2, x3, x4, x5, x6, _, x8, _, g8, rfl, rfl, hB, h0.out, h1.out, h2.out, h3.out, h4.out, h5.out, h6.out, h7.out, fun _ => rfl, a8, s8⟩

set_option maxHeartbeats 16000000 in
theorem sc7_fin (gP gA gB px py ua ub us rx ry : Nat) (pi ri : Bool) (w : World)
    {t0 t1 t2 t6 t7 t8 t9 t10 t13 t14 t15 t16 t17 t18 t19 t20 t21 t22 t23 t24 t25 t26 t27 t28 t29 t30 t31 t32 t33 t34 t43 t44 t45 t46 t47 t48 t49 t50 t51 t52 t53 t54 t55 t56 t57 t58 t59 t60 t61 t62 t63 t64 t65 t66 t67 t68 t69 t70 t71 t72 t73 t74 t75 t76 t77 t78 t79 t80 t81 t82 t83 t84 t85 t86 t87 t88 t89 t90 t91 t92 t93 t94 t95 t96 t97 t98 t99 t100 t101 t102 t103 t104 t105 t106 t107 : Value} {ds : List Deferred} : ∀ l a w', sc7I w gP gA gB px py ua ub us rx ry pi ri t0 t1 t2 t6 t7 t8 t9 t10 t13 t14 t15 t16 t17 t18 t19 t20 t21 t22 t23 t24 t25 t26 t27 t28 t29 t30 t31 t32 t33 t34 t43 t44 t45 t46 t47 t48 t49 t50 t51 t52 t53 t54 t55 t56 t57 t58 t59 t60 t61 t62 t63 t64 t65 t66 t67 t68 t69 t70 t71 t72 t73 t74 t75 t76 t77 t78 t79 t80 t81 t82 t83 t84 t85 t86 t87 t88 t89 t90 t91 t92 t93 t94 t95 t96 t97 t98 t99 t100 t101 t102 t103 t104 t105 t106 t107 ds l a w' → Region.ready .any sc7O l = [] →
    ∃ (y0 y1 y2 y3 y4 y5 y6 y7 : Value) (g8 : Nat), a = { tmps := #[t0, t1, t2, .pointer (some ⟨gP, 0, none⟩), .pointer (some ⟨gA, 0, none⟩), .pointer (some ⟨gB, 0, none⟩), t6, t7, t8, t9, t10, .pointer (some ⟨g8, 0, none⟩), .int .i64 0, t13, t14, t15, t16, t17, t18, t19, t20, t21, t22, t23, t24, t25, t26, t27, t28, t29, t30, t31, t32, t33, t34, y5, y0, y1, y2, y3, y4, y6, y7, t43, t44, t45, t46, t47, t48, t49, t50, t51, t52, t53, t54, t55, t56, t57, t58, t59, t60, t61, t62, t63, t64, t65, t66, t67, t68, t69, t70, t71, t72, t73, t74, t75, t76, t77, t78, t79, t80, t81, t82, t83, t84, t85, t86, t87, t88, t89, t90, t91, t92, t93, t94, t95, t96, t97, t98, t99, t100, t101, t102, t103, t104, t105, t106, t107], defers := ds } ∧ Below w.heap.size w w' ∧ w.heap.size ≤ g8 ∧ Bk 51 w' g8 #[.int .u64 (lb rx 0 : Nat), .int .u64 (lb rx 1 : Nat), .int .u64 (lb rx 2 : Nat), .int .u64 (lb rx 3 : Nat), .int .u64 (lb ry 0 : Nat), .int .u64 (lb ry 1 : Nat), .int .u64 (lb ry 2 : Nat), .int .u64 (lb ry 3 : Nat), .bool ri] := by
  simp only [sc7O, findR, Try.f12, Option.bind_some, Option.or, Option.getD, Nat.reduceEqDiff, if_true, if_false, reduceIte]
  rintro l a w' ⟨j0, j1, j2, j3, j4, j5, j6, j7, j8, j9, j10, x0, x1, x2, x3, x4, x5, x6, x7, x8, x10, g8, rfl, rfl, hB, h0, h1, h2, h3, h4, h5, h6, h7, h10, a8, s8⟩ hr
  have hn := fun i => List.eq_nil_iff_forall_not_mem.1 hr i
  clear hr
  have d0 : j0 = true := by
    cases hj : j0
    · exact absurd (mem_ready.2 ⟨by simp [hj], _, rfl, by simp [Region.binds, hj]⟩) (hn 0)
    · rfl
  subst d0
  obtain rfl := h0 rfl
  have d1 : j1 = true := by
    cases hj : j1
    · exact absurd (mem_ready.2 ⟨by simp [hj], _, rfl, by simp [Region.binds, hj]⟩) (hn 1)
    · rfl
  subst d1
  obtain rfl := h1 rfl
  have d2 : j2 = true := by
    cases hj : j2
    · exact absurd (mem_ready.2 ⟨by simp [hj], _, rfl, by simp [Region.binds, hj]⟩) (hn 2)
    · rfl
  subst d2
  obtain rfl := h2 rfl
  have d3 : j3 = true := by
    cases hj : j3
    · exact absurd (mem_ready.2 ⟨by simp [hj], _, rfl, by simp [Region.binds, hj]⟩) (hn 3)
    · rfl
  subst d3
  obtain rfl := h3 rfl
  have d4 : j4 = true := by
    cases hj : j4
    · exact absurd (mem_ready.2 ⟨by simp [hj], _, rfl, by simp [Region.binds, hj]⟩) (hn 4)
    · rfl
  subst d4
  obtain rfl := h4 rfl
  have d5 : j5 = true := by
    cases hj : j5
    · exact absurd (mem_ready.2 ⟨by simp [hj], _, rfl, by simp [Region.binds, hj]⟩) (hn 5)
    · rfl
  subst d5
  obtain rfl := h5 rfl
  have d6 : j6 = true := by
    cases hj : j6
    · exact absurd (mem_ready.2 ⟨by simp [hj], _, rfl, by simp [Region.binds, hj]⟩) (hn 6)
    · rfl
  subst d6
  obtain rfl := h6 rfl
  have d7 : j7 = true := by
    cases hj : j7
    · exact absurd (mem_ready.2 ⟨by simp [hj], _, rfl, by simp [Region.binds, hj]⟩) (hn 7)
    · rfl
  subst d7
  obtain rfl := h7 rfl
  have d8 : j8 = true := by
    cases hj : j8
    · exact absurd (mem_ready.2 ⟨by simp [hj], _, rfl, by simp [Region.binds, hj]⟩) (hn 8)
    · rfl
  subst d8
  have d9 : j9 = true := by
    cases hj : j9
    · exact absurd (mem_ready.2 ⟨by simp [hj], _, rfl, by simp [Region.binds, hj]⟩) (hn 9)
    · rfl
  subst d9
  have d10 : j10 = true := by
    cases hj : j10
    · exact absurd (mem_ready.2 ⟨by simp [hj], _, rfl, by simp [Region.binds, hj]⟩) (hn 10)
    · rfl
  subst d10
  obtain rfl := h10 rfl
  obtain ⟨rfl, l8, z0, z1, z2, z3, z4, z5, z6, z7, z8, b8, r8⟩ := a8 rfl
  rw [r8 rfl] at b8
  exact ⟨_, _, _, _, _, _, _, _, g8, rfl, hB, l8, b8⟩

theorem sc7 (gP gA gB px py ua ub us rx ry : Nat) (pi ri : Bool) (w : World) (KP : Bk 51 w gP #[.int .u64 (lb px 0 : Nat), .int .u64 (lb px 1 : Nat), .int .u64 (lb px 2 : Nat), .int .u64 (lb px 3 : Nat), .int .u64 (lb py 0 : Nat), .int .u64 (lb py 1 : Nat), .int .u64 (lb py 2 : Nat), .int .u64 (lb py 3 : Nat), .bool pi]) (KA : Bk 24 w gA #[.int .u64 (lb ua 0 : Nat), .int .u64 (lb ua 1 : Nat), .int .u64 (lb ua 2 : Nat), .int .u64 (lb ua 3 : Nat)]) (KB : Bk 24 w gB #[.int .u64 (lb ub 0 : Nat), .int .u64 (lb ub 1 : Nat), .int .u64 (lb ub 2 : Nat), .int .u64 (lb ub 3 : Nat)]) (H1 : Hid (∀ w, Calls Try.prog 19 #[.int .i64 1, .agg #[.int .u64 (lb ua 0 : Nat), .int .u64 (lb ua 1 : Nat), .int .u64 (lb ua 2 : Nat), .int .u64 (lb ua 3 : Nat)], .agg #[.int .u64 (lb ub 0 : Nat), .int .u64 (lb ub 1 : Nat), .int .u64 (lb ub 2 : Nat), .int .u64 (lb ub 3 : Nat)]] w fun e w' => e = .returned (.agg #[.int .u64 (lb us 0 : Nat), .int .u64 (lb us 1 : Nat), .int .u64 (lb us 2 : Nat), .int .u64 (lb us 3 : Nat)]) ∧ Below w.heap.size w w')) (H2 : Hid (∀ w, Calls Try.prog 50 #[.agg #[.int .u64 (lb us 0 : Nat), .int .u64 (lb us 1 : Nat), .int .u64 (lb us 2 : Nat), .int .u64 (lb us 3 : Nat)], .agg #[.int .u64 (lb px 0 : Nat), .int .u64 (lb px 1 : Nat), .int .u64 (lb px 2 : Nat), .int .u64 (lb px 3 : Nat), .int .u64 (lb py 0 : Nat), .int .u64 (lb py 1 : Nat), .int .u64 (lb py 2 : Nat), .int .u64 (lb py 3 : Nat), .bool pi]] w fun e w' => e = .returned (.tuple #[.agg #[.int .u64 (lb rx 0 : Nat), .int .u64 (lb rx 1 : Nat), .int .u64 (lb rx 2 : Nat), .int .u64 (lb rx 3 : Nat), .int .u64 (lb ry 0 : Nat), .int .u64 (lb ry 1 : Nat), .int .u64 (lb ry 2 : Nat), .int .u64 (lb ry 3 : Nat), .bool ri], .int .i64 0]) ∧ Below w.heap.size w w'))
    {t0 t1 t2 t6 t7 t8 t9 t10 t11 t12 t13 t14 t15 t16 t17 t18 t19 t20 t21 t22 t23 t24 t25 t26 t27 t28 t29 t30 t31 t32 t33 t34 t35 t36 t37 t38 t39 t40 t41 t42 t43 t44 t45 t46 t47 t48 t49 t50 t51 t52 t53 t54 t55 t56 t57 t58 t59 t60 t61 t62 t63 t64 t65 t66 t67 t68 t69 t70 t71 t72 t73 t74 t75 t76 t77 t78 t79 t80 t81 t82 t83 t84 t85 t86 t87 t88 t89 t90 t91 t92 t93 t94 t95 t96 t97 t98 t99 t100 t101 t102 t103 t104 t105 t106 t107 : Value} {ds : List Deferred} {K : Act → World → Prop} {Q : Exit → Act → World → Prop}
    (h : ∀ (y0 y1 y2 y3 y4 y5 y6 y7 : Value) (g8 : Nat) (w' : World) (hb : Below w.heap.size w w') (hg8 : w.heap.size ≤ g8) (hk8 : Bk 51 w' g8 #[.int .u64 (lb rx 0 : Nat), .int .u64 (lb rx 1 : Nat), .int .u64 (lb rx 2 : Nat), .int .u64 (lb rx 3 : Nat), .int .u64 (lb ry 0 : Nat), .int .u64 (lb ry 1 : Nat), .int .u64 (lb ry 2 : Nat), .int .u64 (lb ry 3 : Nat), .bool ri]), K { tmps := #[t0, t1, t2, .pointer (some ⟨gP, 0, none⟩), .pointer (some ⟨gA, 0, none⟩), .pointer (some ⟨gB, 0, none⟩), t6, t7, t8, t9, t10, .pointer (some ⟨g8, 0, none⟩), .int .i64 0, t13, t14, t15, t16, t17, t18, t19, t20, t21, t22, t23, t24, t25, t26, t27, t28, t29, t30, t31, t32, t33, t34, y5, y0, y1, y2, y3, y4, y6, y7, t43, t44, t45, t46, t47, t48, t49, t50, t51, t52, t53, t54, t55, t56, t57, t58, t59, t60, t61, t62, t63, t64, t65, t66, t67, t68, t69, t70, t71, t72, t73, t74, t75, t76, t77, t78, t79, t80, t81, t82, t83, t84, t85, t86, t87, t88, t89, t90, t91, t92, t93, t94, t95, t96, t97, t98, t99, t100, t101, t102, t103, t104, t105, t106, t107], defers := ds } w') :
    (Code.region 7 sc7O true).wp Try.prog (Exit.then K Q) { tmps := #[t0, t1, t2, .pointer (some ⟨gP, 0, none⟩), .pointer (some ⟨gA, 0, none⟩), .pointer (some ⟨gB, 0, none⟩), t6, t7, t8, t9, t10, t11, t12, t13, t14, t15, t16, t17, t18, t19, t20, t21, t22, t23, t24, t25, t26, t27, t28, t29, t30, t31, t32, t33, t34, t35, t36, t37, t38, t39, t40, t41, t42, t43, t44, t45, t46, t47, t48, t49, t50, t51, t52, t53, t54, t55, t56, t57, t58, t59, t60, t61, t62, t63, t64, t65, t66, t67, t68, t69, t70, t71, t72, t73, t74, t75, t76, t77, t78, t79, t80, t81, t82, t83, t84, t85, t86, t87, t88, t89, t90, t91, t92, t93, t94, t95, t96, t97, t98, t99, t100, t101, t102, t103, t104, t105, t106, t107], defers := ds } w := by
  have hsz : sc7O.size = 11 := by kernel_rfl
  refine wp_region_any mixed ?_
  rw [hsz]
  refine wpAny_inv (I := sc7I w gP gA gB px py ua ub us rx ry pi ri t0 t1 t2 t6 t7 t8 t9 t10 t13 t14 t15 t16 t17 t18 t19 t20 t21 t22 t23 t24 t25 t26 t27 t28 t29 t30 t31 t32 t33 t34 t43 t44 t45 t46 t47 t48 t49 t50 t51 t52 t53 t54 t55 t56 t57 t58 t59 t60 t61 t62 t63 t64 t65 t66 t67 t68 t69 t70 t71 t72 t73 t74 t75 t76 t77 t78 t79 t80 t81 t82 t83 t84 t85 t86 t87 t88 t89 t90 t91 t92 t93 t94 t95 t96 t97 t98 t99 t100 t101 t102 t103 t104 t105 t106 t107 ds) (sc7_steps gP gA gB px py ua ub us rx ry pi ri w KP KA KB H1 H2) (fun l a w' hI hr => ?_) 11 _ _ _ (by decide) ?_
  · obtain ⟨y0, y1, y2, y3, y4, y5, y6, y7, g8, rfl, hb, l8, b8⟩ := sc7_fin gP gA gB px py ua ub us rx ry pi ri w l a w' hI hr
    exact h _ _ _ _ _ _ _ _ g8 w' hb l8 b8
  · exact ⟨false, false, false, false, false, false, false, false, false, false, false, t36, t37, t38, t39, t40, t35, t41, t42, t11, t12, 0, rfl, rfl, ⟨rfl, rfl, rfl, Nat.le_refl _, fun _ _ => rfl⟩, (fun h => by cases h), (fun h => by cases h), (fun h => by cases h), (fun h => by cases h), (fun h => by cases h), (fun h => by cases h), (fun h => by cases h), (fun h => by cases h), (fun h => by cases h), (fun h => by cases h), (fun h => by cases h)⟩

/-- what holds whichever operations of the region have come up -/
def sc12I (w0 : World) (gP gA gB px py ua ub us rx ry : Nat) (pi ri : Bool) (t0 t1 t2 t6 t7 t8 t9 t11 t12 t13 t14 t15 t17 t18 t19 t20 t21 t22 t23 t24 t25 t26 t27 t28 t29 t30 t31 t32 t33 t34 t35 t36 t37 t38 t39 t40 t41 t42 t43 t44 t45 t46 t47 t48 t49 t50 t51 t52 t53 t54 t55 t56 t57 t58 t59 t60 t61 t62 t63 t64 t65 t66 t67 t68 t69 t70 t71 t72 t73 t82 t83 t84 t85 t86 t87 t88 t89 t90 t91 t92 t93 t94 t95 t96 t97 t98 t99 t100 t101 t102 t103 t104 t105 t106 t107 : Value) (ds : List Deferred) (l : Array Bool) (a : Act) (w : World) : Prop :=
  ∃ j0 j1 j2 j3 j4 j5 j6 j7 j8 j9 j10 : Bool, ∃ x0 x1 x2 x3 x4 x5 x6 x7 x8 x10 : Value, ∃ g8 : Nat, l = #[j0, j1, j2, j3, j4, j5, j6, j7, j8, j9, j10] ∧ a = { tmps := #[t0, t1, t2, .pointer (some ⟨gP, 0, none⟩), .pointer (some ⟨gA, 0, none⟩), .pointer (some ⟨gB, 0, none⟩), t6, t7, t8, t9, x10, t11, t12, t13, t14, t15, x8, t17, t18, t19, t20, t21, t22, t23, t24, t25, t26, t27, t28, t29, t30, t31, t32, t33, t34, t35, t36, t37, t38, t39, t40, t41, t42, t43, t44, t45, t46, t47, t48, t49, t50, t51, t52, t53, t54, t55, t56, t57, t58, t59, t60, t61, t62, t63, t64, t65, t66, t67, t68, t69, t70, t71, t72, t73, x5, x0, x1, x2, x3, x4, x6, x7, t82, t83, t84, t85, t86, t87, t88, t89, t90, t91, t92, t93, t94, t95, t96, t97, t98, t99, t100, t101, t102, t103, t104, t105, t106, t107], defers := ds } ∧ Below w0.heap.size w0 w ∧
  (j0 = true → x0 = .agg #[.int .u64 (lb ua 0 : Nat), .int .u64 (lb ua 1 : Nat), .int .u64 (lb ua 2 : Nat), .int .u64 (lb ua 3 : Nat)]) ∧
  (j1 = true → x1 = .agg #[.int .u64 (lb ub 0 : Nat), .int .u64 (lb ub 1 : Nat), .int .u64 (lb ub 2 : Nat), .int .u64 (lb ub 3 : Nat)]) ∧
  (j2 = true → x2 = .agg #[.int .u64 (lb us 0 : Nat), .int .u64 (lb us 1 : Nat), .int .u64 (lb us 2 : Nat), .int .u64 (lb us 3 : Nat)]) ∧
  (j3 = true → x3 = .agg #[.int .u64 (lb px 0 : Nat), .int .u64 (lb px 1 : Nat), .int .u64 (lb px 2 : Nat), .int .u64 (lb px 3 : Nat), .int .u64 (lb py 0 : Nat), .int .u64 (lb py 1 : Nat), .int .u64 (lb py 2 : Nat), .int .u64 (lb py 3 : Nat), .bool pi]) ∧
  (j4 = true → x4 = .tuple #[.agg #[.int .u64 (lb rx 0 : Nat), .int .u64 (lb rx 1 : Nat), .int .u64 (lb rx 2 : Nat), .int .u64 (lb rx 3 : Nat), .int .u64 (lb ry 0 : Nat), .int .u64 (lb ry 1 : Nat), .int .u64 (lb ry 2 : Nat), .int .u64 (lb ry 3 : Nat), .bool ri], .int .i64 0]) ∧
  (j5 = true → x5 = .tuple #[.agg #[.int .u64 (lb rx 0 : Nat), .int .u64 (lb rx 1 : Nat), .int .u64 (lb rx 2 : Nat), .int .u64 (lb rx 3 : Nat), .int .u64 (lb ry 0 : Nat), .int .u64 (lb ry 1 : Nat), .int .u64 (lb ry 2 : Nat), .int .u64 (lb ry 3 : Nat), .bool ri], .int .i64 0]) ∧
  (j6 = true → x6 = .agg #[.int .u64 (lb rx 0 : Nat), .int .u64 (lb rx 1 : Nat), .int .u64 (lb rx 2 : Nat), .int .u64 (lb rx 3 : Nat), .int .u64 (lb ry 0 : Nat), .int .u64 (lb ry 1 : Nat), .int .u64 (lb ry 2 : Nat), .int .u64 (lb ry 3 : Nat), .bool ri]) ∧
  (j7 = true → x7 = .int .i64 0) ∧
  (j10 = true → x10 = .int .i64 0) ∧
  (j8 = true → x8 = .pointer (some ⟨g8, 0, none⟩) ∧ w0.heap.size ≤ g8 ∧ ∃ z0 z1 z2 z3 z4 z5 z6 z7 z8 : Value, Bk 51 w g8 #[z0, z1, z2, z3, z4, z5, z6, z7, z8] ∧ (j9 = true → #[z0, z1, z2, z3, z4, z5, z6, z7, z8] = #[.int .u64 (lb rx 0 : Nat), .int .u64 (lb rx 1 : Nat), .int .u64 (lb rx 2 : Nat), .int .u64 (lb rx 3 : Nat), .int .u64 (lb ry 0 : Nat), .int .u64 (lb ry 1 : Nat), .int .u64 (lb ry 2 : Nat), .int .u64 (lb ry 3 : Nat), .bool ri])) ∧
  (j9 = true → j8 = true)

noncomputable def sc12O : Array Oper := (Try.f12.body.bind fun c => findR c 12).getD #[]
set_option maxHeartbeats 16000000 in
theorem sc12_steps (gP gA gB px py ua ub us rx ry : Nat) (pi ri : Bool) (w : World) (KP : Bk 51 w gP #[.int .u64 (lb px 0 : Nat), .int .u64 (lb px 1 : Nat), .int .u64 (lb px 2 : Nat), .int .u64 (lb px 3 : Nat), .int .u64 (lb py 0 : Nat), .int .u64 (lb py 1 : Nat), .int .u64 (lb py 2 : Nat), .int .u64 (lb py 3 : Nat), .bool pi]) (KA : Bk 24 w gA #[.int .u64 (lb ua 0 : Nat), .int .u64 (lb ua 1 : Nat), .int .u64 (lb ua 2 : Nat), .int .u64 (lb ua 3 : Nat)]) (KB : Bk 24 w gB #[.int .u64 (lb ub 0 : Nat), .int .u64 (lb ub 1 : Nat), .int .u64 (lb ub 2 : Nat), .int .u64 (lb ub 3 : Nat)]) (H1 : Hid (∀ w, Calls Try.prog 23 #[.int .i64 1, .agg #[.int .u64 (lb ua 0 : Nat), .int .u64 (lb ua 1 : Nat), .int .u64 (lb ua 2 : Nat), .int .u64 (lb ua 3 : Nat)], .agg #[.int .u64 (lb ub 0 : Nat), .int .u64 (lb ub 1 : Nat), .int .u64 (lb ub 2 : Nat), .int .u64 (lb ub 3 : Nat)]] w fun e w' => e = .returned (.agg #[.int .u64 (lb us 0 : Nat), .int .u64 (lb us 1 : Nat), .int .u64 (lb us 2 : Nat), .int .u64 (lb us 3 : Nat)]) ∧ Below w.heap.size w w')) (H2 : Hid (∀ w, Calls Try.prog 50 #[.agg #[.int .u64 (lb us 0 : Nat), .int .u64 (lb us 1 : Nat), .int .u64 (lb us 2 : Nat), .int .u64 (lb us 3 : Nat)], .agg #[.int .u64 (lb px 0 : Nat), .int .u64 (lb px 1 : Nat), .int .u64 (lb px 2 : Nat), .int .u64 (lb px 3 : Nat), .int .u64 (lb py 0 : Nat), .int .u64 (lb py 1 : Nat), .int .u64 (lb py 2 : Nat), .int .u64 (lb py 3 : Nat), .bool pi]] w fun e w' => e = .returned (.tuple #[.agg #[.int .u64 (lb rx 0 : Nat), .int .u64 (lb rx 1 : Nat), .int .u64 (lb rx 2 : Nat), .int .u64 (lb rx 3 : Nat), .int .u64 (lb ry 0 : Nat), .int .u64 (lb ry 1 : Nat), .int .u64 (lb ry 2 : Nat), .int .u64 (lb ry 3 : Nat), .bool ri], .int .i64 0]) ∧ Below w.heap.size w w'))
    {t0 t1 t2 t6 t7 t8 t9 t11 t12 t13 t14 t15 t17 t18 t19 t20 t21 t22 t23 t24 t25 t26 t27 t28 t29 t30 t31 t32 t33 t34 t35 t36 t37 t38 t39 t40 t41 t42 t43 t44 t45 t46 t47 t48 t49 t50 t51 t52 t53 t54 t55 t56 t57 t58 t59 t60 t61 t62 t63 t64 t65 t66 t67 t68 t69 t70 t71 t72 t73 t82 t83 t84 t85 t86 t87 t88 t89 t90 t91 t92 t93 t94 t95 t96 t97 t98 t99 t100 t101 t102 t103 t104 t105 t106 t107 : Value} {ds : List Deferred} {Q : Exit → Act → World → Prop} :
    ∀ l a w', sc12I w gP gA gB px py ua ub us rx ry pi ri t0 t1 t2 t6 t7 t8 t9 t11 t12 t13 t14 t15 t17 t18 t19 t20 t21 t22 t23 t24 t25 t26 t27 t28 t29 t30 t31 t32 t33 t34 t35 t36 t37 t38 t39 t40 t41 t42 t43 t44 t45 t46 t47 t48 t49 t50 t51 t52 t53 t54 t55 t56 t57 t58 t59 t60 t61 t62 t63 t64 t65 t66 t67 t68 t69 t70 t71 t72 t73 t82 t83 t84 t85 t86 t87 t88 t89 t90 t91 t92 t93 t94 t95 t96 t97 t98 t99 t100 t101 t102 t103 t104 t105 t106 t107 ds l a w' → ∀ i ∈ Region.ready .any sc12O l, wpOp Try.prog sc12O Q i (fun a' w'' => sc12I w gP gA gB px py ua ub us rx ry pi ri t0 t1 t2 t6 t7 t8 t9 t11 t12 t13 t14 t15 t17 t18 t19 t20 t21 t22 t23 t24 t25 t26 t27 t28 t29 t30 t31 t32 t33 t34 t35 t36 t37 t38 t39 t40 t41 t42 t43 t44 t45 t46 t47 t48 t49 t50 t51 t52 t53 t54 t55 t56 t57 t58 t59 t60 t61 t62 t63 t64 t65 t66 t67 t68 t69 t70 t71 t72 t73 t82 t83 t84 t85 t86 t87 t88 t89 t90 t91 t92 t93 t94 t95 t96 t97 t98 t99 t100 t101 t102 t103 t104 t105 t106 t107 ds (l.setIfInBounds i true) a' w'') a w' := by
  simp only [sc12O, findR, Try.f12, Option.bind_some, Option.or, Option.getD, Nat.reduceEqDiff, if_true, if_false, reduceIte]
  rintro l a w' ⟨j0, j1, j2, j3, j4, j5, j6, j7, j8, j9, j10, x0, x1, x2, x3, x4, x5, x6, x7, x8, x10, g8, rfl, rfl, hB, h0, h1, h2, h3, h4, h5, h6, h7, h10, a8, s8⟩ i hi
  rw [mem_ready] at hi
  obtain ⟨hu, oo, ho, hd⟩ := hi
  have hin : i < 11 := by
    have := (Array.getElem?_eq_some_iff.1 ho).1
    simpa using this
  replace h0 := Lib.hid h0
  replace h1 := Lib.hid h1
  replace h2 := Lib.hid h2
  replace h3 := Lib.hid h3
  replace h4 := Lib.hid h4
  replace h5 := Lib.hid h5
  replace h6 := Lib.hid h6
  replace h7 := Lib.hid h7
  replace h10 := Lib.hid h10
  have hcase : i = 0 ∨ i = 1 ∨ i = 2 ∨ i = 3 ∨ i = 4 ∨ i = 5 ∨ i = 6 ∨ i = 7 ∨ i = 8 ∨ i = 9 ∨ i = 10 := by omega
  rcases hcase with rfl | rfl | rfl | rfl | rfl | rfl | rfl | rfl | rfl | rfl | rfl
  · obtain rfl := Option.some.inj ho
    simp [Region.binds] at hu hd
    clear hd
    refine wpOp_of rfl rfl ?_
    have i0 : w'.cell? ⟨gA, 0, none⟩ = some (.int .u64 (lb ua 0 : Nat)) := (KA.below hB).cell 0
    have i1 : w'.cell? ⟨gA, 1, none⟩ = some (.int .u64 (lb ua 1 : Nat)) := (KA.below hB).cell 1
    have i2 : w'.cell? ⟨gA, 2, none⟩ = some (.int .u64 (lb ua 2 : Nat)) := (KA.below hB).cell 2
    have i3 : w'.cell? ⟨gA, 3, none⟩ = some (.int .u64 (lb ua 3 : Nat)) := (KA.below hB).cell 3
    go_simp
    unfold sc12I
    exact ⟨true, j1, j2, j3, j4, j5, j6, j7, j8, j9, j10, _, x1, x2, x3, x4, x5, x6, x7, x8, x10, g8, rfl, rfl, hB, fun _ => rfl, h1.out, h2.out, h3.out, h4.out, h5.out, h6.out, h7.out, h10.out, a8, s8⟩
  · obtain rfl := Option.some.inj ho
    simp [Region.binds] at hu hd
    clear hd
    refine wpOp_of rfl rfl ?_
    have i0 : w'.cell? ⟨gB, 0, none⟩ = some (.int .u64 (lb ub 0 : Nat)) := (KB.below hB).cell 0
    have i1 : w'.cell? ⟨gB, 1, none⟩ = some (.int .u64 (lb ub 1 : Nat)) := (KB.below hB).cell 1
    have i2 : w'.cell? ⟨gB, 2, none⟩ = some (.int .u64 (lb ub 2 : Nat)) := (KB.below hB).cell 2
    have i3 : w'.cell? ⟨gB, 3, none⟩ = some (.int .u64 (lb ub 3 : Nat)) := (KB.below hB).cell 3
    go_simp
    unfold sc12I
    exact ⟨j0, true, j2, j3, j4, j5, j6, j7, j8, j9, j10, x0, _, x2, x3, x4, x5, x6, x7, x8, x10, g8, rfl, rfl, hB, h0.out, fun _ => rfl, h2.out, h3.out, h4.out, h5.out, h6.out, h7.out, h10.out, a8, s8⟩
  · obtain rfl := Option.some.inj ho
    simp [Region.binds] at hu hd
    have d0 : j0 = true := by simp [hd]
    have e0 := h0.out d0
    subst e0
    have d1 : j1 = true := by simp [hd]
    have e1 := h1.out d1
    subst e1
    subst d0
    subst d1
    clear hd
    refine wpOp_of rfl rfl ?_
    go_simp
    go_at_call 23
    refine (keep w.heap.size w (H1.out _) hB (Nat.le_refl _)).mono ?_
    rintro e w2 ⟨rfl, hB2, hb2⟩
    unfold sc12I
    exact ⟨true, true, true, j3, j4, j5, j6, j7, j8, j9, j10, _, _, _, x3, x4, x5, x6, x7, x8, x10, g8, rfl, rfl, hB2, h0.out, h1.out, fun _ => rfl, h3.out, h4.out, h5.out, h6.out, h7.out, h10.out, (fun hj => by obtain ⟨q1, q2, z0, z1, z2, z3, z4, z5, z6, z7, z8, q3, q4⟩ := a8 hj; exact ⟨q1, q2, z0, z1, z2, z3, z4, z5, z6, z7, z8, q3.below hb2, q4⟩), s8⟩
  · obtain rfl := Option.some.inj ho
    simp [Region.binds] at hu hd
    clear hd
    refine wpOp_of rfl rfl ?_
    have i0 : w'.cell? ⟨gP, 0, none⟩ = some (.int .u64 (lb px 0 : Nat)) := (KP.below hB).cell 0
    have i1 : w'.cell? ⟨gP, 1, none⟩ = some (.int .u64 (lb px 1 : Nat)) := (KP.below hB).cell 1
    have i2 : w'.cell? ⟨gP, 2, none⟩ = some (.int .u64 (lb px 2 : Nat)) := (KP.below hB).cell 2
    have i3 : w'.cell? ⟨gP, 3, none⟩ = some (.int .u64 (lb px 3 : Nat)) := (KP.below hB).cell 3
    have i4 : w'.cell? ⟨gP, 4, none⟩ = some (.int .u64 (lb py 0 : Nat)) := (KP.below hB).cell 4
    have i5 : w'.cell? ⟨gP, 5, none⟩ = some (.int .u64 (lb py 1 : Nat)) := (KP.below hB).cell 5
    have i6 : w'.cell? ⟨gP, 6, none⟩ = some (.int .u64 (lb py 2 : Nat)) := (KP.below hB).cell 6
    have i7 : w'.cell? ⟨gP, 7, none⟩ = some (.int .u64 (lb py 3 : Nat)) := (KP.below hB).cell 7
    have i8 : w'.cell? ⟨gP, 8, none⟩ = some (.bool pi) := (KP.below hB).cell 8
    go_simp
    unfold sc12I
    exact ⟨j0, j1, j2, true, j4, j5, j6, j7, j8, j9, j10, x0, x1, x2, _, x4, x5, x6, x7, x8, x10, g8, rfl, rfl, hB, h0.out, h1.out, h2.out, fun _ => rfl, h4.out, h5.out, h6.out, h7.out, h10.out, a8, s8⟩
  · obtain rfl := Option.some.inj ho
    simp [Region.binds] at hu hd
    have d2 : j2 = true := by simp [hd]
    have e2 := h2.out d2
    subst e2
    have d3 : j3 = true := by simp [hd]
    have e3 := h3.out d3
    subst e3
    subst d2
    subst d3
    clear hd
    refine wpOp_of rfl rfl ?_
    go_simp
    go_at_call 50
    refine (keep w.heap.size w (H2.out _) hB (Nat.le_refl _)).mono ?_
    rintro e w2 ⟨rfl, hB2, hb2⟩
    unfold sc12I
    exact ⟨j0, j1, true, true, true, j5, j6, j7, j8, j9, j10, x0, x1, _, _, _, x5, x6, x7, x8, x10, g8, rfl, rfl, hB2, h0.out, h1.out, h2.out, h3.out, fun _ => rfl, h5.out, h6.out, h7.out, h10.out, (fun hj => by obtain ⟨q1, q2, z0, z1, z2, z3, z4, z5, z6, z7, z8, q3, q4⟩ := a8 hj; exact ⟨q1, q2, z0, z1, z2, z3, z4, z5, z6, z7, z8, q3.below hb2, q4⟩), s8⟩
  · obtain rfl := Option.some.inj ho
    simp [Region.binds] at hu hd
    have d4 : j4 = true := by simp [hd]
    have e4 := h4.out d4
    subst e4
    subst d4
    clear hd
    refine wpOp_of rfl rfl ?_
    go_simp
    unfold sc12I
    exact ⟨j0, j1, j2, j3, true, true, j6, j7, j8, j9, j10, x0, x1, x2, x3, _, _, x6, x7, x8, x10, g8, rfl, rfl, hB, h0.out, h1.out, h2.out, h3.out, h4.out, fun _ => rfl, h6.out, h7.out, h10.out, a8, s8⟩
  · obtain rfl := Option.some.inj ho
    simp [Region.binds] at hu hd
    have d5 : j5 = true := by simp [hd]
    have e5 := h5.out d5
    subst e5
    subst d5
    clear hd
    refine wpOp_of rfl rfl ?_
    go_simp
    unfold sc12I
    exact ⟨j0, j1, j2, j3, j4, true, true, j7, j8, j9, j10, x0, x1, x2, x3, x4, _, _, x7, x8, x10, g8, rfl, rfl, hB, h0.out, h1.out, h2.out, h3.out, h4.out, h5.out, fun _ => rfl, h7.out, h10.out, a8, s8⟩
  · obtain rfl := Option.some.inj ho
    simp [Region.binds] at hu hd
    have d5 : j5 = true := by simp [hd]
    have e5 := h5.out d5
    subst e5
    subst d5
    clear hd
    refine wpOp_of rfl rfl ?_
    go_simp
    unfold sc12I
    exact ⟨j0, j1, j2, j3, j4, true, j6, true, j8, j9, j10, x0, x1, x2, x3, x4, _, x6, _, x8, x10, g8, rfl, rfl, hB, h0.out, h1.out, h2.out, h3.out, h4.out, h5.out, h6.out, fun _ => rfl, h10.out, a8, s8⟩
  · obtain rfl := Option.some.inj ho
    simp [Region.binds] at hu hd
    clear hd
    refine wpOp_of rfl rfl ?_
    have hs := hB.size
    go_simp
    unfold sc12I
    exact ⟨j0, j1, j2, j3, j4, j5, j6, j7, true, j9, j10, x0, x1, x2, x3, x4, x5, x6, x7, _, x10, w'.heap.size, rfl, rfl, (by go_grown), h0.out, h1.out, h2.out, h3.out, h4.out, h5.out, h6.out, h7.out, h10.out, (fun _ => ⟨rfl, hs, _, _, _, _, _, _, _, _, _, Bk.new rfl, fun hj => absurd (s8 hj) (by simp [hu])⟩), (fun _ => rfl)⟩
  · obtain rfl := Option.some.inj ho
    simp [Region.binds] at hu hd
    have d6 : j6 = true := by simp [hd]
    have e6 := h6.out d6
    subst e6
    have d8 : j8 = true := by simp [hd]
    subst d6
    subst d8
    clear hd
    refine wpOp_of rfl rfl ?_
    obtain ⟨p1, p2, z0, z1, z2, z3, z4, z5, z6, z7, z8, p3, p4⟩ := a8 rfl
    subst p1
    obtain ⟨⟨f0, f1, f2, f3⟩, ⟨f4, f5, f6, f7⟩, f8⟩ := p3.fros9
    obtain ⟨⟨c0, c1, c2, c3⟩, ⟨c4, c5, c6, c7⟩, c8⟩ := p3.cells9
    clear a8
    go_simp
    unfold sc12I
    exact ⟨j0, j1, j2, j3, j4, j5, true, j7, true, true, j10, x0, x1, x2, x3, x4, x5, _, x7, _, x10, g8, rfl, rfl, (by go_grown), h0.out, h1.out, h2.out, h3.out, h4.out, h5.out, h6.out, h7.out, h10.out, (fun _ => ⟨rfl, p2, _, _, _, _, _, _, _, _, _, Bk.put9 p3, fun _ => rfl⟩), (fun _ => rfl)⟩
  · obtain rfl := Option.some.inj ho
    simp [Region.binds] at hu hd
    have d7 : j7 = true := by simp [hd]
    have e7 := h7.out d7
    subst e7
    subst d7
    clear hd
    refine wpOp_of rfl rfl ?_
    go_simp
    unfold sc12I
    exact ⟨j0, j1, j2, j3, j4, j5, j6, true, j8, j9, true, x0, x1, x2, x3, x4, x5, x6, _, x8, _, g8, rfl, rfl, hB, h0.out, h1.out, h2.out, h3.out, h4.out, h5.out, h6.out, h7.out, fun _ => rfl, a8, s8⟩

set_option maxHeartbeats 16000000 in
theorem sc12_fin (gP gA gB px py ua ub us rx ry : Nat) (pi ri : Bool) (w : World)
    {t0 t1 t2 t6 t7 t8 t9 t11 t12 t13 t14 t15 t17 t18 t19 t20 t21 t22 t23 t24 t25 t26 t27 t28 t29 t30 t31 t32 t33 t34 t35 t36 t37 t38 t39 t40 t41 t42 t43 t44 t45 t46 t47 t48 t49 t50 t51 t52 t53 t54 t55 t56 t57 t58 t59 t60 t61 t62 t63 t64 t65 t66 t67 t68 t69 t70 t71 t72 t73 t82 t83 t84 t85 t86 t87 t88 t89 t90 t91 t92 t93 t94 t95 t96 t97 t98 t99 t100 t101 t102 t103 t104 t105 t106 t107 : Value} {ds : List Deferred} : ∀ l a w', sc12I w gP gA gB px py ua ub us rx ry pi ri t0 t1 t2 t6 t7 t8 t9 t11 t12 t13 t14 t15 t17 t18 t19 t20 t21 t22 t23 t24 t25 t26 t27 t28 t29 t30 t31 t32 t33 t34 t35 t36 t37 t38 t39 t40 t41 t42 t43 t44 t45 t46 t47 t48 t49 t50 t51 t52 t53 t54 t55 t56 t57 t58 t59 t60 t61 t62 t63 t64 t65 t66 t67 t68 t69 t70 t71 t72 t73 t82 t83 t84 t85 t86 t87 t88 t89 t90 t91 t92 t93 t94 t95 t96 t97 t98 t99 t100 t101 t102 t103 t104 t105 t106 t107 ds l a w' → Region.ready .any sc12O l = [] →
    ∃ (y0 y1 y2 y3 y4 y5 y6 y7 : Value) (g8 : Nat), a = { tmps := #[t0, t1, t2, .pointer (some ⟨gP, 0, none⟩), .pointer (some ⟨gA, 0, none⟩), .pointer (some ⟨gB, 0, none⟩), t6, t7, t8, t9, .int .i64 0, t11, t12, t13, t14, t15, .pointer (some ⟨g8, 0, none⟩), t17, t18, t19, t20, t21, t22, t23, t24, t25, t26, t27, t28, t29, t30, t31, t32, t33, t34, t35, t36, t37, t38, t39, t40, t41, t42, t43, t44, t45, t46, t47, t48, t49, t50, t51, t52, t53, t54, t55, t56, t57, t58, t59, t60, t61, t62, t63, t64, t65, t66, t67, t68, t69, t70, t71, t72, t73, y5, y0, y1, y2, y3, y4, y6, y7, t82, t83, t84, t85, t86, t87, t88, t89, t90, t91, t92, t93, t94, t95, t96, t97, t98, t99, t100, t101, t102, t103, t104, t105, t106, t107], defers := ds } ∧ Below w.heap.size w w' ∧ w.heap.size ≤ g8 ∧ Bk 51 w' g8 #[.int .u64 (lb rx 0 : Nat), .int .u64 (lb rx 1 : Nat), .int .u64 (lb rx 2 : Nat), .int .u64 (lb rx 3 : Nat), .int .u64 (lb ry 0 : Nat), .int .u64 (lb ry 1 : Nat), .int .u64 (lb ry 2 : Nat), .int .u64 (lb ry 3 : Nat), .bool ri] := by
  simp only [sc12O, findR, Try.f12, Option.bind_some, Option.or, Option.getD, Nat.reduceEqDiff, if_true, if_false, reduceIte]
  rintro l a w' ⟨j0, j1, j2, j3, j4, j5, j6, j7, j8, j9, j10, x0, x1, x2, x3, x4, x5, x6, x7, x8, x10, g8, rfl, rfl, hB, h0, h1, h2, h3, h4, h5, h6, h7, h10, a8, s8⟩ hr
  have hn := fun i => List.eq_nil_iff_forall_not_mem.1 hr i
  clear hr
  have d0 : j0 = true := by
    cases hj : j0
    · exact absurd (mem_ready.2 ⟨by simp [hj], _, rfl, by simp [Region.binds, hj]⟩) (hn 0)
    · rfl
  subst d0
  obtain rfl := h0 rfl
  have d1 : j1 = true := by
    cases hj : j1
    · exact absurd (mem_ready.2 ⟨by simp [hj], _, rfl, by simp [Region.binds, hj]⟩) (hn 1)
    · rfl
  subst d1
  obtain rfl := h1 rfl
  have d2 : j2 = true := by
    cases hj : j2
    · exact absurd (mem_ready.2 ⟨by simp [hj], _, rfl, by simp [Region.binds, hj]⟩) (hn 2)
    · rfl
  subst d2
  obtain rfl := h2 rfl
  have d3 : j3 = true := by
    cases hj : j3
    · exact absurd (mem_ready.2 ⟨by simp [hj], _, rfl, by simp [Region.binds, hj]⟩) (hn 3)
    · rfl
  subst d3
  obtain rfl := h3 rfl
  have d4 : j4 = true := by
    cases hj : j4
    · exact absurd (mem_ready.2 ⟨by simp [hj], _, rfl, by simp [Region.binds, hj]⟩) (hn 4)
    · rfl
  subst d4
  obtain rfl := h4 rfl
  have d5 : j5 = true := by
    cases hj : j5
    · exact absurd (mem_ready.2 ⟨by simp [hj], _, rfl, by simp [Region.binds, hj]⟩) (hn 5)
    · rfl
  subst d5
  obtain rfl := h5 rfl
  have d6 : j6 = true := by
    cases hj : j6
    · exact absurd (mem_ready.2 ⟨by simp [hj], _, rfl, by simp [Region.binds, hj]⟩) (hn 6)
    · rfl
  subst d6
  obtain rfl := h6 rfl
  have d7 : j7 = true := by
    cases hj : j7
    · exact absurd (mem_ready.2 ⟨by simp [hj], _, rfl, by simp [Region.binds, hj]⟩) (hn 7)
    · rfl
  subst d7
  obtain rfl := h7 rfl
  have d8 : j8 = true := by
    cases hj : j8
    · exact absurd (mem_ready.2 ⟨by simp [hj], _, rfl, by simp [Region.binds, hj]⟩) (hn 8)
    · rfl
  subst d8
  have d9 : j9 = true := by
    cases hj : j9
    · exact absurd (mem_ready.2 ⟨by simp [hj], _, rfl, by simp [Region.binds, hj]⟩) (hn 9)
    · rfl
  subst d9
  have d10 : j10 = true := by
    cases hj : j10
    · exact absurd (mem_ready.2 ⟨by simp [hj], _, rfl, by simp [Region.binds, hj]⟩) (hn 10)
    · rfl
  subst d10
  obtain rfl := h10 rfl
  obtain ⟨rfl, l8, z0, z1, z2, z3, z4, z5, z6, z7, z8, b8, r8⟩ := a8 rfl
  rw [r8 rfl] at b8
  exact ⟨_, _, _, _, _, _, _, _, g8, rfl, hB, l8, b8⟩

theorem sc12 (gP gA gB px py ua ub us rx ry : Nat) (pi ri : Bool) (w : World) (KP : Bk 51 w gP #[.int .u64 (lb px 0 : Nat), .int .u64 (lb px 1 : Nat), .int .u64 (lb px 2 : Nat), .int .u64 (lb px 3 : Nat), .int .u64 (lb py 0 : Nat), .int .u64 (lb py 1 : Nat), .int .u64 (lb py 2 : Nat), .int .u64 (lb py 3 : Nat), .bool pi]) (KA : Bk 24 w gA #[.int .u64 (lb ua 0 : Nat), .int .u64 (lb ua 1 : Nat), .int .u64 (lb ua 2 : Nat), .int .u64 (lb ua 3 : Nat)]) (KB : Bk 24 w gB #[.int .u64 (lb ub 0 : Nat), .int .u64 (lb ub 1 : Nat), .int .u64 (lb ub 2 : Nat), .int .u64 (lb ub 3 : Nat)]) (H1 : Hid (∀ w, Calls Try.prog 23 #[.int .i64 1, .agg #[.int .u64 (lb ua 0 : Nat), .int .u64 (lb ua 1 : Nat), .int .u64 (lb ua 2 : Nat), .int .u64 (lb ua 3 : Nat)], .agg #[.int .u64 (lb ub 0 : Nat), .int .u64 (lb ub 1 : Nat), .int .u64 (lb ub 2 : Nat), .int .u64 (lb ub 3 : Nat)]] w fun e w' => e = .returned (.agg #[.int .u64 (lb us 0 : Nat), .int .u64 (lb us 1 : Nat), .int .u64 (lb us 2 : Nat), .int .u64 (lb us 3 : Nat)]) ∧ Below w.heap.size w w')) (H2 : Hid (∀ w, Calls Try.prog 50 #[.agg #[.int .u64 (lb us 0 : Nat), .int .u64 (lb us 1 : Nat), .int .u64 (lb us 2 : Nat), .int .u64 (lb us 3 : Nat)], .agg #[.int .u64 (lb px 0 : Nat), .int .u64 (lb px 1 : Nat), .int .u64 (lb px 2 : Nat), .int .u64 (lb px 3 : Nat), .int .u64 (lb py 0 : Nat), .int .u64 (lb py 1 : Nat), .int .u64 (lb py 2 : Nat), .int .u64 (lb py 3 : Nat), .bool pi]] w fun e w' => e = .returned (.tuple #[.agg #[.int .u64 (lb rx 0 : Nat), .int .u64 (lb rx 1 : Nat), .int .u64 (lb rx 2 : Nat), .int .u64 (lb rx 3 : Nat), .int .u64 (lb ry 0 : Nat), .int .u64 (lb ry 1 : Nat), .int .u64 (lb ry 2 : Nat), .int .u64 (lb ry 3 : Nat), .bool ri], .int .i64 0]) ∧ Below w.heap.size w w'))
    {t0 t1 t2 t6 t7 t8 t9 t10 t11 t12 t13 t14 t15 t16 t17 t18 t19 t20 t21 t22 t23 t24 t25 t26 t27 t28 t29 t30 t31 t32 t33 t34 t35 t36 t37 t38 t39 t40 t41 t42 t43 t44 t45 t46 t47 t48 t49 t50 t51 t52 t53 t54 t55 t56 t57 t58 t59 t60 t61 t62 t63 t64 t65 t66 t67 t68 t69 t70 t71 t72 t73 t74 t75 t76 t77 t78 t79 t80 t81 t82 t83 t84 t85 t86 t87 t88 t89 t90 t91 t92 t93 t94 t95 t96 t97 t98 t99 t100 t101 t102 t103 t104 t105 t106 t107 : Value} {ds : List Deferred} {K : Act → World → Prop} {Q : Exit → Act → World → Prop}
    (h : ∀ (y0 y1 y2 y3 y4 y5 y6 y7 : Value) (g8 : Nat) (w' : World) (hb : Below w.heap.size w w') (hg8 : w.heap.size ≤ g8) (hk8 : Bk 51 w' g8 #[.int .u64 (lb rx 0 : Nat), .int .u64 (lb rx 1 : Nat), .int .u64 (lb rx 2 : Nat), .int .u64 (lb rx 3 : Nat), .int .u64 (lb ry 0 : Nat), .int .u64 (lb ry 1 : Nat), .int .u64 (lb ry 2 : Nat), .int .u64 (lb ry 3 : Nat), .bool ri]), K { tmps := #[t0, t1, t2, .pointer (some ⟨gP, 0, none⟩), .pointer (some ⟨gA, 0, none⟩), .pointer (some ⟨gB, 0, none⟩), t6, t7, t8, t9, .int .i64 0, t11, t12, t13, t14, t15, .pointer (some ⟨g8, 0, none⟩), t17, t18, t19, t20, t21, t22, t23, t24, t25, t26, t27, t28, t29, t30, t31, t32, t33, t34, t35, t36, t37, t38, t39, t40, t41, t42, t43, t44, t45, t46, t47, t48, t49, t50, t51, t52, t53, t54, t55, t56, t57, t58, t59, t60, t61, t62, t63, t64, t65, t66, t67, t68, t69, t70, t71, t72, t73, y5, y0, y1, y2, y3, y4, y6, y7, t82, t83, t84, t85, t86, t87, t88, t89, t90, t91, t92, t93, t94, t95, t96, t97, t98, t99, t100, t101, t102, t103, t104, t105, t106, t107], defers := ds } w') :
    (Code.region 12 sc12O true).wp Try.prog (Exit.then K Q) { tmps := #[t0, t1, t2, .pointer (some ⟨gP, 0, none⟩), .pointer (some ⟨gA, 0, none⟩), .pointer (some ⟨gB, 0, none⟩), t6, t7, t8, t9, t10, t11, t12, t13, t14, t15, t16, t17, t18, t19, t20, t21, t22, t23, t24, t25, t26, t27, t28, t29, t30, t31, t32, t33, t34, t35, t36, t37, t38, t39, t40, t41, t42, t43, t44, t45, t46, t47, t48, t49, t50, t51, t52, t53, t54, t55, t56, t57, t58, t59, t60, t61, t62, t63, t64, t65, t66, t67, t68, t69, t70, t71, t72, t73, t74, t75, t76, t77, t78, t79, t80, t81, t82, t83, t84, t85, t86, t87, t88, t89, t90, t91, t92, t93, t94, t95, t96, t97, t98, t99, t100, t101, t102, t103, t104, t105, t106, t107], defers := ds } w := by
  have hsz : sc12O.size = 11 := by kernel_rfl
  refine wp_region_any mixed ?_
  rw [hsz]
  refine wpAny_inv (I := sc12I w gP gA gB px py ua ub us rx ry pi ri t0 t1 t2 t6 t7 t8 t9 t11 t12 t13 t14 t15 t17 t18 t19 t20 t21 t22 t23 t24 t25 t26 t27 t28 t29 t30 t31 t32 t33 t34 t35 t36 t37 t38 t39 t40 t41 t42 t43 t44 t45 t46 t47 t48 t49 t50 t51 t52 t53 t54 t55 t56 t57 t58 t59 t60 t61 t62 t63 t64 t65 t66 t67 t68 t69 t70 t71 t72 t73 t82 t83 t84 t85 t86 t87 t88 t89 t90 t91 t92 t93 t94 t95 t96 t97 t98 t99 t100 t101 t102 t103 t104 t105 t106 t107 ds) (sc12_steps gP gA gB px py ua ub us rx ry pi ri w KP KA KB H1 H2) (fun l a w' hI hr => ?_) 11 _ _ _ (by decide) ?_
  · obtain ⟨y0, y1, y2, y3, y4, y5, y6, y7, g8, rfl, hb, l8, b8⟩ := sc12_fin gP gA gB px py ua ub us rx ry pi ri w l a w' hI hr
    exact h _ _ _ _ _ _ _ _ g8 w' hb l8 b8
  · exact ⟨false, false, false, false, false, false, false, false, false, false, false, t75, t76, t77, t78, t79, t74, t80, t81, t16, t10, 0, rfl, rfl, ⟨rfl, rfl, rfl, Nat.le_refl _, fun _ _ => rfl⟩, (fun h => by cases h), (fun h => by cases h), (fun h => by cases h), (fun h => by cases h), (fun h => by cases h), (fun h => by cases h), (fun h => by cases h), (fun h => by cases h), (fun h => by cases h), (fun h => by cases h), (fun h => by cases h)⟩

/-- what holds whichever operations of the region have come up -/
def sc8I (w0 : World) (gP px py us rx ry : Nat) (pi ri : Bool) (t0 t1 t2 t4 t5 t6 t7 t8 t9 t10 t11 t12 t15 t16 t17 t18 t19 t20 t21 t22 t23 t24 t25 t26 t27 t28 t29 t30 t31 t32 t33 t34 t35 t36 t37 t38 t39 t40 t41 t42 t49 t50 t51 t52 t53 t54 t55 t56 t57 t58 t59 t60 t61 t62 t63 t64 t65 t66 t67 t68 t69 t70 t71 t72 t73 t74 t75 t76 t77 t78 t79 t80 t81 t82 t83 t84 t85 t86 t87 t88 t89 t90 t91 t92 t93 t94 t95 t96 t97 t98 t99 t100 t101 t102 t103 t104 t105 t106 t107 : Value) (ds : List Deferred) (l : Array Bool) (a : Act) (w : World) : Prop :=
  ∃ j0 j1 j2 j3 j4 j5 j6 j7 j8 : Bool, ∃ x0 x1 x2 x3 x4 x5 x6 x8 : Value, ∃ g6 : Nat, l = #[j0, j1, j2, j3, j4, j5, j6, j7, j8] ∧ a = { tmps := #[t0, t1, t2, .pointer (some ⟨gP, 0, none⟩), t4, t5, t6, t7, t8, t9, t10, t11, t12, x6, x8, t15, t16, t17, t18, t19, t20, t21, t22, t23, t24, t25, t26, t27, t28, t29, t30, t31, t32, t33, t34, t35, t36, t37, t38, t39, t40, t41, t42, x3, x0, x1, x2, x4, x5, t49, t50, t51, t52, t53, t54, t55, t56, t57, t58, t59, t60, t61, t62, t63, t64, t65, t66, t67, t68, t69, t70, t71, t72, t73, t74, t75, t76, t77, t78, t79, t80, t81, t82, t83, t84, t85, t86, t87, t88, t89, t90, t91, t92, t93, t94, t95, t96, t97, t98, t99, t100, t101, t102, t103, t104, t105, t106, t107], defers := ds } ∧ Below w0.heap.size w0 w ∧
  (j0 = true → x0 = .agg #[.int .u64 (lb us 0 : Nat), .int .u64 (lb us 1 : Nat), .int .u64 (lb us 2 : Nat), .int .u64 (lb us 3 : Nat)]) ∧
  (j1 = true → x1 = .agg #[.int .u64 (lb px 0 : Nat), .int .u64 (lb px 1 : Nat), .int .u64 (lb px 2 : Nat), .int .u64 (lb px 3 : Nat), .int .u64 (lb py 0 : Nat), .int .u64 (lb py 1 : Nat), .int .u64 (lb py 2 : Nat), .int .u64 (lb py 3 : Nat), .bool pi]) ∧
  (j2 = true → x2 = .tuple #[.agg #[.int .u64 (lb rx 0 : Nat), .int .u64 (lb rx 1 : Nat), .int .u64 (lb rx 2 : Nat), .int .u64 (lb rx 3 : Nat), .int .u64 (lb ry 0 : Nat), .int .u64 (lb ry 1 : Nat), .int .u64 (lb ry 2 : Nat), .int .u64 (lb ry 3 : Nat), .bool ri], .int .i64 0]) ∧
  (j3 = true → x3 = .tuple #[.agg #[.int .u64 (lb rx 0 : Nat), .int .u64 (lb rx 1 : Nat), .int .u64 (lb rx 2 : Nat), .int .u64 (lb rx 3 : Nat), .int .u64 (lb ry 0 : Nat), .int .u64 (lb ry 1 : Nat), .int .u64 (lb ry 2 : Nat), .int .u64 (lb ry 3 : Nat), .bool ri], .int .i64 0]) ∧
  (j4 = true → x4 = .agg #[.int .u64 (lb rx 0 : Nat), .int .u64 (lb rx 1 : Nat), .int .u64 (lb rx 2 : Nat), .int .u64 (lb rx 3 : Nat), .int .u64 (lb ry 0 : Nat), .int .u64 (lb ry 1 : Nat), .int .u64 (lb ry 2 : Nat), .int .u64 (lb ry 3 : Nat), .bool ri]) ∧
  (j5 = true → x5 = .int .i64 0) ∧
  (j8 = true → x8 = .int .i64 0) ∧
  (j6 = true → x6 = .pointer (some ⟨g6, 0, none⟩) ∧ w0.heap.size ≤ g6 ∧ ∃ z0 z1 z2 z3 z4 z5 z6 z7 z8 : Value, Bk 51 w g6 #[z0, z1, z2, z3, z4, z5, z6, z7, z8] ∧ (j7 = true → #[z0, z1, z2, z3, z4, z5, z6, z7, z8] = #[.int .u64 (lb rx 0 : Nat), .int .u64 (lb rx 1 : Nat), .int .u64 (lb rx 2 : Nat), .int .u64 (lb rx 3 : Nat), .int .u64 (lb ry 0 : Nat), .int .u64 (lb ry 1 : Nat), .int .u64 (lb ry 2 : Nat), .int .u64 (lb ry 3 : Nat), .bool ri])) ∧
  (j7 = true → j6 = true)

noncomputable def sc8O : Array Oper := (Try.f12.body.bind fun c => findR c 8).getD #[]
set_option maxHeartbeats 16000000 in
theorem sc8_steps (gP px py us rx ry : Nat) (pi ri : Bool) (w : World) (KP : Bk 51 w gP #[.int .u64 (lb px 0 : Nat), .int .u64 (lb px 1 : Nat), .int .u64 (lb px 2 : Nat), .int .u64 (lb px 3 : Nat), .int .u64 (lb py 0 : Nat), .int .u64 (lb py 1 : Nat), .int .u64 (lb py 2 : Nat), .int .u64 (lb py 3 : Nat), .bool pi]) (H1 : Hid (∀ w, Calls Try.prog 16 #[.int .i64 1] w fun e w' => e = .returned (.agg #[.int .u64 (lb us 0 : Nat), .int .u64 (lb us 1 : Nat), .int .u64 (lb us 2 : Nat), .int .u64 (lb us 3 : Nat)]) ∧ Below w.heap.size w w')) (H2 : Hid (∀ w, Calls Try.prog 50 #[.agg #[.int .u64 (lb us 0 : Nat), .int .u64 (lb us 1 : Nat), .int .u64 (lb us 2 : Nat), .int .u64 (lb us 3 : Nat)], .agg #[.int .u64 (lb px 0 : Nat), .int .u64 (lb px 1 : Nat), .int .u64 (lb px 2 : Nat), .int .u64 (lb px 3 : Nat), .int .u64 (lb py 0 : Nat), .int .u64 (lb py 1 : Nat), .int .u64 (lb py 2 : Nat), .int .u64 (lb py 3 : Nat), .bool pi]] w fun e w' => e = .returned (.tuple #[.agg #[.int .u64 (lb rx 0 : Nat), .int .u64 (lb rx 1 : Nat), .int .u64 (lb rx 2 : Nat), .int .u64 (lb rx 3 : Nat), .int .u64 (lb ry 0 : Nat), .int .u64 (lb ry 1 : Nat), .int .u64 (lb ry 2 : Nat), .int .u64 (lb ry 3 : Nat), .bool ri], .int .i64 0]) ∧ Below w.heap.size w w'))
    {t0 t1 t2 t4 t5 t6 t7 t8 t9 t10 t11 t12 t15 t16 t17 t18 t19 t20 t21 t22 t23 t24 t25 t26 t27 t28 t29 t30 t31 t32 t33 t34 t35 t36 t37 t38 t39 t40 t41 t42 t49 t50 t51 t52 t53 t54 t55 t56 t57 t58 t59 t60 t61 t62 t63 t64 t65 t66 t67 t68 t69 t70 t71 t72 t73 t74 t75 t76 t77 t78 t79 t80 t81 t82 t83 t84 t85 t86 t87 t88 t89 t90 t91 t92 t93 t94 t95 t96 t97 t98 t99 t100 t101 t102 t103 t104 t105 t106 t107 : Value} {ds : List Deferred} {Q : Exit → Act → World → Prop} :
    ∀ l a w', sc8I w gP px py us rx ry pi ri t0 t1 t2 t4 t5 t6 t7 t8 t9 t10 t11 t12 t15 t16 t17 t18 t19 t20 t21 t22 t23 t24 t25 t26 t27 t28 t29 t30 t31 t32 t33 t34 t35 t36 t37 t38 t39 t40 t41 t42 t49 t50 t51 t52 t53 t54 t55 t56 t57 t58 t59 t60 t61 t62 t63 t64 t65 t66 t67 t68 t69 t70 t71 t72 t73 t74 t75 t76 t77 t78 t79 t80 t81 t82 t83 t84 t85 t86 t87 t88 t89 t90 t91 t92 t93 t94 t95 t96 t97 t98 t99 t100 t101 t102 t103 t104 t105 t106 t107 ds l a w' → ∀ i ∈ Region.ready .any sc8O l, wpOp Try.prog sc8O Q i (fun a' w'' => sc8I w gP px py us rx ry pi ri t0 t1 t2 t4 t5 t6 t7 t8 t9 t10 t11 t12 t15 t16 t17 t18 t19 t20 t21 t22 t23 t24 t25 t26 t27 t28 t29 t30 t31 t32 t33 t34 t35 t36 t37 t38 t39 t40 t41 t42 t49 t50 t51 t52 t53 t54 t55 t56 t57 t58 t59 t60 t61 t62 t63 t64 t65 t66 t67 t68 t69 t70 t71 t72 t73 t74 t75 t76 t77 t78 t79 t80 t81 t82 t83 t84 t85 t86 t87 t88 t89 t90 t91 t92 t93 t94 t95 t96 t97 t98 t99 t100 t101 t102 t103 t104 t105 t106 t107 ds (l.setIfInBounds i true) a' w'') a w' := by
  simp only [sc8O, findR, Try.f12, Option.bind_some, Option.or, Option.getD, Nat.reduceEqDiff, if_true, if_false, reduceIte]
  rintro l a w' ⟨j0, j1, j2, j3, j4, j5, j6, j7, j8, x0, x1, x2, x3, x4, x5, x6, x8, g6, rfl, rfl, hB, h0, h1, h2, h3, h4, h5, h8, a6, s6⟩ i hi
  rw [mem_ready] at hi
  obtain ⟨hu, oo, ho, hd⟩ := hi
  have hin : i < 9 := by
    have := (Array.getElem?_eq_some_iff.1 ho).1
    simpa using this
  replace h0 := Lib.hid h0
  replace h1 := Lib.hid h1
  replace h2 := Lib.hid h2
  replace h3 := Lib.hid h3
  replace h4 := Lib.hid h4
  replace h5 := Lib.hid h5
  replace h8 := Lib.hid h8
  have hcase : i = 0 ∨ i = 1 ∨ i = 2 ∨ i = 3 ∨ i = 4 ∨ i = 5 ∨ i = 6 ∨ i = 7 ∨ i = 8 := by omega
  rcases hcase with rfl | rfl | rfl | rfl | rfl | rfl | rfl | rfl | rfl
  · obtain rfl := Option.some.inj ho
    simp [Region.binds] at hu hd
    clear hd
    refine wpOp_of rfl rfl ?_
    go_simp
    go_at_call 16
    refine (keep w.heap.size w (H1.out _) hB (Nat.le_refl _)).mono ?_
    rintro e w2 ⟨rfl, hB2, hb2⟩
    unfold sc8I
    exact ⟨true, j1, j2, j3, j4, j5, j6, j7, j8, _, x1, x2, x3, x4, x5, x6, x8, g6, rfl, rfl, hB2, fun _ => rfl, h1.out, h2.out, h3.out, h4.out, h5.out, h8.out, (fun hj => by obtain ⟨q1, q2, z0, z1, z2, z3, z4, z5, z6, z7, z8, q3, q4⟩ := a6 hj; exact ⟨q1, q2, z0, z1, z2, z3, z4, z5, z6, z7, z8, q3.below hb2, q4⟩), s6⟩
  · obtain rfl := Option.some.inj ho
    simp [Region.binds] at hu hd
    clear hd
    refine wpOp_of rfl rfl ?_
    have i0 : w'.cell? ⟨gP, 0, none⟩ = some (.int .u64 (lb px 0 : Nat)) := (KP.below hB).cell 0
    have i1 : w'.cell? ⟨gP, 1, none⟩ = some (.int .u64 (lb px 1 : Nat)) := (KP.below hB).cell 1
    have i2 : w'.cell? ⟨gP, 2, none⟩ = some (.int .u64 (lb px 2 : Nat)) := (KP.below hB).cell 2
    have i3 : w'.cell? ⟨gP, 3, none⟩ = some (.int .u64 (lb px 3 : Nat)) := (KP.below hB).cell 3
    have i4 : w'.cell? ⟨gP, 4, none⟩ = some (.int .u64 (lb py 0 : Nat)) := (KP.below hB).cell 4
    have i5 : w'.cell? ⟨gP, 5, none⟩ = some (.int .u64 (lb py 1 : Nat)) := (KP.below hB).cell 5
    have i6 : w'.cell? ⟨gP, 6, none⟩ = some (.int .u64 (lb py 2 : Nat)) := (KP.below hB).cell 6
    have i7 : w'.cell? ⟨gP, 7, none⟩ = some (.int .u64 (lb py 3 : Nat)) := (KP.below hB).cell 7
    have i8 : w'.cell? ⟨gP, 8, none⟩ = some (.bool pi) := (KP.below hB).cell 8
    go_simp
    unfold sc8I
    exact ⟨j0, true, j2, j3, j4, j5, j6, j7, j8, x0, _, x2, x3, x4, x5, x6, x8, g6, rfl, rfl, hB, h0.out, fun _ => rfl, h2.out, h3.out, h4.out, h5.out, h8.out, a6, s6⟩
  · obtain rfl := Option.some.inj ho
    simp [Region.binds] at hu hd
    have d0 : j0 = true := by simp [hd]
    have e0 := h0.out d0
    subst e0
    have d1 : j1 = true := by simp [hd]
    have e1 := h1.out d1
    subst e1
    subst d0
    subst d1
    clear hd
    refine wpOp_of rfl rfl ?_
    go_simp
    go_at_call 50
    refine (keep w.heap.size w (H2.out _) hB (Nat.le_refl _)).mono ?_
    rintro e w2 ⟨rfl, hB2, hb2⟩
    unfold sc8I
    exact ⟨true, true, true, j3, j4, j5, j6, j7, j8, _, _, _, x3, x4, x5, x6, x8, g6, rfl, rfl, hB2, h0.out, h1.out, fun _ => rfl, h3.out, h4.out, h5.out, h8.out, (fun hj => by obtain ⟨q1, q2, z0, z1, z2, z3, z4, z5, z6, z7, z8, q3, q4⟩ := a6 hj; exact ⟨q1, q2, z0, z1, z2, z3, z4, z5, z6, z7, z8, q3.below hb2, q4⟩), s6⟩
  · obtain rfl := Option.some.inj ho
    simp [Region.binds] at hu hd
    have d2 : j2 = true := by simp [hd]
    have e2 := h2.out d2
    subst e2
    subst d2
    clear hd
    refine wpOp_of rfl rfl ?_
    go_simp
    unfold sc8I
    exact ⟨j0, j1, true, true, j4, j5, j6, j7, j8, x0, x1, _, _, x4, x5, x6, x8, g6, rfl, rfl, hB, h0.out, h1.out, h2.out, fun _ => rfl, h4.out, h5.out, h8.out, a6, s6⟩
  · obtain rfl := Option.some.inj ho
    simp [Region.binds] at hu hd
    have d3 : j3 = true := by simp [hd]
    have e3 := h3.out d3
    subst e3
    subst d3
    clear hd
    refine wpOp_of rfl rfl ?_
    go_simp
    unfold sc8I
    exact ⟨j0, j1, j2, true, true, j5, j6, j7, j8, x0, x1, x2, _, _, x5, x6, x8, g6, rfl, rfl, hB, h0.out, h1.out, h2.out, h3.out, fun _ => rfl, h5.out, h8.out, a6, s6⟩
  · obtain rfl := Option.some.inj ho
    simp [Region.binds] at hu hd
    have d3 : j3 = true := by simp [hd]
    have e3 := h3.out d3
    subst e3
    subst d3
    clear hd
    refine wpOp_of rfl rfl ?_
    go_simp
    unfold sc8I
    exact ⟨j0, j1, j2, true, j4, true, j6, j7, j8, x0, x1, x2, _, x4, _, x6, x8, g6, rfl, rfl, hB, h0.out, h1.out, h2.out, h3.out, h4.out, fun _ => rfl, h8.out, a6, s6⟩
  · obtain rfl := Option.some.inj ho
    simp [Region.binds] at hu hd
    clear hd
    refine wpOp_of rfl rfl ?_
    have hs := hB.size
    go_simp
    unfold sc8I
    exact ⟨j0, j1, j2, j3, j4, j5, true, j7, j8, x0, x1, x2, x3, x4, x5, _, x8, w'.heap.size, rfl, rfl, (by go_grown), h0.out, h1.out, h2.out, h3.out, h4.out, h5.out, h8.out, (fun _ => ⟨rfl, hs, _, _, _, _, _, _, _, _, _, Bk.new rfl, fun hj => absurd (s6 hj) (by simp [hu])⟩), (fun _ => rfl)⟩
  · obtain rfl := Option.some.inj ho
    simp [Region.binds] at hu hd
    have d4 : j4 = true := by simp [hd]
    have e4 := h4.out d4
    subst e4
    have d6 : j6 = true := by simp [hd]
    subst d4
    subst d6
    clear hd
    refine wpOp_of rfl rfl ?_
    obtain ⟨p1, p2, z0, z1, z2, z3, z4, z5, z6, z7, z8, p3, p4⟩ := a6 rfl
    subst p1
    obtain ⟨⟨f0, f1, f2, f3⟩, ⟨f4, f5, f6, f7⟩, f8⟩ := p3.fros9
    obtain ⟨⟨c0, c1, c2, c3⟩, ⟨c4, c5, c6, c7⟩, c8⟩ := p3.cells9
    clear a6
    go_simp
    unfold sc8I
    exact ⟨j0, j1, j2, j3, true, j5, true, true, j8, x0, x1, x2, x3, _, x5, _, x8, g6, rfl, rfl, (by go_grown), h0.out, h1.out, h2.out, h3.out, h4.out, h5.out, h8.out, (fun _ => ⟨rfl, p2, _, _, _, _, _, _, _, _, _, Bk.put9 p3, fun _ => rfl⟩), (fun _ => rfl)⟩
  · obtain rfl := Option.some.inj ho
    simp [Region.binds] at hu hd
    have d5 : j5 = true := by simp [hd]
    have e5 := h5.out d5
    subst e5
    subst d5
    clear hd
    refine wpOp_of rfl rfl ?_
    go_simp
    unfold sc8I
    exact ⟨j0, j1, j2, j3, j4, true, j6, j7, true, x0, x1, x2, x3, x4, _, x6, _, g6, rfl, rfl, hB, h0.out, h1.out, h2.out, h3.out, h4.out, h5.out, fun _ => rfl, a6, s6⟩

set_option maxHeartbeats 16000000 in
theorem sc8_fin (gP px py us rx ry : Nat) (pi ri : Bool) (w : World)
    {t0 t1 t2 t4 t5 t6 t7 t8 t9 t10 t11 t12 t15 t16 t17 t18 t19 t20 t21 t22 t23 t24 t25 t26 t27 t28 t29 t30 t31 t32 t33 t34 t35 t36 t37 t38 t39 t40 t41 t42 t49 t50 t51 t52 t53 t54 t55 t56 t57 t58 t59 t60 t61 t62 t63 t64 t65 t66 t67 t68 t69 t70 t71 t72 t73 t74 t75 t76 t77 t78 t79 t80 t81 t82 t83 t84 t85 t86 t87 t88 t89 t90 t91 t92 t93 t94 t95 t96 t97 t98 t99 t100 t101 t102 t103 t104 t105 t106 t107 : Value} {ds : List Deferred} : ∀ l a w', sc8I w gP px py us rx ry pi ri t0 t1 t2 t4 t5 t6 t7 t8 t9 t10 t11 t12 t15 t16 t17 t18 t19 t20 t21 t22 t23 t24 t25 t26 t27 t28 t29 t30 t31 t32 t33 t34 t35 t36 t37 t38 t39 t40 t41 t42 t49 t50 t51 t52 t53 t54 t55 t56 t57 t58 t59 t60 t61 t62 t63 t64 t65 t66 t67 t68 t69 t70 t71 t72 t73 t74 t75 t76 t77 t78 t79 t80 t81 t82 t83 t84 t85 t86 t87 t88 t89 t90 t91 t92 t93 t94 t95 t96 t97 t98 t99 t100 t101 t102 t103 t104 t105 t106 t107 ds l a w' → Region.ready .any sc8O l = [] →
    ∃ (y0 y1 y2 y3 y4 y5 : Value) (g6 : Nat), a = { tmps := #[t0, t1, t2, .pointer (some ⟨gP, 0, none⟩), t4, t5, t6, t7, t8, t9, t10, t11, t12, .pointer (some ⟨g6, 0, none⟩), .int .i64 0, t15, t16, t17, t18, t19, t20, t21, t22, t23, t24, t25, t26, t27, t28, t29, t30, t31, t32, t33, t34, t35, t36, t37, t38, t39, t40, t41, t42, y3, y0, y1, y2, y4, y5, t49, t50, t51, t52, t53, t54, t55, t56, t57, t58, t59, t60, t61, t62, t63, t64, t65, t66, t67, t68, t69, t70, t71, t72, t73, t74, t75, t76, t77, t78, t79, t80, t81, t82, t83, t84, t85, t86, t87, t88, t89, t90, t91, t92, t93, t94, t95, t96, t97, t98, t99, t100, t101, t102, t103, t104, t105, t106, t107], defers := ds } ∧ Below w.heap.size w w' ∧ w.heap.size ≤ g6 ∧ Bk 51 w' g6 #[.int .u64 (lb rx 0 : Nat), .int .u64 (lb rx 1 : Nat), .int .u64 (lb rx 2 : Nat), .int .u64 (lb rx 3 : Nat), .int .u64 (lb ry 0 : Nat), .int .u64 (lb ry 1 : Nat), .int .u64 (lb ry 2 : Nat), .int .u64 (lb ry 3 : Nat), .bool ri] := by
  simp only [sc8O, findR, Try.f12, Option.bind_some, Option.or, Option.getD, Nat.reduceEqDiff, if_true, if_false, reduceIte]
  rintro l a w' ⟨j0, j1, j2, j3, j4, j5, j6, j7, j8, x0, x1, x2, x3, x4, x5, x6, x8, g6, rfl, rfl, hB, h0, h1, h2, h3, h4, h5, h8, a6, s6⟩ hr
  have hn := fun i => List.eq_nil_iff_forall_not_mem.1 hr i
  clear hr
  have d0 : j0 = true := by
    cases hj : j0
    · exact absurd (mem_ready.2 ⟨by simp [hj], _, rfl, by simp [Region.binds, hj]⟩) (hn 0)
    · rfl
  subst d0
  obtain rfl := h0 rfl
  have d1 : j1 = true := by
    cases hj : j1
    · exact absurd (mem_ready.2 ⟨by simp [hj], _, rfl, by simp [Region.binds, hj]⟩) (hn 1)
    · rfl
  subst d1
  obtain rfl := h1 rfl
  have d2 : j2 = true := by
    cases hj : j2
    · exact absurd (mem_ready.2 ⟨by simp [hj], _, rfl, by simp [Region.binds, hj]⟩) (hn 2)
    · rfl
  subst d2
  obtain rfl := h2 rfl
  have d3 : j3 = true := by
    cases hj : j3
    · exact absurd (mem_ready.2 ⟨by simp [hj], _, rfl, by simp [Region.binds, hj]⟩) (hn 3)
    · rfl
  subst d3
  obtain rfl := h3 rfl
  have d4 : j4 = true := by
    cases hj : j4
    · exact absurd (mem_ready.2 ⟨by simp [hj], _, rfl, by simp [Region.binds, hj]⟩) (hn 4)
    · rfl
  subst d4
  obtain rfl := h4 rfl
  have d5 : j5 = true := by
    cases hj : j5
    · exact absurd (mem_ready.2 ⟨by simp [hj], _, rfl, by simp [Region.binds, hj]⟩) (hn 5)
    · rfl
  subst d5
  obtain rfl := h5 rfl
  have d6 : j6 = true := by
    cases hj : j6
    · exact absurd (mem_ready.2 ⟨by simp [hj], _, rfl, by simp [Region.binds, hj]⟩) (hn 6)
    · rfl
  subst d6
  have d7 : j7 = true := by
    cases hj : j7
    · exact absurd (mem_ready.2 ⟨by simp [hj], _, rfl, by simp [Region.binds, hj]⟩) (hn 7)
    · rfl
  subst d7
  have d8 : j8 = true := by
    cases hj : j8
    · exact absurd (mem_ready.2 ⟨by simp [hj], _, rfl, by simp [Region.binds, hj]⟩) (hn 8)
    · rfl
  subst d8
  obtain rfl := h8 rfl
  obtain ⟨rfl, l6, z0, z1, z2, z3, z4, z5, z6, z7, z8, b6, r6⟩ := a6 rfl
  rw [r6 rfl] at b6
  exact ⟨_, _, _, _, _, _, g6, rfl, hB, l6, b6⟩

theorem sc8 (gP px py us rx ry : Nat) (pi ri : Bool) (w : World) (KP : Bk 51 w gP #[.int .u64 (lb px 0 : Nat), .int .u64 (lb px 1 : Nat), .int .u64 (lb px 2 : Nat), .int .u64 (lb px 3 : Nat), .int .u64 (lb py 0 : Nat), .int .u64 (lb py 1 : Nat), .int .u64 (lb py 2 : Nat), .int .u64 (lb py 3 : Nat), .bool pi]) (H1 : Hid (∀ w, Calls Try.prog 16 #[.int .i64 1] w fun e w' => e = .returned (.agg #[.int .u64 (lb us 0 : Nat), .int .u64 (lb us 1 : Nat), .int .u64 (lb us 2 : Nat), .int .u64 (lb us 3 : Nat)]) ∧ Below w.heap.size w w')) (H2 : Hid (∀ w, Calls Try.prog 50 #[.agg #[.int .u64 (lb us 0 : Nat), .int .u64 (lb us 1 : Nat), .int .u64 (lb us 2 : Nat), .int .u64 (lb us 3 : Nat)], .agg #[.int .u64 (lb px 0 : Nat), .int .u64 (lb px 1 : Nat), .int .u64 (lb px 2 : Nat), .int .u64 (lb px 3 : Nat), .int .u64 (lb py 0 : Nat), .int .u64 (lb py 1 : Nat), .int .u64 (lb py 2 : Nat), .int .u64 (lb py 3 : Nat), .bool pi]] w fun e w' => e = .returned (.tuple #[.agg #[.int .u64 (lb rx 0 : Nat), .int .u64 (lb rx 1 : Nat), .int .u64 (lb rx 2 : Nat), .int .u64 (lb rx 3 : Nat), .int .u64 (lb ry 0 : Nat), .int .u64 (lb ry 1 : Nat), .int .u64 (lb ry 2 : Nat), .int .u64 (lb ry 3 : Nat), .bool ri], .int .i64 0]) ∧ Below w.heap.size w w'))
    {t0 t1 t2 t4 t5 t6 t7 t8 t9 t10 t11 t12 t13 t14 t15 t16 t17 t18 t19 t20 t21 t22 t23 t24 t25 t26 t27 t28 t29 t30 t31 t32 t33 t34 t35 t36 t37 t38 t39 t40 t41 t42 t43 t44 t45 t46 t47 t48 t49 t50 t51 t52 t53 t54 t55 t56 t57 t58 t59 t60 t61 t62 t63 t64 t65 t66 t67 t68 t69 t70 t71 t72 t73 t74 t75 t76 t77 t78 t79 t80 t81 t82 t83 t84 t85 t86 t87 t88 t89 t90 t91 t92 t93 t94 t95 t96 t97 t98 t99 t100 t101 t102 t103 t104 t105 t106 t107 : Value} {ds : List Deferred} {K : Act → World → Prop} {Q : Exit → Act → World → Prop}
    (h : ∀ (y0 y1 y2 y3 y4 y5 : Value) (g6 : Nat) (w' : World) (hb : Below w.heap.size w w') (hg6 : w.heap.size ≤ g6) (hk6 : Bk 51 w' g6 #[.int .u64 (lb rx 0 : Nat), .int .u64 (lb rx 1 : Nat), .int .u64 (lb rx 2 : Nat), .int .u64 (lb rx 3 : Nat), .int .u64 (lb ry 0 : Nat), .int .u64 (lb ry 1 : Nat), .int .u64 (lb ry 2 : Nat), .int .u64 (lb ry 3 : Nat), .bool ri]), K { tmps := #[t0, t1, t2, .pointer (some ⟨gP, 0, none⟩), t4, t5, t6, t7, t8, t9, t10, t11, t12, .pointer (some ⟨g6, 0, none⟩), .int .i64 0, t15, t16, t17, t18, t19, t20, t21, t22, t23, t24, t25, t26, t27, t28, t29, t30, t31, t32, t33, t34, t35, t36, t37, t38, t39, t40, t41, t42, y3, y0, y1, y2, y4, y5, t49, t50, t51, t52, t53, t54, t55, t56, t57, t58, t59, t60, t61, t62, t63, t64, t65, t66, t67, t68, t69, t70, t71, t72, t73, t74, t75, t76, t77, t78, t79, t80, t81, t82, t83, t84, t85, t86, t87, t88, t89, t90, t91, t92, t93, t94, t95, t96, t97, t98, t99, t100, t101, t102, t103, t104, t105, t106, t107], defers := ds } w') :
    (Code.region 8 sc8O true).wp Try.prog (Exit.then K Q) { tmps := #[t0, t1, t2, .pointer (some ⟨gP, 0, none⟩), t4, t5, t6, t7, t8, t9, t10, t11, t12, t13, t14, t15, t16, t17, t18, t19, t20, t21, t22, t23, t24, t25, t26, t27, t28, t29, t30, t31, t32, t33, t34, t35, t36, t37, t38, t39, t40, t41, t42, t43, t44, t45, t46, t47, t48, t49, t50, t51, t52, t53, t54, t55, t56, t57, t58, t59, t60, t61, t62, t63, t64, t65, t66, t67, t68, t69, t70, t71, t72, t73, t74, t75, t76, t77, t78, t79, t80, t81, t82, t83, t84, t85, t86, t87, t88, t89, t90, t91, t92, t93, t94, t95, t96, t97, t98, t99, t100, t101, t102, t103, t104, t105, t106, t107], defers := ds } w := by
  have hsz : sc8O.size = 9 := by kernel_rfl
  refine wp_region_any mixed ?_
  rw [hsz]
  refine wpAny_inv (I := sc8I w gP px py us rx ry pi ri t0 t1 t2 t4 t5 t6 t7 t8 t9 t10 t11 t12 t15 t16 t17 t18 t19 t20 t21 t22 t23 t24 t25 t26 t27 t28 t29 t30 t31 t32 t33 t34 t35 t36 t37 t38 t39 t40 t41 t42 t49 t50 t51 t52 t53 t54 t55 t56 t57 t58 t59 t60 t61 t62 t63 t64 t65 t66 t67 t68 t69 t70 t71 t72 t73 t74 t75 t76 t77 t78 t79 t80 t81 t82 t83 t84 t85 t86 t87 t88 t89 t90 t91 t92 t93 t94 t95 t96 t97 t98 t99 t100 t101 t102 t103 t104 t105 t106 t107 ds) (sc8_steps gP px py us rx ry pi ri w KP H1 H2) (fun l a w' hI hr => ?_) 9 _ _ _ (by decide) ?_
  · obtain ⟨y0, y1, y2, y3, y4, y5, g6, rfl, hb, l6, b6⟩ := sc8_fin gP px py us rx ry pi ri w l a w' hI hr
    exact h _ _ _ _ _ _ g6 w' hb l6 b6
  · exact ⟨false, false, false, false, false, false, false, false, false, t44, t45, t46, t43, t47, t48, t13, t14, 0, rfl, rfl, ⟨rfl, rfl, rfl, Nat.le_refl _, fun _ _ => rfl⟩, (fun h => by cases h), (fun h => by cases h), (fun h => by cases h), (fun h => by cases h), (fun h => by cases h), (fun h => by cases h), (fun h => by cases h), (fun h => by cases h), (fun h => by cases h)⟩
end Go.Proofs.Ytglmmodkflkkkaa
