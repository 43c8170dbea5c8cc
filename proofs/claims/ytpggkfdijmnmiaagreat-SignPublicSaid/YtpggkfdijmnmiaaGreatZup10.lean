/- The drawn regions of the reference's sum of two points. Condition: its numbers are below 65536 to the 120. The sum of two points, as the reference tells it, is the curve's. Condition: points of the curve. The sum of two opposite points, as the reference tells it: the walk. Condition: points of the curve. -/
import Derived.Test.YtpggkfdijmnmiaaGreatZup09
set_option linter.unusedVariables false
set_option linter.unusedSimpArgs false
set_option maxRecDepth 100000
namespace Go.Proofs.YtpggkfdijmnmiaaGreat.Ref
open Go.RowKit Go.Proofs.YtpggkfdijmnmiaaGreat.Digits Limbs Curve
def su5F (w0 : World) (gP gQ gR xa ya xb yb : Nat) (nx cx ny cy mx dx my dy : Nat) (ax ay bx bb : Option Addr) (t0 t1 t5 t6 t7 t8 t9 t10 t11 t12 t13 t14 t15 t16 t22 t23 t24 t25 t26 t27 t28 t29 t30 t31 t32 t33 t34 t35 t36 t37 t38 t39 t40 t41 t42 t43 t44 t45 t46 t47 t48 t49 t50 t51 t52 t53 t54 t55 t56 t57 t58 t59 t60 t61 t62 t63 t64 t65 t66 t67 t68 t69 t70 t71 t72 t73 : Value) (ds : List Deferred) (a : Act) (w : World) : Prop :=
  ∃ y0 y1 y2 y3 : Value, ∃ wm : World, a = { tmps := #[t0, t1, .pointer (some ⟨gP, 0, none⟩), .pointer (some ⟨gQ, 0, none⟩), .pointer (some ⟨gR, 0, none⟩), t5, t6, t7, t8, t9, t10, t11, t12, t13, t14, t15, t16, .bool (Po.same (Po.mk xa ya false) (Po.mk xb yb false).neg), y0, y1, y2, y3, t22, t23, t24, t25, t26, t27, t28, t29, t30, t31, t32, t33, t34, t35, t36, t37, t38, t39, t40, t41, t42, t43, t44, t45, t46, t47, t48, t49, t50, t51, t52, t53, t54, t55, t56, t57, t58, t59, t60, t61, t62, t63, t64, t65, t66, t67, t68, t69, t70, t71, t72, t73], defers := ds } ∧ Below w0.heap.size w0 wm ∧ w = wm
def su5I (w0 : World) (gP gQ gR xa ya xb yb : Nat) (nx cx ny cy mx dx my dy : Nat) (ax ay bx bb : Option Addr) (t0 t1 t5 t6 t7 t8 t9 t10 t11 t12 t13 t14 t15 t16 t22 t23 t24 t25 t26 t27 t28 t29 t30 t31 t32 t33 t34 t35 t36 t37 t38 t39 t40 t41 t42 t43 t44 t45 t46 t47 t48 t49 t50 t51 t52 t53 t54 t55 t56 t57 t58 t59 t60 t61 t62 t63 t64 t65 t66 t67 t68 t69 t70 t71 t72 t73 : Value) (ds : List Deferred) (l : Array Bool) (a : Act) (w : World) : Prop :=
  ∃ j0 j1 j2 j3 j4 : Bool, ∃ x0 x1 x2 x3 x4 : Value, l = #[j0, j1, j2, j3, j4] ∧ a = { tmps := #[t0, t1, .pointer (some ⟨gP, 0, none⟩), .pointer (some ⟨gQ, 0, none⟩), .pointer (some ⟨gR, 0, none⟩), t5, t6, t7, t8, t9, t10, t11, t12, t13, t14, t15, t16, x4, x0, x1, x2, x3, t22, t23, t24, t25, t26, t27, t28, t29, t30, t31, t32, t33, t34, t35, t36, t37, t38, t39, t40, t41, t42, t43, t44, t45, t46, t47, t48, t49, t50, t51, t52, t53, t54, t55, t56, t57, t58, t59, t60, t61, t62, t63, t64, t65, t66, t67, t68, t69, t70, t71, t72, t73], defers := ds } ∧ Below w0.heap.size w0 w ∧
  (j0 = true → x0 = .agg #[.bool false, .slice ax nx cx, .slice ay ny cy]) ∧ (j1 = true → x1 = .agg #[.bool false, .slice bx mx dx, .slice bb my dy]) ∧ (j2 = true → RP w x2 ((Po.mk xb yb false).neg)) ∧ (j3 = true → x3 = .bool (Po.same (Po.mk xa ya false) (Po.mk xb yb false).neg)) ∧ (j4 = true → x4 = .bool (Po.same (Po.mk xa ya false) (Po.mk xb yb false).neg))
noncomputable def su5O : Array Oper := (Tryz.f66.body.bind fun c => findR c 5).getD #[]
set_option maxHeartbeats 16000000 in
theorem su5_steps (gP gQ gR xa ya xb yb : Nat) (nx cx ny cy mx dx my dy : Nat) (ax ay bx bb : Option Addr) (w : World) (KP : Bk 72 w gP #[.bool false, .slice ax nx cx, .slice ay ny cy]) (KQ : Bk 72 w gQ #[.bool false, .slice bx mx dx, .slice bb my dy]) (HY : yb < big) (HP : RP w (.agg #[.bool false, .slice ax nx cx, .slice ay ny cy]) (Po.mk xa ya false)) (HQ : RP w (.agg #[.bool false, .slice bx mx dx, .slice bb my dy]) (Po.mk xb yb false))
    {t0 t1 t5 t6 t7 t8 t9 t10 t11 t12 t13 t14 t15 t16 t22 t23 t24 t25 t26 t27 t28 t29 t30 t31 t32 t33 t34 t35 t36 t37 t38 t39 t40 t41 t42 t43 t44 t45 t46 t47 t48 t49 t50 t51 t52 t53 t54 t55 t56 t57 t58 t59 t60 t61 t62 t63 t64 t65 t66 t67 t68 t69 t70 t71 t72 t73 : Value} {ds : List Deferred} {Q : Exit → Act → World → Prop} :
    ∀ l a w', su5I w gP gQ gR xa ya xb yb nx cx ny cy mx dx my dy ax ay bx bb t0 t1 t5 t6 t7 t8 t9 t10 t11 t12 t13 t14 t15 t16 t22 t23 t24 t25 t26 t27 t28 t29 t30 t31 t32 t33 t34 t35 t36 t37 t38 t39 t40 t41 t42 t43 t44 t45 t46 t47 t48 t49 t50 t51 t52 t53 t54 t55 t56 t57 t58 t59 t60 t61 t62 t63 t64 t65 t66 t67 t68 t69 t70 t71 t72 t73 ds l a w' → ∀ i ∈ Region.ready .any su5O l, wpOp Tryz.prog su5O Q i (fun a' w'' => su5I w gP gQ gR xa ya xb yb nx cx ny cy mx dx my dy ax ay bx bb t0 t1 t5 t6 t7 t8 t9 t10 t11 t12 t13 t14 t15 t16 t22 t23 t24 t25 t26 t27 t28 t29 t30 t31 t32 t33 t34 t35 t36 t37 t38 t39 t40 t41 t42 t43 t44 t45 t46 t47 t48 t49 t50 t51 t52 t53 t54 t55 t56 t57 t58 t59 t60 t61 t62 t63 t64 t65 t66 t67 t68 t69 t70 t71 t72 t73 ds (l.setIfInBounds i true) a' w'') a w' := by
  simp only [su5O, findR, Tryz.f66, Option.bind_some, Option.or, Option.getD, Nat.reduceEqDiff, if_true, if_false, reduceIte]
  rintro l a w' hI i hi
  rw [mem_ready] at hi
  obtain ⟨hu, oo, ho, hd⟩ := hi
  have hin : i < 5 := by
    have := (Array.getElem?_eq_some_iff.1 ho).1
    simpa using this
  have hcase : i = 0 ∨ i = 1 ∨ i = 2 ∨ i = 3 ∨ i = 4 := by omega
  obtain ⟨j0, j1, j2, j3, j4, x0, x1, x2, x3, x4, rfl, rfl, hB, h0, h1, h2, h3, h4⟩ := hI
  replace h0 := Lib.hid h0
  replace h1 := Lib.hid h1
  replace h2 := Lib.hid h2
  replace h3 := Lib.hid h3
  replace h4 := Lib.hid h4
  rcases hcase with rfl | rfl | rfl | rfl | rfl
  · obtain rfl := Option.some.inj ho
    simp [Region.binds] at hu hd
    clear hd
    refine wpOp_of rfl rfl ?_
    have i0 : w'.cell? ⟨gP, 0, none⟩ = some (.bool false) := (KP.below hB).cell 0
    have i1 : w'.cell? ⟨gP, 1, none⟩ = some (.slice ax nx cx) := (KP.below hB).cell 1
    have i2 : w'.cell? ⟨gP, 2, none⟩ = some (.slice ay ny cy) := (KP.below hB).cell 2
    go_simp
    unfold su5I
    exact ⟨true, j1, j2, j3, j4, _, x1, x2, x3, x4, rfl, rfl, hB, fun _ => rfl, h1.out, h2.out, h3.out, h4.out⟩
  · obtain rfl := Option.some.inj ho
    simp [Region.binds] at hu hd
    clear hd
    refine wpOp_of rfl rfl ?_
    have i0 : w'.cell? ⟨gQ, 0, none⟩ = some (.bool false) := (KQ.below hB).cell 0
    have i1 : w'.cell? ⟨gQ, 1, none⟩ = some (.slice bx mx dx) := (KQ.below hB).cell 1
    have i2 : w'.cell? ⟨gQ, 2, none⟩ = some (.slice bb my dy) := (KQ.below hB).cell 2
    go_simp
    unfold su5I
    exact ⟨j0, true, j2, j3, j4, x0, _, x2, x3, x4, rfl, rfl, hB, h0.out, fun _ => rfl, h2.out, h3.out, h4.out⟩
  · obtain rfl := Option.some.inj ho
    simp [Region.binds] at hu hd
    have d1 : j1 = true := by simp [hd]
    have e1 := h1.out d1
    subst e1
    subst d1
    clear hd
    refine wpOp_of rfl rfl ?_
    go_simp
    go_at_call 126
    refine (qk w.heap.size w (opp7 _ (Po.mk xb yb false) HY _ (HQ.below hB)) hB (Nat.le_refl _)).mono ?_
    rintro e w2 ⟨v', rfl, hn', hB2, hb2⟩
    unfold su5I
    exact ⟨j0, true, true, j3, j4, x0, _, _, x3, x4, rfl, rfl, hB2, h0.out, h1.out, fun _ => hn', h3.out, h4.out⟩
  · obtain rfl := Option.some.inj ho
    simp [Region.binds] at hu hd
    have d0 : j0 = true := by simp [hd]
    have d2 : j2 = true := by simp [hd]
    have e0 := h0.out d0
    subst e0
    subst d0
    subst d2
    clear hd
    refine wpOp_of rfl rfl ?_
    go_simp
    go_at_call 125
    refine (keep w.heap.size w (same7 _ _ (Po.mk xa ya false) (Po.mk xb yb false).neg _ (HP.below hB) (h2.out rfl)) hB (Nat.le_refl _)).mono ?_
    rintro e w2 ⟨rfl, hB2, hb2⟩
    unfold su5I
    exact ⟨true, j1, true, true, j4, _, x1, x2, _, x4, rfl, rfl, hB2, h0.out, h1.out, fun hj => (h2.out hj).below hb2, fun _ => rfl, h4.out⟩
  · obtain rfl := Option.some.inj ho
    simp [Region.binds] at hu hd
    have d3 : j3 = true := by simp [hd]
    have e3 := h3.out d3
    subst e3
    subst d3
    clear hd
    refine wpOp_of rfl rfl ?_
    go_simp
    unfold su5I
    exact ⟨j0, j1, j2, true, true, x0, x1, x2, _, _, rfl, rfl, hB, h0.out, h1.out, h2.out, h3.out, fun _ => rfl⟩
set_option maxHeartbeats 16000000 in
theorem su5_fin (gP gQ gR xa ya xb yb : Nat) (nx cx ny cy mx dx my dy : Nat) (ax ay bx bb : Option Addr) (w : World) {t0 t1 t5 t6 t7 t8 t9 t10 t11 t12 t13 t14 t15 t16 t22 t23 t24 t25 t26 t27 t28 t29 t30 t31 t32 t33 t34 t35 t36 t37 t38 t39 t40 t41 t42 t43 t44 t45 t46 t47 t48 t49 t50 t51 t52 t53 t54 t55 t56 t57 t58 t59 t60 t61 t62 t63 t64 t65 t66 t67 t68 t69 t70 t71 t72 t73 : Value} {ds : List Deferred} : ∀ l a w1, su5I w gP gQ gR xa ya xb yb nx cx ny cy mx dx my dy ax ay bx bb t0 t1 t5 t6 t7 t8 t9 t10 t11 t12 t13 t14 t15 t16 t22 t23 t24 t25 t26 t27 t28 t29 t30 t31 t32 t33 t34 t35 t36 t37 t38 t39 t40 t41 t42 t43 t44 t45 t46 t47 t48 t49 t50 t51 t52 t53 t54 t55 t56 t57 t58 t59 t60 t61 t62 t63 t64 t65 t66 t67 t68 t69 t70 t71 t72 t73 ds l a w1 → Region.ready .any su5O l = [] → su5F w gP gQ gR xa ya xb yb nx cx ny cy mx dx my dy ax ay bx bb t0 t1 t5 t6 t7 t8 t9 t10 t11 t12 t13 t14 t15 t16 t22 t23 t24 t25 t26 t27 t28 t29 t30 t31 t32 t33 t34 t35 t36 t37 t38 t39 t40 t41 t42 t43 t44 t45 t46 t47 t48 t49 t50 t51 t52 t53 t54 t55 t56 t57 t58 t59 t60 t61 t62 t63 t64 t65 t66 t67 t68 t69 t70 t71 t72 t73 ds a w1 := by
  simp only [su5O, findR, Tryz.f66, Option.bind_some, Option.or, Option.getD, Nat.reduceEqDiff, if_true, if_false, reduceIte]
  rintro l a w1 hI hr
  obtain ⟨j0, j1, j2, j3, j4, x0, x1, x2, x3, x4, rfl, rfl, hB, h0, h1, h2, h3, h4⟩ := hI
  have hn := fun i => List.eq_nil_iff_forall_not_mem.1 hr i
  clear hr
  cases j0; exact absurd (mem_ready.2 ⟨by simp, _, rfl, by simp [Region.binds]⟩) (hn 0)
  cases j1; exact absurd (mem_ready.2 ⟨by simp, _, rfl, by simp [Region.binds]⟩) (hn 1)
  cases j2; exact absurd (mem_ready.2 ⟨by simp, _, rfl, by simp [Region.binds]⟩) (hn 2)
  cases j3; exact absurd (mem_ready.2 ⟨by simp, _, rfl, by simp [Region.binds]⟩) (hn 3)
  cases j4; exact absurd (mem_ready.2 ⟨by simp, _, rfl, by simp [Region.binds]⟩) (hn 4)
  obtain rfl := h4 rfl
  exact ⟨_, _, _, _, w1, rfl, hB, rfl⟩
theorem su5 (gP gQ gR xa ya xb yb : Nat) (nx cx ny cy mx dx my dy : Nat) (ax ay bx bb : Option Addr) (w : World) (KP : Bk 72 w gP #[.bool false, .slice ax nx cx, .slice ay ny cy]) (KQ : Bk 72 w gQ #[.bool false, .slice bx mx dx, .slice bb my dy]) (HY : yb < big) (HP : RP w (.agg #[.bool false, .slice ax nx cx, .slice ay ny cy]) (Po.mk xa ya false)) (HQ : RP w (.agg #[.bool false, .slice bx mx dx, .slice bb my dy]) (Po.mk xb yb false)) {t0 t1 t5 t6 t7 t8 t9 t10 t11 t12 t13 t14 t15 t16 t17 t18 t19 t20 t21 t22 t23 t24 t25 t26 t27 t28 t29 t30 t31 t32 t33 t34 t35 t36 t37 t38 t39 t40 t41 t42 t43 t44 t45 t46 t47 t48 t49 t50 t51 t52 t53 t54 t55 t56 t57 t58 t59 t60 t61 t62 t63 t64 t65 t66 t67 t68 t69 t70 t71 t72 t73 : Value} {ds : List Deferred} {K : Act → World → Prop} {Q : Exit → Act → World → Prop}
    (h : ∀ (y0 y1 y2 y3 : Value) (w1 : World) (hb : Below w.heap.size w w1), K { tmps := #[t0, t1, .pointer (some ⟨gP, 0, none⟩), .pointer (some ⟨gQ, 0, none⟩), .pointer (some ⟨gR, 0, none⟩), t5, t6, t7, t8, t9, t10, t11, t12, t13, t14, t15, t16, .bool (Po.same (Po.mk xa ya false) (Po.mk xb yb false).neg), y0, y1, y2, y3, t22, t23, t24, t25, t26, t27, t28, t29, t30, t31, t32, t33, t34, t35, t36, t37, t38, t39, t40, t41, t42, t43, t44, t45, t46, t47, t48, t49, t50, t51, t52, t53, t54, t55, t56, t57, t58, t59, t60, t61, t62, t63, t64, t65, t66, t67, t68, t69, t70, t71, t72, t73], defers := ds } w1) :
    (Code.region 5 su5O true).wp Tryz.prog (Exit.then K Q) { tmps := #[t0, t1, .pointer (some ⟨gP, 0, none⟩), .pointer (some ⟨gQ, 0, none⟩), .pointer (some ⟨gR, 0, none⟩), t5, t6, t7, t8, t9, t10, t11, t12, t13, t14, t15, t16, t17, t18, t19, t20, t21, t22, t23, t24, t25, t26, t27, t28, t29, t30, t31, t32, t33, t34, t35, t36, t37, t38, t39, t40, t41, t42, t43, t44, t45, t46, t47, t48, t49, t50, t51, t52, t53, t54, t55, t56, t57, t58, t59, t60, t61, t62, t63, t64, t65, t66, t67, t68, t69, t70, t71, t72, t73], defers := ds } w := by
  have hsz : su5O.size = 5 := by kernel_rfl
  refine wp_region_any (show Tryz.prog.follows .mixedOrders = true from by kernel_rfl) ?_
  rw [hsz]
  refine wpAny_inv (I := su5I w gP gQ gR xa ya xb yb nx cx ny cy mx dx my dy ax ay bx bb t0 t1 t5 t6 t7 t8 t9 t10 t11 t12 t13 t14 t15 t16 t22 t23 t24 t25 t26 t27 t28 t29 t30 t31 t32 t33 t34 t35 t36 t37 t38 t39 t40 t41 t42 t43 t44 t45 t46 t47 t48 t49 t50 t51 t52 t53 t54 t55 t56 t57 t58 t59 t60 t61 t62 t63 t64 t65 t66 t67 t68 t69 t70 t71 t72 t73 ds) (su5_steps gP gQ gR xa ya xb yb nx cx ny cy mx dx my dy ax ay bx bb w KP KQ HY HP HQ) (fun l a w' hI hr => ?_) 5 _ _ _ (by decide) ?_
  · obtain ⟨y0, y1, y2, y3, wm, rfl, hb, rfl⟩ := su5_fin gP gQ gR xa ya xb yb nx cx ny cy mx dx my dy ax ay bx bb w l a w' hI hr
    exact h _ _ _ _ _ hb
  · exact ⟨false, false, false, false, false, t18, t19, t20, t21, t17, rfl, rfl, ⟨rfl, rfl, rfl, Nat.le_refl _, fun _ _ => rfl⟩, (fun h => by cases h), (fun h => by cases h), (fun h => by cases h), (fun h => by cases h), (fun h => by cases h)⟩
def su7F (w0 : World) (gP gQ gR xa ya xb yb : Nat) (nx cx ny cy mx dx my dy : Nat) (ax ay bx bb : Option Addr) (t0 t1 t7 t8 t9 t10 t11 t12 t13 t14 t15 t16 t17 t18 t19 t20 t21 t22 t33 t34 t35 t36 t37 t38 t39 t40 t41 t42 t43 t44 t45 t46 t47 t48 t49 t50 t51 t52 t53 t54 t55 t56 t57 t58 t59 t60 t61 t62 t63 t64 t65 t66 t67 t68 t69 t70 t71 t72 t73 : Value) (ds : List Deferred) (a : Act) (w : World) : Prop :=
  ∃ y0 y1 y2 y3 y4 y5 y6 y7 y8 y9 y10 y11 : Value, ∃ wm : World, a = { tmps := #[t0, t1, .pointer (some ⟨gP, 0, none⟩), .pointer (some ⟨gQ, 0, none⟩), .pointer (some ⟨gR, 0, none⟩), y10, y11, t7, t8, t9, t10, t11, t12, t13, t14, t15, t16, t17, t18, t19, t20, t21, t22, y0, y1, y2, y3, y4, y5, y6, y7, y8, y9, t33, t34, t35, t36, t37, t38, t39, t40, t41, t42, t43, t44, t45, t46, t47, t48, t49, t50, t51, t52, t53, t54, t55, t56, t57, t58, t59, t60, t61, t62, t63, t64, t65, t66, t67, t68, t69, t70, t71, t72, t73], defers := ds } ∧ Below w0.heap.size w0 wm ∧ w = wm ∧ NV wm y10 (sj yb ya) ∧ NV wm y11 (sj xb xa)
def su7I (w0 : World) (gP gQ gR xa ya xb yb : Nat) (nx cx ny cy mx dx my dy : Nat) (ax ay bx bb : Option Addr) (t0 t1 t7 t8 t9 t10 t11 t12 t13 t14 t15 t16 t17 t18 t19 t20 t21 t22 t33 t34 t35 t36 t37 t38 t39 t40 t41 t42 t43 t44 t45 t46 t47 t48 t49 t50 t51 t52 t53 t54 t55 t56 t57 t58 t59 t60 t61 t62 t63 t64 t65 t66 t67 t68 t69 t70 t71 t72 t73 : Value) (ds : List Deferred) (l : Array Bool) (a : Act) (w : World) : Prop :=
  ∃ j0 j1 j2 j3 j4 j5 j6 j7 j8 j9 j10 j11 : Bool, ∃ x0 x1 x2 x3 x4 x5 x6 x7 x8 x9 x10 x11 : Value, l = #[j0, j1, j2, j3, j4, j5, j6, j7, j8, j9, j10, j11] ∧ a = { tmps := #[t0, t1, .pointer (some ⟨gP, 0, none⟩), .pointer (some ⟨gQ, 0, none⟩), .pointer (some ⟨gR, 0, none⟩), x10, x11, t7, t8, t9, t10, t11, t12, t13, t14, t15, t16, t17, t18, t19, t20, t21, t22, x0, x1, x2, x3, x4, x5, x6, x7, x8, x9, t33, t34, t35, t36, t37, t38, t39, t40, t41, t42, t43, t44, t45, t46, t47, t48, t49, t50, t51, t52, t53, t54, t55, t56, t57, t58, t59, t60, t61, t62, t63, t64, t65, t66, t67, t68, t69, t70, t71, t72, t73], defers := ds } ∧ Below w0.heap.size w0 w ∧
  (j0 = true → x0 = .pointer (some ⟨gQ, 2, none⟩)) ∧ (j1 = true → x1 = .slice bb my dy) ∧ (j2 = true → x2 = .pointer (some ⟨gP, 2, none⟩)) ∧ (j3 = true → x3 = .slice ay ny cy) ∧ (j4 = true → NV w x4 (sj yb ya)) ∧ (j5 = true → x5 = .pointer (some ⟨gQ, 1, none⟩)) ∧ (j6 = true → x6 = .slice bx mx dx) ∧ (j7 = true → x7 = .pointer (some ⟨gP, 1, none⟩)) ∧ (j8 = true → x8 = .slice ax nx cx) ∧ (j9 = true → NV w x9 (sj xb xa)) ∧ (j10 = true → NV w x10 (sj yb ya)) ∧ (j11 = true → NV w x11 (sj xb xa))
noncomputable def su7O : Array Oper := (Tryz.f66.body.bind fun c => findR c 7).getD #[]
set_option maxHeartbeats 16000000 in
theorem su7_steps (gP gQ gR xa ya xb yb : Nat) (nx cx ny cy mx dx my dy : Nat) (ax ay bx bb : Option Addr) (w : World) (KP : Bk 72 w gP #[.bool false, .slice ax nx cx, .slice ay ny cy]) (KQ : Bk 72 w gQ #[.bool false, .slice bx mx dx, .slice bb my dy]) (HB1 : xa < big) (HB2 : ya < big) (HB3 : xb < big) (HB4 : yb < big) (N1 : NV w (.slice ax nx cx) xa) (N2 : NV w (.slice ay ny cy) ya) (N3 : NV w (.slice bx mx dx) xb) (N4 : NV w (.slice bb my dy) yb)
    {t0 t1 t7 t8 t9 t10 t11 t12 t13 t14 t15 t16 t17 t18 t19 t20 t21 t22 t33 t34 t35 t36 t37 t38 t39 t40 t41 t42 t43 t44 t45 t46 t47 t48 t49 t50 t51 t52 t53 t54 t55 t56 t57 t58 t59 t60 t61 t62 t63 t64 t65 t66 t67 t68 t69 t70 t71 t72 t73 : Value} {ds : List Deferred} {Q : Exit → Act → World → Prop} :
    ∀ l a w', su7I w gP gQ gR xa ya xb yb nx cx ny cy mx dx my dy ax ay bx bb t0 t1 t7 t8 t9 t10 t11 t12 t13 t14 t15 t16 t17 t18 t19 t20 t21 t22 t33 t34 t35 t36 t37 t38 t39 t40 t41 t42 t43 t44 t45 t46 t47 t48 t49 t50 t51 t52 t53 t54 t55 t56 t57 t58 t59 t60 t61 t62 t63 t64 t65 t66 t67 t68 t69 t70 t71 t72 t73 ds l a w' → ∀ i ∈ Region.ready .any su7O l, wpOp Tryz.prog su7O Q i (fun a' w'' => su7I w gP gQ gR xa ya xb yb nx cx ny cy mx dx my dy ax ay bx bb t0 t1 t7 t8 t9 t10 t11 t12 t13 t14 t15 t16 t17 t18 t19 t20 t21 t22 t33 t34 t35 t36 t37 t38 t39 t40 t41 t42 t43 t44 t45 t46 t47 t48 t49 t50 t51 t52 t53 t54 t55 t56 t57 t58 t59 t60 t61 t62 t63 t64 t65 t66 t67 t68 t69 t70 t71 t72 t73 ds (l.setIfInBounds i true) a' w'') a w' := by
  simp only [su7O, findR, Tryz.f66, Option.bind_some, Option.or, Option.getD, Nat.reduceEqDiff, if_true, if_false, reduceIte]
  rintro l a w' hI i hi
  rw [mem_ready] at hi
  obtain ⟨hu, oo, ho, hd⟩ := hi
  have hin : i < 12 := by
    have := (Array.getElem?_eq_some_iff.1 ho).1
    simpa using this
  have hcase : i = 0 ∨ i = 1 ∨ i = 2 ∨ i = 3 ∨ i = 4 ∨ i = 5 ∨ i = 6 ∨ i = 7 ∨ i = 8 ∨ i = 9 ∨ i = 10 ∨ i = 11 := by omega
  obtain ⟨j0, j1, j2, j3, j4, j5, j6, j7, j8, j9, j10, j11, x0, x1, x2, x3, x4, x5, x6, x7, x8, x9, x10, x11, rfl, rfl, hB, h0, h1, h2, h3, h4, h5, h6, h7, h8, h9, h10, h11⟩ := hI
  replace h0 := Lib.hid h0
  replace h1 := Lib.hid h1
  replace h2 := Lib.hid h2
  replace h3 := Lib.hid h3
  replace h4 := Lib.hid h4
  replace h5 := Lib.hid h5
  replace h6 := Lib.hid h6
  replace h7 := Lib.hid h7
  replace h8 := Lib.hid h8
  replace h9 := Lib.hid h9
  replace h10 := Lib.hid h10
  replace h11 := Lib.hid h11
  rcases hcase with rfl | rfl | rfl | rfl | rfl | rfl | rfl | rfl | rfl | rfl | rfl | rfl
  · obtain rfl := Option.some.inj ho
    simp [Region.binds] at hu hd
    clear hd
    refine wpOp_of rfl rfl ?_
    go_simp
    unfold su7I
    exact ⟨true, j1, j2, j3, j4, j5, j6, j7, j8, j9, j10, j11, _, x1, x2, x3, x4, x5, x6, x7, x8, x9, x10, x11, rfl, rfl, hB, fun _ => rfl, h1.out, h2.out, h3.out, h4.out, h5.out, h6.out, h7.out, h8.out, h9.out, h10.out, h11.out⟩
  · obtain rfl := Option.some.inj ho
    simp [Region.binds] at hu hd
    have d0 : j0 = true := by simp [hd]
    have e0 := h0.out d0
    subst e0
    subst d0
    clear hd
    refine wpOp_of rfl rfl ?_
    have i2 : w'.cell? ⟨gQ, 2, none⟩ = some (.slice bb my dy) := (KQ.below hB).cell 2
    go_simp
    unfold su7I
    exact ⟨true, true, j2, j3, j4, j5, j6, j7, j8, j9, j10, j11, _, _, x2, x3, x4, x5, x6, x7, x8, x9, x10, x11, rfl, rfl, hB, h0.out, fun _ => rfl, h2.out, h3.out, h4.out, h5.out, h6.out, h7.out, h8.out, h9.out, h10.out, h11.out⟩
  · obtain rfl := Option.some.inj ho
    simp [Region.binds] at hu hd
    clear hd
    refine wpOp_of rfl rfl ?_
    go_simp
    unfold su7I
    exact ⟨j0, j1, true, j3, j4, j5, j6, j7, j8, j9, j10, j11, x0, x1, _, x3, x4, x5, x6, x7, x8, x9, x10, x11, rfl, rfl, hB, h0.out, h1.out, fun _ => rfl, h3.out, h4.out, h5.out, h6.out, h7.out, h8.out, h9.out, h10.out, h11.out⟩
  · obtain rfl := Option.some.inj ho
    simp [Region.binds] at hu hd
    have d2 : j2 = true := by simp [hd]
    have e2 := h2.out d2
    subst e2
    subst d2
    clear hd
    refine wpOp_of rfl rfl ?_
    have i2 : w'.cell? ⟨gP, 2, none⟩ = some (.slice ay ny cy) := (KP.below hB).cell 2
    go_simp
    unfold su7I
    exact ⟨j0, j1, true, true, j4, j5, j6, j7, j8, j9, j10, j11, x0, x1, _, _, x4, x5, x6, x7, x8, x9, x10, x11, rfl, rfl, hB, h0.out, h1.out, h2.out, fun _ => rfl, h4.out, h5.out, h6.out, h7.out, h8.out, h9.out, h10.out, h11.out⟩
  · obtain rfl := Option.some.inj ho
    simp [Region.binds] at hu hd
    have d1 : j1 = true := by simp [hd]
    have d3 : j3 = true := by simp [hd]
    have e1 := h1.out d1
    subst e1
    have e3 := h3.out d3
    subst e3
    subst d1
    subst d3
    clear hd
    refine wpOp_of rfl rfl ?_
    go_simp
    go_at_call 116
    refine (nk w.heap.size w (minus_nv' _ _ _ yb ya HB4 HB2 (N4.below hB) (N2.below hB)) hB (Nat.le_refl _)).mono ?_
    rintro e w2 ⟨v', rfl, hn', hB2, hb2⟩
    unfold su7I
    exact ⟨j0, true, j2, true, true, j5, j6, j7, j8, j9, j10, j11, x0, _, x2, _, _, x5, x6, x7, x8, x9, x10, x11, rfl, rfl, hB2, h0.out, h1.out, h2.out, h3.out, fun _ => hn', h5.out, h6.out, h7.out, h8.out, fun hj => (h9.out hj).below hb2, fun hj => (h10.out hj).below hb2, fun hj => (h11.out hj).below hb2⟩
  · obtain rfl := Option.some.inj ho
    simp [Region.binds] at hu hd
    clear hd
    refine wpOp_of rfl rfl ?_
    go_simp
    unfold su7I
    exact ⟨j0, j1, j2, j3, j4, true, j6, j7, j8, j9, j10, j11, x0, x1, x2, x3, x4, _, x6, x7, x8, x9, x10, x11, rfl, rfl, hB, h0.out, h1.out, h2.out, h3.out, h4.out, fun _ => rfl, h6.out, h7.out, h8.out, h9.out, h10.out, h11.out⟩
  · obtain rfl := Option.some.inj ho
    simp [Region.binds] at hu hd
    have d5 : j5 = true := by simp [hd]
    have e5 := h5.out d5
    subst e5
    subst d5
    clear hd
    refine wpOp_of rfl rfl ?_
    have i1 : w'.cell? ⟨gQ, 1, none⟩ = some (.slice bx mx dx) := (KQ.below hB).cell 1
    go_simp
    unfold su7I
    exact ⟨j0, j1, j2, j3, j4, true, true, j7, j8, j9, j10, j11, x0, x1, x2, x3, x4, _, _, x7, x8, x9, x10, x11, rfl, rfl, hB, h0.out, h1.out, h2.out, h3.out, h4.out, h5.out, fun _ => rfl, h7.out, h8.out, h9.out, h10.out, h11.out⟩
  · obtain rfl := Option.some.inj ho
    simp [Region.binds] at hu hd
    clear hd
    refine wpOp_of rfl rfl ?_
    go_simp
    unfold su7I
    exact ⟨j0, j1, j2, j3, j4, j5, j6, true, j8, j9, j10, j11, x0, x1, x2, x3, x4, x5, x6, _, x8, x9, x10, x11, rfl, rfl, hB, h0.out, h1.out, h2.out, h3.out, h4.out, h5.out, h6.out, fun _ => rfl, h8.out, h9.out, h10.out, h11.out⟩
  · obtain rfl := Option.some.inj ho
    simp [Region.binds] at hu hd
    have d7 : j7 = true := by simp [hd]
    have e7 := h7.out d7
    subst e7
    subst d7
    clear hd
    refine wpOp_of rfl rfl ?_
    have i1 : w'.cell? ⟨gP, 1, none⟩ = some (.slice ax nx cx) := (KP.below hB).cell 1
    go_simp
    unfold su7I
    exact ⟨j0, j1, j2, j3, j4, j5, j6, true, true, j9, j10, j11, x0, x1, x2, x3, x4, x5, x6, _, _, x9, x10, x11, rfl, rfl, hB, h0.out, h1.out, h2.out, h3.out, h4.out, h5.out, h6.out, h7.out, fun _ => rfl, h9.out, h10.out, h11.out⟩
  · obtain rfl := Option.some.inj ho
    simp [Region.binds] at hu hd
    have d4 : j4 = true := by simp [hd]
    have d6 : j6 = true := by simp [hd]
    have d8 : j8 = true := by simp [hd]
    have e6 := h6.out d6
    subst e6
    have e8 := h8.out d8
    subst e8
    subst d4
    subst d6
    subst d8
    clear hd
    refine wpOp_of rfl rfl ?_
    go_simp
    go_at_call 116
    refine (nk w.heap.size w (minus_nv' _ _ _ xb xa HB3 HB1 (N3.below hB) (N1.below hB)) hB (Nat.le_refl _)).mono ?_
    rintro e w2 ⟨v', rfl, hn', hB2, hb2⟩
    unfold su7I
    exact ⟨j0, j1, j2, j3, true, j5, true, j7, true, true, j10, j11, x0, x1, x2, x3, x4, x5, _, x7, _, _, x10, x11, rfl, rfl, hB2, h0.out, h1.out, h2.out, h3.out, fun hj => (h4.out hj).below hb2, h5.out, h6.out, h7.out, h8.out, fun _ => hn', fun hj => (h10.out hj).below hb2, fun hj => (h11.out hj).below hb2⟩
  · obtain rfl := Option.some.inj ho
    simp [Region.binds] at hu hd
    have d0 : j0 = true := by simp [hd]
    have d1 : j1 = true := by simp [hd]
    have d2 : j2 = true := by simp [hd]
    have d3 : j3 = true := by simp [hd]
    have d4 : j4 = true := by simp [hd]
    have d9 : j9 = true := by simp [hd]
    have e0 := h0.out d0
    subst e0
    have e1 := h1.out d1
    subst e1
    have e2 := h2.out d2
    subst e2
    have e3 := h3.out d3
    subst e3
    subst d0
    subst d1
    subst d2
    subst d3
    subst d4
    subst d9
    clear hd
    refine wpOp_of rfl rfl ?_
    go_simp
    unfold su7I
    exact ⟨true, true, true, true, true, j5, j6, j7, j8, true, true, j11, _, _, _, _, x4, x5, x6, x7, x8, x9, _, x11, rfl, rfl, hB, h0.out, h1.out, h2.out, h3.out, h4.out, h5.out, h6.out, h7.out, h8.out, h9.out, fun _ => h4.out rfl, h11.out⟩
  · obtain rfl := Option.some.inj ho
    simp [Region.binds] at hu hd
    have d0 : j0 = true := by simp [hd]
    have d1 : j1 = true := by simp [hd]
    have d2 : j2 = true := by simp [hd]
    have d3 : j3 = true := by simp [hd]
    have d4 : j4 = true := by simp [hd]
    have d5 : j5 = true := by simp [hd]
    have d6 : j6 = true := by simp [hd]
    have d7 : j7 = true := by simp [hd]
    have d8 : j8 = true := by simp [hd]
    have d9 : j9 = true := by simp [hd]
    have d10 : j10 = true := by simp [hd]
    have e0 := h0.out d0
    subst e0
    have e1 := h1.out d1
    subst e1
    have e2 := h2.out d2
    subst e2
    have e3 := h3.out d3
    subst e3
    have e5 := h5.out d5
    subst e5
    have e6 := h6.out d6
    subst e6
    have e7 := h7.out d7
    subst e7
    have e8 := h8.out d8
    subst e8
    subst d0
    subst d1
    subst d2
    subst d3
    subst d4
    subst d5
    subst d6
    subst d7
    subst d8
    subst d9
    subst d10
    clear hd
    refine wpOp_of rfl rfl ?_
    go_simp
    unfold su7I
    exact ⟨true, true, true, true, true, true, true, true, true, true, true, true, _, _, _, _, x4, _, _, _, _, x9, x10, _, rfl, rfl, hB, h0.out, h1.out, h2.out, h3.out, h4.out, h5.out, h6.out, h7.out, h8.out, h9.out, h10.out, fun _ => h9.out rfl⟩
set_option maxHeartbeats 16000000 in
theorem su7_fin (gP gQ gR xa ya xb yb : Nat) (nx cx ny cy mx dx my dy : Nat) (ax ay bx bb : Option Addr) (w : World) {t0 t1 t7 t8 t9 t10 t11 t12 t13 t14 t15 t16 t17 t18 t19 t20 t21 t22 t33 t34 t35 t36 t37 t38 t39 t40 t41 t42 t43 t44 t45 t46 t47 t48 t49 t50 t51 t52 t53 t54 t55 t56 t57 t58 t59 t60 t61 t62 t63 t64 t65 t66 t67 t68 t69 t70 t71 t72 t73 : Value} {ds : List Deferred} : ∀ l a w1, su7I w gP gQ gR xa ya xb yb nx cx ny cy mx dx my dy ax ay bx bb t0 t1 t7 t8 t9 t10 t11 t12 t13 t14 t15 t16 t17 t18 t19 t20 t21 t22 t33 t34 t35 t36 t37 t38 t39 t40 t41 t42 t43 t44 t45 t46 t47 t48 t49 t50 t51 t52 t53 t54 t55 t56 t57 t58 t59 t60 t61 t62 t63 t64 t65 t66 t67 t68 t69 t70 t71 t72 t73 ds l a w1 → Region.ready .any su7O l = [] → su7F w gP gQ gR xa ya xb yb nx cx ny cy mx dx my dy ax ay bx bb t0 t1 t7 t8 t9 t10 t11 t12 t13 t14 t15 t16 t17 t18 t19 t20 t21 t22 t33 t34 t35 t36 t37 t38 t39 t40 t41 t42 t43 t44 t45 t46 t47 t48 t49 t50 t51 t52 t53 t54 t55 t56 t57 t58 t59 t60 t61 t62 t63 t64 t65 t66 t67 t68 t69 t70 t71 t72 t73 ds a w1 := by
  simp only [su7O, findR, Tryz.f66, Option.bind_some, Option.or, Option.getD, Nat.reduceEqDiff, if_true, if_false, reduceIte]
  rintro l a w1 hI hr
  obtain ⟨j0, j1, j2, j3, j4, j5, j6, j7, j8, j9, j10, j11, x0, x1, x2, x3, x4, x5, x6, x7, x8, x9, x10, x11, rfl, rfl, hB, h0, h1, h2, h3, h4, h5, h6, h7, h8, h9, h10, h11⟩ := hI
  have hn := fun i => List.eq_nil_iff_forall_not_mem.1 hr i
  clear hr
  cases j0; exact absurd (mem_ready.2 ⟨by simp, _, rfl, by simp [Region.binds]⟩) (hn 0)
  cases j1; exact absurd (mem_ready.2 ⟨by simp, _, rfl, by simp [Region.binds]⟩) (hn 1)
  cases j2; exact absurd (mem_ready.2 ⟨by simp, _, rfl, by simp [Region.binds]⟩) (hn 2)
  cases j3; exact absurd (mem_ready.2 ⟨by simp, _, rfl, by simp [Region.binds]⟩) (hn 3)
  cases j4; exact absurd (mem_ready.2 ⟨by simp, _, rfl, by simp [Region.binds]⟩) (hn 4)
  cases j5; exact absurd (mem_ready.2 ⟨by simp, _, rfl, by simp [Region.binds]⟩) (hn 5)
  cases j6; exact absurd (mem_ready.2 ⟨by simp, _, rfl, by simp [Region.binds]⟩) (hn 6)
  cases j7; exact absurd (mem_ready.2 ⟨by simp, _, rfl, by simp [Region.binds]⟩) (hn 7)
  cases j8; exact absurd (mem_ready.2 ⟨by simp, _, rfl, by simp [Region.binds]⟩) (hn 8)
  cases j9; exact absurd (mem_ready.2 ⟨by simp, _, rfl, by simp [Region.binds]⟩) (hn 9)
  cases j10; exact absurd (mem_ready.2 ⟨by simp, _, rfl, by simp [Region.binds]⟩) (hn 10)
  cases j11; exact absurd (mem_ready.2 ⟨by simp, _, rfl, by simp [Region.binds]⟩) (hn 11)
  exact ⟨_, _, _, _, _, _, _, _, _, _, _, _, w1, rfl, hB, rfl, h10 rfl, h11 rfl⟩
theorem su7 (gP gQ gR xa ya xb yb : Nat) (nx cx ny cy mx dx my dy : Nat) (ax ay bx bb : Option Addr) (w : World) (KP : Bk 72 w gP #[.bool false, .slice ax nx cx, .slice ay ny cy]) (KQ : Bk 72 w gQ #[.bool false, .slice bx mx dx, .slice bb my dy]) (HB1 : xa < big) (HB2 : ya < big) (HB3 : xb < big) (HB4 : yb < big) (N1 : NV w (.slice ax nx cx) xa) (N2 : NV w (.slice ay ny cy) ya) (N3 : NV w (.slice bx mx dx) xb) (N4 : NV w (.slice bb my dy) yb) {t0 t1 t5 t6 t7 t8 t9 t10 t11 t12 t13 t14 t15 t16 t17 t18 t19 t20 t21 t22 t23 t24 t25 t26 t27 t28 t29 t30 t31 t32 t33 t34 t35 t36 t37 t38 t39 t40 t41 t42 t43 t44 t45 t46 t47 t48 t49 t50 t51 t52 t53 t54 t55 t56 t57 t58 t59 t60 t61 t62 t63 t64 t65 t66 t67 t68 t69 t70 t71 t72 t73 : Value} {ds : List Deferred} {K : Act → World → Prop} {Q : Exit → Act → World → Prop}
    (h : ∀ (y0 y1 y2 y3 y4 y5 y6 y7 y8 y9 y10 y11 : Value) (w1 : World) (hb : Below w.heap.size w w1) (hn10 : NV w1 y10 (sj yb ya)) (hn11 : NV w1 y11 (sj xb xa)), K { tmps := #[t0, t1, .pointer (some ⟨gP, 0, none⟩), .pointer (some ⟨gQ, 0, none⟩), .pointer (some ⟨gR, 0, none⟩), y10, y11, t7, t8, t9, t10, t11, t12, t13, t14, t15, t16, t17, t18, t19, t20, t21, t22, y0, y1, y2, y3, y4, y5, y6, y7, y8, y9, t33, t34, t35, t36, t37, t38, t39, t40, t41, t42, t43, t44, t45, t46, t47, t48, t49, t50, t51, t52, t53, t54, t55, t56, t57, t58, t59, t60, t61, t62, t63, t64, t65, t66, t67, t68, t69, t70, t71, t72, t73], defers := ds } w1) :
    (Code.region 7 su7O true).wp Tryz.prog (Exit.then K Q) { tmps := #[t0, t1, .pointer (some ⟨gP, 0, none⟩), .pointer (some ⟨gQ, 0, none⟩), .pointer (some ⟨gR, 0, none⟩), t5, t6, t7, t8, t9, t10, t11, t12, t13, t14, t15, t16, t17, t18, t19, t20, t21, t22, t23, t24, t25, t26, t27, t28, t29, t30, t31, t32, t33, t34, t35, t36, t37, t38, t39, t40, t41, t42, t43, t44, t45, t46, t47, t48, t49, t50, t51, t52, t53, t54, t55, t56, t57, t58, t59, t60, t61, t62, t63, t64, t65, t66, t67, t68, t69, t70, t71, t72, t73], defers := ds } w := by
  have hsz : su7O.size = 12 := by kernel_rfl
  refine wp_region_any (show Tryz.prog.follows .mixedOrders = true from by kernel_rfl) ?_
  rw [hsz]
  refine wpAny_inv (I := su7I w gP gQ gR xa ya xb yb nx cx ny cy mx dx my dy ax ay bx bb t0 t1 t7 t8 t9 t10 t11 t12 t13 t14 t15 t16 t17 t18 t19 t20 t21 t22 t33 t34 t35 t36 t37 t38 t39 t40 t41 t42 t43 t44 t45 t46 t47 t48 t49 t50 t51 t52 t53 t54 t55 t56 t57 t58 t59 t60 t61 t62 t63 t64 t65 t66 t67 t68 t69 t70 t71 t72 t73 ds) (su7_steps gP gQ gR xa ya xb yb nx cx ny cy mx dx my dy ax ay bx bb w KP KQ HB1 HB2 HB3 HB4 N1 N2 N3 N4) (fun l a w' hI hr => ?_) 12 _ _ _ (by decide) ?_
  · obtain ⟨y0, y1, y2, y3, y4, y5, y6, y7, y8, y9, y10, y11, wm, rfl, hb, rfl, hn10, hn11⟩ := su7_fin gP gQ gR xa ya xb yb nx cx ny cy mx dx my dy ax ay bx bb w l a w' hI hr
    exact h _ _ _ _ _ _ _ _ _ _ _ _ _ hb hn10 hn11
  · exact ⟨false, false, false, false, false, false, false, false, false, false, false, false, t23, t24, t25, t26, t27, t28, t29, t30, t31, t32, t5, t6, rfl, rfl, ⟨rfl, rfl, rfl, Nat.le_refl _, fun _ _ => rfl⟩, (fun h => by cases h), (fun h => by cases h), (fun h => by cases h), (fun h => by cases h), (fun h => by cases h), (fun h => by cases h), (fun h => by cases h), (fun h => by cases h), (fun h => by cases h), (fun h => by cases h), (fun h => by cases h), (fun h => by cases h)⟩
def su12F (w0 : World) (gP gQ gR xa xb s : Nat) (nyb myb : Value) (nx cx mx dx : Nat) (ax bx : Option Addr) (vs : Value) (t0 t1 t5 t6 t9 t10 t11 t12 t13 t14 t15 t16 t17 t18 t19 t20 t21 t22 t23 t24 t25 t26 t27 t28 t29 t30 t31 t32 t33 t34 t35 t36 t37 t38 t39 t40 t41 t42 t43 t44 t45 t46 t47 t48 t49 t50 t51 t52 t53 t63 t64 t65 t66 t67 t68 t69 t70 t71 t72 t73 : Value) (ds : List Deferred) (a : Act) (w : World) : Prop :=
  ∃ y0 y1 y2 y3 y4 y5 y6 y7 y8 y9 : Value, ∃ wm : World, a = { tmps := #[t0, t1, .pointer (some ⟨gP, 0, none⟩), .pointer (some ⟨gQ, 0, none⟩), .pointer (some ⟨gR, 0, none⟩), t5, t6, vs, y9, t9, t10, t11, t12, t13, t14, t15, t16, t17, t18, t19, t20, t21, t22, t23, t24, t25, t26, t27, t28, t29, t30, t31, t32, t33, t34, t35, t36, t37, t38, t39, t40, t41, t42, t43, t44, t45, t46, t47, t48, t49, t50, t51, t52, t53, y0, y1, y2, y3, y4, y5, y6, y7, y8, t63, t64, t65, t66, t67, t68, t69, t70, t71, t72, t73], defers := ds } ∧ Below w0.heap.size w0 wm ∧ w = wm ∧ NV wm y9 (sj (sj (mj s s) xa) xb)
def su12I (w0 : World) (gP gQ gR xa xb s : Nat) (nyb myb : Value) (nx cx mx dx : Nat) (ax bx : Option Addr) (vs : Value) (t0 t1 t5 t6 t9 t10 t11 t12 t13 t14 t15 t16 t17 t18 t19 t20 t21 t22 t23 t24 t25 t26 t27 t28 t29 t30 t31 t32 t33 t34 t35 t36 t37 t38 t39 t40 t41 t42 t43 t44 t45 t46 t47 t48 t49 t50 t51 t52 t53 t63 t64 t65 t66 t67 t68 t69 t70 t71 t72 t73 : Value) (ds : List Deferred) (l : Array Bool) (a : Act) (w : World) : Prop :=
  ∃ j0 j1 j2 j3 j4 j5 j6 j7 j8 j9 : Bool, ∃ x0 x1 x2 x3 x4 x5 x6 x7 x8 x9 : Value, l = #[j0, j1, j2, j3, j4, j5, j6, j7, j8, j9] ∧ a = { tmps := #[t0, t1, .pointer (some ⟨gP, 0, none⟩), .pointer (some ⟨gQ, 0, none⟩), .pointer (some ⟨gR, 0, none⟩), t5, t6, vs, x9, t9, t10, t11, t12, t13, t14, t15, t16, t17, t18, t19, t20, t21, t22, t23, t24, t25, t26, t27, t28, t29, t30, t31, t32, t33, t34, t35, t36, t37, t38, t39, t40, t41, t42, t43, t44, t45, t46, t47, t48, t49, t50, t51, t52, t53, x0, x1, x2, x3, x4, x5, x6, x7, x8, t63, t64, t65, t66, t67, t68, t69, t70, t71, t72, t73], defers := ds } ∧ Below w0.heap.size w0 w ∧
  (j0 = true → x0 = vs) ∧ (j1 = true → x1 = vs) ∧ (j2 = true → NV w x2 (mj s s)) ∧ (j3 = true → x3 = .pointer (some ⟨gP, 1, none⟩)) ∧ (j4 = true → x4 = .slice ax nx cx) ∧ (j5 = true → NV w x5 (sj (mj s s) xa)) ∧ (j6 = true → x6 = .pointer (some ⟨gQ, 1, none⟩)) ∧ (j7 = true → x7 = .slice bx mx dx) ∧ (j8 = true → NV w x8 (sj (sj (mj s s) xa) xb)) ∧ (j9 = true → NV w x9 (sj (sj (mj s s) xa) xb))
noncomputable def su12O : Array Oper := (Tryz.f66.body.bind fun c => findR c 12).getD #[]
set_option maxHeartbeats 16000000 in
theorem su12_steps (gP gQ gR xa xb s : Nat) (nyb myb : Value) (nx cx mx dx : Nat) (ax bx : Option Addr) (vs : Value) (w : World) (KP : Bk 72 w gP #[.bool false, .slice ax nx cx, nyb]) (KQ : Bk 72 w gQ #[.bool false, .slice bx mx dx, myb]) (HB1 : xa < big) (HB3 : xb < big) (HS : s < big) (N1 : NV w (.slice ax nx cx) xa) (N3 : NV w (.slice bx mx dx) xb) (NS : NV w vs s)
    {t0 t1 t5 t6 t9 t10 t11 t12 t13 t14 t15 t16 t17 t18 t19 t20 t21 t22 t23 t24 t25 t26 t27 t28 t29 t30 t31 t32 t33 t34 t35 t36 t37 t38 t39 t40 t41 t42 t43 t44 t45 t46 t47 t48 t49 t50 t51 t52 t53 t63 t64 t65 t66 t67 t68 t69 t70 t71 t72 t73 : Value} {ds : List Deferred} {Q : Exit → Act → World → Prop} :
    ∀ l a w', su12I w gP gQ gR xa xb s nyb myb nx cx mx dx ax bx vs t0 t1 t5 t6 t9 t10 t11 t12 t13 t14 t15 t16 t17 t18 t19 t20 t21 t22 t23 t24 t25 t26 t27 t28 t29 t30 t31 t32 t33 t34 t35 t36 t37 t38 t39 t40 t41 t42 t43 t44 t45 t46 t47 t48 t49 t50 t51 t52 t53 t63 t64 t65 t66 t67 t68 t69 t70 t71 t72 t73 ds l a w' → ∀ i ∈ Region.ready .any su12O l, wpOp Tryz.prog su12O Q i (fun a' w'' => su12I w gP gQ gR xa xb s nyb myb nx cx mx dx ax bx vs t0 t1 t5 t6 t9 t10 t11 t12 t13 t14 t15 t16 t17 t18 t19 t20 t21 t22 t23 t24 t25 t26 t27 t28 t29 t30 t31 t32 t33 t34 t35 t36 t37 t38 t39 t40 t41 t42 t43 t44 t45 t46 t47 t48 t49 t50 t51 t52 t53 t63 t64 t65 t66 t67 t68 t69 t70 t71 t72 t73 ds (l.setIfInBounds i true) a' w'') a w' := by
  simp only [su12O, findR, Tryz.f66, Option.bind_some, Option.or, Option.getD, Nat.reduceEqDiff, if_true, if_false, reduceIte]
  rintro l a w' hI i hi
  rw [mem_ready] at hi
  obtain ⟨hu, oo, ho, hd⟩ := hi
  have hin : i < 10 := by
    have := (Array.getElem?_eq_some_iff.1 ho).1
    simpa using this
  have hcase : i = 0 ∨ i = 1 ∨ i = 2 ∨ i = 3 ∨ i = 4 ∨ i = 5 ∨ i = 6 ∨ i = 7 ∨ i = 8 ∨ i = 9 := by omega
  obtain ⟨j0, j1, j2, j3, j4, j5, j6, j7, j8, j9, x0, x1, x2, x3, x4, x5, x6, x7, x8, x9, rfl, rfl, hB, h0, h1, h2, h3, h4, h5, h6, h7, h8, h9⟩ := hI
  replace h0 := Lib.hid h0
  replace h1 := Lib.hid h1
  replace h2 := Lib.hid h2
  replace h3 := Lib.hid h3
  replace h4 := Lib.hid h4
  replace h5 := Lib.hid h5
  replace h6 := Lib.hid h6
  replace h7 := Lib.hid h7
  replace h8 := Lib.hid h8
  replace h9 := Lib.hid h9
  rcases hcase with rfl | rfl | rfl | rfl | rfl | rfl | rfl | rfl | rfl | rfl
  · obtain rfl := Option.some.inj ho
    simp [Region.binds] at hu hd
    clear hd
    refine wpOp_of rfl rfl ?_
    go_simp
    unfold su12I
    exact ⟨true, j1, j2, j3, j4, j5, j6, j7, j8, j9, _, x1, x2, x3, x4, x5, x6, x7, x8, x9, rfl, rfl, hB, fun _ => rfl, h1.out, h2.out, h3.out, h4.out, h5.out, h6.out, h7.out, h8.out, h9.out⟩
  · obtain rfl := Option.some.inj ho
    simp [Region.binds] at hu hd
    clear hd
    refine wpOp_of rfl rfl ?_
    go_simp
    unfold su12I
    exact ⟨j0, true, j2, j3, j4, j5, j6, j7, j8, j9, x0, _, x2, x3, x4, x5, x6, x7, x8, x9, rfl, rfl, hB, h0.out, fun _ => rfl, h2.out, h3.out, h4.out, h5.out, h6.out, h7.out, h8.out, h9.out⟩
  · obtain rfl := Option.some.inj ho
    simp [Region.binds] at hu hd
    have d0 : j0 = true := by simp [hd]
    have d1 : j1 = true := by simp [hd]
    have e0 := h0.out d0
    subst e0
    have e1 := h1.out d1
    subst e1
    subst d0
    subst d1
    clear hd
    refine wpOp_of rfl rfl ?_
    go_simp
    go_at_call 117
    refine (nk w.heap.size w (times_nv _ _ _ s s HS HS (NS.below hB) (NS.below hB)) hB (Nat.le_refl _)).mono ?_
    rintro e w2 ⟨v', rfl, hn', hB2, hb2⟩
    unfold su12I
    exact ⟨true, true, true, j3, j4, j5, j6, j7, j8, j9, _, _, _, x3, x4, x5, x6, x7, x8, x9, rfl, rfl, hB2, h0.out, h1.out, fun _ => hn', h3.out, h4.out, fun hj => (h5.out hj).below hb2, h6.out, h7.out, fun hj => (h8.out hj).below hb2, fun hj => (h9.out hj).below hb2⟩
  · obtain rfl := Option.some.inj ho
    simp [Region.binds] at hu hd
    clear hd
    refine wpOp_of rfl rfl ?_
    go_simp
    unfold su12I
    exact ⟨j0, j1, j2, true, j4, j5, j6, j7, j8, j9, x0, x1, x2, _, x4, x5, x6, x7, x8, x9, rfl, rfl, hB, h0.out, h1.out, h2.out, fun _ => rfl, h4.out, h5.out, h6.out, h7.out, h8.out, h9.out⟩
  · obtain rfl := Option.some.inj ho
    simp [Region.binds] at hu hd
    have d3 : j3 = true := by simp [hd]
    have e3 := h3.out d3
    subst e3
    subst d3
    clear hd
    refine wpOp_of rfl rfl ?_
    have i1 : w'.cell? ⟨gP, 1, none⟩ = some (.slice ax nx cx) := (KP.below hB).cell 1
    go_simp
    unfold su12I
    exact ⟨j0, j1, j2, true, true, j5, j6, j7, j8, j9, x0, x1, x2, _, _, x5, x6, x7, x8, x9, rfl, rfl, hB, h0.out, h1.out, h2.out, h3.out, fun _ => rfl, h5.out, h6.out, h7.out, h8.out, h9.out⟩
  · obtain rfl := Option.some.inj ho
    simp [Region.binds] at hu hd
    have d2 : j2 = true := by simp [hd]
    have d4 : j4 = true := by simp [hd]
    have e4 := h4.out d4
    subst e4
    subst d2
    subst d4
    clear hd
    refine wpOp_of rfl rfl ?_
    go_simp
    go_at_call 116
    refine (nk w.heap.size w (minus_nv' _ _ _ (mj s s) xa (mj_b _ _) HB1 (h2.out rfl) (N1.below hB)) hB (Nat.le_refl _)).mono ?_
    rintro e w2 ⟨v', rfl, hn', hB2, hb2⟩
    unfold su12I
    exact ⟨j0, j1, true, j3, true, true, j6, j7, j8, j9, x0, x1, x2, x3, _, _, x6, x7, x8, x9, rfl, rfl, hB2, h0.out, h1.out, fun hj => (h2.out hj).below hb2, h3.out, h4.out, fun _ => hn', h6.out, h7.out, fun hj => (h8.out hj).below hb2, fun hj => (h9.out hj).below hb2⟩
  · obtain rfl := Option.some.inj ho
    simp [Region.binds] at hu hd
    clear hd
    refine wpOp_of rfl rfl ?_
    go_simp
    unfold su12I
    exact ⟨j0, j1, j2, j3, j4, j5, true, j7, j8, j9, x0, x1, x2, x3, x4, x5, _, x7, x8, x9, rfl, rfl, hB, h0.out, h1.out, h2.out, h3.out, h4.out, h5.out, fun _ => rfl, h7.out, h8.out, h9.out⟩
  · obtain rfl := Option.some.inj ho
    simp [Region.binds] at hu hd
    have d6 : j6 = true := by simp [hd]
    have e6 := h6.out d6
    subst e6
    subst d6
    clear hd
    refine wpOp_of rfl rfl ?_
    have i1 : w'.cell? ⟨gQ, 1, none⟩ = some (.slice bx mx dx) := (KQ.below hB).cell 1
    go_simp
    unfold su12I
    exact ⟨j0, j1, j2, j3, j4, j5, true, true, j8, j9, x0, x1, x2, x3, x4, x5, _, _, x8, x9, rfl, rfl, hB, h0.out, h1.out, h2.out, h3.out, h4.out, h5.out, h6.out, fun _ => rfl, h8.out, h9.out⟩
  · obtain rfl := Option.some.inj ho
    simp [Region.binds] at hu hd
    have d5 : j5 = true := by simp [hd]
    have d7 : j7 = true := by simp [hd]
    have e7 := h7.out d7
    subst e7
    subst d5
    subst d7
    clear hd
    refine wpOp_of rfl rfl ?_
    go_simp
    go_at_call 116
    refine (nk w.heap.size w (minus_nv' _ _ _ (sj (mj s s) xa) xb (sj_b _ _) HB3 (h5.out rfl) (N3.below hB)) hB (Nat.le_refl _)).mono ?_
    rintro e w2 ⟨v', rfl, hn', hB2, hb2⟩
    unfold su12I
    exact ⟨j0, j1, j2, j3, j4, true, j6, true, true, j9, x0, x1, x2, x3, x4, x5, x6, _, _, x9, rfl, rfl, hB2, h0.out, h1.out, fun hj => (h2.out hj).below hb2, h3.out, h4.out, fun hj => (h5.out hj).below hb2, h6.out, h7.out, fun _ => hn', fun hj => (h9.out hj).below hb2⟩
  · obtain rfl := Option.some.inj ho
    simp [Region.binds] at hu hd
    have d0 : j0 = true := by simp [hd]
    have d1 : j1 = true := by simp [hd]
    have d2 : j2 = true := by simp [hd]
    have d3 : j3 = true := by simp [hd]
    have d4 : j4 = true := by simp [hd]
    have d5 : j5 = true := by simp [hd]
    have d6 : j6 = true := by simp [hd]
    have d7 : j7 = true := by simp [hd]
    have d8 : j8 = true := by simp [hd]
    have e0 := h0.out d0
    subst e0
    have e1 := h1.out d1
    subst e1
    have e3 := h3.out d3
    subst e3
    have e4 := h4.out d4
    subst e4
    have e6 := h6.out d6
    subst e6
    have e7 := h7.out d7
    subst e7
    subst d0
    subst d1
    subst d2
    subst d3
    subst d4
    subst d5
    subst d6
    subst d7
    subst d8
    clear hd
    refine wpOp_of rfl rfl ?_
    go_simp
    unfold su12I
    exact ⟨true, true, true, true, true, true, true, true, true, true, _, _, x2, _, _, x5, _, _, x8, _, rfl, rfl, hB, h0.out, h1.out, h2.out, h3.out, h4.out, h5.out, h6.out, h7.out, h8.out, fun _ => h8.out rfl⟩
set_option maxHeartbeats 16000000 in
theorem su12_fin (gP gQ gR xa xb s : Nat) (nyb myb : Value) (nx cx mx dx : Nat) (ax bx : Option Addr) (vs : Value) (w : World) {t0 t1 t5 t6 t9 t10 t11 t12 t13 t14 t15 t16 t17 t18 t19 t20 t21 t22 t23 t24 t25 t26 t27 t28 t29 t30 t31 t32 t33 t34 t35 t36 t37 t38 t39 t40 t41 t42 t43 t44 t45 t46 t47 t48 t49 t50 t51 t52 t53 t63 t64 t65 t66 t67 t68 t69 t70 t71 t72 t73 : Value} {ds : List Deferred} : ∀ l a w1, su12I w gP gQ gR xa xb s nyb myb nx cx mx dx ax bx vs t0 t1 t5 t6 t9 t10 t11 t12 t13 t14 t15 t16 t17 t18 t19 t20 t21 t22 t23 t24 t25 t26 t27 t28 t29 t30 t31 t32 t33 t34 t35 t36 t37 t38 t39 t40 t41 t42 t43 t44 t45 t46 t47 t48 t49 t50 t51 t52 t53 t63 t64 t65 t66 t67 t68 t69 t70 t71 t72 t73 ds l a w1 → Region.ready .any su12O l = [] → su12F w gP gQ gR xa xb s nyb myb nx cx mx dx ax bx vs t0 t1 t5 t6 t9 t10 t11 t12 t13 t14 t15 t16 t17 t18 t19 t20 t21 t22 t23 t24 t25 t26 t27 t28 t29 t30 t31 t32 t33 t34 t35 t36 t37 t38 t39 t40 t41 t42 t43 t44 t45 t46 t47 t48 t49 t50 t51 t52 t53 t63 t64 t65 t66 t67 t68 t69 t70 t71 t72 t73 ds a w1 := by
  simp only [su12O, findR, Tryz.f66, Option.bind_some, Option.or, Option.getD, Nat.reduceEqDiff, if_true, if_false, reduceIte]
  rintro l a w1 hI hr
  obtain ⟨j0, j1, j2, j3, j4, j5, j6, j7, j8, j9, x0, x1, x2, x3, x4, x5, x6, x7, x8, x9, rfl, rfl, hB, h0, h1, h2, h3, h4, h5, h6, h7, h8, h9⟩ := hI
  have hn := fun i => List.eq_nil_iff_forall_not_mem.1 hr i
  clear hr
  cases j0; exact absurd (mem_ready.2 ⟨by simp, _, rfl, by simp [Region.binds]⟩) (hn 0)
  cases j1; exact absurd (mem_ready.2 ⟨by simp, _, rfl, by simp [Region.binds]⟩) (hn 1)
  cases j2; exact absurd (mem_ready.2 ⟨by simp, _, rfl, by simp [Region.binds]⟩) (hn 2)
  cases j3; exact absurd (mem_ready.2 ⟨by simp, _, rfl, by simp [Region.binds]⟩) (hn 3)
  cases j4; exact absurd (mem_ready.2 ⟨by simp, _, rfl, by simp [Region.binds]⟩) (hn 4)
  cases j5; exact absurd (mem_ready.2 ⟨by simp, _, rfl, by simp [Region.binds]⟩) (hn 5)
  cases j6; exact absurd (mem_ready.2 ⟨by simp, _, rfl, by simp [Region.binds]⟩) (hn 6)
  cases j7; exact absurd (mem_ready.2 ⟨by simp, _, rfl, by simp [Region.binds]⟩) (hn 7)
  cases j8; exact absurd (mem_ready.2 ⟨by simp, _, rfl, by simp [Region.binds]⟩) (hn 8)
  cases j9; exact absurd (mem_ready.2 ⟨by simp, _, rfl, by simp [Region.binds]⟩) (hn 9)
  exact ⟨_, _, _, _, _, _, _, _, _, _, w1, rfl, hB, rfl, h9 rfl⟩
theorem su12 (gP gQ gR xa xb s : Nat) (nyb myb : Value) (nx cx mx dx : Nat) (ax bx : Option Addr) (vs : Value) (w : World) (KP : Bk 72 w gP #[.bool false, .slice ax nx cx, nyb]) (KQ : Bk 72 w gQ #[.bool false, .slice bx mx dx, myb]) (HB1 : xa < big) (HB3 : xb < big) (HS : s < big) (N1 : NV w (.slice ax nx cx) xa) (N3 : NV w (.slice bx mx dx) xb) (NS : NV w vs s) {t0 t1 t5 t6 t8 t9 t10 t11 t12 t13 t14 t15 t16 t17 t18 t19 t20 t21 t22 t23 t24 t25 t26 t27 t28 t29 t30 t31 t32 t33 t34 t35 t36 t37 t38 t39 t40 t41 t42 t43 t44 t45 t46 t47 t48 t49 t50 t51 t52 t53 t54 t55 t56 t57 t58 t59 t60 t61 t62 t63 t64 t65 t66 t67 t68 t69 t70 t71 t72 t73 : Value} {ds : List Deferred} {K : Act → World → Prop} {Q : Exit → Act → World → Prop}
    (h : ∀ (y0 y1 y2 y3 y4 y5 y6 y7 y8 y9 : Value) (w1 : World) (hb : Below w.heap.size w w1) (hn9 : NV w1 y9 (sj (sj (mj s s) xa) xb)), K { tmps := #[t0, t1, .pointer (some ⟨gP, 0, none⟩), .pointer (some ⟨gQ, 0, none⟩), .pointer (some ⟨gR, 0, none⟩), t5, t6, vs, y9, t9, t10, t11, t12, t13, t14, t15, t16, t17, t18, t19, t20, t21, t22, t23, t24, t25, t26, t27, t28, t29, t30, t31, t32, t33, t34, t35, t36, t37, t38, t39, t40, t41, t42, t43, t44, t45, t46, t47, t48, t49, t50, t51, t52, t53, y0, y1, y2, y3, y4, y5, y6, y7, y8, t63, t64, t65, t66, t67, t68, t69, t70, t71, t72, t73], defers := ds } w1) :
    (Code.region 12 su12O true).wp Tryz.prog (Exit.then K Q) { tmps := #[t0, t1, .pointer (some ⟨gP, 0, none⟩), .pointer (some ⟨gQ, 0, none⟩), .pointer (some ⟨gR, 0, none⟩), t5, t6, vs, t8, t9, t10, t11, t12, t13, t14, t15, t16, t17, t18, t19, t20, t21, t22, t23, t24, t25, t26, t27, t28, t29, t30, t31, t32, t33, t34, t35, t36, t37, t38, t39, t40, t41, t42, t43, t44, t45, t46, t47, t48, t49, t50, t51, t52, t53, t54, t55, t56, t57, t58, t59, t60, t61, t62, t63, t64, t65, t66, t67, t68, t69, t70, t71, t72, t73], defers := ds } w := by
  have hsz : su12O.size = 10 := by kernel_rfl
  refine wp_region_any (show Tryz.prog.follows .mixedOrders = true from by kernel_rfl) ?_
  rw [hsz]
  refine wpAny_inv (I := su12I w gP gQ gR xa xb s nyb myb nx cx mx dx ax bx vs t0 t1 t5 t6 t9 t10 t11 t12 t13 t14 t15 t16 t17 t18 t19 t20 t21 t22 t23 t24 t25 t26 t27 t28 t29 t30 t31 t32 t33 t34 t35 t36 t37 t38 t39 t40 t41 t42 t43 t44 t45 t46 t47 t48 t49 t50 t51 t52 t53 t63 t64 t65 t66 t67 t68 t69 t70 t71 t72 t73 ds) (su12_steps gP gQ gR xa xb s nyb myb nx cx mx dx ax bx vs w KP KQ HB1 HB3 HS N1 N3 NS) (fun l a w' hI hr => ?_) 10 _ _ _ (by decide) ?_
  · obtain ⟨y0, y1, y2, y3, y4, y5, y6, y7, y8, y9, wm, rfl, hb, rfl, hn9⟩ := su12_fin gP gQ gR xa xb s nyb myb nx cx mx dx ax bx vs w l a w' hI hr
    exact h _ _ _ _ _ _ _ _ _ _ _ hb hn9
  · exact ⟨false, false, false, false, false, false, false, false, false, false, t54, t55, t56, t57, t58, t59, t60, t61, t62, t8, rfl, rfl, ⟨rfl, rfl, rfl, Nat.le_refl _, fun _ _ => rfl⟩, (fun h => by cases h), (fun h => by cases h), (fun h => by cases h), (fun h => by cases h), (fun h => by cases h), (fun h => by cases h), (fun h => by cases h), (fun h => by cases h), (fun h => by cases h), (fun h => by cases h)⟩
def su13F (w0 : World) (gP gR xa ya s xc nx cx ny cy n8 c8 : Nat) (ax ay a8 : Option Addr) (vs : Value) (t0 t1 t3 t5 t6 t9 t10 t11 t12 t13 t14 t15 t16 t17 t18 t19 t20 t21 t22 t23 t24 t25 t26 t27 t28 t29 t30 t31 t32 t33 t34 t35 t36 t37 t38 t39 t40 t41 t42 t43 t44 t45 t46 t47 t48 t49 t50 t51 t52 t53 t54 t55 t56 t57 t58 t59 t60 t61 t62 : Value) (ds : List Deferred) (a : Act) (w : World) : Prop :=
  ∃ y0 y1 y2 y3 y4 y5 y6 y7 y8 y9 y10 : Value, ∃ wm : World, a = { tmps := #[t0, t1, .pointer (some ⟨gP, 0, none⟩), t3, .pointer (some ⟨gR, 0, none⟩), t5, t6, vs, .slice a8 n8 c8, t9, t10, t11, t12, t13, t14, t15, t16, t17, t18, t19, t20, t21, t22, t23, t24, t25, t26, t27, t28, t29, t30, t31, t32, t33, t34, t35, t36, t37, t38, t39, t40, t41, t42, t43, t44, t45, t46, t47, t48, t49, t50, t51, t52, t53, t54, t55, t56, t57, t58, t59, t60, t61, t62, y0, y1, y2, y3, y4, y5, y6, y7, y8, y9, y10], defers := ds } ∧ Below w0.heap.size w0 wm ∧ w = (World.setCell (World.setCell (World.setCell wm ⟨gR, 0, none⟩ (.bool false)) ⟨gR, 1, none⟩ (.slice a8 n8 c8)) ⟨gR, 2, none⟩ (y9)) ∧ NV wm y9 (sj (mj s (sj xa xc)) ya)
def su13I (w0 : World) (gP gR xa ya s xc nx cx ny cy n8 c8 : Nat) (ax ay a8 : Option Addr) (vs : Value) (t0 t1 t3 t5 t6 t9 t10 t11 t12 t13 t14 t15 t16 t17 t18 t19 t20 t21 t22 t23 t24 t25 t26 t27 t28 t29 t30 t31 t32 t33 t34 t35 t36 t37 t38 t39 t40 t41 t42 t43 t44 t45 t46 t47 t48 t49 t50 t51 t52 t53 t54 t55 t56 t57 t58 t59 t60 t61 t62 : Value) (ds : List Deferred) (l : Array Bool) (a : Act) (w : World) : Prop :=
  (l = #[true, true, true, true, true, true, true, true, true, true, true, true] ∧ su13F w0 gP gR xa ya s xc nx cx ny cy n8 c8 ax ay a8 vs t0 t1 t3 t5 t6 t9 t10 t11 t12 t13 t14 t15 t16 t17 t18 t19 t20 t21 t22 t23 t24 t25 t26 t27 t28 t29 t30 t31 t32 t33 t34 t35 t36 t37 t38 t39 t40 t41 t42 t43 t44 t45 t46 t47 t48 t49 t50 t51 t52 t53 t54 t55 t56 t57 t58 t59 t60 t61 t62 ds a w) ∨ (∃ j0 j1 j2 j3 j4 j5 j6 j7 j8 j9 j10 : Bool, ∃ x0 x1 x2 x3 x4 x5 x6 x7 x8 x9 x10 : Value, l = #[j0, j1, j2, j3, j4, j5, j6, j7, j8, j9, j10, false] ∧ a = { tmps := #[t0, t1, .pointer (some ⟨gP, 0, none⟩), t3, .pointer (some ⟨gR, 0, none⟩), t5, t6, vs, .slice a8 n8 c8, t9, t10, t11, t12, t13, t14, t15, t16, t17, t18, t19, t20, t21, t22, t23, t24, t25, t26, t27, t28, t29, t30, t31, t32, t33, t34, t35, t36, t37, t38, t39, t40, t41, t42, t43, t44, t45, t46, t47, t48, t49, t50, t51, t52, t53, t54, t55, t56, t57, t58, t59, t60, t61, t62, x0, x1, x2, x3, x4, x5, x6, x7, x8, x9, x10], defers := ds } ∧ Below w0.heap.size w0 w ∧
  (j0 = true → x0 = .slice a8 n8 c8) ∧ (j1 = true → x1 = vs) ∧ (j2 = true → x2 = .pointer (some ⟨gP, 1, none⟩)) ∧ (j3 = true → x3 = .slice ax nx cx) ∧ (j4 = true → x4 = .slice a8 n8 c8) ∧ (j5 = true → NV w x5 (sj xa xc)) ∧ (j6 = true → NV w x6 (mj s (sj xa xc))) ∧ (j7 = true → x7 = .pointer (some ⟨gP, 2, none⟩)) ∧ (j8 = true → x8 = .slice ay ny cy) ∧ (j9 = true → NV w x9 (sj (mj s (sj xa xc)) ya)) ∧ (j10 = true → x10 = .agg #[.bool false, .slice a8 n8 c8, x9] ∧ j9 = true))
noncomputable def su13O : Array Oper := (Tryz.f66.body.bind fun c => findR c 13).getD #[]
set_option maxHeartbeats 16000000 in
theorem su13_steps (gP gR xa ya s xc nx cx ny cy n8 c8 : Nat) (ax ay a8 : Option Addr) (vs : Value) (w : World) (KP : Bk 72 w gP #[.bool false, .slice ax nx cx, .slice ay ny cy]) (KR : Bk 72 w gR #[.bool false, .slice none 0 0, .slice none 0 0]) (HB1 : xa < big) (HB2 : ya < big) (HS : s < big) (H3 : xc < big) (N1 : NV w (.slice ax nx cx) xa) (N2 : NV w (.slice ay ny cy) ya) (NS : NV w vs s) (N8 : NV w (.slice a8 n8 c8) xc)
    {t0 t1 t3 t5 t6 t9 t10 t11 t12 t13 t14 t15 t16 t17 t18 t19 t20 t21 t22 t23 t24 t25 t26 t27 t28 t29 t30 t31 t32 t33 t34 t35 t36 t37 t38 t39 t40 t41 t42 t43 t44 t45 t46 t47 t48 t49 t50 t51 t52 t53 t54 t55 t56 t57 t58 t59 t60 t61 t62 : Value} {ds : List Deferred} {Q : Exit → Act → World → Prop} :
    ∀ l a w', su13I w gP gR xa ya s xc nx cx ny cy n8 c8 ax ay a8 vs t0 t1 t3 t5 t6 t9 t10 t11 t12 t13 t14 t15 t16 t17 t18 t19 t20 t21 t22 t23 t24 t25 t26 t27 t28 t29 t30 t31 t32 t33 t34 t35 t36 t37 t38 t39 t40 t41 t42 t43 t44 t45 t46 t47 t48 t49 t50 t51 t52 t53 t54 t55 t56 t57 t58 t59 t60 t61 t62 ds l a w' → ∀ i ∈ Region.ready .any su13O l, wpOp Tryz.prog su13O Q i (fun a' w'' => su13I w gP gR xa ya s xc nx cx ny cy n8 c8 ax ay a8 vs t0 t1 t3 t5 t6 t9 t10 t11 t12 t13 t14 t15 t16 t17 t18 t19 t20 t21 t22 t23 t24 t25 t26 t27 t28 t29 t30 t31 t32 t33 t34 t35 t36 t37 t38 t39 t40 t41 t42 t43 t44 t45 t46 t47 t48 t49 t50 t51 t52 t53 t54 t55 t56 t57 t58 t59 t60 t61 t62 ds (l.setIfInBounds i true) a' w'') a w' := by
  simp only [su13O, findR, Tryz.f66, Option.bind_some, Option.or, Option.getD, Nat.reduceEqDiff, if_true, if_false, reduceIte]
  rintro l a w' hI i hi
  rw [mem_ready] at hi
  obtain ⟨hu, oo, ho, hd⟩ := hi
  have hin : i < 12 := by
    have := (Array.getElem?_eq_some_iff.1 ho).1
    simpa using this
  have hcase : i = 0 ∨ i = 1 ∨ i = 2 ∨ i = 3 ∨ i = 4 ∨ i = 5 ∨ i = 6 ∨ i = 7 ∨ i = 8 ∨ i = 9 ∨ i = 10 ∨ i = 11 := by omega
  rcases hI with ⟨rfl, hF⟩ | hI
  · exfalso
    rcases hcase with rfl | rfl | rfl | rfl | rfl | rfl | rfl | rfl | rfl | rfl | rfl | rfl <;> simp at hu
  obtain ⟨j0, j1, j2, j3, j4, j5, j6, j7, j8, j9, j10, x0, x1, x2, x3, x4, x5, x6, x7, x8, x9, x10, rfl, rfl, hB, h0, h1, h2, h3, h4, h5, h6, h7, h8, h9, h10⟩ := hI
  replace h0 := Lib.hid h0
  replace h1 := Lib.hid h1
  replace h2 := Lib.hid h2
  replace h3 := Lib.hid h3
  replace h4 := Lib.hid h4
  replace h5 := Lib.hid h5
  replace h6 := Lib.hid h6
  replace h7 := Lib.hid h7
  replace h8 := Lib.hid h8
  replace h9 := Lib.hid h9
  replace h10 := Lib.hid h10
  rcases hcase with rfl | rfl | rfl | rfl | rfl | rfl | rfl | rfl | rfl | rfl | rfl | rfl
  · obtain rfl := Option.some.inj ho
    simp [Region.binds] at hu hd
    clear hd
    refine wpOp_of rfl rfl ?_
    go_simp
    unfold su13I
    exact .inr ⟨true, j1, j2, j3, j4, j5, j6, j7, j8, j9, j10, _, x1, x2, x3, x4, x5, x6, x7, x8, x9, x10, rfl, rfl, hB, fun _ => rfl, h1.out, h2.out, h3.out, h4.out, h5.out, h6.out, h7.out, h8.out, h9.out, h10.out⟩
  · obtain rfl := Option.some.inj ho
    simp [Region.binds] at hu hd
    clear hd
    refine wpOp_of rfl rfl ?_
    go_simp
    unfold su13I
    exact .inr ⟨j0, true, j2, j3, j4, j5, j6, j7, j8, j9, j10, x0, _, x2, x3, x4, x5, x6, x7, x8, x9, x10, rfl, rfl, hB, h0.out, fun _ => rfl, h2.out, h3.out, h4.out, h5.out, h6.out, h7.out, h8.out, h9.out, h10.out⟩
  · obtain rfl := Option.some.inj ho
    simp [Region.binds] at hu hd
    clear hd
    refine wpOp_of rfl rfl ?_
    go_simp
    unfold su13I
    exact .inr ⟨j0, j1, true, j3, j4, j5, j6, j7, j8, j9, j10, x0, x1, _, x3, x4, x5, x6, x7, x8, x9, x10, rfl, rfl, hB, h0.out, h1.out, fun _ => rfl, h3.out, h4.out, h5.out, h6.out, h7.out, h8.out, h9.out, h10.out⟩
  · obtain rfl := Option.some.inj ho
    simp [Region.binds] at hu hd
    have d2 : j2 = true := by simp [hd]
    have e2 := h2.out d2
    subst e2
    subst d2
    clear hd
    refine wpOp_of rfl rfl ?_
    have i1 : w'.cell? ⟨gP, 1, none⟩ = some (.slice ax nx cx) := (KP.below hB).cell 1
    go_simp
    unfold su13I
    exact .inr ⟨j0, j1, true, true, j4, j5, j6, j7, j8, j9, j10, x0, x1, _, _, x4, x5, x6, x7, x8, x9, x10, rfl, rfl, hB, h0.out, h1.out, h2.out, fun _ => rfl, h4.out, h5.out, h6.out, h7.out, h8.out, h9.out, h10.out⟩
  · obtain rfl := Option.some.inj ho
    simp [Region.binds] at hu hd
    clear hd
    refine wpOp_of rfl rfl ?_
    go_simp
    unfold su13I
    exact .inr ⟨j0, j1, j2, j3, true, j5, j6, j7, j8, j9, j10, x0, x1, x2, x3, _, x5, x6, x7, x8, x9, x10, rfl, rfl, hB, h0.out, h1.out, h2.out, h3.out, fun _ => rfl, h5.out, h6.out, h7.out, h8.out, h9.out, h10.out⟩
  · obtain rfl := Option.some.inj ho
    simp [Region.binds] at hu hd
    have d3 : j3 = true := by simp [hd]
    have d4 : j4 = true := by simp [hd]
    have e3 := h3.out d3
    subst e3
    have e4 := h4.out d4
    subst e4
    subst d3
    subst d4
    clear hd
    refine wpOp_of rfl rfl ?_
    go_simp
    go_at_call 116
    refine (nk w.heap.size w (minus_nv' _ _ _ xa xc HB1 H3 (N1.below hB) (N8.below hB)) hB (Nat.le_refl _)).mono ?_
    rintro e w2 ⟨v', rfl, hn', hB2, hb2⟩
    unfold su13I
    exact .inr ⟨j0, j1, j2, true, true, true, j6, j7, j8, j9, j10, x0, x1, x2, _, _, _, x6, x7, x8, x9, x10, rfl, rfl, hB2, h0.out, h1.out, h2.out, h3.out, h4.out, fun _ => hn', fun hj => (h6.out hj).below hb2, h7.out, h8.out, fun hj => (h9.out hj).below hb2, h10.out⟩
  · obtain rfl := Option.some.inj ho
    simp [Region.binds] at hu hd
    have d1 : j1 = true := by simp [hd]
    have d5 : j5 = true := by simp [hd]
    have e1 := h1.out d1
    subst e1
    subst d1
    subst d5
    clear hd
    refine wpOp_of rfl rfl ?_
    go_simp
    go_at_call 117
    refine (nk w.heap.size w (times_nv _ _ _ s (sj xa xc) HS (sj_b _ _) (NS.below hB) (h5.out rfl)) hB (Nat.le_refl _)).mono ?_
    rintro e w2 ⟨v', rfl, hn', hB2, hb2⟩
    unfold su13I
    exact .inr ⟨j0, true, j2, j3, j4, true, true, j7, j8, j9, j10, x0, _, x2, x3, x4, x5, _, x7, x8, x9, x10, rfl, rfl, hB2, h0.out, h1.out, h2.out, h3.out, h4.out, fun hj => (h5.out hj).below hb2, fun _ => hn', h7.out, h8.out, fun hj => (h9.out hj).below hb2, h10.out⟩
  · obtain rfl := Option.some.inj ho
    simp [Region.binds] at hu hd
    clear hd
    refine wpOp_of rfl rfl ?_
    go_simp
    unfold su13I
    exact .inr ⟨j0, j1, j2, j3, j4, j5, j6, true, j8, j9, j10, x0, x1, x2, x3, x4, x5, x6, _, x8, x9, x10, rfl, rfl, hB, h0.out, h1.out, h2.out, h3.out, h4.out, h5.out, h6.out, fun _ => rfl, h8.out, h9.out, h10.out⟩
  · obtain rfl := Option.some.inj ho
    simp [Region.binds] at hu hd
    have d7 : j7 = true := by simp [hd]
    have e7 := h7.out d7
    subst e7
    subst d7
    clear hd
    refine wpOp_of rfl rfl ?_
    have i2 : w'.cell? ⟨gP, 2, none⟩ = some (.slice ay ny cy) := (KP.below hB).cell 2
    go_simp
    unfold su13I
    exact .inr ⟨j0, j1, j2, j3, j4, j5, j6, true, true, j9, j10, x0, x1, x2, x3, x4, x5, x6, _, _, x9, x10, rfl, rfl, hB, h0.out, h1.out, h2.out, h3.out, h4.out, h5.out, h6.out, h7.out, fun _ => rfl, h9.out, h10.out⟩
  · obtain rfl := Option.some.inj ho
    simp [Region.binds] at hu hd
    have d6 : j6 = true := by simp [hd]
    have d8 : j8 = true := by simp [hd]
    have e8 := h8.out d8
    subst e8
    subst d6
    subst d8
    clear hd
    refine wpOp_of rfl rfl ?_
    go_simp
    go_at_call 116
    refine (nk w.heap.size w (minus_nv' _ _ _ (mj s (sj xa xc)) ya (mj_b _ _) HB2 (h6.out rfl) (N2.below hB)) hB (Nat.le_refl _)).mono ?_
    rintro e w2 ⟨v', rfl, hn', hB2, hb2⟩
    unfold su13I
    exact .inr ⟨j0, j1, j2, j3, j4, j5, true, j7, true, true, j10, x0, x1, x2, x3, x4, x5, x6, x7, _, _, x10, rfl, rfl, hB2, h0.out, h1.out, h2.out, h3.out, h4.out, fun hj => (h5.out hj).below hb2, fun hj => (h6.out hj).below hb2, h7.out, h8.out, fun _ => hn', fun hj => absurd (h10.out hj).2 (by simp [hu])⟩
  · obtain rfl := Option.some.inj ho
    simp [Region.binds] at hu hd
    have d0 : j0 = true := by simp [hd]
    have d9 : j9 = true := by simp [hd]
    have e0 := h0.out d0
    subst e0
    subst d0
    subst d9
    clear hd
    refine wpOp_of rfl rfl ?_
    obtain ⟨sa9, sn9, sc9, es9⟩ := (h9.out rfl).shape
    subst es9
    go_simp
    unfold su13I
    exact .inr ⟨true, j1, j2, j3, j4, j5, j6, j7, j8, true, true, _, x1, x2, x3, x4, x5, x6, x7, x8, _, _, rfl, rfl, hB, h0.out, h1.out, h2.out, h3.out, h4.out, h5.out, h6.out, h7.out, h8.out, h9.out, fun _ => ⟨rfl, rfl⟩⟩
  · obtain rfl := Option.some.inj ho
    simp [Region.binds] at hu hd
    have d0 : j0 = true := by simp [hd]
    have d1 : j1 = true := by simp [hd]
    have d2 : j2 = true := by simp [hd]
    have d3 : j3 = true := by simp [hd]
    have d4 : j4 = true := by simp [hd]
    have d5 : j5 = true := by simp [hd]
    have d6 : j6 = true := by simp [hd]
    have d7 : j7 = true := by simp [hd]
    have d8 : j8 = true := by simp [hd]
    have d9 : j9 = true := by simp [hd]
    have d10 : j10 = true := by simp [hd]
    have e0 := h0.out d0
    subst e0
    have e1 := h1.out d1
    subst e1
    have e2 := h2.out d2
    subst e2
    have e3 := h3.out d3
    subst e3
    have e4 := h4.out d4
    subst e4
    have e7 := h7.out d7
    subst e7
    have e8 := h8.out d8
    subst e8
    have e10 := (h10.out d10).1
    subst e10
    subst d0
    subst d1
    subst d2
    subst d3
    subst d4
    subst d5
    subst d6
    subst d7
    subst d8
    subst d9
    subst d10
    clear hd
    refine wpOp_of rfl rfl ?_
    obtain ⟨sa9, sn9, sc9, es9⟩ := (h9.out rfl).shape
    subst es9
    have c0 := (KR.below hB).cell 0
    have f0 := (KR.below hB).fro 0
    have c1 := (KR.below hB).cell 1
    have f1 := (KR.below hB).fro 1
    have c2 := (KR.below hB).cell 2
    have f2 := (KR.below hB).fro 2
    go_simp
    unfold su13I su13F
    exact .inl ⟨rfl, _, _, _, _, _, x5, x6, _, _, _, _, _, rfl, hB, rfl, h9.out rfl⟩
set_option maxHeartbeats 16000000 in
theorem su13_fin (gP gR xa ya s xc nx cx ny cy n8 c8 : Nat) (ax ay a8 : Option Addr) (vs : Value) (w : World) {t0 t1 t3 t5 t6 t9 t10 t11 t12 t13 t14 t15 t16 t17 t18 t19 t20 t21 t22 t23 t24 t25 t26 t27 t28 t29 t30 t31 t32 t33 t34 t35 t36 t37 t38 t39 t40 t41 t42 t43 t44 t45 t46 t47 t48 t49 t50 t51 t52 t53 t54 t55 t56 t57 t58 t59 t60 t61 t62 : Value} {ds : List Deferred} : ∀ l a w1, su13I w gP gR xa ya s xc nx cx ny cy n8 c8 ax ay a8 vs t0 t1 t3 t5 t6 t9 t10 t11 t12 t13 t14 t15 t16 t17 t18 t19 t20 t21 t22 t23 t24 t25 t26 t27 t28 t29 t30 t31 t32 t33 t34 t35 t36 t37 t38 t39 t40 t41 t42 t43 t44 t45 t46 t47 t48 t49 t50 t51 t52 t53 t54 t55 t56 t57 t58 t59 t60 t61 t62 ds l a w1 → Region.ready .any su13O l = [] → su13F w gP gR xa ya s xc nx cx ny cy n8 c8 ax ay a8 vs t0 t1 t3 t5 t6 t9 t10 t11 t12 t13 t14 t15 t16 t17 t18 t19 t20 t21 t22 t23 t24 t25 t26 t27 t28 t29 t30 t31 t32 t33 t34 t35 t36 t37 t38 t39 t40 t41 t42 t43 t44 t45 t46 t47 t48 t49 t50 t51 t52 t53 t54 t55 t56 t57 t58 t59 t60 t61 t62 ds a w1 := by
  simp only [su13O, findR, Tryz.f66, Option.bind_some, Option.or, Option.getD, Nat.reduceEqDiff, if_true, if_false, reduceIte]
  rintro l a w1 hI hr
  rcases hI with ⟨rfl, hF⟩ | hI
  · exact hF
  obtain ⟨j0, j1, j2, j3, j4, j5, j6, j7, j8, j9, j10, x0, x1, x2, x3, x4, x5, x6, x7, x8, x9, x10, rfl, rfl, hB, h0, h1, h2, h3, h4, h5, h6, h7, h8, h9, h10⟩ := hI
  have hn := fun i => List.eq_nil_iff_forall_not_mem.1 hr i
  clear hr
  cases j0; exact absurd (mem_ready.2 ⟨by simp, _, rfl, by simp [Region.binds]⟩) (hn 0)
  cases j1; exact absurd (mem_ready.2 ⟨by simp, _, rfl, by simp [Region.binds]⟩) (hn 1)
  cases j2; exact absurd (mem_ready.2 ⟨by simp, _, rfl, by simp [Region.binds]⟩) (hn 2)
  cases j3; exact absurd (mem_ready.2 ⟨by simp, _, rfl, by simp [Region.binds]⟩) (hn 3)
  cases j4; exact absurd (mem_ready.2 ⟨by simp, _, rfl, by simp [Region.binds]⟩) (hn 4)
  cases j5; exact absurd (mem_ready.2 ⟨by simp, _, rfl, by simp [Region.binds]⟩) (hn 5)
  cases j6; exact absurd (mem_ready.2 ⟨by simp, _, rfl, by simp [Region.binds]⟩) (hn 6)
  cases j7; exact absurd (mem_ready.2 ⟨by simp, _, rfl, by simp [Region.binds]⟩) (hn 7)
  cases j8; exact absurd (mem_ready.2 ⟨by simp, _, rfl, by simp [Region.binds]⟩) (hn 8)
  cases j9; exact absurd (mem_ready.2 ⟨by simp, _, rfl, by simp [Region.binds]⟩) (hn 9)
  cases j10; exact absurd (mem_ready.2 ⟨by simp, _, rfl, by simp [Region.binds]⟩) (hn 10)
  exact absurd (mem_ready.2 ⟨rfl, _, rfl, by simp [Region.binds]⟩) (hn 11)
theorem su13 (gP gR xa ya s xc nx cx ny cy n8 c8 : Nat) (ax ay a8 : Option Addr) (vs : Value) (w : World) (KP : Bk 72 w gP #[.bool false, .slice ax nx cx, .slice ay ny cy]) (KR : Bk 72 w gR #[.bool false, .slice none 0 0, .slice none 0 0]) (HB1 : xa < big) (HB2 : ya < big) (HS : s < big) (H3 : xc < big) (N1 : NV w (.slice ax nx cx) xa) (N2 : NV w (.slice ay ny cy) ya) (NS : NV w vs s) (N8 : NV w (.slice a8 n8 c8) xc) {t0 t1 t3 t5 t6 t9 t10 t11 t12 t13 t14 t15 t16 t17 t18 t19 t20 t21 t22 t23 t24 t25 t26 t27 t28 t29 t30 t31 t32 t33 t34 t35 t36 t37 t38 t39 t40 t41 t42 t43 t44 t45 t46 t47 t48 t49 t50 t51 t52 t53 t54 t55 t56 t57 t58 t59 t60 t61 t62 t63 t64 t65 t66 t67 t68 t69 t70 t71 t72 t73 : Value} {ds : List Deferred} {K : Act → World → Prop} {Q : Exit → Act → World → Prop}
    (h : ∀ (y0 y1 y2 y3 y4 y5 y6 y7 y8 y9 y10 : Value) (w1 : World) (hb : Below w.heap.size w w1) (hn9 : NV w1 y9 (sj (mj s (sj xa xc)) ya)), K { tmps := #[t0, t1, .pointer (some ⟨gP, 0, none⟩), t3, .pointer (some ⟨gR, 0, none⟩), t5, t6, vs, .slice a8 n8 c8, t9, t10, t11, t12, t13, t14, t15, t16, t17, t18, t19, t20, t21, t22, t23, t24, t25, t26, t27, t28, t29, t30, t31, t32, t33, t34, t35, t36, t37, t38, t39, t40, t41, t42, t43, t44, t45, t46, t47, t48, t49, t50, t51, t52, t53, t54, t55, t56, t57, t58, t59, t60, t61, t62, y0, y1, y2, y3, y4, y5, y6, y7, y8, y9, y10], defers := ds } (World.setCell (World.setCell (World.setCell w1 ⟨gR, 0, none⟩ (.bool false)) ⟨gR, 1, none⟩ (.slice a8 n8 c8)) ⟨gR, 2, none⟩ (y9))) :
    (Code.region 13 su13O true).wp Tryz.prog (Exit.then K Q) { tmps := #[t0, t1, .pointer (some ⟨gP, 0, none⟩), t3, .pointer (some ⟨gR, 0, none⟩), t5, t6, vs, .slice a8 n8 c8, t9, t10, t11, t12, t13, t14, t15, t16, t17, t18, t19, t20, t21, t22, t23, t24, t25, t26, t27, t28, t29, t30, t31, t32, t33, t34, t35, t36, t37, t38, t39, t40, t41, t42, t43, t44, t45, t46, t47, t48, t49, t50, t51, t52, t53, t54, t55, t56, t57, t58, t59, t60, t61, t62, t63, t64, t65, t66, t67, t68, t69, t70, t71, t72, t73], defers := ds } w := by
  have hsz : su13O.size = 12 := by kernel_rfl
  refine wp_region_any (show Tryz.prog.follows .mixedOrders = true from by kernel_rfl) ?_
  rw [hsz]
  refine wpAny_inv (I := su13I w gP gR xa ya s xc nx cx ny cy n8 c8 ax ay a8 vs t0 t1 t3 t5 t6 t9 t10 t11 t12 t13 t14 t15 t16 t17 t18 t19 t20 t21 t22 t23 t24 t25 t26 t27 t28 t29 t30 t31 t32 t33 t34 t35 t36 t37 t38 t39 t40 t41 t42 t43 t44 t45 t46 t47 t48 t49 t50 t51 t52 t53 t54 t55 t56 t57 t58 t59 t60 t61 t62 ds) (su13_steps gP gR xa ya s xc nx cx ny cy n8 c8 ax ay a8 vs w KP KR HB1 HB2 HS H3 N1 N2 NS N8) (fun l a w' hI hr => ?_) 12 _ _ _ (by decide) ?_
  · obtain ⟨y0, y1, y2, y3, y4, y5, y6, y7, y8, y9, y10, wm, rfl, hb, rfl, hn9⟩ := su13_fin gP gR xa ya s xc nx cx ny cy n8 c8 ax ay a8 vs w l a w' hI hr
    exact h _ _ _ _ _ _ _ _ _ _ _ _ hb hn9
  · exact .inr ⟨false, false, false, false, false, false, false, false, false, false, false, t63, t64, t65, t66, t67, t68, t69, t70, t71, t72, t73, rfl, rfl, ⟨rfl, rfl, rfl, Nat.le_refl _, fun _ _ => rfl⟩, (fun h => by cases h), (fun h => by cases h), (fun h => by cases h), (fun h => by cases h), (fun h => by cases h), (fun h => by cases h), (fun h => by cases h), (fun h => by cases h), (fun h => by cases h), (fun h => by cases h), (fun h => by cases h)⟩
def upR (p q : Po) : Nat := if Po.same p q = true then sj (mj 3 (mj p.x p.x)) 3 else sj q.y p.y
def downR (p q : Po) : Nat := if Po.same p q = true then aj p.y p.y else sj q.x p.x
def slR (p q : Po) : Nat := mj (upR p q) (iN (downR p q))
def xR (p q : Po) : Nat := sj (sj (mj (slR p q) (slR p q)) p.x) q.x
def yR (p q : Po) : Nat := sj (mj (slR p q) (sj p.x (xR p q))) p.y
theorem c_ngj (y : Nat) : c (ngj y) = - c y := by unfold ngj; rw [mPP, c_mod, c_opp]
theorem ne_c {a : Nat} (h : c a ≠ 0) : a % mP ≠ 0 := fun h0 => h (by
  have : c a = c 0 := c_eq.2 (by rw [← mPP, h0]; rfl)
  rw [this]; rfl)
theorem toAff (x y : Nat) : toPt ⟨x, y, false⟩ = .aff (c x) (c y) := rfl
theorem m3_x (x : Fin PP) : 3 * (x * x) - 3 = 3 * (x * x) + -3 := by grobner
theorem sum_aff (iv : Fin PP → Fin PP) (a xa ya xb yb : Fin PP) : sum iv a (.aff xa ya) (.aff xb yb) = if xa = xb ∧ ya = -yb then .far else .aff (slope iv a xa ya xb yb * slope iv a xa ya xb yb - xa - xb) (slope iv a xa ya xb yb * (xa - (slope iv a xa ya xb yb * slope iv a xa ya xb yb - xa - xb)) - ya) := rfl
theorem sum_ref {xa ya xb yb : Nat} (hp : (Po.mk xa ya false).on = true) (hq : (Po.mk xb yb false).on = true) (hn : Po.same (Po.mk xa ya false) (Po.mk xb yb false).neg = false) :
    downR (Po.mk xa ya false) (Po.mk xb yb false) % mP ≠ 0 ∧ (Po.mk xa ya false).add (Po.mk xb yb false) = ⟨xR (Po.mk xa ya false) (Po.mk xb yb false), yR (Po.mk xa ya false) (Po.mk xb yb false), false⟩ := by
  obtain ⟨hxa, hya⟩ := on_lt hp
  obtain ⟨hxb, hyb⟩ := on_lt hq
  have o1 := (on_iff hp).1
  have o2 := (on_iff hq).1
  rw [toAff] at o1 o2
  have e1 : c ya * c ya = c xa * c xa * c xa + aP * c xa + bP := o1
  have e2 : c yb * c yb = c xb * c xb * c xb + aP * c xb + bP := o2
  have hnot : ¬ (c xa = c xb ∧ c ya = - c yb) := by
    rintro ⟨h1, h2⟩
    have h3 := c_inj hxa hxb h1
    rw [← c_ngj] at h2
    have h4 := c_inj hya (ngj_p yb) h2
    subst h3
    subst h4
    simp [Po.same, Po.neg] at hn
  have hsame : Po.same (Po.mk xa ya false) (Po.mk xb yb false) = decide (c xa = c xb) := by
    by_cases h : c xa = c xb
    · have h3 := c_inj hxa hxb h
      subst h3
      have h5 := same_y fit e1 e2 (fun h => hnot ⟨rfl, h.2⟩)
      have h4 := c_inj hya hyb h5
      subst h4
      simp [Po.same]
    · have : xa ≠ xb := fun h' => h (by rw [h'])
      simp [Po.same, this, h]
  have hsl : c (slR (Po.mk xa ya false) (Po.mk xb yb false)) = slope inv aP (c xa) (c ya) (c xb) (c yb) ∧ downR (Po.mk xa ya false) (Po.mk xb yb false) % mP ≠ 0 := by
    unfold slR upR downR slope
    rw [hsame]
    by_cases h : c xa = c xb
    · rw [decide_eq_true h, if_pos rfl, if_pos rfl, if_pos h]
      refine ⟨?_, ne_c ?_⟩
      · rw [c_mj, c_iN, c_sj, c_mj, c_mj, c_aj, c_three, m3_x]
        rfl
      · rw [c_aj]
        exact fit.yy e1
    · rw [decide_eq_false h, if_neg (by decide), if_neg (by decide), if_neg h]
      refine ⟨?_, ne_c ?_⟩
      · rw [c_mj, c_iN, c_sj, c_sj]
      · rw [c_sj]
        exact sub_of_ne h
  refine ⟨hsl.2, ?_⟩
  rw [add_is hp hq, toAff, toAff, sum_aff, if_neg hnot]
  have hX : c (xR (Po.mk xa ya false) (Po.mk xb yb false)) = slope inv aP (c xa) (c ya) (c xb) (c yb) * slope inv aP (c xa) (c ya) (c xb) (c yb) - c xa - c xb := by
    unfold xR
    rw [c_sj, c_sj, c_mj, hsl.1]
  have hY : c (yR (Po.mk xa ya false) (Po.mk xb yb false)) = slope inv aP (c xa) (c ya) (c xb) (c yb) * (c xa - (slope inv aP (c xa) (c ya) (c xb) (c yb) * slope inv aP (c xa) (c ya) (c xb) (c yb) - c xa - c xb)) - c ya := by
    unfold yR
    rw [c_sj, c_mj, c_sj, hX, hsl.1]
  rw [← hX] at hY ⊢
  rw [← hY]
  have v1 : xR (Po.mk xa ya false) (Po.mk xb yb false) = (c (xR (Po.mk xa ya false) (Po.mk xb yb false))).val := val_of (sj_p _ _) rfl
  have v2 : yR (Po.mk xa ya false) (Po.mk xb yb false) = (c (yR (Po.mk xa ya false) (Po.mk xb yb false))).val := val_of (sj_p _ _) rfl
  show (⟨_, _, _⟩ : Po) = _
  rw [← v1, ← v2]
theorem sum_opp {xa ya xb yb : Nat} (hp : (Po.mk xa ya false).on = true) (hq : (Po.mk xb yb false).on = true) (hn : Po.same (Po.mk xa ya false) (Po.mk xb yb false).neg = true) :
    (Po.mk xa ya false).add (Po.mk xb yb false) = ⟨0, 0, true⟩ := by
  have h : xa = xb ∧ ya = ngj yb := by
    have h' := hn
    simp [Po.same, Po.neg] at h'
    exact ⟨of_decide_eq_true h'.1, of_decide_eq_true h'.2⟩
  rw [add_is hp hq, toAff, toAff, sum_aff, if_pos ⟨by rw [h.1], by rw [h.2, c_ngj]⟩]
  rfl
theorem add_far {p q : Po} (hp : p.on = true) (hq : q.on = true) : (p.i = true → p.add q = q) ∧ (q.i = true → p.add q = p) := by
  have a := add_is hp hq
  constructor
  · intro h
    rw [a, show toPt p = .far from by unfold toPt; rw [if_pos h], far_sum, (on_iff hq).2.1]
  · intro h
    rw [a, show toPt q = .far from by unfold toPt; rw [if_pos h], sum_far, (on_iff hp).2.1]
theorem Bk.cellsA3 {t : TypeId} {w : World} {g : Nat} {a b c : Value} (h : Bk t w g #[a, b, c]) : (∀ o, (w.alloc o).cell? ⟨g, 0, none⟩ = some a) ∧ (∀ o, (w.alloc o).cell? ⟨g, 1, none⟩ = some b) ∧ (∀ o, (w.alloc o).cell? ⟨g, 2, none⟩ = some c) := ⟨fun o => (Bk.alloc h).cell 0, fun o => (Bk.alloc h).cell 1, fun o => (Bk.alloc h).cell 2⟩
theorem inv_c (v : Value) (w : World) (a : Nat) (ha : a < big) (h0 : a % mP ≠ 0) (h : NV w v a) : Calls Tryz.prog 64 #[.int .i64 0, v] w fun e w' => ∃ v', e = .returned v' ∧ Nr w w' v' (iN a) := by
  have := inverse_is 0 v w a ha (by rw [md0]; exact h0) h
  rwa [md0] at this
set_option maxHeartbeats 16000000 in
theorem sum7_p (xa ya xb yb : Nat) (qi : Bool) (nx cx ny cy mx dx my dy : Nat) (ax ay bx bb : Option Addr) (w : World) (hm : qi = false → NV w (.slice bx mx dx) xb ∧ NV w (.slice bb my dy) yb) : Calls Tryz.prog 66 #[.agg #[.bool true, .slice ax nx cx, .slice ay ny cy], .agg #[.bool qi, .slice bx mx dx, .slice bb my dy]] w fun e w' => ∃ v', e = .returned v' ∧ RP w' v' ⟨xb, yb, qi⟩ ∧ Below w.heap.size w w' := by
  have hb : Below w.heap.size w (((w.alloc (.cells #[.bool true, .slice ax nx cx, .slice ay ny cy] 72)).alloc (.cells #[.bool qi, .slice bx mx dx, .slice bb my dy] 72)).alloc (.cells #[.bool qi, .slice bx mx dx, .slice bb my dy] 72)) := by go_grown
  have HB := Lib.hid hb
  clear hb
  go_enter Tryz.func66, Tryz.ntmps66
  go_wp2_with fail
  refine ret_cell64 rfl (w.heap.size + 1 + 1) (.bool qi) (.slice bx mx dx) (.slice bb my dy) rfl (Bk.new (by simp)) rfl ⟨_, rfl, ⟨_, _, _, _, _, _, rfl, fun h => ⟨(hm h).1.below HB.out, (hm h).2.below HB.out⟩⟩, HB.out⟩
set_option maxHeartbeats 16000000 in
theorem sum7_q (xa ya xb yb : Nat) (nx cx ny cy mx dx my dy : Nat) (ax ay bx bb : Option Addr) (w : World) (hn : NV w (.slice ax nx cx) xa ∧ NV w (.slice ay ny cy) ya) : Calls Tryz.prog 66 #[.agg #[.bool false, .slice ax nx cx, .slice ay ny cy], .agg #[.bool true, .slice bx mx dx, .slice bb my dy]] w fun e w' => ∃ v', e = .returned v' ∧ RP w' v' ⟨xa, ya, false⟩ ∧ Below w.heap.size w w' := by
  have hb : Below w.heap.size w (((w.alloc (.cells #[.bool false, .slice ax nx cx, .slice ay ny cy] 72)).alloc (.cells #[.bool true, .slice bx mx dx, .slice bb my dy] 72)).alloc (.cells #[.bool false, .slice ax nx cx, .slice ay ny cy] 72)) := by go_grown
  have HB := Lib.hid hb
  clear hb
  go_enter Tryz.func66, Tryz.ntmps66
  go_wp2_with fail
  refine ret_cell64 rfl (w.heap.size + 1 + 1) (.bool false) (.slice ax nx cx) (.slice ay ny cy) rfl (Bk.new (by simp)) rfl ⟨_, rfl, ⟨_, _, _, _, _, _, rfl, fun h => ⟨hn.1.below HB.out, hn.2.below HB.out⟩⟩, HB.out⟩
set_option maxHeartbeats 16000000 in
theorem sum7_far (xa ya xb yb : Nat) (nx cx ny cy mx dx my dy : Nat) (ax ay bx bb : Option Addr) (hp : (Po.mk xa ya false).on = true) (hq : (Po.mk xb yb false).on = true) (w : World) (hn1 : NV w (.slice ax nx cx) xa) (hn2 : NV w (.slice ay ny cy) ya) (hm1 : NV w (.slice bx mx dx) xb) (hm2 : NV w (.slice bb my dy) yb) (hs : Po.same (Po.mk xa ya false) (Po.mk xb yb false).neg = true) : Calls Tryz.prog 66 #[.agg #[.bool false, .slice ax nx cx, .slice ay ny cy], .agg #[.bool false, .slice bx mx dx, .slice bb my dy]] w fun e w' => ∃ v', e = .returned v' ∧ RP w' v' ⟨0, 0, true⟩ ∧ Below w.heap.size w w' := by
  have HS := Lib.hid hs
  have NX := Lib.hid hn1
  have NY := Lib.hid hn2
  have MX := Lib.hid hm1
  have MY := Lib.hid hm2
  have HBG : Hid (xa < big ∧ ya < big ∧ xb < big ∧ yb < big) := Lib.hid ⟨mp_big (on_lt hp).1, mp_big (on_lt hp).2, mp_big (on_lt hq).1, mp_big (on_lt hq).2⟩
  clear hn1 hn2 hm1 hm2 hp hq
  clear hs
  go_enter Tryz.func66, Tryz.ntmps66
  go_wp2_with fail
  have KP : Hid (Bk 72 (((w.alloc (.cells #[.bool false, .slice ax nx cx, .slice ay ny cy] 72)).alloc (.cells #[.bool false, .slice bx mx dx, .slice bb my dy] 72)).alloc (.cells #[.bool false, .slice none 0 0, .slice none 0 0] 72)) w.heap.size #[.bool false, .slice ax nx cx, .slice ay ny cy]) := Lib.hid (Bk.alloc (Bk.alloc (Bk.new rfl)))
  have KQ : Hid (Bk 72 (((w.alloc (.cells #[.bool false, .slice ax nx cx, .slice ay ny cy] 72)).alloc (.cells #[.bool false, .slice bx mx dx, .slice bb my dy] 72)).alloc (.cells #[.bool false, .slice none 0 0, .slice none 0 0] 72)) (w.heap.size + 1) #[.bool false, .slice bx mx dx, .slice bb my dy]) := Lib.hid (Bk.alloc (Bk.new (by simp)))
  have KR : Hid (Bk 72 (((w.alloc (.cells #[.bool false, .slice ax nx cx, .slice ay ny cy] 72)).alloc (.cells #[.bool false, .slice bx mx dx, .slice bb my dy] 72)).alloc (.cells #[.bool false, .slice none 0 0, .slice none 0 0] 72)) (w.heap.size + 1 + 1) #[.bool false, .slice none 0 0, .slice none 0 0]) := Lib.hid (Bk.new (by simp))
  have HB : Hid (Below w.heap.size w (((w.alloc (.cells #[.bool false, .slice ax nx cx, .slice ay ny cy] 72)).alloc (.cells #[.bool false, .slice bx mx dx, .slice bb my dy] 72)).alloc (.cells #[.bool false, .slice none 0 0, .slice none 0 0] 72))) := Lib.hid (by go_grown)
  obtain ⟨gQ, hgQ⟩ : ∃ g, g = w.heap.size + 1 := ⟨_, rfl⟩
  rw [← hgQ] at KQ KR ⊢
  obtain ⟨gR, hgR⟩ : ∃ g, g = gQ + 1 := ⟨_, rfl⟩
  rw [← hgR] at KR ⊢
  have HG := Lib.hid (show w.heap.size ≤ gR by omega)
  clear hgR hgQ
  generalize (((w.alloc (.cells #[.bool false, .slice ax nx cx, .slice ay ny cy] 72)).alloc (.cells #[.bool false, .slice bx mx dx, .slice bb my dy] 72)).alloc (.cells #[.bool false, .slice none 0 0, .slice none 0 0] 72)) = w0 at KP KQ KR HB ⊢
  replace NX := Lib.hid (NX.out.below HB.out)
  replace NY := Lib.hid (NY.out.below HB.out)
  replace MX := Lib.hid (MX.out.below HB.out)
  replace MY := Lib.hid (MY.out.below HB.out)
  obtain ⟨a0, a1, a2⟩ := Bk.cells3 KP.out
  obtain ⟨b0, b1, b2⟩ := Bk.cells3 KQ.out
  go_wp2_with fail
  clear a0 a1 a2 b0 b1 b2
  refine su5 w.heap.size gQ gR xa ya xb yb nx cx ny cy mx dx my dy ax ay bx bb w0 KP.out KQ.out HBG.out.2.2.2 ⟨_, _, _, _, _, _, rfl, fun _ => ⟨NX.out, NY.out⟩⟩ ⟨_, _, _, _, _, _, rfl, fun _ => ⟨MX.out, MY.out⟩⟩ ?_
  intros
  rename_i w1 hb1
  rw [HS.out]
  replace KP := Lib.hid (KP.out.below hb1)
  replace KQ := Lib.hid (KQ.out.below hb1)
  replace KR := Lib.hid (KR.out.below hb1)
  replace HB := Lib.hid (HB.out.trans (hb1.mono HB.out.size))
  clear hb1
  obtain ⟨c0, c1, c2⟩ := Bk.cells3 KR.out
  obtain ⟨f0, f1, f2⟩ := Bk.fros3 KR.out
  go_wp2_with fail
  refine ret_cell64 rfl gR (.bool true) (.slice none 0 0) (.slice none 0 0) rfl (Bk.put3 KR.out) rfl ⟨_, rfl, ⟨_, _, _, _, _, _, rfl, fun h => by cases h⟩, ?_⟩
  have hb := HB.out
  have hg := HG.out
  go_grown
set_option maxHeartbeats 16000000 in
theorem sum7_two (xa ya xb yb up dn s : Nat) (nx cx ny cy mx dx my dy : Nat) (ax ay bx bb : Option Addr) (hp : (Po.mk xa ya false).on = true) (hq : (Po.mk xb yb false).on = true) (w : World) (hn1 : NV w (.slice ax nx cx) xa) (hn2 : NV w (.slice ay ny cy) ya) (hm1 : NV w (.slice bx mx dx) xb) (hm2 : NV w (.slice bb my dy) yb) (hs : Po.same (Po.mk xa ya false) (Po.mk xb yb false).neg = false) (hs2 : Po.same (Po.mk xa ya false) (Po.mk xb yb false) = false) (hup : up = sj yb ya) (hdn : dn = sj xb xa) (hd0 : dn % mP ≠ 0) (hsl : s = mj up (iN dn)) : Calls Tryz.prog 66 #[.agg #[.bool false, .slice ax nx cx, .slice ay ny cy], .agg #[.bool false, .slice bx mx dx, .slice bb my dy]] w fun e w' => ∃ v', e = .returned v' ∧ RP w' v' ⟨sj (sj (mj s s) xa) xb, sj (mj s (sj xa (sj (sj (mj s s) xa) xb))) ya, false⟩ ∧ Below w.heap.size w w' := by
  have HS := Lib.hid hs
  have HS2 := Lib.hid hs2
  have HU := Lib.hid hup
  have HD := Lib.hid hdn
  have HSL := Lib.hid hsl
  have HDN : Hid (dn < big ∧ dn % mP ≠ 0) := Lib.hid ⟨by rw [hdn]; exact sj_b _ _, hd0⟩
  have HUP : Hid (up < big) := Lib.hid (by rw [hup]; exact sj_b _ _)
  have HSB : Hid (s < big) := Lib.hid (by rw [hsl]; exact mj_b _ _)
  clear hs2 hup hdn hd0 hsl
  have NX := Lib.hid hn1
  have NY := Lib.hid hn2
  have MX := Lib.hid hm1
  have MY := Lib.hid hm2
  have HBG : Hid (xa < big ∧ ya < big ∧ xb < big ∧ yb < big) := Lib.hid ⟨mp_big (on_lt hp).1, mp_big (on_lt hp).2, mp_big (on_lt hq).1, mp_big (on_lt hq).2⟩
  clear hn1 hn2 hm1 hm2 hp hq
  clear hs
  go_enter Tryz.func66, Tryz.ntmps66
  go_wp2_with fail
  have KP : Hid (Bk 72 (((w.alloc (.cells #[.bool false, .slice ax nx cx, .slice ay ny cy] 72)).alloc (.cells #[.bool false, .slice bx mx dx, .slice bb my dy] 72)).alloc (.cells #[.bool false, .slice none 0 0, .slice none 0 0] 72)) w.heap.size #[.bool false, .slice ax nx cx, .slice ay ny cy]) := Lib.hid (Bk.alloc (Bk.alloc (Bk.new rfl)))
  have KQ : Hid (Bk 72 (((w.alloc (.cells #[.bool false, .slice ax nx cx, .slice ay ny cy] 72)).alloc (.cells #[.bool false, .slice bx mx dx, .slice bb my dy] 72)).alloc (.cells #[.bool false, .slice none 0 0, .slice none 0 0] 72)) (w.heap.size + 1) #[.bool false, .slice bx mx dx, .slice bb my dy]) := Lib.hid (Bk.alloc (Bk.new (by simp)))
  have KR : Hid (Bk 72 (((w.alloc (.cells #[.bool false, .slice ax nx cx, .slice ay ny cy] 72)).alloc (.cells #[.bool false, .slice bx mx dx, .slice bb my dy] 72)).alloc (.cells #[.bool false, .slice none 0 0, .slice none 0 0] 72)) (w.heap.size + 1 + 1) #[.bool false, .slice none 0 0, .slice none 0 0]) := Lib.hid (Bk.new (by simp))
  have HB : Hid (Below w.heap.size w (((w.alloc (.cells #[.bool false, .slice ax nx cx, .slice ay ny cy] 72)).alloc (.cells #[.bool false, .slice bx mx dx, .slice bb my dy] 72)).alloc (.cells #[.bool false, .slice none 0 0, .slice none 0 0] 72))) := Lib.hid (by go_grown)
  obtain ⟨gQ, hgQ⟩ : ∃ g, g = w.heap.size + 1 := ⟨_, rfl⟩
  rw [← hgQ] at KQ KR ⊢
  obtain ⟨gR, hgR⟩ : ∃ g, g = gQ + 1 := ⟨_, rfl⟩
  rw [← hgR] at KR ⊢
  have HG := Lib.hid (show w.heap.size ≤ gR by omega)
  clear hgR hgQ
  generalize (((w.alloc (.cells #[.bool false, .slice ax nx cx, .slice ay ny cy] 72)).alloc (.cells #[.bool false, .slice bx mx dx, .slice bb my dy] 72)).alloc (.cells #[.bool false, .slice none 0 0, .slice none 0 0] 72)) = w0 at KP KQ KR HB ⊢
  replace NX := Lib.hid (NX.out.below HB.out)
  replace NY := Lib.hid (NY.out.below HB.out)
  replace MX := Lib.hid (MX.out.below HB.out)
  replace MY := Lib.hid (MY.out.below HB.out)
  obtain ⟨a0, a1, a2⟩ := Bk.cells3 KP.out
  obtain ⟨b0, b1, b2⟩ := Bk.cells3 KQ.out
  go_wp2_with fail
  clear a0 a1 a2 b0 b1 b2
  refine su5 w.heap.size gQ gR xa ya xb yb nx cx ny cy mx dx my dy ax ay bx bb w0 KP.out KQ.out HBG.out.2.2.2 ⟨_, _, _, _, _, _, rfl, fun _ => ⟨NX.out, NY.out⟩⟩ ⟨_, _, _, _, _, _, rfl, fun _ => ⟨MX.out, MY.out⟩⟩ ?_
  intros
  rename_i w1 hb1
  rw [HS.out]
  replace KP := Lib.hid (KP.out.below hb1)
  replace KQ := Lib.hid (KQ.out.below hb1)
  replace KR := Lib.hid (KR.out.below hb1)
  replace NX := Lib.hid (NX.out.below hb1)
  replace NY := Lib.hid (NY.out.below hb1)
  replace MX := Lib.hid (MX.out.below hb1)
  replace MY := Lib.hid (MY.out.below hb1)
  replace HB := Lib.hid (HB.out.trans (hb1.mono HB.out.size))
  clear hb1
  go_wp2_with fail
  refine su7 w.heap.size gQ gR xa ya xb yb nx cx ny cy mx dx my dy ax ay bx bb w1 KP.out KQ.out HBG.out.1 HBG.out.2.1 HBG.out.2.2.1 HBG.out.2.2.2 NX.out NY.out MX.out MY.out ?_
  intros
  rename_i vu vd w2 hb1 hnu hnd
  have NU := Lib.hid hnu
  have ND := Lib.hid hnd
  clear hnu hnd
  replace KP := Lib.hid (KP.out.below hb1)
  replace KQ := Lib.hid (KQ.out.below hb1)
  replace KR := Lib.hid (KR.out.below hb1)
  replace NX := Lib.hid (NX.out.below hb1)
  replace NY := Lib.hid (NY.out.below hb1)
  replace MX := Lib.hid (MX.out.below hb1)
  replace MY := Lib.hid (MY.out.below hb1)
  replace HB := Lib.hid (HB.out.trans (hb1.mono HB.out.size))
  clear hb1
  obtain ⟨a0, a1, a2⟩ := Bk.cells3 KP.out
  obtain ⟨b0, b1, b2⟩ := Bk.cells3 KQ.out
  go_wp2_with fail
  clear a0 a1 a2 b0 b1 b2
  refine (keep w.heap.size w (same7 _ _ (Po.mk xa ya false) (Po.mk xb yb false) _ ⟨_, _, _, _, _, _, rfl, fun _ => ⟨NX.out, NY.out⟩⟩ ⟨_, _, _, _, _, _, rfl, fun _ => ⟨MX.out, MY.out⟩⟩) HB.out (Nat.le_refl _)).mono ?_
  rintro e w3 ⟨rfl, hb, hk⟩
  replace KP := Lib.hid (KP.out.below hk)
  replace KQ := Lib.hid (KQ.out.below hk)
  replace KR := Lib.hid (KR.out.below hk)
  replace NX := Lib.hid (NX.out.below hk)
  replace NY := Lib.hid (NY.out.below hk)
  replace MX := Lib.hid (MX.out.below hk)
  replace MY := Lib.hid (MY.out.below hk)
  replace NU := Lib.hid (NU.out.below hk)
  replace ND := Lib.hid (ND.out.below hk)
  replace HB := Lib.hid hb
  clear hb hk
  rw [HS2.out]
  rw [← HU.out] at NU
  rw [← HD.out] at ND
  go_wp2_with fail
  refine (nk w.heap.size w (inv_c _ _ dn HDN.out.1 HDN.out.2 ND.out) HB.out (Nat.le_refl _)).mono ?_
  rintro e w4 ⟨vi, rfl, hn, hb, hk⟩
  replace KP := Lib.hid (KP.out.below hk)
  replace KQ := Lib.hid (KQ.out.below hk)
  replace KR := Lib.hid (KR.out.below hk)
  replace NX := Lib.hid (NX.out.below hk)
  replace NY := Lib.hid (NY.out.below hk)
  replace MX := Lib.hid (MX.out.below hk)
  replace MY := Lib.hid (MY.out.below hk)
  replace NU := Lib.hid (NU.out.below hk)
  replace ND := Lib.hid (ND.out.below hk)
  have NI := Lib.hid hn
  replace HB := Lib.hid hb
  clear hn hb hk
  go_wp2_with fail
  refine (nk w.heap.size w (times_nv _ _ _ up (iN dn) HUP.out (mp_big (Nat.mod_lt _ (by decide +kernel))) NU.out NI.out) HB.out (Nat.le_refl _)).mono ?_
  rintro e w5 ⟨vs, rfl, hn, hb, hk⟩
  replace KP := Lib.hid (KP.out.below hk)
  replace KQ := Lib.hid (KQ.out.below hk)
  replace KR := Lib.hid (KR.out.below hk)
  replace NX := Lib.hid (NX.out.below hk)
  replace NY := Lib.hid (NY.out.below hk)
  replace MX := Lib.hid (MX.out.below hk)
  replace MY := Lib.hid (MY.out.below hk)
  replace NU := Lib.hid (NU.out.below hk)
  replace ND := Lib.hid (ND.out.below hk)
  replace NI := Lib.hid (NI.out.below hk)
  have NS := Lib.hid hn
  replace HB := Lib.hid hb
  clear hn hb hk
  rw [← HSL.out] at NS
  clear NU ND NI
  go_wp2_with fail
  refine su12 w.heap.size gQ gR xa xb s (.slice ay ny cy) (.slice bb my dy) nx cx mx dx ax bx vs w5 KP.out KQ.out HBG.out.1 HBG.out.2.2.1 HSB.out NX.out MX.out NS.out ?_
  intros
  rename_i v8 w12 hb1 hn8
  obtain ⟨a8, n8, c8, rfl⟩ := hn8.shape
  have N8 := Lib.hid hn8
  clear hn8
  replace KP := Lib.hid (KP.out.below hb1)
  replace KQ := Lib.hid (KQ.out.below hb1)
  replace KR := Lib.hid (KR.out.below hb1)
  replace NX := Lib.hid (NX.out.below hb1)
  replace NY := Lib.hid (NY.out.below hb1)
  replace MX := Lib.hid (MX.out.below hb1)
  replace MY := Lib.hid (MY.out.below hb1)
  replace NS := Lib.hid (NS.out.below hb1)
  replace HB := Lib.hid (HB.out.trans (hb1.mono HB.out.size))
  clear hb1
  go_wp2_with fail
  refine su13 w.heap.size gR xa ya s (sj (sj (mj s s) xa) xb) nx cx ny cy n8 c8 ax ay a8 vs w12 KP.out KR.out HBG.out.1 HBG.out.2.1 HSB.out (sj_b _ _) NX.out NY.out NS.out N8.out ?_
  intros
  rename_i v9 v10 w13 hb1 hn9
  obtain ⟨a9, n9, c9, rfl⟩ := hn9.shape
  have N9 := Lib.hid hn9
  clear hn9
  replace KP := Lib.hid (KP.out.below hb1)
  replace KQ := Lib.hid (KQ.out.below hb1)
  replace KR := Lib.hid (KR.out.below hb1)
  replace N8 := Lib.hid (N8.out.below hb1)
  replace HB := Lib.hid (HB.out.trans (hb1.mono HB.out.size))
  clear hb1
  have HN := Lib.hid (And.intro (put3_ex (d := .bool false) (e := .slice a8 n8 c8) (f := .slice a9 n9 c9) N8.out KR.out) (put3_ex (d := .bool false) (e := .slice a8 n8 c8) (f := .slice a9 n9 c9) N9.out KR.out))
  go_wp2_with fail
  refine ret_cell64 rfl gR (.bool false) (.slice a8 n8 c8) (.slice a9 n9 c9) rfl (Bk.put3 KR.out) rfl ⟨_, rfl, ⟨_, _, _, _, _, _, rfl, fun _ => HN.out⟩, ?_⟩
  have hb := HB.out
  have hg := HG.out
  go_grown
end Go.Proofs.YtpggkfdijmnmiaaGreat.Ref
