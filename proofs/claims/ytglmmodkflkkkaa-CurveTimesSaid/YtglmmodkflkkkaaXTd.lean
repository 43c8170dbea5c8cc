import Derived.Test.YtglmmodkflkkkaaXTb
set_option linter.unusedVariables false
set_option linter.unusedSimpArgs false
set_option maxRecDepth 100000
namespace Go.Proofs.Ytglmmodkflkkkaa.Ref
open Go.RowKit Go.Proofs.Ytglmmodkflkkkaa.Digits Limbs Curve
def mo2F (w0 : World) (gP gQ gR xa xb zz : Nat) (nx cx ny cy nz cz mx dx my dy : Nat) (ax ay az bx bb : Option Addr) (vz : Value) (t0 t1 t8 t9 t10 t11 t12 t13 t14 t15 t16 t17 t25 t26 t27 t28 t29 t30 t31 t32 t33 t34 t35 t36 t37 t38 t39 t40 t41 t42 t43 t44 t45 t46 t47 t48 t49 t50 t51 t52 t53 t54 t55 t56 t57 t58 t59 t60 t61 t62 t63 t64 t65 t66 t67 t68 t69 t70 t71 t72 t73 : Value) (ds : List Deferred) (a : Act) (w : World) : Prop :=
  ∃ y0 y1 y2 y3 y4 y5 y6 y7 : Value, ∃ wm : World, a = { tmps := #[t0, t1, .pointer (some ⟨gP, 0, none⟩), .pointer (some ⟨gQ, 0, none⟩), .pointer (some ⟨gR, 0, none⟩), .bool false, vz, y7, t8, t9, t10, t11, t12, t13, t14, t15, t16, t17, y0, y1, y2, y3, y4, y5, y6, t25, t26, t27, t28, t29, t30, t31, t32, t33, t34, t35, t36, t37, t38, t39, t40, t41, t42, t43, t44, t45, t46, t47, t48, t49, t50, t51, t52, t53, t54, t55, t56, t57, t58, t59, t60, t61, t62, t63, t64, t65, t66, t67, t68, t69, t70, t71, t72, t73], defers := ds } ∧ Below w0.heap.size w0 wm ∧ w = wm ∧ NV wm y7 (sj (mj xb zz) xa)
def mo2I (w0 : World) (gP gQ gR xa xb zz : Nat) (nx cx ny cy nz cz mx dx my dy : Nat) (ax ay az bx bb : Option Addr) (vz : Value) (t0 t1 t8 t9 t10 t11 t12 t13 t14 t15 t16 t17 t25 t26 t27 t28 t29 t30 t31 t32 t33 t34 t35 t36 t37 t38 t39 t40 t41 t42 t43 t44 t45 t46 t47 t48 t49 t50 t51 t52 t53 t54 t55 t56 t57 t58 t59 t60 t61 t62 t63 t64 t65 t66 t67 t68 t69 t70 t71 t72 t73 : Value) (ds : List Deferred) (l : Array Bool) (a : Act) (w : World) : Prop :=
  ∃ j0 j1 j2 j3 j4 j5 j6 j7 : Bool, ∃ x0 x1 x2 x3 x4 x5 x6 x7 : Value, l = #[j0, j1, j2, j3, j4, j5, j6, j7] ∧ a = { tmps := #[t0, t1, .pointer (some ⟨gP, 0, none⟩), .pointer (some ⟨gQ, 0, none⟩), .pointer (some ⟨gR, 0, none⟩), .bool false, vz, x7, t8, t9, t10, t11, t12, t13, t14, t15, t16, t17, x0, x1, x2, x3, x4, x5, x6, t25, t26, t27, t28, t29, t30, t31, t32, t33, t34, t35, t36, t37, t38, t39, t40, t41, t42, t43, t44, t45, t46, t47, t48, t49, t50, t51, t52, t53, t54, t55, t56, t57, t58, t59, t60, t61, t62, t63, t64, t65, t66, t67, t68, t69, t70, t71, t72, t73], defers := ds } ∧ Below w0.heap.size w0 w ∧
  (j0 = true → x0 = .pointer (some ⟨gQ, 1, none⟩)) ∧ (j1 = true → x1 = .slice bx mx dx) ∧ (j2 = true → x2 = vz) ∧ (j3 = true → NV w x3 (mj xb zz)) ∧ (j4 = true → x4 = .pointer (some ⟨gP, 0, none⟩)) ∧ (j5 = true → x5 = .slice ax nx cx) ∧ (j6 = true → NV w x6 (sj (mj xb zz) xa)) ∧ (j7 = true → NV w x7 (sj (mj xb zz) xa))
noncomputable def mo2O : Array Oper := (Try.f85.body.bind fun c => findR c 2).getD #[]
set_option maxHeartbeats 16000000 in
theorem mo2_steps (gP gQ gR xa xb zz : Nat) (nx cx ny cy nz cz mx dx my dy : Nat) (ax ay az bx bb : Option Addr) (vz : Value) (w : World) (KP : Bk 101 w gP #[.slice ax nx cx, .slice ay ny cy, .slice az nz cz]) (KQ : Bk 64 w gQ #[.bool false, .slice bx mx dx, .slice bb my dy]) (HX : xa < big) (HXB : xb < big) (HZZ : zz < big) (NX : NV w (.slice ax nx cx) xa) (MX : NV w (.slice bx mx dx) xb) (NZ : NV w vz zz)
    {t0 t1 t8 t9 t10 t11 t12 t13 t14 t15 t16 t17 t25 t26 t27 t28 t29 t30 t31 t32 t33 t34 t35 t36 t37 t38 t39 t40 t41 t42 t43 t44 t45 t46 t47 t48 t49 t50 t51 t52 t53 t54 t55 t56 t57 t58 t59 t60 t61 t62 t63 t64 t65 t66 t67 t68 t69 t70 t71 t72 t73 : Value} {ds : List Deferred} {Q : Exit → Act → World → Prop} :
    ∀ l a w', mo2I w gP gQ gR xa xb zz nx cx ny cy nz cz mx dx my dy ax ay az bx bb vz t0 t1 t8 t9 t10 t11 t12 t13 t14 t15 t16 t17 t25 t26 t27 t28 t29 t30 t31 t32 t33 t34 t35 t36 t37 t38 t39 t40 t41 t42 t43 t44 t45 t46 t47 t48 t49 t50 t51 t52 t53 t54 t55 t56 t57 t58 t59 t60 t61 t62 t63 t64 t65 t66 t67 t68 t69 t70 t71 t72 t73 ds l a w' → ∀ i ∈ Region.ready .any mo2O l, wpOp Try.prog mo2O Q i (fun a' w'' => mo2I w gP gQ gR xa xb zz nx cx ny cy nz cz mx dx my dy ax ay az bx bb vz t0 t1 t8 t9 t10 t11 t12 t13 t14 t15 t16 t17 t25 t26 t27 t28 t29 t30 t31 t32 t33 t34 t35 t36 t37 t38 t39 t40 t41 t42 t43 t44 t45 t46 t47 t48 t49 t50 t51 t52 t53 t54 t55 t56 t57 t58 t59 t60 t61 t62 t63 t64 t65 t66 t67 t68 t69 t70 t71 t72 t73 ds (l.setIfInBounds i true) a' w'') a w' := by
  simp only [mo2O, findR, Try.f85, Option.bind_some, Option.or, Option.getD, Nat.reduceEqDiff, if_true, if_false, reduceIte]
  rintro l a w' hI i hi
  rw [mem_ready] at hi
  obtain ⟨hu, oo, ho, hd⟩ := hi
  have hin : i < 8 := by
    have := (Array.getElem?_eq_some_iff.1 ho).1
    simpa using this
  have hcase : i = 0 ∨ i = 1 ∨ i = 2 ∨ i = 3 ∨ i = 4 ∨ i = 5 ∨ i = 6 ∨ i = 7 := by omega
  obtain ⟨j0, j1, j2, j3, j4, j5, j6, j7, x0, x1, x2, x3, x4, x5, x6, x7, rfl, rfl, hB, h0, h1, h2, h3, h4, h5, h6, h7⟩ := hI
  replace h0 := Lib.hid h0
  replace h1 := Lib.hid h1
  replace h2 := Lib.hid h2
  replace h3 := Lib.hid h3
  replace h4 := Lib.hid h4
  replace h5 := Lib.hid h5
  replace h6 := Lib.hid h6
  replace h7 := Lib.hid h7
  rcases hcase with rfl | rfl | rfl | rfl | rfl | rfl | rfl | rfl
  · obtain rfl := Option.some.inj ho
    simp [Region.binds] at hu hd
    clear hd
    refine wpOp_of rfl rfl ?_
    go_simp
    unfold mo2I
    exact ⟨true, j1, j2, j3, j4, j5, j6, j7, _, x1, x2, x3, x4, x5, x6, x7, rfl, rfl, hB, fun _ => rfl, h1.out, h2.out, h3.out, h4.out, h5.out, h6.out, h7.out⟩
  · obtain rfl := Option.some.inj ho
    simp [Region.binds] at hu hd
    have d0 : j0 = true := by simp [hd]
    have e0 := h0.out d0
    subst e0
    subst d0
    clear hd
    refine wpOp_of rfl rfl ?_
    have i1 : w'.cell? ⟨gQ, 1, none⟩ = some (.slice bx mx dx) := (KQ.below hB).cell 1
    go_simp
    unfold mo2I
    exact ⟨true, true, j2, j3, j4, j5, j6, j7, _, _, x2, x3, x4, x5, x6, x7, rfl, rfl, hB, h0.out, fun _ => rfl, h2.out, h3.out, h4.out, h5.out, h6.out, h7.out⟩
  · obtain rfl := Option.some.inj ho
    simp [Region.binds] at hu hd
    clear hd
    refine wpOp_of rfl rfl ?_
    go_simp
    unfold mo2I
    exact ⟨j0, j1, true, j3, j4, j5, j6, j7, x0, x1, _, x3, x4, x5, x6, x7, rfl, rfl, hB, h0.out, h1.out, fun _ => rfl, h3.out, h4.out, h5.out, h6.out, h7.out⟩
  · obtain rfl := Option.some.inj ho
    simp [Region.binds] at hu hd
    have d1 : j1 = true := by simp [hd]
    have d2 : j2 = true := by simp [hd]
    have e1 := h1.out d1
    subst e1
    have e2 := h2.out d2
    subst e2
    subst d1
    subst d2
    clear hd
    refine wpOp_of rfl rfl ?_
    go_simp
    go_at_call 69
    refine (nk w.heap.size w (times_nv _ _ _ xb zz HXB HZZ (MX.below hB) (NZ.below hB)) hB (Nat.le_refl _)).mono ?_
    rintro e w2 ⟨v', rfl, hn', hB2, hb2⟩
    unfold mo2I
    exact ⟨j0, true, true, true, j4, j5, j6, j7, x0, _, _, _, x4, x5, x6, x7, rfl, rfl, hB2, h0.out, h1.out, h2.out, fun _ => hn', h4.out, h5.out, fun hj => (h6.out hj).below hb2, fun hj => (h7.out hj).below hb2⟩
  · obtain rfl := Option.some.inj ho
    simp [Region.binds] at hu hd
    clear hd
    refine wpOp_of rfl rfl ?_
    go_simp
    unfold mo2I
    exact ⟨j0, j1, j2, j3, true, j5, j6, j7, x0, x1, x2, x3, _, x5, x6, x7, rfl, rfl, hB, h0.out, h1.out, h2.out, h3.out, fun _ => rfl, h5.out, h6.out, h7.out⟩
  · obtain rfl := Option.some.inj ho
    simp [Region.binds] at hu hd
    have d4 : j4 = true := by simp [hd]
    have e4 := h4.out d4
    subst e4
    subst d4
    clear hd
    refine wpOp_of rfl rfl ?_
    have i0 : w'.cell? ⟨gP, 0, none⟩ = some (.slice ax nx cx) := (KP.below hB).cell 0
    go_simp
    unfold mo2I
    exact ⟨j0, j1, j2, j3, true, true, j6, j7, x0, x1, x2, x3, _, _, x6, x7, rfl, rfl, hB, h0.out, h1.out, h2.out, h3.out, h4.out, fun _ => rfl, h6.out, h7.out⟩
  · obtain rfl := Option.some.inj ho
    simp [Region.binds] at hu hd
    have d3 : j3 = true := by simp [hd]
    have d5 : j5 = true := by simp [hd]
    have e5 := h5.out d5
    subst e5
    subst d3
    subst d5
    clear hd
    refine wpOp_of rfl rfl ?_
    go_simp
    go_at_call 68
    refine (nk w.heap.size w (minus_nv' _ _ _ (mj xb zz) xa (mj_b _ _) HX (h3.out rfl) (NX.below hB)) hB (Nat.le_refl _)).mono ?_
    rintro e w2 ⟨v', rfl, hn', hB2, hb2⟩
    unfold mo2I
    exact ⟨j0, j1, j2, true, j4, true, true, j7, x0, x1, x2, x3, x4, _, _, x7, rfl, rfl, hB2, h0.out, h1.out, h2.out, fun hj => (h3.out hj).below hb2, h4.out, h5.out, fun _ => hn', fun hj => (h7.out hj).below hb2⟩
  · obtain rfl := Option.some.inj ho
    simp [Region.binds] at hu hd
    have d0 : j0 = true := by simp [hd]
    have d1 : j1 = true := by simp [hd]
    have d2 : j2 = true := by simp [hd]
    have d3 : j3 = true := by simp [hd]
    have d4 : j4 = true := by simp [hd]
    have d5 : j5 = true := by simp [hd]
    have d6 : j6 = true := by simp [hd]
    have e0 := h0.out d0
    subst e0
    have e1 := h1.out d1
    subst e1
    have e2 := h2.out d2
    subst e2
    have e4 := h4.out d4
    subst e4
    have e5 := h5.out d5
    subst e5
    subst d0
    subst d1
    subst d2
    subst d3
    subst d4
    subst d5
    subst d6
    clear hd
    refine wpOp_of rfl rfl ?_
    go_simp
    unfold mo2I
    exact ⟨true, true, true, true, true, true, true, true, _, _, _, x3, _, _, x6, _, rfl, rfl, hB, h0.out, h1.out, h2.out, h3.out, h4.out, h5.out, h6.out, fun _ => h6.out rfl⟩
set_option maxHeartbeats 16000000 in
theorem mo2_fin (gP gQ gR xa xb zz : Nat) (nx cx ny cy nz cz mx dx my dy : Nat) (ax ay az bx bb : Option Addr) (vz : Value) (w : World) {t0 t1 t8 t9 t10 t11 t12 t13 t14 t15 t16 t17 t25 t26 t27 t28 t29 t30 t31 t32 t33 t34 t35 t36 t37 t38 t39 t40 t41 t42 t43 t44 t45 t46 t47 t48 t49 t50 t51 t52 t53 t54 t55 t56 t57 t58 t59 t60 t61 t62 t63 t64 t65 t66 t67 t68 t69 t70 t71 t72 t73 : Value} {ds : List Deferred} : ∀ l a w1, mo2I w gP gQ gR xa xb zz nx cx ny cy nz cz mx dx my dy ax ay az bx bb vz t0 t1 t8 t9 t10 t11 t12 t13 t14 t15 t16 t17 t25 t26 t27 t28 t29 t30 t31 t32 t33 t34 t35 t36 t37 t38 t39 t40 t41 t42 t43 t44 t45 t46 t47 t48 t49 t50 t51 t52 t53 t54 t55 t56 t57 t58 t59 t60 t61 t62 t63 t64 t65 t66 t67 t68 t69 t70 t71 t72 t73 ds l a w1 → Region.ready .any mo2O l = [] → mo2F w gP gQ gR xa xb zz nx cx ny cy nz cz mx dx my dy ax ay az bx bb vz t0 t1 t8 t9 t10 t11 t12 t13 t14 t15 t16 t17 t25 t26 t27 t28 t29 t30 t31 t32 t33 t34 t35 t36 t37 t38 t39 t40 t41 t42 t43 t44 t45 t46 t47 t48 t49 t50 t51 t52 t53 t54 t55 t56 t57 t58 t59 t60 t61 t62 t63 t64 t65 t66 t67 t68 t69 t70 t71 t72 t73 ds a w1 := by
  simp only [mo2O, findR, Try.f85, Option.bind_some, Option.or, Option.getD, Nat.reduceEqDiff, if_true, if_false, reduceIte]
  rintro l a w1 hI hr
  obtain ⟨j0, j1, j2, j3, j4, j5, j6, j7, x0, x1, x2, x3, x4, x5, x6, x7, rfl, rfl, hB, h0, h1, h2, h3, h4, h5, h6, h7⟩ := hI
  have hn := fun i => List.eq_nil_iff_forall_not_mem.1 hr i
  clear hr
  have d0 : j0 = true := by
    cases hj : j0
    · exact absurd (mem_ready.2 ⟨by simp [hj], _, rfl, by simp [Region.binds, hj]⟩) (hn 0)
    · rfl
  subst d0
  have d1 : j1 = true := by
    cases hj : j1
    · exact absurd (mem_ready.2 ⟨by simp [hj], _, rfl, by simp [Region.binds, hj]⟩) (hn 1)
    · rfl
  subst d1
  have d2 : j2 = true := by
    cases hj : j2
    · exact absurd (mem_ready.2 ⟨by simp [hj], _, rfl, by simp [Region.binds, hj]⟩) (hn 2)
    · rfl
  subst d2
  have d3 : j3 = true := by
    cases hj : j3
    · exact absurd (mem_ready.2 ⟨by simp [hj], _, rfl, by simp [Region.binds, hj]⟩) (hn 3)
    · rfl
  subst d3
  have d4 : j4 = true := by
    cases hj : j4
    · exact absurd (mem_ready.2 ⟨by simp [hj], _, rfl, by simp [Region.binds, hj]⟩) (hn 4)
    · rfl
  subst d4
  have d5 : j5 = true := by
    cases hj : j5
    · exact absurd (mem_ready.2 ⟨by simp [hj], _, rfl, by simp [Region.binds, hj]⟩) (hn 5)
    · rfl
  subst d5
  have d6 : j6 = true := by
    cases hj : j6
    · exact absurd (mem_ready.2 ⟨by simp [hj], _, rfl, by simp [Region.binds, hj]⟩) (hn 6)
    · rfl
  subst d6
  have d7 : j7 = true := by
    cases hj : j7
    · exact absurd (mem_ready.2 ⟨by simp [hj], _, rfl, by simp [Region.binds, hj]⟩) (hn 7)
    · rfl
  subst d7
  exact ⟨_, _, _, _, _, _, _, _, w1, rfl, hB, rfl, h7 rfl⟩
theorem mo2 (gP gQ gR xa xb zz : Nat) (nx cx ny cy nz cz mx dx my dy : Nat) (ax ay az bx bb : Option Addr) (vz : Value) (w : World) (KP : Bk 101 w gP #[.slice ax nx cx, .slice ay ny cy, .slice az nz cz]) (KQ : Bk 64 w gQ #[.bool false, .slice bx mx dx, .slice bb my dy]) (HX : xa < big) (HXB : xb < big) (HZZ : zz < big) (NX : NV w (.slice ax nx cx) xa) (MX : NV w (.slice bx mx dx) xb) (NZ : NV w vz zz) {t0 t1 t7 t8 t9 t10 t11 t12 t13 t14 t15 t16 t17 t18 t19 t20 t21 t22 t23 t24 t25 t26 t27 t28 t29 t30 t31 t32 t33 t34 t35 t36 t37 t38 t39 t40 t41 t42 t43 t44 t45 t46 t47 t48 t49 t50 t51 t52 t53 t54 t55 t56 t57 t58 t59 t60 t61 t62 t63 t64 t65 t66 t67 t68 t69 t70 t71 t72 t73 : Value} {ds : List Deferred} {K : Act → World → Prop} {Q : Exit → Act → World → Prop}
    (h : ∀ (y0 y1 y2 y3 y4 y5 y6 y7 : Value) (w1 : World) (hb : Below w.heap.size w w1) (hn7 : NV w1 y7 (sj (mj xb zz) xa)), K { tmps := #[t0, t1, .pointer (some ⟨gP, 0, none⟩), .pointer (some ⟨gQ, 0, none⟩), .pointer (some ⟨gR, 0, none⟩), .bool false, vz, y7, t8, t9, t10, t11, t12, t13, t14, t15, t16, t17, y0, y1, y2, y3, y4, y5, y6, t25, t26, t27, t28, t29, t30, t31, t32, t33, t34, t35, t36, t37, t38, t39, t40, t41, t42, t43, t44, t45, t46, t47, t48, t49, t50, t51, t52, t53, t54, t55, t56, t57, t58, t59, t60, t61, t62, t63, t64, t65, t66, t67, t68, t69, t70, t71, t72, t73], defers := ds } w1) :
    (Code.region 2 mo2O true).wp Try.prog (Exit.then K Q) { tmps := #[t0, t1, .pointer (some ⟨gP, 0, none⟩), .pointer (some ⟨gQ, 0, none⟩), .pointer (some ⟨gR, 0, none⟩), .bool false, vz, t7, t8, t9, t10, t11, t12, t13, t14, t15, t16, t17, t18, t19, t20, t21, t22, t23, t24, t25, t26, t27, t28, t29, t30, t31, t32, t33, t34, t35, t36, t37, t38, t39, t40, t41, t42, t43, t44, t45, t46, t47, t48, t49, t50, t51, t52, t53, t54, t55, t56, t57, t58, t59, t60, t61, t62, t63, t64, t65, t66, t67, t68, t69, t70, t71, t72, t73], defers := ds } w := by
  have hsz : mo2O.size = 8 := by kernel_rfl
  refine wp_region_any (show Try.prog.follows .mixedOrders = true from by kernel_rfl) ?_
  rw [hsz]
  refine wpAny_inv (I := mo2I w gP gQ gR xa xb zz nx cx ny cy nz cz mx dx my dy ax ay az bx bb vz t0 t1 t8 t9 t10 t11 t12 t13 t14 t15 t16 t17 t25 t26 t27 t28 t29 t30 t31 t32 t33 t34 t35 t36 t37 t38 t39 t40 t41 t42 t43 t44 t45 t46 t47 t48 t49 t50 t51 t52 t53 t54 t55 t56 t57 t58 t59 t60 t61 t62 t63 t64 t65 t66 t67 t68 t69 t70 t71 t72 t73 ds) (mo2_steps gP gQ gR xa xb zz nx cx ny cy nz cz mx dx my dy ax ay az bx bb vz w KP KQ HX HXB HZZ NX MX NZ) (fun l a w' hI hr => ?_) 8 _ _ _ (by decide) ?_
  · obtain ⟨y0, y1, y2, y3, y4, y5, y6, y7, wm, rfl, hb, rfl, hn7⟩ := mo2_fin gP gQ gR xa xb zz nx cx ny cy nz cz mx dx my dy ax ay az bx bb vz w l a w' hI hr
    exact h _ _ _ _ _ _ _ _ _ hb hn7
  · exact ⟨false, false, false, false, false, false, false, false, t18, t19, t20, t21, t22, t23, t24, t7, rfl, rfl, ⟨rfl, rfl, rfl, Nat.le_refl _, fun _ _ => rfl⟩, (fun h => by cases h), (fun h => by cases h), (fun h => by cases h), (fun h => by cases h), (fun h => by cases h), (fun h => by cases h), (fun h => by cases h), (fun h => by cases h)⟩
def mo5F (w0 : World) (gP gQ gR ya za yb zz : Nat) (nx cx ny cy nz cz mx dx my dy : Nat) (ax ay az bx bb : Option Addr) (vz vh : Value) (t0 t1 t9 t10 t11 t12 t13 t14 t15 t16 t17 t18 t19 t20 t21 t22 t23 t24 t25 t26 t27 t28 t39 t40 t41 t42 t43 t44 t45 t46 t47 t48 t49 t50 t51 t52 t53 t54 t55 t56 t57 t58 t59 t60 t61 t62 t63 t64 t65 t66 t67 t68 t69 t70 t71 t72 t73 : Value) (ds : List Deferred) (a : Act) (w : World) : Prop :=
  ∃ y0 y1 y2 y3 y4 y5 y6 y7 y8 y9 y10 : Value, ∃ wm : World, a = { tmps := #[t0, t1, .pointer (some ⟨gP, 0, none⟩), .pointer (some ⟨gQ, 0, none⟩), .pointer (some ⟨gR, 0, none⟩), .bool false, vz, vh, y10, t9, t10, t11, t12, t13, t14, t15, t16, t17, t18, t19, t20, t21, t22, t23, t24, t25, t26, t27, t28, y0, y1, y2, y3, y4, y5, y6, y7, y8, y9, t39, t40, t41, t42, t43, t44, t45, t46, t47, t48, t49, t50, t51, t52, t53, t54, t55, t56, t57, t58, t59, t60, t61, t62, t63, t64, t65, t66, t67, t68, t69, t70, t71, t72, t73], defers := ds } ∧ Below w0.heap.size w0 wm ∧ w = wm ∧ NV wm y10 (sj (mj yb (mj zz za)) ya)
def mo5I (w0 : World) (gP gQ gR ya za yb zz : Nat) (nx cx ny cy nz cz mx dx my dy : Nat) (ax ay az bx bb : Option Addr) (vz vh : Value) (t0 t1 t9 t10 t11 t12 t13 t14 t15 t16 t17 t18 t19 t20 t21 t22 t23 t24 t25 t26 t27 t28 t39 t40 t41 t42 t43 t44 t45 t46 t47 t48 t49 t50 t51 t52 t53 t54 t55 t56 t57 t58 t59 t60 t61 t62 t63 t64 t65 t66 t67 t68 t69 t70 t71 t72 t73 : Value) (ds : List Deferred) (l : Array Bool) (a : Act) (w : World) : Prop :=
  ∃ j0 j1 j2 j3 j4 j5 j6 j7 j8 j9 j10 : Bool, ∃ x0 x1 x2 x3 x4 x5 x6 x7 x8 x9 x10 : Value, l = #[j0, j1, j2, j3, j4, j5, j6, j7, j8, j9, j10] ∧ a = { tmps := #[t0, t1, .pointer (some ⟨gP, 0, none⟩), .pointer (some ⟨gQ, 0, none⟩), .pointer (some ⟨gR, 0, none⟩), .bool false, vz, vh, x10, t9, t10, t11, t12, t13, t14, t15, t16, t17, t18, t19, t20, t21, t22, t23, t24, t25, t26, t27, t28, x0, x1, x2, x3, x4, x5, x6, x7, x8, x9, t39, t40, t41, t42, t43, t44, t45, t46, t47, t48, t49, t50, t51, t52, t53, t54, t55, t56, t57, t58, t59, t60, t61, t62, t63, t64, t65, t66, t67, t68, t69, t70, t71, t72, t73], defers := ds } ∧ Below w0.heap.size w0 w ∧
  (j0 = true → x0 = .pointer (some ⟨gQ, 2, none⟩)) ∧ (j1 = true → x1 = .slice bb my dy) ∧ (j2 = true → x2 = vz) ∧ (j3 = true → x3 = .pointer (some ⟨gP, 2, none⟩)) ∧ (j4 = true → x4 = .slice az nz cz) ∧ (j5 = true → NV w x5 (mj zz za)) ∧ (j6 = true → NV w x6 (mj yb (mj zz za))) ∧ (j7 = true → x7 = .pointer (some ⟨gP, 1, none⟩)) ∧ (j8 = true → x8 = .slice ay ny cy) ∧ (j9 = true → NV w x9 (sj (mj yb (mj zz za)) ya)) ∧ (j10 = true → NV w x10 (sj (mj yb (mj zz za)) ya))
noncomputable def mo5O : Array Oper := (Try.f85.body.bind fun c => findR c 5).getD #[]
set_option maxHeartbeats 16000000 in
theorem mo5_steps (gP gQ gR ya za yb zz : Nat) (nx cx ny cy nz cz mx dx my dy : Nat) (ax ay az bx bb : Option Addr) (vz vh : Value) (w : World) (KP : Bk 101 w gP #[.slice ax nx cx, .slice ay ny cy, .slice az nz cz]) (KQ : Bk 64 w gQ #[.bool false, .slice bx mx dx, .slice bb my dy]) (HY : ya < big) (HZ : za < big) (HYB : yb < big) (HZZ : zz < big) (NY : NV w (.slice ay ny cy) ya) (NW : NV w (.slice az nz cz) za) (MY : NV w (.slice bb my dy) yb) (NZ : NV w vz zz)
    {t0 t1 t9 t10 t11 t12 t13 t14 t15 t16 t17 t18 t19 t20 t21 t22 t23 t24 t25 t26 t27 t28 t39 t40 t41 t42 t43 t44 t45 t46 t47 t48 t49 t50 t51 t52 t53 t54 t55 t56 t57 t58 t59 t60 t61 t62 t63 t64 t65 t66 t67 t68 t69 t70 t71 t72 t73 : Value} {ds : List Deferred} {Q : Exit → Act → World → Prop} :
    ∀ l a w', mo5I w gP gQ gR ya za yb zz nx cx ny cy nz cz mx dx my dy ax ay az bx bb vz vh t0 t1 t9 t10 t11 t12 t13 t14 t15 t16 t17 t18 t19 t20 t21 t22 t23 t24 t25 t26 t27 t28 t39 t40 t41 t42 t43 t44 t45 t46 t47 t48 t49 t50 t51 t52 t53 t54 t55 t56 t57 t58 t59 t60 t61 t62 t63 t64 t65 t66 t67 t68 t69 t70 t71 t72 t73 ds l a w' → ∀ i ∈ Region.ready .any mo5O l, wpOp Try.prog mo5O Q i (fun a' w'' => mo5I w gP gQ gR ya za yb zz nx cx ny cy nz cz mx dx my dy ax ay az bx bb vz vh t0 t1 t9 t10 t11 t12 t13 t14 t15 t16 t17 t18 t19 t20 t21 t22 t23 t24 t25 t26 t27 t28 t39 t40 t41 t42 t43 t44 t45 t46 t47 t48 t49 t50 t51 t52 t53 t54 t55 t56 t57 t58 t59 t60 t61 t62 t63 t64 t65 t66 t67 t68 t69 t70 t71 t72 t73 ds (l.setIfInBounds i true) a' w'') a w' := by
  simp only [mo5O, findR, Try.f85, Option.bind_some, Option.or, Option.getD, Nat.reduceEqDiff, if_true, if_false, reduceIte]
  rintro l a w' hI i hi
  rw [mem_ready] at hi
  obtain ⟨hu, oo, ho, hd⟩ := hi
  have hin : i < 11 := by
    have := (Array.getElem?_eq_some_iff.1 ho).1
    simpa using this
  have hcase : i = 0 ∨ i = 1 ∨ i = 2 ∨ i = 3 ∨ i = 4 ∨ i = 5 ∨ i = 6 ∨ i = 7 ∨ i = 8 ∨ i = 9 ∨ i = 10 := by omega
  obtain ⟨j0, j1, j2, j3, j4, j5, j6, j7, j8, j9, j10, x0, x1, x2, x3, x4, x5, x6, x7, x8, x9, x10, rfl, rfl, hB, h0, h1, h2, h3, h4, h5, h6, h7, h8, h9, h10⟩ := hI
  replace h0 := Lib.hid h0
  replace h1 := Lib.hid h1
  replace h2 := Lib.hid h2
  replace h3 := Lib.hid h3
  replace h4 := Lib.hid h4
  replace h5 := Lib.hid h5
  replace h6 := Lib.hid h6
  replace h7 := Lib.hid h7
  replace h8 := Lib.hid h8
  replace h9 := Lib.hid h9
  replace h10 := Lib.hid h10
  rcases hcase with rfl | rfl | rfl | rfl | rfl | rfl | rfl | rfl | rfl | rfl | rfl
  · obtain rfl := Option.some.inj ho
    simp [Region.binds] at hu hd
    clear hd
    refine wpOp_of rfl rfl ?_
    go_simp
    unfold mo5I
    exact ⟨true, j1, j2, j3, j4, j5, j6, j7, j8, j9, j10, _, x1, x2, x3, x4, x5, x6, x7, x8, x9, x10, rfl, rfl, hB, fun _ => rfl, h1.out, h2.out, h3.out, h4.out, h5.out, h6.out, h7.out, h8.out, h9.out, h10.out⟩
  · obtain rfl := Option.some.inj ho
    simp [Region.binds] at hu hd
    have d0 : j0 = true := by simp [hd]
    have e0 := h0.out d0
    subst e0
    subst d0
    clear hd
    refine wpOp_of rfl rfl ?_
    have i2 : w'.cell? ⟨gQ, 2, none⟩ = some (.slice bb my dy) := (KQ.below hB).cell 2
    go_simp
    unfold mo5I
    exact ⟨true, true, j2, j3, j4, j5, j6, j7, j8, j9, j10, _, _, x2, x3, x4, x5, x6, x7, x8, x9, x10, rfl, rfl, hB, h0.out, fun _ => rfl, h2.out, h3.out, h4.out, h5.out, h6.out, h7.out, h8.out, h9.out, h10.out⟩
  · obtain rfl := Option.some.inj ho
    simp [Region.binds] at hu hd
    clear hd
    refine wpOp_of rfl rfl ?_
    go_simp
    unfold mo5I
    exact ⟨j0, j1, true, j3, j4, j5, j6, j7, j8, j9, j10, x0, x1, _, x3, x4, x5, x6, x7, x8, x9, x10, rfl, rfl, hB, h0.out, h1.out, fun _ => rfl, h3.out, h4.out, h5.out, h6.out, h7.out, h8.out, h9.out, h10.out⟩
  · obtain rfl := Option.some.inj ho
    simp [Region.binds] at hu hd
    clear hd
    refine wpOp_of rfl rfl ?_
    go_simp
    unfold mo5I
    exact ⟨j0, j1, j2, true, j4, j5, j6, j7, j8, j9, j10, x0, x1, x2, _, x4, x5, x6, x7, x8, x9, x10, rfl, rfl, hB, h0.out, h1.out, h2.out, fun _ => rfl, h4.out, h5.out, h6.out, h7.out, h8.out, h9.out, h10.out⟩
  · obtain rfl := Option.some.inj ho
    simp [Region.binds] at hu hd
    have d3 : j3 = true := by simp [hd]
    have e3 := h3.out d3
    subst e3
    subst d3
    clear hd
    refine wpOp_of rfl rfl ?_
    have i2 : w'.cell? ⟨gP, 2, none⟩ = some (.slice az nz cz) := (KP.below hB).cell 2
    go_simp
    unfold mo5I
    exact ⟨j0, j1, j2, true, true, j5, j6, j7, j8, j9, j10, x0, x1, x2, _, _, x5, x6, x7, x8, x9, x10, rfl, rfl, hB, h0.out, h1.out, h2.out, h3.out, fun _ => rfl, h5.out, h6.out, h7.out, h8.out, h9.out, h10.out⟩
  · obtain rfl := Option.some.inj ho
    simp [Region.binds] at hu hd
    have d2 : j2 = true := by simp [hd]
    have d4 : j4 = true := by simp [hd]
    have e2 := h2.out d2
    subst e2
    have e4 := h4.out d4
    subst e4
    subst d2
    subst d4
    clear hd
    refine wpOp_of rfl rfl ?_
    go_simp
    go_at_call 69
    refine (nk w.heap.size w (times_nv _ _ _ zz za HZZ HZ (NZ.below hB) (NW.below hB)) hB (Nat.le_refl _)).mono ?_
    rintro e w2 ⟨v', rfl, hn', hB2, hb2⟩
    unfold mo5I
    exact ⟨j0, j1, true, j3, true, true, j6, j7, j8, j9, j10, x0, x1, _, x3, _, _, x6, x7, x8, x9, x10, rfl, rfl, hB2, h0.out, h1.out, h2.out, h3.out, h4.out, fun _ => hn', fun hj => (h6.out hj).below hb2, h7.out, h8.out, fun hj => (h9.out hj).below hb2, fun hj => (h10.out hj).below hb2⟩
  · obtain rfl := Option.some.inj ho
    simp [Region.binds] at hu hd
    have d1 : j1 = true := by simp [hd]
    have d5 : j5 = true := by simp [hd]
    have e1 := h1.out d1
    subst e1
    subst d1
    subst d5
    clear hd
    refine wpOp_of rfl rfl ?_
    go_simp
    go_at_call 69
    refine (nk w.heap.size w (times_nv _ _ _ yb (mj zz za) HYB (mj_b _ _) (MY.below hB) (h5.out rfl)) hB (Nat.le_refl _)).mono ?_
    rintro e w2 ⟨v', rfl, hn', hB2, hb2⟩
    unfold mo5I
    exact ⟨j0, true, j2, j3, j4, true, true, j7, j8, j9, j10, x0, _, x2, x3, x4, x5, _, x7, x8, x9, x10, rfl, rfl, hB2, h0.out, h1.out, h2.out, h3.out, h4.out, fun hj => (h5.out hj).below hb2, fun _ => hn', h7.out, h8.out, fun hj => (h9.out hj).below hb2, fun hj => (h10.out hj).below hb2⟩
  · obtain rfl := Option.some.inj ho
    simp [Region.binds] at hu hd
    clear hd
    refine wpOp_of rfl rfl ?_
    go_simp
    unfold mo5I
    exact ⟨j0, j1, j2, j3, j4, j5, j6, true, j8, j9, j10, x0, x1, x2, x3, x4, x5, x6, _, x8, x9, x10, rfl, rfl, hB, h0.out, h1.out, h2.out, h3.out, h4.out, h5.out, h6.out, fun _ => rfl, h8.out, h9.out, h10.out⟩
  · obtain rfl := Option.some.inj ho
    simp [Region.binds] at hu hd
    have d7 : j7 = true := by simp [hd]
    have e7 := h7.out d7
    subst e7
    subst d7
    clear hd
    refine wpOp_of rfl rfl ?_
    have i1 : w'.cell? ⟨gP, 1, none⟩ = some (.slice ay ny cy) := (KP.below hB).cell 1
    go_simp
    unfold mo5I
    exact ⟨j0, j1, j2, j3, j4, j5, j6, true, true, j9, j10, x0, x1, x2, x3, x4, x5, x6, _, _, x9, x10, rfl, rfl, hB, h0.out, h1.out, h2.out, h3.out, h4.out, h5.out, h6.out, h7.out, fun _ => rfl, h9.out, h10.out⟩
  · obtain rfl := Option.some.inj ho
    simp [Region.binds] at hu hd
    have d6 : j6 = true := by simp [hd]
    have d8 : j8 = true := by simp [hd]
    have e8 := h8.out d8
    subst e8
    subst d6
    subst d8
    clear hd
    refine wpOp_of rfl rfl ?_
    go_simp
    go_at_call 68
    refine (nk w.heap.size w (minus_nv' _ _ _ (mj yb (mj zz za)) ya (mj_b _ _) HY (h6.out rfl) (NY.below hB)) hB (Nat.le_refl _)).mono ?_
    rintro e w2 ⟨v', rfl, hn', hB2, hb2⟩
    unfold mo5I
    exact ⟨j0, j1, j2, j3, j4, j5, true, j7, true, true, j10, x0, x1, x2, x3, x4, x5, x6, x7, _, _, x10, rfl, rfl, hB2, h0.out, h1.out, h2.out, h3.out, h4.out, fun hj => (h5.out hj).below hb2, fun hj => (h6.out hj).below hb2, h7.out, h8.out, fun _ => hn', fun hj => (h10.out hj).below hb2⟩
  · obtain rfl := Option.some.inj ho
    simp [Region.binds] at hu hd
    have d0 : j0 = true := by simp [hd]
    have d1 : j1 = true := by simp [hd]
    have d2 : j2 = true := by simp [hd]
    have d3 : j3 = true := by simp [hd]
    have d4 : j4 = true := by simp [hd]
    have d5 : j5 = true := by simp [hd]
    have d6 : j6 = true := by simp [hd]
    have d7 : j7 = true := by simp [hd]
    have d8 : j8 = true := by simp [hd]
    have d9 : j9 = true := by simp [hd]
    have e0 := h0.out d0
    subst e0
    have e1 := h1.out d1
    subst e1
    have e2 := h2.out d2
    subst e2
    have e3 := h3.out d3
    subst e3
    have e4 := h4.out d4
    subst e4
    have e7 := h7.out d7
    subst e7
    have e8 := h8.out d8
    subst e8
    subst d0
    subst d1
    subst d2
    subst d3
    subst d4
    subst d5
    subst d6
    subst d7
    subst d8
    subst d9
    clear hd
    refine wpOp_of rfl rfl ?_
    go_simp
    unfold mo5I
    exact ⟨true, true, true, true, true, true, true, true, true, true, true, _, _, _, _, _, x5, x6, _, _, x9, _, rfl, rfl, hB, h0.out, h1.out, h2.out, h3.out, h4.out, h5.out, h6.out, h7.out, h8.out, h9.out, fun _ => h9.out rfl⟩
set_option maxHeartbeats 16000000 in
theorem mo5_fin (gP gQ gR ya za yb zz : Nat) (nx cx ny cy nz cz mx dx my dy : Nat) (ax ay az bx bb : Option Addr) (vz vh : Value) (w : World) {t0 t1 t9 t10 t11 t12 t13 t14 t15 t16 t17 t18 t19 t20 t21 t22 t23 t24 t25 t26 t27 t28 t39 t40 t41 t42 t43 t44 t45 t46 t47 t48 t49 t50 t51 t52 t53 t54 t55 t56 t57 t58 t59 t60 t61 t62 t63 t64 t65 t66 t67 t68 t69 t70 t71 t72 t73 : Value} {ds : List Deferred} : ∀ l a w1, mo5I w gP gQ gR ya za yb zz nx cx ny cy nz cz mx dx my dy ax ay az bx bb vz vh t0 t1 t9 t10 t11 t12 t13 t14 t15 t16 t17 t18 t19 t20 t21 t22 t23 t24 t25 t26 t27 t28 t39 t40 t41 t42 t43 t44 t45 t46 t47 t48 t49 t50 t51 t52 t53 t54 t55 t56 t57 t58 t59 t60 t61 t62 t63 t64 t65 t66 t67 t68 t69 t70 t71 t72 t73 ds l a w1 → Region.ready .any mo5O l = [] → mo5F w gP gQ gR ya za yb zz nx cx ny cy nz cz mx dx my dy ax ay az bx bb vz vh t0 t1 t9 t10 t11 t12 t13 t14 t15 t16 t17 t18 t19 t20 t21 t22 t23 t24 t25 t26 t27 t28 t39 t40 t41 t42 t43 t44 t45 t46 t47 t48 t49 t50 t51 t52 t53 t54 t55 t56 t57 t58 t59 t60 t61 t62 t63 t64 t65 t66 t67 t68 t69 t70 t71 t72 t73 ds a w1 := by
  simp only [mo5O, findR, Try.f85, Option.bind_some, Option.or, Option.getD, Nat.reduceEqDiff, if_true, if_false, reduceIte]
  rintro l a w1 hI hr
  obtain ⟨j0, j1, j2, j3, j4, j5, j6, j7, j8, j9, j10, x0, x1, x2, x3, x4, x5, x6, x7, x8, x9, x10, rfl, rfl, hB, h0, h1, h2, h3, h4, h5, h6, h7, h8, h9, h10⟩ := hI
  have hn := fun i => List.eq_nil_iff_forall_not_mem.1 hr i
  clear hr
  have d0 : j0 = true := by
    cases hj : j0
    · exact absurd (mem_ready.2 ⟨by simp [hj], _, rfl, by simp [Region.binds, hj]⟩) (hn 0)
    · rfl
  subst d0
  have d1 : j1 = true := by
    cases hj : j1
    · exact absurd (mem_ready.2 ⟨by simp [hj], _, rfl, by simp [Region.binds, hj]⟩) (hn 1)
    · rfl
  subst d1
  have d2 : j2 = true := by
    cases hj : j2
    · exact absurd (mem_ready.2 ⟨by simp [hj], _, rfl, by simp [Region.binds, hj]⟩) (hn 2)
    · rfl
  subst d2
  have d3 : j3 = true := by
    cases hj : j3
    · exact absurd (mem_ready.2 ⟨by simp [hj], _, rfl, by simp [Region.binds, hj]⟩) (hn 3)
    · rfl
  subst d3
  have d4 : j4 = true := by
    cases hj : j4
    · exact absurd (mem_ready.2 ⟨by simp [hj], _, rfl, by simp [Region.binds, hj]⟩) (hn 4)
    · rfl
  subst d4
  have d5 : j5 = true := by
    cases hj : j5
    · exact absurd (mem_ready.2 ⟨by simp [hj], _, rfl, by simp [Region.binds, hj]⟩) (hn 5)
    · rfl
  subst d5
  have d6 : j6 = true := by
    cases hj : j6
    · exact absurd (mem_ready.2 ⟨by simp [hj], _, rfl, by simp [Region.binds, hj]⟩) (hn 6)
    · rfl
  subst d6
  have d7 : j7 = true := by
    cases hj : j7
    · exact absurd (mem_ready.2 ⟨by simp [hj], _, rfl, by simp [Region.binds, hj]⟩) (hn 7)
    · rfl
  subst d7
  have d8 : j8 = true := by
    cases hj : j8
    · exact absurd (mem_ready.2 ⟨by simp [hj], _, rfl, by simp [Region.binds, hj]⟩) (hn 8)
    · rfl
  subst d8
  have d9 : j9 = true := by
    cases hj : j9
    · exact absurd (mem_ready.2 ⟨by simp [hj], _, rfl, by simp [Region.binds, hj]⟩) (hn 9)
    · rfl
  subst d9
  have d10 : j10 = true := by
    cases hj : j10
    · exact absurd (mem_ready.2 ⟨by simp [hj], _, rfl, by simp [Region.binds, hj]⟩) (hn 10)
    · rfl
  subst d10
  exact ⟨_, _, _, _, _, _, _, _, _, _, _, w1, rfl, hB, rfl, h10 rfl⟩
theorem mo5 (gP gQ gR ya za yb zz : Nat) (nx cx ny cy nz cz mx dx my dy : Nat) (ax ay az bx bb : Option Addr) (vz vh : Value) (w : World) (KP : Bk 101 w gP #[.slice ax nx cx, .slice ay ny cy, .slice az nz cz]) (KQ : Bk 64 w gQ #[.bool false, .slice bx mx dx, .slice bb my dy]) (HY : ya < big) (HZ : za < big) (HYB : yb < big) (HZZ : zz < big) (NY : NV w (.slice ay ny cy) ya) (NW : NV w (.slice az nz cz) za) (MY : NV w (.slice bb my dy) yb) (NZ : NV w vz zz) {t0 t1 t8 t9 t10 t11 t12 t13 t14 t15 t16 t17 t18 t19 t20 t21 t22 t23 t24 t25 t26 t27 t28 t29 t30 t31 t32 t33 t34 t35 t36 t37 t38 t39 t40 t41 t42 t43 t44 t45 t46 t47 t48 t49 t50 t51 t52 t53 t54 t55 t56 t57 t58 t59 t60 t61 t62 t63 t64 t65 t66 t67 t68 t69 t70 t71 t72 t73 : Value} {ds : List Deferred} {K : Act → World → Prop} {Q : Exit → Act → World → Prop}
    (h : ∀ (y0 y1 y2 y3 y4 y5 y6 y7 y8 y9 y10 : Value) (w1 : World) (hb : Below w.heap.size w w1) (hn10 : NV w1 y10 (sj (mj yb (mj zz za)) ya)), K { tmps := #[t0, t1, .pointer (some ⟨gP, 0, none⟩), .pointer (some ⟨gQ, 0, none⟩), .pointer (some ⟨gR, 0, none⟩), .bool false, vz, vh, y10, t9, t10, t11, t12, t13, t14, t15, t16, t17, t18, t19, t20, t21, t22, t23, t24, t25, t26, t27, t28, y0, y1, y2, y3, y4, y5, y6, y7, y8, y9, t39, t40, t41, t42, t43, t44, t45, t46, t47, t48, t49, t50, t51, t52, t53, t54, t55, t56, t57, t58, t59, t60, t61, t62, t63, t64, t65, t66, t67, t68, t69, t70, t71, t72, t73], defers := ds } w1) :
    (Code.region 5 mo5O true).wp Try.prog (Exit.then K Q) { tmps := #[t0, t1, .pointer (some ⟨gP, 0, none⟩), .pointer (some ⟨gQ, 0, none⟩), .pointer (some ⟨gR, 0, none⟩), .bool false, vz, vh, t8, t9, t10, t11, t12, t13, t14, t15, t16, t17, t18, t19, t20, t21, t22, t23, t24, t25, t26, t27, t28, t29, t30, t31, t32, t33, t34, t35, t36, t37, t38, t39, t40, t41, t42, t43, t44, t45, t46, t47, t48, t49, t50, t51, t52, t53, t54, t55, t56, t57, t58, t59, t60, t61, t62, t63, t64, t65, t66, t67, t68, t69, t70, t71, t72, t73], defers := ds } w := by
  have hsz : mo5O.size = 11 := by kernel_rfl
  refine wp_region_any (show Try.prog.follows .mixedOrders = true from by kernel_rfl) ?_
  rw [hsz]
  refine wpAny_inv (I := mo5I w gP gQ gR ya za yb zz nx cx ny cy nz cz mx dx my dy ax ay az bx bb vz vh t0 t1 t9 t10 t11 t12 t13 t14 t15 t16 t17 t18 t19 t20 t21 t22 t23 t24 t25 t26 t27 t28 t39 t40 t41 t42 t43 t44 t45 t46 t47 t48 t49 t50 t51 t52 t53 t54 t55 t56 t57 t58 t59 t60 t61 t62 t63 t64 t65 t66 t67 t68 t69 t70 t71 t72 t73 ds) (mo5_steps gP gQ gR ya za yb zz nx cx ny cy nz cz mx dx my dy ax ay az bx bb vz vh w KP KQ HY HZ HYB HZZ NY NW MY NZ) (fun l a w' hI hr => ?_) 11 _ _ _ (by decide) ?_
  · obtain ⟨y0, y1, y2, y3, y4, y5, y6, y7, y8, y9, y10, wm, rfl, hb, rfl, hn10⟩ := mo5_fin gP gQ gR ya za yb zz nx cx ny cy nz cz mx dx my dy ax ay az bx bb vz vh w l a w' hI hr
    exact h _ _ _ _ _ _ _ _ _ _ _ _ hb hn10
  · exact ⟨false, false, false, false, false, false, false, false, false, false, false, t29, t30, t31, t32, t33, t34, t35, t36, t37, t38, t8, rfl, rfl, ⟨rfl, rfl, rfl, Nat.le_refl _, fun _ _ => rfl⟩, (fun h => by cases h), (fun h => by cases h), (fun h => by cases h), (fun h => by cases h), (fun h => by cases h), (fun h => by cases h), (fun h => by cases h), (fun h => by cases h), (fun h => by cases h), (fun h => by cases h), (fun h => by cases h)⟩
def mo7F (w0 : World) (gP gQ gR xa hh kk : Nat) (nx cx ny cy nz cz mx dx my dy : Nat) (ax ay az bx bb : Option Addr) (vz vh vr vk : Value) (t0 t1 t12 t13 t14 t15 t16 t17 t18 t19 t20 t21 t22 t23 t24 t25 t26 t27 t28 t29 t30 t31 t32 t33 t34 t35 t36 t37 t38 t39 t40 t41 t49 t50 t51 t52 t53 t54 t55 t56 t57 t58 t59 t60 t61 t62 t63 t64 t65 t66 t67 t68 t69 t70 t71 t72 t73 : Value) (ds : List Deferred) (a : Act) (w : World) : Prop :=
  ∃ y0 y1 y2 y3 y4 y5 y6 y7 y8 : Value, ∃ wm : World, a = { tmps := #[t0, t1, .pointer (some ⟨gP, 0, none⟩), .pointer (some ⟨gQ, 0, none⟩), .pointer (some ⟨gR, 0, none⟩), .bool false, vz, vh, vr, vk, y7, y8, t12, t13, t14, t15, t16, t17, t18, t19, t20, t21, t22, t23, t24, t25, t26, t27, t28, t29, t30, t31, t32, t33, t34, t35, t36, t37, t38, t39, t40, t41, y0, y1, y2, y3, y4, y5, y6, t49, t50, t51, t52, t53, t54, t55, t56, t57, t58, t59, t60, t61, t62, t63, t64, t65, t66, t67, t68, t69, t70, t71, t72, t73], defers := ds } ∧ Below w0.heap.size w0 wm ∧ w = wm ∧ NV wm y7 (mj hh kk) ∧ NV wm y8 (mj xa kk)
def mo7I (w0 : World) (gP gQ gR xa hh kk : Nat) (nx cx ny cy nz cz mx dx my dy : Nat) (ax ay az bx bb : Option Addr) (vz vh vr vk : Value) (t0 t1 t12 t13 t14 t15 t16 t17 t18 t19 t20 t21 t22 t23 t24 t25 t26 t27 t28 t29 t30 t31 t32 t33 t34 t35 t36 t37 t38 t39 t40 t41 t49 t50 t51 t52 t53 t54 t55 t56 t57 t58 t59 t60 t61 t62 t63 t64 t65 t66 t67 t68 t69 t70 t71 t72 t73 : Value) (ds : List Deferred) (l : Array Bool) (a : Act) (w : World) : Prop :=
  ∃ j0 j1 j2 j3 j4 j5 j6 j7 j8 : Bool, ∃ x0 x1 x2 x3 x4 x5 x6 x7 x8 : Value, l = #[j0, j1, j2, j3, j4, j5, j6, j7, j8] ∧ a = { tmps := #[t0, t1, .pointer (some ⟨gP, 0, none⟩), .pointer (some ⟨gQ, 0, none⟩), .pointer (some ⟨gR, 0, none⟩), .bool false, vz, vh, vr, vk, x7, x8, t12, t13, t14, t15, t16, t17, t18, t19, t20, t21, t22, t23, t24, t25, t26, t27, t28, t29, t30, t31, t32, t33, t34, t35, t36, t37, t38, t39, t40, t41, x0, x1, x2, x3, x4, x5, x6, t49, t50, t51, t52, t53, t54, t55, t56, t57, t58, t59, t60, t61, t62, t63, t64, t65, t66, t67, t68, t69, t70, t71, t72, t73], defers := ds } ∧ Below w0.heap.size w0 w ∧
  (j0 = true → x0 = vh) ∧ (j1 = true → x1 = vk) ∧ (j2 = true → NV w x2 (mj hh kk)) ∧ (j3 = true → x3 = .pointer (some ⟨gP, 0, none⟩)) ∧ (j4 = true → x4 = .slice ax nx cx) ∧ (j5 = true → x5 = vk) ∧ (j6 = true → NV w x6 (mj xa kk)) ∧ (j7 = true → NV w x7 (mj hh kk)) ∧ (j8 = true → NV w x8 (mj xa kk))
noncomputable def mo7O : Array Oper := (Try.f85.body.bind fun c => findR c 7).getD #[]
set_option maxHeartbeats 16000000 in
theorem mo7_steps (gP gQ gR xa hh kk : Nat) (nx cx ny cy nz cz mx dx my dy : Nat) (ax ay az bx bb : Option Addr) (vz vh vr vk : Value) (w : World) (KP : Bk 101 w gP #[.slice ax nx cx, .slice ay ny cy, .slice az nz cz]) (HX : xa < big) (HH : hh < big) (HK : kk < big) (NX : NV w (.slice ax nx cx) xa) (NH : NV w vh hh) (NK : NV w vk kk)
    {t0 t1 t12 t13 t14 t15 t16 t17 t18 t19 t20 t21 t22 t23 t24 t25 t26 t27 t28 t29 t30 t31 t32 t33 t34 t35 t36 t37 t38 t39 t40 t41 t49 t50 t51 t52 t53 t54 t55 t56 t57 t58 t59 t60 t61 t62 t63 t64 t65 t66 t67 t68 t69 t70 t71 t72 t73 : Value} {ds : List Deferred} {Q : Exit → Act → World → Prop} :
    ∀ l a w', mo7I w gP gQ gR xa hh kk nx cx ny cy nz cz mx dx my dy ax ay az bx bb vz vh vr vk t0 t1 t12 t13 t14 t15 t16 t17 t18 t19 t20 t21 t22 t23 t24 t25 t26 t27 t28 t29 t30 t31 t32 t33 t34 t35 t36 t37 t38 t39 t40 t41 t49 t50 t51 t52 t53 t54 t55 t56 t57 t58 t59 t60 t61 t62 t63 t64 t65 t66 t67 t68 t69 t70 t71 t72 t73 ds l a w' → ∀ i ∈ Region.ready .any mo7O l, wpOp Try.prog mo7O Q i (fun a' w'' => mo7I w gP gQ gR xa hh kk nx cx ny cy nz cz mx dx my dy ax ay az bx bb vz vh vr vk t0 t1 t12 t13 t14 t15 t16 t17 t18 t19 t20 t21 t22 t23 t24 t25 t26 t27 t28 t29 t30 t31 t32 t33 t34 t35 t36 t37 t38 t39 t40 t41 t49 t50 t51 t52 t53 t54 t55 t56 t57 t58 t59 t60 t61 t62 t63 t64 t65 t66 t67 t68 t69 t70 t71 t72 t73 ds (l.setIfInBounds i true) a' w'') a w' := by
  simp only [mo7O, findR, Try.f85, Option.bind_some, Option.or, Option.getD, Nat.reduceEqDiff, if_true, if_false, reduceIte]
  rintro l a w' hI i hi
  rw [mem_ready] at hi
  obtain ⟨hu, oo, ho, hd⟩ := hi
  have hin : i < 9 := by
    have := (Array.getElem?_eq_some_iff.1 ho).1
    simpa using this
  have hcase : i = 0 ∨ i = 1 ∨ i = 2 ∨ i = 3 ∨ i = 4 ∨ i = 5 ∨ i = 6 ∨ i = 7 ∨ i = 8 := by omega
  obtain ⟨j0, j1, j2, j3, j4, j5, j6, j7, j8, x0, x1, x2, x3, x4, x5, x6, x7, x8, rfl, rfl, hB, h0, h1, h2, h3, h4, h5, h6, h7, h8⟩ := hI
  replace h0 := Lib.hid h0
  replace h1 := Lib.hid h1
  replace h2 := Lib.hid h2
  replace h3 := Lib.hid h3
  replace h4 := Lib.hid h4
  replace h5 := Lib.hid h5
  replace h6 := Lib.hid h6
  replace h7 := Lib.hid h7
  replace h8 := Lib.hid h8
  rcases hcase with rfl | rfl | rfl | rfl | rfl | rfl | rfl | rfl | rfl
  · obtain rfl := Option.some.inj ho
    simp [Region.binds] at hu hd
    clear hd
    refine wpOp_of rfl rfl ?_
    go_simp
    unfold mo7I
    exact ⟨true, j1, j2, j3, j4, j5, j6, j7, j8, _, x1, x2, x3, x4, x5, x6, x7, x8, rfl, rfl, hB, fun _ => rfl, h1.out, h2.out, h3.out, h4.out, h5.out, h6.out, h7.out, h8.out⟩
  · obtain rfl := Option.some.inj ho
    simp [Region.binds] at hu hd
    clear hd
    refine wpOp_of rfl rfl ?_
    go_simp
    unfold mo7I
    exact ⟨j0, true, j2, j3, j4, j5, j6, j7, j8, x0, _, x2, x3, x4, x5, x6, x7, x8, rfl, rfl, hB, h0.out, fun _ => rfl, h2.out, h3.out, h4.out, h5.out, h6.out, h7.out, h8.out⟩
  · obtain rfl := Option.some.inj ho
    simp [Region.binds] at hu hd
    have d0 : j0 = true := by simp [hd]
    have d1 : j1 = true := by simp [hd]
    have e0 := h0.out d0
    subst e0
    have e1 := h1.out d1
    subst e1
    subst d0
    subst d1
    clear hd
    refine wpOp_of rfl rfl ?_
    go_simp
    go_at_call 69
    refine (nk w.heap.size w (times_nv _ _ _ hh kk HH HK (NH.below hB) (NK.below hB)) hB (Nat.le_refl _)).mono ?_
    rintro e w2 ⟨v', rfl, hn', hB2, hb2⟩
    unfold mo7I
    exact ⟨true, true, true, j3, j4, j5, j6, j7, j8, _, _, _, x3, x4, x5, x6, x7, x8, rfl, rfl, hB2, h0.out, h1.out, fun _ => hn', h3.out, h4.out, h5.out, fun hj => (h6.out hj).below hb2, fun hj => (h7.out hj).below hb2, fun hj => (h8.out hj).below hb2⟩
  · obtain rfl := Option.some.inj ho
    simp [Region.binds] at hu hd
    clear hd
    refine wpOp_of rfl rfl ?_
    go_simp
    unfold mo7I
    exact ⟨j0, j1, j2, true, j4, j5, j6, j7, j8, x0, x1, x2, _, x4, x5, x6, x7, x8, rfl, rfl, hB, h0.out, h1.out, h2.out, fun _ => rfl, h4.out, h5.out, h6.out, h7.out, h8.out⟩
  · obtain rfl := Option.some.inj ho
    simp [Region.binds] at hu hd
    have d3 : j3 = true := by simp [hd]
    have e3 := h3.out d3
    subst e3
    subst d3
    clear hd
    refine wpOp_of rfl rfl ?_
    have i0 : w'.cell? ⟨gP, 0, none⟩ = some (.slice ax nx cx) := (KP.below hB).cell 0
    go_simp
    unfold mo7I
    exact ⟨j0, j1, j2, true, true, j5, j6, j7, j8, x0, x1, x2, _, _, x5, x6, x7, x8, rfl, rfl, hB, h0.out, h1.out, h2.out, h3.out, fun _ => rfl, h5.out, h6.out, h7.out, h8.out⟩
  · obtain rfl := Option.some.inj ho
    simp [Region.binds] at hu hd
    clear hd
    refine wpOp_of rfl rfl ?_
    go_simp
    unfold mo7I
    exact ⟨j0, j1, j2, j3, j4, true, j6, j7, j8, x0, x1, x2, x3, x4, _, x6, x7, x8, rfl, rfl, hB, h0.out, h1.out, h2.out, h3.out, h4.out, fun _ => rfl, h6.out, h7.out, h8.out⟩
  · obtain rfl := Option.some.inj ho
    simp [Region.binds] at hu hd
    have d2 : j2 = true := by simp [hd]
    have d4 : j4 = true := by simp [hd]
    have d5 : j5 = true := by simp [hd]
    have e4 := h4.out d4
    subst e4
    have e5 := h5.out d5
    subst e5
    subst d2
    subst d4
    subst d5
    clear hd
    refine wpOp_of rfl rfl ?_
    go_simp
    go_at_call 69
    refine (nk w.heap.size w (times_nv _ _ _ xa kk HX HK (NX.below hB) (NK.below hB)) hB (Nat.le_refl _)).mono ?_
    rintro e w2 ⟨v', rfl, hn', hB2, hb2⟩
    unfold mo7I
    exact ⟨j0, j1, true, j3, true, true, true, j7, j8, x0, x1, x2, x3, _, _, _, x7, x8, rfl, rfl, hB2, h0.out, h1.out, fun hj => (h2.out hj).below hb2, h3.out, h4.out, h5.out, fun _ => hn', fun hj => (h7.out hj).below hb2, fun hj => (h8.out hj).below hb2⟩
  · obtain rfl := Option.some.inj ho
    simp [Region.binds] at hu hd
    have d0 : j0 = true := by simp [hd]
    have d1 : j1 = true := by simp [hd]
    have d2 : j2 = true := by simp [hd]
    have d6 : j6 = true := by simp [hd]
    have e0 := h0.out d0
    subst e0
    have e1 := h1.out d1
    subst e1
    subst d0
    subst d1
    subst d2
    subst d6
    clear hd
    refine wpOp_of rfl rfl ?_
    go_simp
    unfold mo7I
    exact ⟨true, true, true, j3, j4, j5, true, true, j8, _, _, x2, x3, x4, x5, x6, _, x8, rfl, rfl, hB, h0.out, h1.out, h2.out, h3.out, h4.out, h5.out, h6.out, fun _ => h2.out rfl, h8.out⟩
  · obtain rfl := Option.some.inj ho
    simp [Region.binds] at hu hd
    have d0 : j0 = true := by simp [hd]
    have d1 : j1 = true := by simp [hd]
    have d2 : j2 = true := by simp [hd]
    have d3 : j3 = true := by simp [hd]
    have d4 : j4 = true := by simp [hd]
    have d5 : j5 = true := by simp [hd]
    have d6 : j6 = true := by simp [hd]
    have d7 : j7 = true := by simp [hd]
    have e0 := h0.out d0
    subst e0
    have e1 := h1.out d1
    subst e1
    have e3 := h3.out d3
    subst e3
    have e4 := h4.out d4
    subst e4
    have e5 := h5.out d5
    subst e5
    subst d0
    subst d1
    subst d2
    subst d3
    subst d4
    subst d5
    subst d6
    subst d7
    clear hd
    refine wpOp_of rfl rfl ?_
    go_simp
    unfold mo7I
    exact ⟨true, true, true, true, true, true, true, true, true, _, _, x2, _, _, _, x6, x7, _, rfl, rfl, hB, h0.out, h1.out, h2.out, h3.out, h4.out, h5.out, h6.out, h7.out, fun _ => h6.out rfl⟩
set_option maxHeartbeats 16000000 in
theorem mo7_fin (gP gQ gR xa hh kk : Nat) (nx cx ny cy nz cz mx dx my dy : Nat) (ax ay az bx bb : Option Addr) (vz vh vr vk : Value) (w : World) {t0 t1 t12 t13 t14 t15 t16 t17 t18 t19 t20 t21 t22 t23 t24 t25 t26 t27 t28 t29 t30 t31 t32 t33 t34 t35 t36 t37 t38 t39 t40 t41 t49 t50 t51 t52 t53 t54 t55 t56 t57 t58 t59 t60 t61 t62 t63 t64 t65 t66 t67 t68 t69 t70 t71 t72 t73 : Value} {ds : List Deferred} : ∀ l a w1, mo7I w gP gQ gR xa hh kk nx cx ny cy nz cz mx dx my dy ax ay az bx bb vz vh vr vk t0 t1 t12 t13 t14 t15 t16 t17 t18 t19 t20 t21 t22 t23 t24 t25 t26 t27 t28 t29 t30 t31 t32 t33 t34 t35 t36 t37 t38 t39 t40 t41 t49 t50 t51 t52 t53 t54 t55 t56 t57 t58 t59 t60 t61 t62 t63 t64 t65 t66 t67 t68 t69 t70 t71 t72 t73 ds l a w1 → Region.ready .any mo7O l = [] → mo7F w gP gQ gR xa hh kk nx cx ny cy nz cz mx dx my dy ax ay az bx bb vz vh vr vk t0 t1 t12 t13 t14 t15 t16 t17 t18 t19 t20 t21 t22 t23 t24 t25 t26 t27 t28 t29 t30 t31 t32 t33 t34 t35 t36 t37 t38 t39 t40 t41 t49 t50 t51 t52 t53 t54 t55 t56 t57 t58 t59 t60 t61 t62 t63 t64 t65 t66 t67 t68 t69 t70 t71 t72 t73 ds a w1 := by
  simp only [mo7O, findR, Try.f85, Option.bind_some, Option.or, Option.getD, Nat.reduceEqDiff, if_true, if_false, reduceIte]
  rintro l a w1 hI hr
  obtain ⟨j0, j1, j2, j3, j4, j5, j6, j7, j8, x0, x1, x2, x3, x4, x5, x6, x7, x8, rfl, rfl, hB, h0, h1, h2, h3, h4, h5, h6, h7, h8⟩ := hI
  have hn := fun i => List.eq_nil_iff_forall_not_mem.1 hr i
  clear hr
  have d0 : j0 = true := by
    cases hj : j0
    · exact absurd (mem_ready.2 ⟨by simp [hj], _, rfl, by simp [Region.binds, hj]⟩) (hn 0)
    · rfl
  subst d0
  have d1 : j1 = true := by
    cases hj : j1
    · exact absurd (mem_ready.2 ⟨by simp [hj], _, rfl, by simp [Region.binds, hj]⟩) (hn 1)
    · rfl
  subst d1
  have d2 : j2 = true := by
    cases hj : j2
    · exact absurd (mem_ready.2 ⟨by simp [hj], _, rfl, by simp [Region.binds, hj]⟩) (hn 2)
    · rfl
  subst d2
  have d3 : j3 = true := by
    cases hj : j3
    · exact absurd (mem_ready.2 ⟨by simp [hj], _, rfl, by simp [Region.binds, hj]⟩) (hn 3)
    · rfl
  subst d3
  have d4 : j4 = true := by
    cases hj : j4
    · exact absurd (mem_ready.2 ⟨by simp [hj], _, rfl, by simp [Region.binds, hj]⟩) (hn 4)
    · rfl
  subst d4
  have d5 : j5 = true := by
    cases hj : j5
    · exact absurd (mem_ready.2 ⟨by simp [hj], _, rfl, by simp [Region.binds, hj]⟩) (hn 5)
    · rfl
  subst d5
  have d6 : j6 = true := by
    cases hj : j6
    · exact absurd (mem_ready.2 ⟨by simp [hj], _, rfl, by simp [Region.binds, hj]⟩) (hn 6)
    · rfl
  subst d6
  have d7 : j7 = true := by
    cases hj : j7
    · exact absurd (mem_ready.2 ⟨by simp [hj], _, rfl, by simp [Region.binds, hj]⟩) (hn 7)
    · rfl
  subst d7
  have d8 : j8 = true := by
    cases hj : j8
    · exact absurd (mem_ready.2 ⟨by simp [hj], _, rfl, by simp [Region.binds, hj]⟩) (hn 8)
    · rfl
  subst d8
  exact ⟨_, _, _, _, _, _, _, _, _, w1, rfl, hB, rfl, h7 rfl, h8 rfl⟩
theorem mo7 (gP gQ gR xa hh kk : Nat) (nx cx ny cy nz cz mx dx my dy : Nat) (ax ay az bx bb : Option Addr) (vz vh vr vk : Value) (w : World) (KP : Bk 101 w gP #[.slice ax nx cx, .slice ay ny cy, .slice az nz cz]) (HX : xa < big) (HH : hh < big) (HK : kk < big) (NX : NV w (.slice ax nx cx) xa) (NH : NV w vh hh) (NK : NV w vk kk) {t0 t1 t10 t11 t12 t13 t14 t15 t16 t17 t18 t19 t20 t21 t22 t23 t24 t25 t26 t27 t28 t29 t30 t31 t32 t33 t34 t35 t36 t37 t38 t39 t40 t41 t42 t43 t44 t45 t46 t47 t48 t49 t50 t51 t52 t53 t54 t55 t56 t57 t58 t59 t60 t61 t62 t63 t64 t65 t66 t67 t68 t69 t70 t71 t72 t73 : Value} {ds : List Deferred} {K : Act → World → Prop} {Q : Exit → Act → World → Prop}
    (h : ∀ (y0 y1 y2 y3 y4 y5 y6 y7 y8 : Value) (w1 : World) (hb : Below w.heap.size w w1) (hn7 : NV w1 y7 (mj hh kk)) (hn8 : NV w1 y8 (mj xa kk)), K { tmps := #[t0, t1, .pointer (some ⟨gP, 0, none⟩), .pointer (some ⟨gQ, 0, none⟩), .pointer (some ⟨gR, 0, none⟩), .bool false, vz, vh, vr, vk, y7, y8, t12, t13, t14, t15, t16, t17, t18, t19, t20, t21, t22, t23, t24, t25, t26, t27, t28, t29, t30, t31, t32, t33, t34, t35, t36, t37, t38, t39, t40, t41, y0, y1, y2, y3, y4, y5, y6, t49, t50, t51, t52, t53, t54, t55, t56, t57, t58, t59, t60, t61, t62, t63, t64, t65, t66, t67, t68, t69, t70, t71, t72, t73], defers := ds } w1) :
    (Code.region 7 mo7O true).wp Try.prog (Exit.then K Q) { tmps := #[t0, t1, .pointer (some ⟨gP, 0, none⟩), .pointer (some ⟨gQ, 0, none⟩), .pointer (some ⟨gR, 0, none⟩), .bool false, vz, vh, vr, vk, t10, t11, t12, t13, t14, t15, t16, t17, t18, t19, t20, t21, t22, t23, t24, t25, t26, t27, t28, t29, t30, t31, t32, t33, t34, t35, t36, t37, t38, t39, t40, t41, t42, t43, t44, t45, t46, t47, t48, t49, t50, t51, t52, t53, t54, t55, t56, t57, t58, t59, t60, t61, t62, t63, t64, t65, t66, t67, t68, t69, t70, t71, t72, t73], defers := ds } w := by
  have hsz : mo7O.size = 9 := by kernel_rfl
  refine wp_region_any (show Try.prog.follows .mixedOrders = true from by kernel_rfl) ?_
  rw [hsz]
  refine wpAny_inv (I := mo7I w gP gQ gR xa hh kk nx cx ny cy nz cz mx dx my dy ax ay az bx bb vz vh vr vk t0 t1 t12 t13 t14 t15 t16 t17 t18 t19 t20 t21 t22 t23 t24 t25 t26 t27 t28 t29 t30 t31 t32 t33 t34 t35 t36 t37 t38 t39 t40 t41 t49 t50 t51 t52 t53 t54 t55 t56 t57 t58 t59 t60 t61 t62 t63 t64 t65 t66 t67 t68 t69 t70 t71 t72 t73 ds) (mo7_steps gP gQ gR xa hh kk nx cx ny cy nz cz mx dx my dy ax ay az bx bb vz vh vr vk w KP HX HH HK NX NH NK) (fun l a w' hI hr => ?_) 9 _ _ _ (by decide) ?_
  · obtain ⟨y0, y1, y2, y3, y4, y5, y6, y7, y8, wm, rfl, hb, rfl, hn7, hn8⟩ := mo7_fin gP gQ gR xa hh kk nx cx ny cy nz cz mx dx my dy ax ay az bx bb vz vh vr vk w l a w' hI hr
    exact h _ _ _ _ _ _ _ _ _ _ hb hn7 hn8
  · exact ⟨false, false, false, false, false, false, false, false, false, t42, t43, t44, t45, t46, t47, t48, t10, t11, rfl, rfl, ⟨rfl, rfl, rfl, Nat.le_refl _, fun _ _ => rfl⟩, (fun h => by cases h), (fun h => by cases h), (fun h => by cases h), (fun h => by cases h), (fun h => by cases h), (fun h => by cases h), (fun h => by cases h), (fun h => by cases h), (fun h => by cases h)⟩
end Go.Proofs.Ytglmmodkflkkkaa.Ref
