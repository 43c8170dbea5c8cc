import Derived.Test.YtglmmodkflkkkaaXTb
set_option linter.unusedVariables false
set_option linter.unusedSimpArgs false
set_option maxRecDepth 100000
namespace Go.Proofs.Ytglmmodkflkkkaa.Ref
open Go.RowKit Go.Proofs.Ytglmmodkflkkkaa.Digits Limbs Curve
def mo9F (w0 : World) (tv : Value) (gP gR ya za hh rr kk vn xv n7 c7 : Nat) (nx cx ny cy nz cz : Nat) (ax ay az : Option Addr) (a7 : Option Addr) (vh vr vk vv : Value) (t0 t1 t3 t6 t9 t13 t14 t15 t16 t17 t18 t19 t20 t21 t22 t23 t24 t25 t26 t27 t28 t29 t30 t31 t32 t33 t34 t35 t36 t37 t38 t39 t40 t41 t42 t43 t44 t45 t46 t47 t48 t49 t50 t51 t52 t53 t54 t55 t56 t57 : Value) (ds : List Deferred) (a : Act) (w : World) : Prop :=
  ∃ y0 y1 y2 y3 y4 y5 y6 y7 y8 y9 y10 y11 y12 y13 y14 y15 : Value, ∃ wm : World, a = { tmps := #[t0, t1, .pointer (some ⟨gP, 0, none⟩), t3, .pointer (some ⟨gR, 0, none⟩), tv, t6, vh, vr, t9, vk, vv, .slice a7 n7 c7, t13, t14, t15, t16, t17, t18, t19, t20, t21, t22, t23, t24, t25, t26, t27, t28, t29, t30, t31, t32, t33, t34, t35, t36, t37, t38, t39, t40, t41, t42, t43, t44, t45, t46, t47, t48, t49, t50, t51, t52, t53, t54, t55, t56, t57, y0, y1, y2, y3, y4, y5, y6, y7, y8, y9, y10, y11, y12, y13, y14, y15], defers := ds } ∧ Below w0.heap.size w0 wm ∧ w = (World.setCell (World.setCell (World.setCell wm ⟨gR, 0, none⟩ (.slice a7 n7 c7)) ⟨gR, 1, none⟩ (y10)) ⟨gR, 2, none⟩ (y14)) ∧ NV wm y10 (sj (mj rr (sj vn xv)) (mj ya kk)) ∧ NV wm y14 (mj za hh)
def mo9I (w0 : World) (gP gR ya za hh rr kk vn xv n7 c7 : Nat) (nx cx ny cy nz cz : Nat) (ax ay az : Option Addr) (a7 : Option Addr) (vh vr vk vv : Value) (t0 t1 t3 t6 t9 t13 t14 t15 t16 t17 t18 t19 t20 t21 t22 t23 t24 t25 t26 t27 t28 t29 t30 t31 t32 t33 t34 t35 t36 t37 t38 t39 t40 t41 t42 t43 t44 t45 t46 t47 t48 t49 t50 t51 t52 t53 t54 t55 t56 t57 : Value) (ds : List Deferred) (l : Array Bool) (a : Act) (w : World) : Prop :=
  (l = #[true, true, true, true, true, true, true, true, true, true, true, true, true, true, true, true, true, true] ∧ mo9F w0 (.bool true) gP gR ya za hh rr kk vn xv n7 c7 nx cx ny cy nz cz ax ay az a7 vh vr vk vv t0 t1 t3 t6 t9 t13 t14 t15 t16 t17 t18 t19 t20 t21 t22 t23 t24 t25 t26 t27 t28 t29 t30 t31 t32 t33 t34 t35 t36 t37 t38 t39 t40 t41 t42 t43 t44 t45 t46 t47 t48 t49 t50 t51 t52 t53 t54 t55 t56 t57 ds a w) ∨ (l = #[true, true, true, true, true, true, true, true, true, true, true, true, true, true, true, true, true, false] ∧ mo9F w0 (.bool false) gP gR ya za hh rr kk vn xv n7 c7 nx cx ny cy nz cz ax ay az a7 vh vr vk vv t0 t1 t3 t6 t9 t13 t14 t15 t16 t17 t18 t19 t20 t21 t22 t23 t24 t25 t26 t27 t28 t29 t30 t31 t32 t33 t34 t35 t36 t37 t38 t39 t40 t41 t42 t43 t44 t45 t46 t47 t48 t49 t50 t51 t52 t53 t54 t55 t56 t57 ds a w) ∨ (∃ j0 j1 j2 j3 j4 j5 j6 j7 j8 j9 j10 j11 j12 j13 j14 j15 : Bool, ∃ x0 x1 x2 x3 x4 x5 x6 x7 x8 x9 x10 x11 x12 x13 x14 x15 : Value, l = #[j0, j1, j2, j3, j4, j5, j6, j7, j8, j9, j10, j11, j12, j13, j14, j15, false, false] ∧ a = { tmps := #[t0, t1, .pointer (some ⟨gP, 0, none⟩), t3, .pointer (some ⟨gR, 0, none⟩), .bool false, t6, vh, vr, t9, vk, vv, .slice a7 n7 c7, t13, t14, t15, t16, t17, t18, t19, t20, t21, t22, t23, t24, t25, t26, t27, t28, t29, t30, t31, t32, t33, t34, t35, t36, t37, t38, t39, t40, t41, t42, t43, t44, t45, t46, t47, t48, t49, t50, t51, t52, t53, t54, t55, t56, t57, x0, x1, x2, x3, x4, x5, x6, x7, x8, x9, x10, x11, x12, x13, x14, x15], defers := ds } ∧ Below w0.heap.size w0 w ∧
  (j0 = true → x0 = .slice a7 n7 c7) ∧ (j1 = true → x1 = vr) ∧ (j2 = true → x2 = vv) ∧ (j3 = true → x3 = .slice a7 n7 c7) ∧ (j4 = true → NV w x4 (sj vn xv)) ∧ (j5 = true → NV w x5 (mj rr (sj vn xv))) ∧ (j6 = true → x6 = .pointer (some ⟨gP, 1, none⟩)) ∧ (j7 = true → x7 = .slice ay ny cy) ∧ (j8 = true → x8 = vk) ∧ (j9 = true → NV w x9 (mj ya kk)) ∧ (j10 = true → NV w x10 (sj (mj rr (sj vn xv)) (mj ya kk))) ∧ (j11 = true → x11 = .pointer (some ⟨gP, 2, none⟩)) ∧ (j12 = true → x12 = .slice az nz cz) ∧ (j13 = true → x13 = vh) ∧ (j14 = true → NV w x14 (mj za hh)) ∧ (j15 = true → x15 = .agg #[.slice a7 n7 c7, x10, x14] ∧ j10 = true ∧ j14 = true))
noncomputable def mo9O : Array Oper := (Try.f85.body.bind fun c => findR c 9).getD #[]
set_option maxHeartbeats 16000000 in
theorem mo9_steps (gP gR ya za hh rr kk vn xv n7 c7 : Nat) (nx cx ny cy nz cz : Nat) (ax ay az : Option Addr) (a7 : Option Addr) (vh vr vk vv : Value) (w : World) (KP : Bk 101 w gP #[.slice ax nx cx, .slice ay ny cy, .slice az nz cz]) (KR : Bk 101 w gR #[.slice none 0 0, .slice none 0 0, .slice none 0 0]) (HY : ya < big) (HZ : za < big) (HH : hh < big) (HR : rr < big) (HK : kk < big) (HV : vn < big) (HX : xv < big) (NY : NV w (.slice ay ny cy) ya) (NZ : NV w (.slice az nz cz) za) (NH : NV w vh hh) (NR : NV w vr rr) (NK : NV w vk kk) (NW : NV w vv vn) (N7 : NV w (.slice a7 n7 c7) xv)
    {t0 t1 t3 t6 t9 t13 t14 t15 t16 t17 t18 t19 t20 t21 t22 t23 t24 t25 t26 t27 t28 t29 t30 t31 t32 t33 t34 t35 t36 t37 t38 t39 t40 t41 t42 t43 t44 t45 t46 t47 t48 t49 t50 t51 t52 t53 t54 t55 t56 t57 : Value} {ds : List Deferred} {Q : Exit → Act → World → Prop} :
    ∀ l a w', mo9I w gP gR ya za hh rr kk vn xv n7 c7 nx cx ny cy nz cz ax ay az a7 vh vr vk vv t0 t1 t3 t6 t9 t13 t14 t15 t16 t17 t18 t19 t20 t21 t22 t23 t24 t25 t26 t27 t28 t29 t30 t31 t32 t33 t34 t35 t36 t37 t38 t39 t40 t41 t42 t43 t44 t45 t46 t47 t48 t49 t50 t51 t52 t53 t54 t55 t56 t57 ds l a w' → ∀ i ∈ Region.ready .any mo9O l, wpOp Try.prog mo9O Q i (fun a' w'' => mo9I w gP gR ya za hh rr kk vn xv n7 c7 nx cx ny cy nz cz ax ay az a7 vh vr vk vv t0 t1 t3 t6 t9 t13 t14 t15 t16 t17 t18 t19 t20 t21 t22 t23 t24 t25 t26 t27 t28 t29 t30 t31 t32 t33 t34 t35 t36 t37 t38 t39 t40 t41 t42 t43 t44 t45 t46 t47 t48 t49 t50 t51 t52 t53 t54 t55 t56 t57 ds (l.setIfInBounds i true) a' w'') a w' := by
  simp only [mo9O, findR, Try.f85, Option.bind_some, Option.or, Option.getD, Nat.reduceEqDiff, if_true, if_false, reduceIte]
  rintro l a w' hI i hi
  rw [mem_ready] at hi
  obtain ⟨hu, oo, ho, hd⟩ := hi
  have hin : i < 18 := by
    have := (Array.getElem?_eq_some_iff.1 ho).1
    simpa using this
  have hcase : i = 0 ∨ i = 1 ∨ i = 2 ∨ i = 3 ∨ i = 4 ∨ i = 5 ∨ i = 6 ∨ i = 7 ∨ i = 8 ∨ i = 9 ∨ i = 10 ∨ i = 11 ∨ i = 12 ∨ i = 13 ∨ i = 14 ∨ i = 15 ∨ i = 16 ∨ i = 17 := by omega
  rcases hI with ⟨rfl, hF⟩ | ⟨rfl, hF⟩ | hI
  · exfalso
    rcases hcase with rfl | rfl | rfl | rfl | rfl | rfl | rfl | rfl | rfl | rfl | rfl | rfl | rfl | rfl | rfl | rfl | rfl | rfl <;> simp at hu
  · rcases hcase with rfl | rfl | rfl | rfl | rfl | rfl | rfl | rfl | rfl | rfl | rfl | rfl | rfl | rfl | rfl | rfl | rfl | rfl
    · simp at hu
    · simp at hu
    · simp at hu
    · simp at hu
    · simp at hu
    · simp at hu
    · simp at hu
    · simp at hu
    · simp at hu
    · simp at hu
    · simp at hu
    · simp at hu
    · simp at hu
    · simp at hu
    · simp at hu
    · simp at hu
    · simp at hu
    · obtain rfl := Option.some.inj ho
      clear hd
      unfold mo9F at hF
      obtain ⟨fy0, fy1, fy2, fy3, fy4, fy5, fy6, fy7, fy8, fy9, fy10, fy11, fy12, fy13, fy14, fy15, fwm, rfl, hB, rfl, f10, f14⟩ := hF
      refine wpOp_of rfl rfl ?_
      go_simp
      unfold mo9I mo9F
      exact .inl ⟨rfl, fy0, fy1, fy2, fy3, fy4, fy5, fy6, fy7, fy8, fy9, fy10, fy11, fy12, fy13, fy14, fy15, fwm, rfl, hB, rfl, f10, f14⟩
  obtain ⟨j0, j1, j2, j3, j4, j5, j6, j7, j8, j9, j10, j11, j12, j13, j14, j15, x0, x1, x2, x3, x4, x5, x6, x7, x8, x9, x10, x11, x12, x13, x14, x15, rfl, rfl, hB, h0, h1, h2, h3, h4, h5, h6, h7, h8, h9, h10, h11, h12, h13, h14, h15⟩ := hI
  replace h0 := Lib.hid h0
  replace h1 := Lib.hid h1
  replace h2 := Lib.hid h2
  replace h3 := Lib.hid h3
  replace h4 := Lib.hid h4
  replace h5 := Lib.hid h5
  replace h6 := Lib.hid h6
  replace h7 := Lib.hid h7
  replace h8 := Lib.hid h8
  replace h9 := Lib.hid h9
  replace h10 := Lib.hid h10
  replace h11 := Lib.hid h11
  replace h12 := Lib.hid h12
  replace h13 := Lib.hid h13
  replace h14 := Lib.hid h14
  replace h15 := Lib.hid h15
  rcases hcase with rfl | rfl | rfl | rfl | rfl | rfl | rfl | rfl | rfl | rfl | rfl | rfl | rfl | rfl | rfl | rfl | rfl | rfl
  · obtain rfl := Option.some.inj ho
    simp [Region.binds] at hu hd
    clear hd
    refine wpOp_of rfl rfl ?_
    go_simp
    unfold mo9I
    exact .inr <| .inr ⟨true, j1, j2, j3, j4, j5, j6, j7, j8, j9, j10, j11, j12, j13, j14, j15, _, x1, x2, x3, x4, x5, x6, x7, x8, x9, x10, x11, x12, x13, x14, x15, rfl, rfl, hB, fun _ => rfl, h1.out, h2.out, h3.out, h4.out, h5.out, h6.out, h7.out, h8.out, h9.out, h10.out, h11.out, h12.out, h13.out, h14.out, h15.out⟩
  · obtain rfl := Option.some.inj ho
    simp [Region.binds] at hu hd
    clear hd
    refine wpOp_of rfl rfl ?_
    go_simp
    unfold mo9I
    exact .inr <| .inr ⟨j0, true, j2, j3, j4, j5, j6, j7, j8, j9, j10, j11, j12, j13, j14, j15, x0, _, x2, x3, x4, x5, x6, x7, x8, x9, x10, x11, x12, x13, x14, x15, rfl, rfl, hB, h0.out, fun _ => rfl, h2.out, h3.out, h4.out, h5.out, h6.out, h7.out, h8.out, h9.out, h10.out, h11.out, h12.out, h13.out, h14.out, h15.out⟩
  · obtain rfl := Option.some.inj ho
    simp [Region.binds] at hu hd
    clear hd
    refine wpOp_of rfl rfl ?_
    go_simp
    unfold mo9I
    exact .inr <| .inr ⟨j0, j1, true, j3, j4, j5, j6, j7, j8, j9, j10, j11, j12, j13, j14, j15, x0, x1, _, x3, x4, x5, x6, x7, x8, x9, x10, x11, x12, x13, x14, x15, rfl, rfl, hB, h0.out, h1.out, fun _ => rfl, h3.out, h4.out, h5.out, h6.out, h7.out, h8.out, h9.out, h10.out, h11.out, h12.out, h13.out, h14.out, h15.out⟩
  · obtain rfl := Option.some.inj ho
    simp [Region.binds] at hu hd
    clear hd
    refine wpOp_of rfl rfl ?_
    go_simp
    unfold mo9I
    exact .inr <| .inr ⟨j0, j1, j2, true, j4, j5, j6, j7, j8, j9, j10, j11, j12, j13, j14, j15, x0, x1, x2, _, x4, x5, x6, x7, x8, x9, x10, x11, x12, x13, x14, x15, rfl, rfl, hB, h0.out, h1.out, h2.out, fun _ => rfl, h4.out, h5.out, h6.out, h7.out, h8.out, h9.out, h10.out, h11.out, h12.out, h13.out, h14.out, h15.out⟩
  · obtain rfl := Option.some.inj ho
    simp [Region.binds] at hu hd
    have d2 : j2 = true := by simp [hd]
    have d3 : j3 = true := by simp [hd]
    have e2 := h2.out d2
    subst e2
    have e3 := h3.out d3
    subst e3
    subst d2
    subst d3
    clear hd
    refine wpOp_of rfl rfl ?_
    go_simp
    go_at_call 68
    refine (nk w.heap.size w (minus_nv' _ _ _ vn xv HV HX (NW.below hB) (N7.below hB)) hB (Nat.le_refl _)).mono ?_
    rintro e w2 ⟨v', rfl, hn', hB2, hb2⟩
    unfold mo9I
    exact .inr <| .inr ⟨j0, j1, true, true, true, j5, j6, j7, j8, j9, j10, j11, j12, j13, j14, j15, x0, x1, _, _, _, x5, x6, x7, x8, x9, x10, x11, x12, x13, x14, x15, rfl, rfl, hB2, h0.out, h1.out, h2.out, h3.out, fun _ => hn', fun hj => (h5.out hj).below hb2, h6.out, h7.out, h8.out, fun hj => (h9.out hj).below hb2, fun hj => (h10.out hj).below hb2, h11.out, h12.out, h13.out, fun hj => (h14.out hj).below hb2, h15.out⟩
  · obtain rfl := Option.some.inj ho
    simp [Region.binds] at hu hd
    have d1 : j1 = true := by simp [hd]
    have d4 : j4 = true := by simp [hd]
    have e1 := h1.out d1
    subst e1
    subst d1
    subst d4
    clear hd
    refine wpOp_of rfl rfl ?_
    go_simp
    go_at_call 69
    refine (nk w.heap.size w (times_nv _ _ _ rr (sj vn xv) HR (sj_b _ _) (NR.below hB) (h4.out rfl)) hB (Nat.le_refl _)).mono ?_
    rintro e w2 ⟨v', rfl, hn', hB2, hb2⟩
    unfold mo9I
    exact .inr <| .inr ⟨j0, true, j2, j3, true, true, j6, j7, j8, j9, j10, j11, j12, j13, j14, j15, x0, _, x2, x3, x4, _, x6, x7, x8, x9, x10, x11, x12, x13, x14, x15, rfl, rfl, hB2, h0.out, h1.out, h2.out, h3.out, fun hj => (h4.out hj).below hb2, fun _ => hn', h6.out, h7.out, h8.out, fun hj => (h9.out hj).below hb2, fun hj => (h10.out hj).below hb2, h11.out, h12.out, h13.out, fun hj => (h14.out hj).below hb2, h15.out⟩
  · obtain rfl := Option.some.inj ho
    simp [Region.binds] at hu hd
    clear hd
    refine wpOp_of rfl rfl ?_
    go_simp
    unfold mo9I
    exact .inr <| .inr ⟨j0, j1, j2, j3, j4, j5, true, j7, j8, j9, j10, j11, j12, j13, j14, j15, x0, x1, x2, x3, x4, x5, _, x7, x8, x9, x10, x11, x12, x13, x14, x15, rfl, rfl, hB, h0.out, h1.out, h2.out, h3.out, h4.out, h5.out, fun _ => rfl, h7.out, h8.out, h9.out, h10.out, h11.out, h12.out, h13.out, h14.out, h15.out⟩
  · obtain rfl := Option.some.inj ho
    simp [Region.binds] at hu hd
    have d6 : j6 = true := by simp [hd]
    have e6 := h6.out d6
    subst e6
    subst d6
    clear hd
    refine wpOp_of rfl rfl ?_
    have i1 : w'.cell? ⟨gP, 1, none⟩ = some (.slice ay ny cy) := (KP.below hB).cell 1
    go_simp
    unfold mo9I
    exact .inr <| .inr ⟨j0, j1, j2, j3, j4, j5, true, true, j8, j9, j10, j11, j12, j13, j14, j15, x0, x1, x2, x3, x4, x5, _, _, x8, x9, x10, x11, x12, x13, x14, x15, rfl, rfl, hB, h0.out, h1.out, h2.out, h3.out, h4.out, h5.out, h6.out, fun _ => rfl, h8.out, h9.out, h10.out, h11.out, h12.out, h13.out, h14.out, h15.out⟩
  · obtain rfl := Option.some.inj ho
    simp [Region.binds] at hu hd
    clear hd
    refine wpOp_of rfl rfl ?_
    go_simp
    unfold mo9I
    exact .inr <| .inr ⟨j0, j1, j2, j3, j4, j5, j6, j7, true, j9, j10, j11, j12, j13, j14, j15, x0, x1, x2, x3, x4, x5, x6, x7, _, x9, x10, x11, x12, x13, x14, x15, rfl, rfl, hB, h0.out, h1.out, h2.out, h3.out, h4.out, h5.out, h6.out, h7.out, fun _ => rfl, h9.out, h10.out, h11.out, h12.out, h13.out, h14.out, h15.out⟩
  · obtain rfl := Option.some.inj ho
    simp [Region.binds] at hu hd
    have d5 : j5 = true := by simp [hd]
    have d7 : j7 = true := by simp [hd]
    have d8 : j8 = true := by simp [hd]
    have e7 := h7.out d7
    subst e7
    have e8 := h8.out d8
    subst e8
    subst d5
    subst d7
    subst d8
    clear hd
    refine wpOp_of rfl rfl ?_
    go_simp
    go_at_call 69
    refine (nk w.heap.size w (times_nv _ _ _ ya kk HY HK (NY.below hB) (NK.below hB)) hB (Nat.le_refl _)).mono ?_
    rintro e w2 ⟨v', rfl, hn', hB2, hb2⟩
    unfold mo9I
    exact .inr <| .inr ⟨j0, j1, j2, j3, j4, true, j6, true, true, true, j10, j11, j12, j13, j14, j15, x0, x1, x2, x3, x4, x5, x6, _, _, _, x10, x11, x12, x13, x14, x15, rfl, rfl, hB2, h0.out, h1.out, h2.out, h3.out, fun hj => (h4.out hj).below hb2, fun hj => (h5.out hj).below hb2, h6.out, h7.out, h8.out, fun _ => hn', fun hj => (h10.out hj).below hb2, h11.out, h12.out, h13.out, fun hj => (h14.out hj).below hb2, h15.out⟩
  · obtain rfl := Option.some.inj ho
    simp [Region.binds] at hu hd
    have d5 : j5 = true := by simp [hd]
    have d9 : j9 = true := by simp [hd]
    subst d5
    subst d9
    clear hd
    refine wpOp_of rfl rfl ?_
    go_simp
    go_at_call 68
    refine (nk w.heap.size w (minus_nv' _ _ _ (mj rr (sj vn xv)) (mj ya kk) (mj_b _ _) (mj_b _ _) (h5.out rfl) (h9.out rfl)) hB (Nat.le_refl _)).mono ?_
    rintro e w2 ⟨v', rfl, hn', hB2, hb2⟩
    unfold mo9I
    exact .inr <| .inr ⟨j0, j1, j2, j3, j4, true, j6, j7, j8, true, true, j11, j12, j13, j14, j15, x0, x1, x2, x3, x4, x5, x6, x7, x8, x9, _, x11, x12, x13, x14, x15, rfl, rfl, hB2, h0.out, h1.out, h2.out, h3.out, fun hj => (h4.out hj).below hb2, fun hj => (h5.out hj).below hb2, h6.out, h7.out, h8.out, fun hj => (h9.out hj).below hb2, fun _ => hn', h11.out, h12.out, h13.out, fun hj => (h14.out hj).below hb2, fun hj => absurd (h15.out hj).2.1 (by simp [hu])⟩
  · obtain rfl := Option.some.inj ho
    simp [Region.binds] at hu hd
    clear hd
    refine wpOp_of rfl rfl ?_
    go_simp
    unfold mo9I
    exact .inr <| .inr ⟨j0, j1, j2, j3, j4, j5, j6, j7, j8, j9, j10, true, j12, j13, j14, j15, x0, x1, x2, x3, x4, x5, x6, x7, x8, x9, x10, _, x12, x13, x14, x15, rfl, rfl, hB, h0.out, h1.out, h2.out, h3.out, h4.out, h5.out, h6.out, h7.out, h8.out, h9.out, h10.out, fun _ => rfl, h12.out, h13.out, h14.out, h15.out⟩
  · obtain rfl := Option.some.inj ho
    simp [Region.binds] at hu hd
    have d11 : j11 = true := by simp [hd]
    have e11 := h11.out d11
    subst e11
    subst d11
    clear hd
    refine wpOp_of rfl rfl ?_
    have i2 : w'.cell? ⟨gP, 2, none⟩ = some (.slice az nz cz) := (KP.below hB).cell 2
    go_simp
    unfold mo9I
    exact .inr <| .inr ⟨j0, j1, j2, j3, j4, j5, j6, j7, j8, j9, j10, true, true, j13, j14, j15, x0, x1, x2, x3, x4, x5, x6, x7, x8, x9, x10, _, _, x13, x14, x15, rfl, rfl, hB, h0.out, h1.out, h2.out, h3.out, h4.out, h5.out, h6.out, h7.out, h8.out, h9.out, h10.out, h11.out, fun _ => rfl, h13.out, h14.out, h15.out⟩
  · obtain rfl := Option.some.inj ho
    simp [Region.binds] at hu hd
    clear hd
    refine wpOp_of rfl rfl ?_
    go_simp
    unfold mo9I
    exact .inr <| .inr ⟨j0, j1, j2, j3, j4, j5, j6, j7, j8, j9, j10, j11, j12, true, j14, j15, x0, x1, x2, x3, x4, x5, x6, x7, x8, x9, x10, x11, x12, _, x14, x15, rfl, rfl, hB, h0.out, h1.out, h2.out, h3.out, h4.out, h5.out, h6.out, h7.out, h8.out, h9.out, h10.out, h11.out, h12.out, fun _ => rfl, h14.out, h15.out⟩
  · obtain rfl := Option.some.inj ho
    simp [Region.binds] at hu hd
    have d10 : j10 = true := by simp [hd]
    have d12 : j12 = true := by simp [hd]
    have d13 : j13 = true := by simp [hd]
    have e12 := h12.out d12
    subst e12
    have e13 := h13.out d13
    subst e13
    subst d10
    subst d12
    subst d13
    clear hd
    refine wpOp_of rfl rfl ?_
    go_simp
    go_at_call 69
    refine (nk w.heap.size w (times_nv _ _ _ za hh HZ HH (NZ.below hB) (NH.below hB)) hB (Nat.le_refl _)).mono ?_
    rintro e w2 ⟨v', rfl, hn', hB2, hb2⟩
    unfold mo9I
    exact .inr <| .inr ⟨j0, j1, j2, j3, j4, j5, j6, j7, j8, j9, true, j11, true, true, true, j15, x0, x1, x2, x3, x4, x5, x6, x7, x8, x9, x10, x11, _, _, _, x15, rfl, rfl, hB2, h0.out, h1.out, h2.out, h3.out, fun hj => (h4.out hj).below hb2, fun hj => (h5.out hj).below hb2, h6.out, h7.out, h8.out, fun hj => (h9.out hj).below hb2, fun hj => (h10.out hj).below hb2, h11.out, h12.out, h13.out, fun _ => hn', fun hj => absurd (h15.out hj).2.2 (by simp [hu])⟩
  · obtain rfl := Option.some.inj ho
    simp [Region.binds] at hu hd
    have d0 : j0 = true := by simp [hd]
    have d10 : j10 = true := by simp [hd]
    have d14 : j14 = true := by simp [hd]
    have e0 := h0.out d0
    subst e0
    subst d0
    subst d10
    subst d14
    clear hd
    refine wpOp_of rfl rfl ?_
    obtain ⟨sa10, sn10, sc10, es10⟩ := (h10.out rfl).shape
    subst es10
    obtain ⟨sa14, sn14, sc14, es14⟩ := (h14.out rfl).shape
    subst es14
    go_simp
    unfold mo9I
    exact .inr <| .inr ⟨true, j1, j2, j3, j4, j5, j6, j7, j8, j9, true, j11, j12, j13, true, true, _, x1, x2, x3, x4, x5, x6, x7, x8, x9, _, x11, x12, x13, _, _, rfl, rfl, hB, h0.out, h1.out, h2.out, h3.out, h4.out, h5.out, h6.out, h7.out, h8.out, h9.out, h10.out, h11.out, h12.out, h13.out, h14.out, fun _ => ⟨rfl, rfl, rfl⟩⟩
  · obtain rfl := Option.some.inj ho
    simp [Region.binds] at hu hd
    have d0 : j0 = true := by simp [hd]
    have d1 : j1 = true := by simp [hd]
    have d2 : j2 = true := by simp [hd]
    have d3 : j3 = true := by simp [hd]
    have d4 : j4 = true := by simp [hd]
    have d5 : j5 = true := by simp [hd]
    have d6 : j6 = true := by simp [hd]
    have d7 : j7 = true := by simp [hd]
    have d8 : j8 = true := by simp [hd]
    have d9 : j9 = true := by simp [hd]
    have d10 : j10 = true := by simp [hd]
    have d11 : j11 = true := by simp [hd]
    have d12 : j12 = true := by simp [hd]
    have d13 : j13 = true := by simp [hd]
    have d14 : j14 = true := by simp [hd]
    have d15 : j15 = true := by simp [hd]
    have e0 := h0.out d0
    subst e0
    have e1 := h1.out d1
    subst e1
    have e2 := h2.out d2
    subst e2
    have e3 := h3.out d3
    subst e3
    have e6 := h6.out d6
    subst e6
    have e7 := h7.out d7
    subst e7
    have e8 := h8.out d8
    subst e8
    have e11 := h11.out d11
    subst e11
    have e12 := h12.out d12
    subst e12
    have e13 := h13.out d13
    subst e13
    have e15 := (h15.out d15).1
    subst e15
    subst d0
    subst d1
    subst d2
    subst d3
    subst d4
    subst d5
    subst d6
    subst d7
    subst d8
    subst d9
    subst d10
    subst d11
    subst d12
    subst d13
    subst d14
    subst d15
    clear hd
    refine wpOp_of rfl rfl ?_
    obtain ⟨sa10, sn10, sc10, es10⟩ := (h10.out rfl).shape
    subst es10
    obtain ⟨sa14, sn14, sc14, es14⟩ := (h14.out rfl).shape
    subst es14
    have c0 := (KR.below hB).cell 0
    have f0 := (KR.below hB).fro 0
    have c1 := (KR.below hB).cell 1
    have f1 := (KR.below hB).fro 1
    have c2 := (KR.below hB).cell 2
    have f2 := (KR.below hB).fro 2
    go_simp
    unfold mo9I mo9F
    exact .inr <| .inl ⟨rfl, _, _, _, _, x4, x5, _, _, _, x9, _, _, _, _, _, _, _, rfl, hB, rfl, h10.out rfl, h14.out rfl⟩
  · exfalso
    obtain rfl := Option.some.inj ho
    simp [Region.binds] at hu hd
set_option maxHeartbeats 16000000 in
theorem mo9_fin (gP gR ya za hh rr kk vn xv n7 c7 : Nat) (nx cx ny cy nz cz : Nat) (ax ay az : Option Addr) (a7 : Option Addr) (vh vr vk vv : Value) (w : World) {t0 t1 t3 t6 t9 t13 t14 t15 t16 t17 t18 t19 t20 t21 t22 t23 t24 t25 t26 t27 t28 t29 t30 t31 t32 t33 t34 t35 t36 t37 t38 t39 t40 t41 t42 t43 t44 t45 t46 t47 t48 t49 t50 t51 t52 t53 t54 t55 t56 t57 : Value} {ds : List Deferred} : ∀ l a w1, mo9I w gP gR ya za hh rr kk vn xv n7 c7 nx cx ny cy nz cz ax ay az a7 vh vr vk vv t0 t1 t3 t6 t9 t13 t14 t15 t16 t17 t18 t19 t20 t21 t22 t23 t24 t25 t26 t27 t28 t29 t30 t31 t32 t33 t34 t35 t36 t37 t38 t39 t40 t41 t42 t43 t44 t45 t46 t47 t48 t49 t50 t51 t52 t53 t54 t55 t56 t57 ds l a w1 → Region.ready .any mo9O l = [] → mo9F w (.bool true) gP gR ya za hh rr kk vn xv n7 c7 nx cx ny cy nz cz ax ay az a7 vh vr vk vv t0 t1 t3 t6 t9 t13 t14 t15 t16 t17 t18 t19 t20 t21 t22 t23 t24 t25 t26 t27 t28 t29 t30 t31 t32 t33 t34 t35 t36 t37 t38 t39 t40 t41 t42 t43 t44 t45 t46 t47 t48 t49 t50 t51 t52 t53 t54 t55 t56 t57 ds a w1 := by
  simp only [mo9O, findR, Try.f85, Option.bind_some, Option.or, Option.getD, Nat.reduceEqDiff, if_true, if_false, reduceIte]
  rintro l a w1 hI hr
  rcases hI with ⟨rfl, hF⟩ | ⟨rfl, hF⟩ | hI
  · exact hF
  · exact absurd (mem_ready.2 ⟨rfl, _, rfl, by simp [Region.binds]⟩) (fun h => List.not_mem_nil (hr ▸ h : (17 : Nat) ∈ ([] : List Nat)))
  obtain ⟨j0, j1, j2, j3, j4, j5, j6, j7, j8, j9, j10, j11, j12, j13, j14, j15, x0, x1, x2, x3, x4, x5, x6, x7, x8, x9, x10, x11, x12, x13, x14, x15, rfl, rfl, hB, h0, h1, h2, h3, h4, h5, h6, h7, h8, h9, h10, h11, h12, h13, h14, h15⟩ := hI
  have hn := fun i => List.eq_nil_iff_forall_not_mem.1 hr i
  clear hr
  have d0 : j0 = true := by
    cases hj : j0
    · exact absurd (mem_ready.2 ⟨by simp [hj], _, rfl, by simp [Region.binds, hj]⟩) (hn 0)
    · rfl
  subst d0
  have d1 : j1 = true := by
    cases hj : j1
    · exact absurd (mem_ready.2 ⟨by simp [hj], _, rfl, by simp [Region.binds, hj]⟩) (hn 1)
    · rfl
  subst d1
  have d2 : j2 = true := by
    cases hj : j2
    · exact absurd (mem_ready.2 ⟨by simp [hj], _, rfl, by simp [Region.binds, hj]⟩) (hn 2)
    · rfl
  subst d2
  have d3 : j3 = true := by
    cases hj : j3
    · exact absurd (mem_ready.2 ⟨by simp [hj], _, rfl, by simp [Region.binds, hj]⟩) (hn 3)
    · rfl
  subst d3
  have d4 : j4 = true := by
    cases hj : j4
    · exact absurd (mem_ready.2 ⟨by simp [hj], _, rfl, by simp [Region.binds, hj]⟩) (hn 4)
    · rfl
  subst d4
  have d5 : j5 = true := by
    cases hj : j5
    · exact absurd (mem_ready.2 ⟨by simp [hj], _, rfl, by simp [Region.binds, hj]⟩) (hn 5)
    · rfl
  subst d5
  have d6 : j6 = true := by
    cases hj : j6
    · exact absurd (mem_ready.2 ⟨by simp [hj], _, rfl, by simp [Region.binds, hj]⟩) (hn 6)
    · rfl
  subst d6
  have d7 : j7 = true := by
    cases hj : j7
    · exact absurd (mem_ready.2 ⟨by simp [hj], _, rfl, by simp [Region.binds, hj]⟩) (hn 7)
    · rfl
  subst d7
  have d8 : j8 = true := by
    cases hj : j8
    · exact absurd (mem_ready.2 ⟨by simp [hj], _, rfl, by simp [Region.binds, hj]⟩) (hn 8)
    · rfl
  subst d8
  have d9 : j9 = true := by
    cases hj : j9
    · exact absurd (mem_ready.2 ⟨by simp [hj], _, rfl, by simp [Region.binds, hj]⟩) (hn 9)
    · rfl
  subst d9
  have d10 : j10 = true := by
    cases hj : j10
    · exact absurd (mem_ready.2 ⟨by simp [hj], _, rfl, by simp [Region.binds, hj]⟩) (hn 10)
    · rfl
  subst d10
  have d11 : j11 = true := by
    cases hj : j11
    · exact absurd (mem_ready.2 ⟨by simp [hj], _, rfl, by simp [Region.binds, hj]⟩) (hn 11)
    · rfl
  subst d11
  have d12 : j12 = true := by
    cases hj : j12
    · exact absurd (mem_ready.2 ⟨by simp [hj], _, rfl, by simp [Region.binds, hj]⟩) (hn 12)
    · rfl
  subst d12
  have d13 : j13 = true := by
    cases hj : j13
    · exact absurd (mem_ready.2 ⟨by simp [hj], _, rfl, by simp [Region.binds, hj]⟩) (hn 13)
    · rfl
  subst d13
  have d14 : j14 = true := by
    cases hj : j14
    · exact absurd (mem_ready.2 ⟨by simp [hj], _, rfl, by simp [Region.binds, hj]⟩) (hn 14)
    · rfl
  subst d14
  have d15 : j15 = true := by
    cases hj : j15
    · exact absurd (mem_ready.2 ⟨by simp [hj], _, rfl, by simp [Region.binds, hj]⟩) (hn 15)
    · rfl
  subst d15
  exact absurd (mem_ready.2 ⟨rfl, _, rfl, by simp [Region.binds]⟩) (hn 16)
theorem mo9 (gP gR ya za hh rr kk vn xv n7 c7 : Nat) (nx cx ny cy nz cz : Nat) (ax ay az : Option Addr) (a7 : Option Addr) (vh vr vk vv : Value) (w : World) (KP : Bk 101 w gP #[.slice ax nx cx, .slice ay ny cy, .slice az nz cz]) (KR : Bk 101 w gR #[.slice none 0 0, .slice none 0 0, .slice none 0 0]) (HY : ya < big) (HZ : za < big) (HH : hh < big) (HR : rr < big) (HK : kk < big) (HV : vn < big) (HX : xv < big) (NY : NV w (.slice ay ny cy) ya) (NZ : NV w (.slice az nz cz) za) (NH : NV w vh hh) (NR : NV w vr rr) (NK : NV w vk kk) (NW : NV w vv vn) (N7 : NV w (.slice a7 n7 c7) xv) {t0 t1 t3 t6 t9 t13 t14 t15 t16 t17 t18 t19 t20 t21 t22 t23 t24 t25 t26 t27 t28 t29 t30 t31 t32 t33 t34 t35 t36 t37 t38 t39 t40 t41 t42 t43 t44 t45 t46 t47 t48 t49 t50 t51 t52 t53 t54 t55 t56 t57 t58 t59 t60 t61 t62 t63 t64 t65 t66 t67 t68 t69 t70 t71 t72 t73 : Value} {ds : List Deferred} {K : Act → World → Prop} {Q : Exit → Act → World → Prop}
    (h : ∀ (y0 y1 y2 y3 y4 y5 y6 y7 y8 y9 y10 y11 y12 y13 y14 y15 : Value) (w1 : World) (hb : Below w.heap.size w w1) (hn10 : NV w1 y10 (sj (mj rr (sj vn xv)) (mj ya kk))) (hn14 : NV w1 y14 (mj za hh)), K { tmps := #[t0, t1, .pointer (some ⟨gP, 0, none⟩), t3, .pointer (some ⟨gR, 0, none⟩), .bool true, t6, vh, vr, t9, vk, vv, .slice a7 n7 c7, t13, t14, t15, t16, t17, t18, t19, t20, t21, t22, t23, t24, t25, t26, t27, t28, t29, t30, t31, t32, t33, t34, t35, t36, t37, t38, t39, t40, t41, t42, t43, t44, t45, t46, t47, t48, t49, t50, t51, t52, t53, t54, t55, t56, t57, y0, y1, y2, y3, y4, y5, y6, y7, y8, y9, y10, y11, y12, y13, y14, y15], defers := ds } (World.setCell (World.setCell (World.setCell w1 ⟨gR, 0, none⟩ (.slice a7 n7 c7)) ⟨gR, 1, none⟩ (y10)) ⟨gR, 2, none⟩ (y14))) :
    (Code.region 9 mo9O true).wp Try.prog (Exit.then K Q) { tmps := #[t0, t1, .pointer (some ⟨gP, 0, none⟩), t3, .pointer (some ⟨gR, 0, none⟩), .bool false, t6, vh, vr, t9, vk, vv, .slice a7 n7 c7, t13, t14, t15, t16, t17, t18, t19, t20, t21, t22, t23, t24, t25, t26, t27, t28, t29, t30, t31, t32, t33, t34, t35, t36, t37, t38, t39, t40, t41, t42, t43, t44, t45, t46, t47, t48, t49, t50, t51, t52, t53, t54, t55, t56, t57, t58, t59, t60, t61, t62, t63, t64, t65, t66, t67, t68, t69, t70, t71, t72, t73], defers := ds } w := by
  have hsz : mo9O.size = 18 := by kernel_rfl
  refine wp_region_any (show Try.prog.follows .mixedOrders = true from by kernel_rfl) ?_
  rw [hsz]
  refine wpAny_inv (I := mo9I w gP gR ya za hh rr kk vn xv n7 c7 nx cx ny cy nz cz ax ay az a7 vh vr vk vv t0 t1 t3 t6 t9 t13 t14 t15 t16 t17 t18 t19 t20 t21 t22 t23 t24 t25 t26 t27 t28 t29 t30 t31 t32 t33 t34 t35 t36 t37 t38 t39 t40 t41 t42 t43 t44 t45 t46 t47 t48 t49 t50 t51 t52 t53 t54 t55 t56 t57 ds) (mo9_steps gP gR ya za hh rr kk vn xv n7 c7 nx cx ny cy nz cz ax ay az a7 vh vr vk vv w KP KR HY HZ HH HR HK HV HX NY NZ NH NR NK NW N7) (fun l a w' hI hr => ?_) 18 _ _ _ (by decide) ?_
  · obtain ⟨y0, y1, y2, y3, y4, y5, y6, y7, y8, y9, y10, y11, y12, y13, y14, y15, wm, rfl, hb, rfl, hn10, hn14⟩ := mo9_fin gP gR ya za hh rr kk vn xv n7 c7 nx cx ny cy nz cz ax ay az a7 vh vr vk vv w l a w' hI hr
    exact h _ _ _ _ _ _ _ _ _ _ _ _ _ _ _ _ _ hb hn10 hn14
  · exact .inr <| .inr ⟨false, false, false, false, false, false, false, false, false, false, false, false, false, false, false, false, t58, t59, t60, t61, t62, t63, t64, t65, t66, t67, t68, t69, t70, t71, t72, t73, rfl, rfl, ⟨rfl, rfl, rfl, Nat.le_refl _, fun _ _ => rfl⟩, (fun h => by cases h), (fun h => by cases h), (fun h => by cases h), (fun h => by cases h), (fun h => by cases h), (fun h => by cases h), (fun h => by cases h), (fun h => by cases h), (fun h => by cases h), (fun h => by cases h), (fun h => by cases h), (fun h => by cases h), (fun h => by cases h), (fun h => by cases h), (fun h => by cases h), (fun h => by cases h)⟩
end Go.Proofs.Ytglmmodkflkkkaa.Ref
