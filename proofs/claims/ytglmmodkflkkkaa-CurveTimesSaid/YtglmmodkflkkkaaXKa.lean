import Derived.Test.YtglmmodkflkkkaaXFj
import Derived.Test.YtglmmodkflkkkaaXMr
import Derived.Test.YtglmmodkflkkkaaXMm
set_option linter.unusedVariables false
set_option linter.unusedSimpArgs false
set_option maxRecDepth 100000
namespace Go.Proofs.Ytglmmodkflkkkaa.Ref
open Go.RowKit Go.Proofs.Ytglmmodkflkkkaa.Digits Limbs Curve
theorem mp_big {n : Nat} (h : n < mP) : n < big := Nat.lt_trans h (by decide +kernel)
theorem mj_b (a b : Nat) : mj a b < big := mp_big (mj_p a b)
theorem aj_b (a b : Nat) : aj a b < big := mp_big (aj_p a b)
theorem sj_b (a b : Nat) : sj a b < big := mp_big (sj_p a b)
theorem ngj_p (a : Nat) : ngj a < mP := Nat.mod_lt _ (by decide +kernel)
theorem times_nv (v u : Value) (w : World) (a b : Nat) (ha : a < big) (hb : b < big) (h : NV w v a) (k : NV w u b) : Calls Try.prog 69 #[v, u] w fun e w' => ∃ v', e = .returned v' ∧ Nr w w' v' (mj a b) := by
  have H := Lib.hid (prod_nv 0 v u w a b ha hb h k)
  rw [md0, show a * b % mP = mj a b from rfl] at H
  clear h k ha hb
  go_enter Try.func69, Try.ntmps69
  go_wp2_with fail
  refine H.out.mono ?_
  rintro e w1 ⟨v1, rfl, h1⟩
  have H1 := Lib.hid h1
  clear h1
  go_wp2_with fail
  go_ret
  exact ⟨_, rfl, H1.out⟩
theorem plus_nv' (v u : Value) (w : World) (a b : Nat) (ha : a < big) (hb : b < big) (h : NV w v a) (k : NV w u b) : Calls Try.prog 67 #[v, u] w fun e w' => ∃ v', e = .returned v' ∧ Nr w w' v' (aj a b) := by
  have H := Lib.hid (sum_nv 0 v u w a b ha hb h k)
  rw [md0, show (a + b) % mP = aj a b from rfl] at H
  clear h k ha hb
  go_enter Try.func67, Try.ntmps67
  go_wp2_with fail
  refine H.out.mono ?_
  rintro e w1 ⟨v1, rfl, h1⟩
  have H1 := Lib.hid h1
  clear h1
  go_wp2_with fail
  go_ret
  exact ⟨_, rfl, H1.out⟩
theorem opp_c (v : Value) (w : World) (a : Nat) (ha : a < big) (h : NV w v a) : Calls Try.prog 22 #[.int .i64 0, v] w fun e w' => ∃ v', e = .returned v' ∧ Nr w w' v' (ngj a) := by
  have := opp_nv 0 v w a ha h
  rwa [md0] at this
theorem minus_nv' (v u : Value) (w : World) (a b : Nat) (ha : a < big) (hb : b < big) (h : NV w v a) (k : NV w u b) : Calls Try.prog 68 #[v, u] w fun e w' => ∃ v', e = .returned v' ∧ Nr w w' v' (sj a b) := by
  have H := Lib.hid (opp_c u w b hb k)
  have HV := Lib.hid h
  have HA := Lib.hid ha
  have hs : (a + ngj b) % mP = sj a b := by unfold ngj sj; rw [Nat.add_mod_mod]
  have HS := Lib.hid (fun u' w' (hv : NV w' v a) k' => sum_nv 0 v u' w' a (ngj b) ha (mp_big (ngj_p b)) hv k')
  rw [md0, hs] at HS
  clear h k ha hb hs
  go_enter Try.func68, Try.ntmps68
  go_wp2_with fail
  refine (nk w.heap.size w H.out (Below.refl _ _) (Nat.le_refl _)).mono ?_
  rintro e w1 ⟨v1, rfl, h1, hb, hk⟩
  have HB := Lib.hid hb
  replace HV := Lib.hid (HV.out.below hk)
  have H1 := Lib.hid h1
  clear h1 hb hk H
  go_wp2_with fail
  refine (nk w.heap.size w (HS.out v1 w1 HV.out H1.out) HB.out (Nat.le_refl _)).mono ?_
  rintro e w2 ⟨v2, rfl, h2, hb, hk⟩
  replace HB := Lib.hid hb
  have H2 := Lib.hid h2
  clear h2 hb hk
  go_wp2_with fail
  go_ret
  exact ⟨_, rfl, ⟨H2.out, HB.out⟩⟩
theorem b_nv (w : World) : Calls Try.prog 70 #[] w fun e w' => ∃ v', e = .returned v' ∧ Nr w w' v' BN := by
  have H := Lib.hid (in_any BN (by decide +kernel) w)
  rw [nv_BN] at H
  go_enter Try.func70, Try.ntmps70
  go_wp2_with fail
  refine H.out.mono ?_
  rintro e w1 ⟨v1, rfl, h1⟩
  have H1 := Lib.hid h1
  clear h1
  go_wp2_with fail
  go_ret
  exact ⟨_, rfl, H1.out⟩
def on3F (w0 : World) (gP ux uy : Nat) (t0 t5 t6 t7 t8 t9 t10 t11 t12 t13 t14 t15 t16 t17 t24 t25 t26 t27 t28 t29 t30 t31 t32 t33 t34 t35 t36 t37 t38 t39 t40 t41 t42 t43 t44 t45 t46 t47 t48 t49 t50 : Value) (ds : List Deferred) (a : Act) (w : World) : Prop :=
  ∃ y0 y1 y2 y3 y4 y5 y6 y7 : Value, ∃ wm : World, a = { tmps := #[t0, .pointer (some ⟨gP, 0, none⟩), .bool false, y6, y7, t5, t6, t7, t8, t9, t10, t11, t12, t13, t14, t15, t16, t17, y0, y1, y2, y3, y4, y5, t24, t25, t26, t27, t28, t29, t30, t31, t32, t33, t34, t35, t36, t37, t38, t39, t40, t41, t42, t43, t44, t45, t46, t47, t48, t49, t50], defers := ds } ∧ Below w0.heap.size w0 wm ∧ w = wm ∧ NV wm y6 (ux) ∧ NV wm y7 (uy)
def on3I (w0 : World) (gP ux uy : Nat) (t0 t5 t6 t7 t8 t9 t10 t11 t12 t13 t14 t15 t16 t17 t24 t25 t26 t27 t28 t29 t30 t31 t32 t33 t34 t35 t36 t37 t38 t39 t40 t41 t42 t43 t44 t45 t46 t47 t48 t49 t50 : Value) (ds : List Deferred) (l : Array Bool) (a : Act) (w : World) : Prop :=
  ∃ j0 j1 j2 j3 j4 j5 j6 j7 : Bool, ∃ x0 x1 x2 x3 x4 x5 x6 x7 : Value, l = #[j0, j1, j2, j3, j4, j5, j6, j7] ∧ a = { tmps := #[t0, .pointer (some ⟨gP, 0, none⟩), .bool false, x6, x7, t5, t6, t7, t8, t9, t10, t11, t12, t13, t14, t15, t16, t17, x0, x1, x2, x3, x4, x5, t24, t25, t26, t27, t28, t29, t30, t31, t32, t33, t34, t35, t36, t37, t38, t39, t40, t41, t42, t43, t44, t45, t46, t47, t48, t49, t50], defers := ds } ∧ Below w0.heap.size w0 w ∧
  (j0 = true → x0 = .pointer (some ⟨gP, 0, none⟩)) ∧ (j1 = true → x1 = .agg #[.int .u64 (lb ux 0 : Nat), .int .u64 (lb ux 1 : Nat), .int .u64 (lb ux 2 : Nat), .int .u64 (lb ux 3 : Nat)]) ∧ (j2 = true → NV w x2 (ux)) ∧ (j3 = true → x3 = .pointer (some ⟨gP, 4, none⟩)) ∧ (j4 = true → x4 = .agg #[.int .u64 (lb uy 0 : Nat), .int .u64 (lb uy 1 : Nat), .int .u64 (lb uy 2 : Nat), .int .u64 (lb uy 3 : Nat)]) ∧ (j5 = true → NV w x5 (uy)) ∧ (j6 = true → NV w x6 (ux)) ∧ (j7 = true → NV w x7 (uy))
noncomputable def on3O : Array Oper := (Try.f40.body.bind fun c => findR c 3).getD #[]
set_option maxHeartbeats 16000000 in
theorem on3_steps (gP ux uy : Nat) (w : World) (KP : Bk 51 w gP #[.int .u64 (lb ux 0 : Nat), .int .u64 (lb ux 1 : Nat), .int .u64 (lb ux 2 : Nat), .int .u64 (lb ux 3 : Nat), .int .u64 (lb uy 0 : Nat), .int .u64 (lb uy 1 : Nat), .int .u64 (lb uy 2 : Nat), .int .u64 (lb uy 3 : Nat), .bool false]) (HX : Hid (∀ w, Calls Try.prog 14 #[.agg #[.int .u64 (lb ux 0 : Nat), .int .u64 (lb ux 1 : Nat), .int .u64 (lb ux 2 : Nat), .int .u64 (lb ux 3 : Nat)]] w fun e w' => ∃ v', e = .returned v' ∧ Nr w w' v' ux)) (HY : Hid (∀ w, Calls Try.prog 14 #[.agg #[.int .u64 (lb uy 0 : Nat), .int .u64 (lb uy 1 : Nat), .int .u64 (lb uy 2 : Nat), .int .u64 (lb uy 3 : Nat)]] w fun e w' => ∃ v', e = .returned v' ∧ Nr w w' v' uy))
    {t0 t5 t6 t7 t8 t9 t10 t11 t12 t13 t14 t15 t16 t17 t24 t25 t26 t27 t28 t29 t30 t31 t32 t33 t34 t35 t36 t37 t38 t39 t40 t41 t42 t43 t44 t45 t46 t47 t48 t49 t50 : Value} {ds : List Deferred} {Q : Exit → Act → World → Prop} :
    ∀ l a w', on3I w gP ux uy t0 t5 t6 t7 t8 t9 t10 t11 t12 t13 t14 t15 t16 t17 t24 t25 t26 t27 t28 t29 t30 t31 t32 t33 t34 t35 t36 t37 t38 t39 t40 t41 t42 t43 t44 t45 t46 t47 t48 t49 t50 ds l a w' → ∀ i ∈ Region.ready .any on3O l, wpOp Try.prog on3O Q i (fun a' w'' => on3I w gP ux uy t0 t5 t6 t7 t8 t9 t10 t11 t12 t13 t14 t15 t16 t17 t24 t25 t26 t27 t28 t29 t30 t31 t32 t33 t34 t35 t36 t37 t38 t39 t40 t41 t42 t43 t44 t45 t46 t47 t48 t49 t50 ds (l.setIfInBounds i true) a' w'') a w' := by
  simp only [on3O, findR, Try.f40, Option.bind_some, Option.or, Option.getD, Nat.reduceEqDiff, if_true, if_false, reduceIte]
  rintro l a w' hI i hi
  rw [mem_ready] at hi
  obtain ⟨hu, oo, ho, hd⟩ := hi
  have hin : i < 8 := by
    have := (Array.getElem?_eq_some_iff.1 ho).1
    simpa using this
  have hcase : i = 0 ∨ i = 1 ∨ i = 2 ∨ i = 3 ∨ i = 4 ∨ i = 5 ∨ i = 6 ∨ i = 7 := by omega
  obtain ⟨j0, j1, j2, j3, j4, j5, j6, j7, x0, x1, x2, x3, x4, x5, x6, x7, rfl, rfl, hB, h0, h1, h2, h3, h4, h5, h6, h7⟩ := hI
  replace h0 := Lib.hid h0
  replace h1 := Lib.hid h1
  replace h2 := Lib.hid h2
  replace h3 := Lib.hid h3
  replace h4 := Lib.hid h4
  replace h5 := Lib.hid h5
  replace h6 := Lib.hid h6
  replace h7 := Lib.hid h7
  rcases hcase with rfl | rfl | rfl | rfl | rfl | rfl | rfl | rfl
  · obtain rfl := Option.some.inj ho
    simp [Region.binds] at hu hd
    clear hd
    refine wpOp_of rfl rfl ?_
    go_simp
    unfold on3I
    exact ⟨true, j1, j2, j3, j4, j5, j6, j7, _, x1, x2, x3, x4, x5, x6, x7, rfl, rfl, hB, fun _ => rfl, h1.out, h2.out, h3.out, h4.out, h5.out, h6.out, h7.out⟩
  · obtain rfl := Option.some.inj ho
    simp [Region.binds] at hu hd
    have d0 : j0 = true := by simp [hd]
    have e0 := h0.out d0
    subst e0
    subst d0
    clear hd
    refine wpOp_of rfl rfl ?_
    have i0 : w'.cell? ⟨gP, 0, none⟩ = some (.int .u64 (lb ux 0 : Nat)) := (KP.below hB).cell 0
    have i1 : w'.cell? ⟨gP, 1, none⟩ = some (.int .u64 (lb ux 1 : Nat)) := (KP.below hB).cell 1
    have i2 : w'.cell? ⟨gP, 2, none⟩ = some (.int .u64 (lb ux 2 : Nat)) := (KP.below hB).cell 2
    have i3 : w'.cell? ⟨gP, 3, none⟩ = some (.int .u64 (lb ux 3 : Nat)) := (KP.below hB).cell 3
    go_simp
    unfold on3I
    exact ⟨true, true, j2, j3, j4, j5, j6, j7, _, _, x2, x3, x4, x5, x6, x7, rfl, rfl, hB, h0.out, fun _ => rfl, h2.out, h3.out, h4.out, h5.out, h6.out, h7.out⟩
  · obtain rfl := Option.some.inj ho
    simp [Region.binds] at hu hd
    have d1 : j1 = true := by simp [hd]
    have e1 := h1.out d1
    subst e1
    subst d1
    clear hd
    refine wpOp_of rfl rfl ?_
    go_simp
    go_at_call 14
    refine (nk w.heap.size w (HX.out _) hB (Nat.le_refl _)).mono ?_
    rintro e w2 ⟨v', rfl, hn', hB2, hb2⟩
    unfold on3I
    exact ⟨j0, true, true, j3, j4, j5, j6, j7, x0, _, _, x3, x4, x5, x6, x7, rfl, rfl, hB2, h0.out, h1.out, fun _ => hn', h3.out, h4.out, fun hj => (h5.out hj).below hb2, fun hj => (h6.out hj).below hb2, fun hj => (h7.out hj).below hb2⟩
  · obtain rfl := Option.some.inj ho
    simp [Region.binds] at hu hd
    clear hd
    refine wpOp_of rfl rfl ?_
    go_simp
    unfold on3I
    exact ⟨j0, j1, j2, true, j4, j5, j6, j7, x0, x1, x2, _, x4, x5, x6, x7, rfl, rfl, hB, h0.out, h1.out, h2.out, fun _ => rfl, h4.out, h5.out, h6.out, h7.out⟩
  · obtain rfl := Option.some.inj ho
    simp [Region.binds] at hu hd
    have d3 : j3 = true := by simp [hd]
    have e3 := h3.out d3
    subst e3
    subst d3
    clear hd
    refine wpOp_of rfl rfl ?_
    have i4 : w'.cell? ⟨gP, 4, none⟩ = some (.int .u64 (lb uy 0 : Nat)) := (KP.below hB).cell 4
    have i5 : w'.cell? ⟨gP, 5, none⟩ = some (.int .u64 (lb uy 1 : Nat)) := (KP.below hB).cell 5
    have i6 : w'.cell? ⟨gP, 6, none⟩ = some (.int .u64 (lb uy 2 : Nat)) := (KP.below hB).cell 6
    have i7 : w'.cell? ⟨gP, 7, none⟩ = some (.int .u64 (lb uy 3 : Nat)) := (KP.below hB).cell 7
    go_simp
    unfold on3I
    exact ⟨j0, j1, j2, true, true, j5, j6, j7, x0, x1, x2, _, _, x5, x6, x7, rfl, rfl, hB, h0.out, h1.out, h2.out, h3.out, fun _ => rfl, h5.out, h6.out, h7.out⟩
  · obtain rfl := Option.some.inj ho
    simp [Region.binds] at hu hd
    have d2 : j2 = true := by simp [hd]
    have d4 : j4 = true := by simp [hd]
    have e4 := h4.out d4
    subst e4
    subst d2
    subst d4
    clear hd
    refine wpOp_of rfl rfl ?_
    go_simp
    go_at_call 14
    refine (nk w.heap.size w (HY.out _) hB (Nat.le_refl _)).mono ?_
    rintro e w2 ⟨v', rfl, hn', hB2, hb2⟩
    unfold on3I
    exact ⟨j0, j1, true, j3, true, true, j6, j7, x0, x1, x2, x3, _, _, x6, x7, rfl, rfl, hB2, h0.out, h1.out, fun hj => (h2.out hj).below hb2, h3.out, h4.out, fun _ => hn', fun hj => (h6.out hj).below hb2, fun hj => (h7.out hj).below hb2⟩
  · obtain rfl := Option.some.inj ho
    simp [Region.binds] at hu hd
    have d0 : j0 = true := by simp [hd]
    have d1 : j1 = true := by simp [hd]
    have d2 : j2 = true := by simp [hd]
    have d5 : j5 = true := by simp [hd]
    have e0 := h0.out d0
    subst e0
    have e1 := h1.out d1
    subst e1
    subst d0
    subst d1
    subst d2
    subst d5
    clear hd
    refine wpOp_of rfl rfl ?_
    go_simp
    unfold on3I
    exact ⟨true, true, true, j3, j4, true, true, j7, _, _, x2, x3, x4, x5, _, x7, rfl, rfl, hB, h0.out, h1.out, h2.out, h3.out, h4.out, h5.out, fun _ => h2.out rfl, h7.out⟩
  · obtain rfl := Option.some.inj ho
    simp [Region.binds] at hu hd
    have d0 : j0 = true := by simp [hd]
    have d1 : j1 = true := by simp [hd]
    have d2 : j2 = true := by simp [hd]
    have d3 : j3 = true := by simp [hd]
    have d4 : j4 = true := by simp [hd]
    have d5 : j5 = true := by simp [hd]
    have d6 : j6 = true := by simp [hd]
    have e0 := h0.out d0
    subst e0
    have e1 := h1.out d1
    subst e1
    have e3 := h3.out d3
    subst e3
    have e4 := h4.out d4
    subst e4
    subst d0
    subst d1
    subst d2
    subst d3
    subst d4
    subst d5
    subst d6
    clear hd
    refine wpOp_of rfl rfl ?_
    go_simp
    unfold on3I
    exact ⟨true, true, true, true, true, true, true, true, _, _, x2, _, _, x5, x6, _, rfl, rfl, hB, h0.out, h1.out, h2.out, h3.out, h4.out, h5.out, h6.out, fun _ => h5.out rfl⟩
set_option maxHeartbeats 16000000 in
theorem on3_fin (gP ux uy : Nat) (w : World) {t0 t5 t6 t7 t8 t9 t10 t11 t12 t13 t14 t15 t16 t17 t24 t25 t26 t27 t28 t29 t30 t31 t32 t33 t34 t35 t36 t37 t38 t39 t40 t41 t42 t43 t44 t45 t46 t47 t48 t49 t50 : Value} {ds : List Deferred} : ∀ l a w1, on3I w gP ux uy t0 t5 t6 t7 t8 t9 t10 t11 t12 t13 t14 t15 t16 t17 t24 t25 t26 t27 t28 t29 t30 t31 t32 t33 t34 t35 t36 t37 t38 t39 t40 t41 t42 t43 t44 t45 t46 t47 t48 t49 t50 ds l a w1 → Region.ready .any on3O l = [] → on3F w gP ux uy t0 t5 t6 t7 t8 t9 t10 t11 t12 t13 t14 t15 t16 t17 t24 t25 t26 t27 t28 t29 t30 t31 t32 t33 t34 t35 t36 t37 t38 t39 t40 t41 t42 t43 t44 t45 t46 t47 t48 t49 t50 ds a w1 := by
  simp only [on3O, findR, Try.f40, Option.bind_some, Option.or, Option.getD, Nat.reduceEqDiff, if_true, if_false, reduceIte]
  rintro l a w1 hI hr
  obtain ⟨j0, j1, j2, j3, j4, j5, j6, j7, x0, x1, x2, x3, x4, x5, x6, x7, rfl, rfl, hB, h0, h1, h2, h3, h4, h5, h6, h7⟩ := hI
  have hn := fun i => List.eq_nil_iff_forall_not_mem.1 hr i
  clear hr
  have d0 : j0 = true := by
    cases hj : j0
    · exact absurd (mem_ready.2 ⟨by simp [hj], _, rfl, by simp [Region.binds, hj]⟩) (hn 0)
    · rfl
  subst d0
  have d1 : j1 = true := by
    cases hj : j1
    · exact absurd (mem_ready.2 ⟨by simp [hj], _, rfl, by simp [Region.binds, hj]⟩) (hn 1)
    · rfl
  subst d1
  have d2 : j2 = true := by
    cases hj : j2
    · exact absurd (mem_ready.2 ⟨by simp [hj], _, rfl, by simp [Region.binds, hj]⟩) (hn 2)
    · rfl
  subst d2
  have d3 : j3 = true := by
    cases hj : j3
    · exact absurd (mem_ready.2 ⟨by simp [hj], _, rfl, by simp [Region.binds, hj]⟩) (hn 3)
    · rfl
  subst d3
  have d4 : j4 = true := by
    cases hj : j4
    · exact absurd (mem_ready.2 ⟨by simp [hj], _, rfl, by simp [Region.binds, hj]⟩) (hn 4)
    · rfl
  subst d4
  have d5 : j5 = true := by
    cases hj : j5
    · exact absurd (mem_ready.2 ⟨by simp [hj], _, rfl, by simp [Region.binds, hj]⟩) (hn 5)
    · rfl
  subst d5
  have d6 : j6 = true := by
    cases hj : j6
    · exact absurd (mem_ready.2 ⟨by simp [hj], _, rfl, by simp [Region.binds, hj]⟩) (hn 6)
    · rfl
  subst d6
  have d7 : j7 = true := by
    cases hj : j7
    · exact absurd (mem_ready.2 ⟨by simp [hj], _, rfl, by simp [Region.binds, hj]⟩) (hn 7)
    · rfl
  subst d7
  exact ⟨_, _, _, _, _, _, _, _, w1, rfl, hB, rfl, h6 rfl, h7 rfl⟩
theorem on3 (gP ux uy : Nat) (w : World) (KP : Bk 51 w gP #[.int .u64 (lb ux 0 : Nat), .int .u64 (lb ux 1 : Nat), .int .u64 (lb ux 2 : Nat), .int .u64 (lb ux 3 : Nat), .int .u64 (lb uy 0 : Nat), .int .u64 (lb uy 1 : Nat), .int .u64 (lb uy 2 : Nat), .int .u64 (lb uy 3 : Nat), .bool false]) (HX : Hid (∀ w, Calls Try.prog 14 #[.agg #[.int .u64 (lb ux 0 : Nat), .int .u64 (lb ux 1 : Nat), .int .u64 (lb ux 2 : Nat), .int .u64 (lb ux 3 : Nat)]] w fun e w' => ∃ v', e = .returned v' ∧ Nr w w' v' ux)) (HY : Hid (∀ w, Calls Try.prog 14 #[.agg #[.int .u64 (lb uy 0 : Nat), .int .u64 (lb uy 1 : Nat), .int .u64 (lb uy 2 : Nat), .int .u64 (lb uy 3 : Nat)]] w fun e w' => ∃ v', e = .returned v' ∧ Nr w w' v' uy)) {t0 t3 t4 t5 t6 t7 t8 t9 t10 t11 t12 t13 t14 t15 t16 t17 t18 t19 t20 t21 t22 t23 t24 t25 t26 t27 t28 t29 t30 t31 t32 t33 t34 t35 t36 t37 t38 t39 t40 t41 t42 t43 t44 t45 t46 t47 t48 t49 t50 : Value} {ds : List Deferred} {K : Act → World → Prop} {Q : Exit → Act → World → Prop}
    (h : ∀ (y0 y1 y2 y3 y4 y5 y6 y7 : Value) (w1 : World) (hb : Below w.heap.size w w1) (hn6 : NV w1 y6 (ux)) (hn7 : NV w1 y7 (uy)), K { tmps := #[t0, .pointer (some ⟨gP, 0, none⟩), .bool false, y6, y7, t5, t6, t7, t8, t9, t10, t11, t12, t13, t14, t15, t16, t17, y0, y1, y2, y3, y4, y5, t24, t25, t26, t27, t28, t29, t30, t31, t32, t33, t34, t35, t36, t37, t38, t39, t40, t41, t42, t43, t44, t45, t46, t47, t48, t49, t50], defers := ds } w1) :
    (Code.region 3 on3O true).wp Try.prog (Exit.then K Q) { tmps := #[t0, .pointer (some ⟨gP, 0, none⟩), .bool false, t3, t4, t5, t6, t7, t8, t9, t10, t11, t12, t13, t14, t15, t16, t17, t18, t19, t20, t21, t22, t23, t24, t25, t26, t27, t28, t29, t30, t31, t32, t33, t34, t35, t36, t37, t38, t39, t40, t41, t42, t43, t44, t45, t46, t47, t48, t49, t50], defers := ds } w := by
  have hsz : on3O.size = 8 := by kernel_rfl
  refine wp_region_any (show Try.prog.follows .mixedOrders = true from by kernel_rfl) ?_
  rw [hsz]
  refine wpAny_inv (I := on3I w gP ux uy t0 t5 t6 t7 t8 t9 t10 t11 t12 t13 t14 t15 t16 t17 t24 t25 t26 t27 t28 t29 t30 t31 t32 t33 t34 t35 t36 t37 t38 t39 t40 t41 t42 t43 t44 t45 t46 t47 t48 t49 t50 ds) (on3_steps gP ux uy w KP HX HY) (fun l a w' hI hr => ?_) 8 _ _ _ (by decide) ?_
  · obtain ⟨y0, y1, y2, y3, y4, y5, y6, y7, wm, rfl, hb, rfl, hn6, hn7⟩ := on3_fin gP ux uy w l a w' hI hr
    exact h _ _ _ _ _ _ _ _ _ hb hn6 hn7
  · exact ⟨false, false, false, false, false, false, false, false, t18, t19, t20, t21, t22, t23, t3, t4, rfl, rfl, ⟨rfl, rfl, rfl, Nat.le_refl _, fun _ _ => rfl⟩, (fun h => by cases h), (fun h => by cases h), (fun h => by cases h), (fun h => by cases h), (fun h => by cases h), (fun h => by cases h), (fun h => by cases h), (fun h => by cases h)⟩
theorem right_ref (x : Nat) : aj (sj (mj x (mj x x)) (mj 3 x)) BN = rightN x := by
  have e1 : mj x (mj x x) = mj (mj x x) x := by unfold mj; rw [Nat.mul_comm]
  have e2 : mj 3 x = tj x := by
    unfold mj tj aj
    rw [Nat.mod_add_mod, show x + x + x = 3 * x by omega]
  unfold rightN
  rw [e1, e2]
theorem three_nv (w : World) : NV (w.alloc (.cells #[.int .u32 3] 75)) (.slice (some ⟨w.heap.size, 0, none⟩) 1 1) 3 :=
  ⟨[3], us_dr (l := [3]) (Go.heap_alloc_new w _) (by decide), by unfold Dig; decide, by unfold Trim; decide, rfl⟩
theorem cmp_ge {a b : Nat} (h : b ≤ a) : decide (0 ≤ cmpN a b) = true := by unfold cmpN; rw [if_neg (by omega)]; split <;> rfl
theorem cmp_eq0 (a b : Nat) : (cmpN a b == 0) = decide (a = b) := by
  unfold cmpN
  by_cases hab : a < b
  · rw [if_pos hab]; simp; omega
  · rw [if_neg hab]
    by_cases hba : b < a
    · rw [if_pos hba]; simp; omega
    · rw [if_neg hba]; simp; omega
set_option maxHeartbeats 16000000 in
theorem ron_any (p : Po) (hp : p.ok) (w : World) :
    Calls Try.prog 40 #[p.v] w fun e w' => e = .returned (.bool p.on) ∧ Below w.heap.size w w' := by
  obtain ⟨ux, uy, i⟩ := p
  obtain ⟨hx, hy⟩ := hp
  simp only [] at hx hy
  unfold Po.v
  simp only []
  cases i
  · have HX := Lib.hid (fun w => in_any ux hx w)
    have HY := Lib.hid (fun w => in_any uy hy w)
    have HMR := Lib.hid (fun w => modref_any 0 w)
    rw [md0] at HMR
    obtain ⟨res, hres⟩ : ∃ z, z = (Po.mk ux uy false).on := ⟨_, rfl⟩
    rw [← hres]
    have HRES : Hid (res = decide (ux < mP ∧ uy < mP ∧ mj uy uy = rightN ux)) := Lib.hid hres
    have HBX : Hid (ux < big ∧ uy < big) := Lib.hid ⟨w_big hx, w_big hy⟩
    clear hres hx hy
    simp only [pn, nv, num] at HX HY ⊢
    go_enter Try.func40, Try.ntmps40
    go_wp2_with fail
    have KP : Hid (Bk 51 (w.alloc (.cells #[.int .u64 (lb ux 0 : Nat), .int .u64 (lb ux 1 : Nat), .int .u64 (lb ux 2 : Nat), .int .u64 (lb ux 3 : Nat), .int .u64 (lb uy 0 : Nat), .int .u64 (lb uy 1 : Nat), .int .u64 (lb uy 2 : Nat), .int .u64 (lb uy 3 : Nat), .bool false] 51)) w.heap.size #[.int .u64 (lb ux 0 : Nat), .int .u64 (lb ux 1 : Nat), .int .u64 (lb ux 2 : Nat), .int .u64 (lb ux 3 : Nat), .int .u64 (lb uy 0 : Nat), .int .u64 (lb uy 1 : Nat), .int .u64 (lb uy 2 : Nat), .int .u64 (lb uy 3 : Nat), .bool false]) := Lib.hid (Bk.new rfl)
    have HB : Hid (Below w.heap.size w (w.alloc (.cells #[.int .u64 (lb ux 0 : Nat), .int .u64 (lb ux 1 : Nat), .int .u64 (lb ux 2 : Nat), .int .u64 (lb ux 3 : Nat), .int .u64 (lb uy 0 : Nat), .int .u64 (lb uy 1 : Nat), .int .u64 (lb uy 2 : Nat), .int .u64 (lb uy 3 : Nat), .bool false] 51))) := Lib.hid (by go_grown)
    generalize (w.alloc (.cells #[.int .u64 (lb ux 0 : Nat), .int .u64 (lb ux 1 : Nat), .int .u64 (lb ux 2 : Nat), .int .u64 (lb ux 3 : Nat), .int .u64 (lb uy 0 : Nat), .int .u64 (lb uy 1 : Nat), .int .u64 (lb uy 2 : Nat), .int .u64 (lb uy 3 : Nat), .bool false] 51)) = w0 at KP HB ⊢
    obtain ⟨⟨a0, a1, a2, a3⟩, ⟨a4, a5, a6, a7⟩, a8⟩ := KP.out.cells9
    go_wp2_with fail
    clear a0 a1 a2 a3 a4 a5 a6 a7 a8
    refine on3 w.heap.size ux uy w0 KP.out HX HY ?_
    intros
    rename_i v3 v4 w1 hb1 hn3 hn4
    replace HB := Lib.hid (HB.out.trans (hb1.mono HB.out.size))
    have NX := Lib.hid hn3
    have NY := Lib.hid hn4
    clear hn3 hn4 hb1 KP HX HY
    go_wp2_with fail
    by_cases hx : ux < mP
    · by_cases hy : uy < mP
      · have HE : Hid (res = decide (mj uy uy = rightN ux)) := Lib.hid (by rw [HRES.out]; simp [hx, hy])
        have CX := cmpN_lt hx
        have CY := cmpN_lt hy
        have HCX := Lib.hid CX
        have HCY := Lib.hid CY
        clear hx hy CX CY HRES
        refine (nk w.heap.size w (HMR.out _) HB.out (Nat.le_refl _)).mono ?_
        rintro e w2 ⟨vm, rfl, hn, hb, hk⟩
        replace NX := Lib.hid (NX.out.below hk)
        replace NY := Lib.hid (NY.out.below hk)
        have NM := Lib.hid hn
        replace HB := Lib.hid hb
        clear hn hb hk
        go_wp2_with fail
        have HC := Lib.hid (cmp_nv _ _ _ _ _ NX.out NM.out)
        rw [HCX.out] at HC
        refine (HC.out).mono ?_
        rintro e w3 ⟨rfl, hs⟩
        replace NX := Lib.hid (NX.out.below hs.below0)
        replace NY := Lib.hid (NY.out.below hs.below0)
        replace NM := Lib.hid (NM.out.below hs.below0)
        replace HB := Lib.hid (hs.below HB.out)
        clear hs
        go_wp2_with fail
        clear NM
        clear HC
        refine (nk w.heap.size w (HMR.out _) HB.out (Nat.le_refl _)).mono ?_
        rintro e w4 ⟨vm, rfl, hn, hb, hk⟩
        replace NX := Lib.hid (NX.out.below hk)
        replace NY := Lib.hid (NY.out.below hk)
        have NM := Lib.hid hn
        replace HB := Lib.hid hb
        clear hn hb hk
        go_wp2_with fail
        have HC := Lib.hid (cmp_nv _ _ _ _ _ NY.out NM.out)
        rw [HCY.out] at HC
        refine (HC.out).mono ?_
        rintro e w5 ⟨rfl, hs⟩
        replace NX := Lib.hid (NX.out.below hs.below0)
        replace NY := Lib.hid (NY.out.below hs.below0)
        replace NM := Lib.hid (NM.out.below hs.below0)
        replace HB := Lib.hid (hs.below HB.out)
        clear hs
        go_wp2_with fail
        clear NM
        clear HC
        refine (nk w.heap.size w (times_nv _ _ _ ux ux HBX.out.1 HBX.out.1 NX.out NX.out) HB.out (Nat.le_refl _)).mono ?_
        rintro e w6 ⟨va, rfl, hn, hb, hk⟩
        replace NX := Lib.hid (NX.out.below hk)
        replace NY := Lib.hid (NY.out.below hk)
        have NA := Lib.hid hn
        replace HB := Lib.hid hb
        clear hn hb hk
        go_wp2_with fail
        refine (nk w.heap.size w (times_nv _ _ _ ux (mj ux ux) HBX.out.1 (mj_b _ _) NX.out NA.out) HB.out (Nat.le_refl _)).mono ?_
        rintro e w7 ⟨vb, rfl, hn, hb, hk⟩
        replace NX := Lib.hid (NX.out.below hk)
        replace NY := Lib.hid (NY.out.below hk)
        replace NA := Lib.hid (NA.out.below hk)
        have NC := Lib.hid hn
        replace HB := Lib.hid hb
        clear hn hb hk
        go_wp2_with fail
        clear NA
        have N3 := Lib.hid (three_nv w7)
        have hal := al_below w7 (.cells #[.int .u32 3] 75)
        replace NX := Lib.hid (NX.out.below hal)
        replace NY := Lib.hid (NY.out.below hal)
        replace NC := Lib.hid (NC.out.below hal)
        replace HB := Lib.hid (HB.out.trans (hal.mono HB.out.size))
        clear hal
        refine (nk w.heap.size w (times_nv _ _ _ 3 ux (by decide +kernel) HBX.out.1 N3.out NX.out) HB.out (Nat.le_refl _)).mono ?_
        rintro e w8 ⟨vd, rfl, hn, hb, hk⟩
        replace NX := Lib.hid (NX.out.below hk)
        replace NY := Lib.hid (NY.out.below hk)
        replace NC := Lib.hid (NC.out.below hk)
        replace N3 := Lib.hid (N3.out.below hk)
        have ND := Lib.hid hn
        replace HB := Lib.hid hb
        clear hn hb hk
        go_wp2_with fail
        clear N3
        refine (nk w.heap.size w (minus_nv' _ _ _ (mj ux (mj ux ux)) (mj 3 ux) (mj_b _ _) (mj_b _ _) NC.out ND.out) HB.out (Nat.le_refl _)).mono ?_
        rintro e w9 ⟨ve, rfl, hn, hb, hk⟩
        replace NX := Lib.hid (NX.out.below hk)
        replace NY := Lib.hid (NY.out.below hk)
        replace NC := Lib.hid (NC.out.below hk)
        replace ND := Lib.hid (ND.out.below hk)
        have NE := Lib.hid hn
        replace HB := Lib.hid hb
        clear hn hb hk
        go_wp2_with fail
        clear NC ND
        refine (nk w.heap.size w (b_nv _) HB.out (Nat.le_refl _)).mono ?_
        rintro e w10 ⟨vf, rfl, hn, hb, hk⟩
        replace NX := Lib.hid (NX.out.below hk)
        replace NY := Lib.hid (NY.out.below hk)
        replace NE := Lib.hid (NE.out.below hk)
        have NF := Lib.hid hn
        replace HB := Lib.hid hb
        clear hn hb hk
        go_wp2_with fail
        refine (nk w.heap.size w (plus_nv' _ _ _ (sj (mj ux (mj ux ux)) (mj 3 ux)) BN (sj_b _ _) (by decide +kernel) NE.out NF.out) HB.out (Nat.le_refl _)).mono ?_
        rintro e w11 ⟨vg, rfl, hn, hb, hk⟩
        replace NX := Lib.hid (NX.out.below hk)
        replace NY := Lib.hid (NY.out.below hk)
        replace NE := Lib.hid (NE.out.below hk)
        replace NF := Lib.hid (NF.out.below hk)
        have NG := Lib.hid hn
        replace HB := Lib.hid hb
        clear hn hb hk
        rw [right_ref] at NG
        clear NE NF
        go_wp2_with fail
        refine (nk w.heap.size w (times_nv _ _ _ uy uy HBX.out.2 HBX.out.2 NY.out NY.out) HB.out (Nat.le_refl _)).mono ?_
        rintro e w12 ⟨vh, rfl, hn, hb, hk⟩
        replace NX := Lib.hid (NX.out.below hk)
        replace NY := Lib.hid (NY.out.below hk)
        replace NG := Lib.hid (NG.out.below hk)
        have NH := Lib.hid hn
        replace HB := Lib.hid hb
        clear hn hb hk
        go_wp2_with fail
        have HC := Lib.hid (cmp_nv _ _ _ _ _ NH.out NG.out)
        have hcm := cmp_eq0 (mj uy uy) (rightN ux)
        rw [← HE.out] at hcm
        generalize cmpN (mj uy uy) (rightN ux) = cm at HC hcm
        refine (HC.out).mono ?_
        rintro e w13 ⟨rfl, hs⟩
        replace NX := Lib.hid (NX.out.below hs.below0)
        replace NY := Lib.hid (NY.out.below hs.below0)
        replace NG := Lib.hid (NG.out.below hs.below0)
        replace NH := Lib.hid (NH.out.below hs.below0)
        replace HB := Lib.hid (hs.below HB.out)
        clear hs
        go_wp2_with fail
        go_ret
        exact ⟨rfl, HB.out⟩
      · have HE : Hid (res = false) := Lib.hid (by rw [HRES.out]; simp [hy])
        have HCX := Lib.hid (cmpN_lt hx)
        have HCY := Lib.hid (cmp_ge (Nat.le_of_not_lt hy))
        clear hx hy HRES
        have hE := HE.out
        clear HE
        subst hE
        refine (nk w.heap.size w (HMR.out _) HB.out (Nat.le_refl _)).mono ?_
        rintro e w2 ⟨vm, rfl, hn, hb, hk⟩
        replace NX := Lib.hid (NX.out.below hk)
        replace NY := Lib.hid (NY.out.below hk)
        have NM := Lib.hid hn
        replace HB := Lib.hid hb
        clear hn hb hk
        go_wp2_with fail
        have HC := Lib.hid (cmp_nv _ _ _ _ _ NX.out NM.out)
        rw [HCX.out] at HC
        refine (HC.out).mono ?_
        rintro e w3 ⟨rfl, hs⟩
        replace NX := Lib.hid (NX.out.below hs.below0)
        replace NY := Lib.hid (NY.out.below hs.below0)
        replace NM := Lib.hid (NM.out.below hs.below0)
        replace HB := Lib.hid (hs.below HB.out)
        clear hs
        go_wp2_with fail
        clear NM
        clear HC
        refine (nk w.heap.size w (HMR.out _) HB.out (Nat.le_refl _)).mono ?_
        rintro e w4 ⟨vm, rfl, hn, hb, hk⟩
        replace NX := Lib.hid (NX.out.below hk)
        replace NY := Lib.hid (NY.out.below hk)
        have NM := Lib.hid hn
        replace HB := Lib.hid hb
        clear hn hb hk
        go_wp2_with fail
        have HC := Lib.hid (cmp_nv _ _ _ _ _ NY.out NM.out)
        have hcm := of_decide_eq_true HCY.out
        generalize cmpN uy mP = cm at HC hcm
        refine (HC.out).mono ?_
        rintro e w5 ⟨rfl, hs⟩
        replace NX := Lib.hid (NX.out.below hs.below0)
        replace NY := Lib.hid (NY.out.below hs.below0)
        replace NM := Lib.hid (NM.out.below hs.below0)
        replace HB := Lib.hid (hs.below HB.out)
        clear hs
        go_wp2_with fail
        go_ret
        exact ⟨rfl, HB.out⟩
    · have HE : Hid (res = false) := Lib.hid (by rw [HRES.out]; simp [hx])
      have HCX := Lib.hid (cmp_ge (Nat.le_of_not_lt hx))
      clear hx HRES
      have hE := HE.out
      clear HE
      subst hE
      refine (nk w.heap.size w (HMR.out _) HB.out (Nat.le_refl _)).mono ?_
      rintro e w2 ⟨vm, rfl, hn, hb, hk⟩
      replace NX := Lib.hid (NX.out.below hk)
      replace NY := Lib.hid (NY.out.below hk)
      have NM := Lib.hid hn
      replace HB := Lib.hid hb
      clear hn hb hk
      go_wp2_with fail
      have HC := Lib.hid (cmp_nv _ _ _ _ _ NX.out NM.out)
      have hcm := of_decide_eq_true HCX.out
      generalize cmpN ux mP = cm at HC hcm
      refine (HC.out).mono ?_
      rintro e w3 ⟨rfl, hs⟩
      replace NX := Lib.hid (NX.out.below hs.below0)
      replace NY := Lib.hid (NY.out.below hs.below0)
      replace NM := Lib.hid (NM.out.below hs.below0)
      replace HB := Lib.hid (hs.below HB.out)
      clear hs
      go_wp2_with fail
      go_ret
      exact ⟨rfl, HB.out⟩
  · have hon : (Po.mk ux uy true).on = decide (ux = 0 ∧ uy = 0) := rfl
    rw [hon]
    have HEX : Hid (∀ w, (Op.equalIn 10000 24 (.agg #[.int .u64 (lb ux 0 : Nat), .int .u64 (lb ux 1 : Nat), .int .u64 (lb ux 2 : Nat), .int .u64 (lb ux 3 : Nat)]) (.agg #[.int .u64 0, .int .u64 0, .int .u64 0, .int .u64 0])).run Try.prog w = .ok (decide (ux = 0)) w) := Lib.hid (fun w => eqN ux 0 hx (by decide +kernel) w)
    have HEY : Hid (∀ w, (Op.equalIn 10000 24 (.agg #[.int .u64 (lb uy 0 : Nat), .int .u64 (lb uy 1 : Nat), .int .u64 (lb uy 2 : Nat), .int .u64 (lb uy 3 : Nat)]) (.agg #[.int .u64 0, .int .u64 0, .int .u64 0, .int .u64 0])).run Try.prog w = .ok (decide (uy = 0)) w) := Lib.hid (fun w => eqN uy 0 hy (by decide +kernel) w)
    clear hon hx hy
    by_cases h0 : ux = 0
    · have hd : decide (ux = 0 ∧ uy = 0) = decide (uy = 0) := by simp [h0]
      rw [hd]
      rw [decide_eq_true h0] at HEX
      clear hd h0
      simp only [pn, nv, num]
      generalize decide (uy = 0) = res at HEY ⊢
      go_enter Try.func40, Try.ntmps40
      go_wp2_with fail
      have KP : Hid (Bk 51 (w.alloc (.cells #[.int .u64 (lb ux 0 : Nat), .int .u64 (lb ux 1 : Nat), .int .u64 (lb ux 2 : Nat), .int .u64 (lb ux 3 : Nat), .int .u64 (lb uy 0 : Nat), .int .u64 (lb uy 1 : Nat), .int .u64 (lb uy 2 : Nat), .int .u64 (lb uy 3 : Nat), .bool true] 51)) w.heap.size #[.int .u64 (lb ux 0 : Nat), .int .u64 (lb ux 1 : Nat), .int .u64 (lb ux 2 : Nat), .int .u64 (lb ux 3 : Nat), .int .u64 (lb uy 0 : Nat), .int .u64 (lb uy 1 : Nat), .int .u64 (lb uy 2 : Nat), .int .u64 (lb uy 3 : Nat), .bool true]) := Lib.hid (Bk.new rfl)
      have HB : Hid (Below w.heap.size w (w.alloc (.cells #[.int .u64 (lb ux 0 : Nat), .int .u64 (lb ux 1 : Nat), .int .u64 (lb ux 2 : Nat), .int .u64 (lb ux 3 : Nat), .int .u64 (lb uy 0 : Nat), .int .u64 (lb uy 1 : Nat), .int .u64 (lb uy 2 : Nat), .int .u64 (lb uy 3 : Nat), .bool true] 51))) := Lib.hid (by go_grown)
      generalize (w.alloc (.cells #[.int .u64 (lb ux 0 : Nat), .int .u64 (lb ux 1 : Nat), .int .u64 (lb ux 2 : Nat), .int .u64 (lb ux 3 : Nat), .int .u64 (lb uy 0 : Nat), .int .u64 (lb uy 1 : Nat), .int .u64 (lb uy 2 : Nat), .int .u64 (lb uy 3 : Nat), .bool true] 51)) = w0 at KP HB ⊢
      obtain ⟨⟨a0, a1, a2, a3⟩, ⟨a4, a5, a6, a7⟩, a8⟩ := KP.out.cells9
      go_wp2_with fail
      rw [HEX.out]
      simp only [Result.andThen]
      rw [Oper.upon_value]
      go_wp2_with fail
      rw [HEY.out]
      simp only [Result.andThen]
      rw [Oper.upon_value]
      go_wp2_with fail
      go_ret
      exact ⟨rfl, HB.out⟩
    · have hd : decide (ux = 0 ∧ uy = 0) = false := by simp [h0]
      rw [hd]
      rw [decide_eq_false h0] at HEX
      clear hd h0
      simp only [pn, nv, num]
      clear HEY
      go_enter Try.func40, Try.ntmps40
      go_wp2_with fail
      have KP : Hid (Bk 51 (w.alloc (.cells #[.int .u64 (lb ux 0 : Nat), .int .u64 (lb ux 1 : Nat), .int .u64 (lb ux 2 : Nat), .int .u64 (lb ux 3 : Nat), .int .u64 (lb uy 0 : Nat), .int .u64 (lb uy 1 : Nat), .int .u64 (lb uy 2 : Nat), .int .u64 (lb uy 3 : Nat), .bool true] 51)) w.heap.size #[.int .u64 (lb ux 0 : Nat), .int .u64 (lb ux 1 : Nat), .int .u64 (lb ux 2 : Nat), .int .u64 (lb ux 3 : Nat), .int .u64 (lb uy 0 : Nat), .int .u64 (lb uy 1 : Nat), .int .u64 (lb uy 2 : Nat), .int .u64 (lb uy 3 : Nat), .bool true]) := Lib.hid (Bk.new rfl)
      have HB : Hid (Below w.heap.size w (w.alloc (.cells #[.int .u64 (lb ux 0 : Nat), .int .u64 (lb ux 1 : Nat), .int .u64 (lb ux 2 : Nat), .int .u64 (lb ux 3 : Nat), .int .u64 (lb uy 0 : Nat), .int .u64 (lb uy 1 : Nat), .int .u64 (lb uy 2 : Nat), .int .u64 (lb uy 3 : Nat), .bool true] 51))) := Lib.hid (by go_grown)
      generalize (w.alloc (.cells #[.int .u64 (lb ux 0 : Nat), .int .u64 (lb ux 1 : Nat), .int .u64 (lb ux 2 : Nat), .int .u64 (lb ux 3 : Nat), .int .u64 (lb uy 0 : Nat), .int .u64 (lb uy 1 : Nat), .int .u64 (lb uy 2 : Nat), .int .u64 (lb uy 3 : Nat), .bool true] 51)) = w0 at KP HB ⊢
      obtain ⟨⟨a0, a1, a2, a3⟩, ⟨a4, a5, a6, a7⟩, a8⟩ := KP.out.cells9
      go_wp2_with fail
      rw [HEX.out]
      simp only [Result.andThen]
      rw [Oper.upon_value]
      go_wp2_with fail
      skip
      skip
      skip
      skip
      go_ret
      exact ⟨rfl, HB.out⟩
end Go.Proofs.Ytglmmodkflkkkaa.Ref
