/- Drawn regions of Clone. No condition. -/
import Derived.Test.YtmoihgniglomiaaDoorZP
set_option linter.unusedVariables false
set_option linter.unusedSimpArgs false
set_option maxRecDepth 100000
namespace Go.Proofs.YtmoihgniglomiaaDoor
open Go.RowKit Go.Sort
theorem left_all9_3 {j0 j1 j2 j3 j4 j5 j6 j7 j8 : Bool} (h : left #[j0, j1, j2, j3, j4, j5, j6, j7, j8, false, false, false] = 3) : j0 = true ∧ j1 = true ∧ j2 = true ∧ j3 = true ∧ j4 = true ∧ j5 = true ∧ j6 = true ∧ j7 = true ∧ j8 = true := by
  have e := left_count #[j0, j1, j2, j3, j4, j5, j6, j7, j8] 3
  have e2 : (#[j0, j1, j2, j3, j4, j5, j6, j7, j8] ++ Array.replicate 3 false) = #[j0, j1, j2, j3, j4, j5, j6, j7, j8, false, false, false] := rfl
  rw [e2, h] at e
  have hz := left_zero (l := #[j0, j1, j2, j3, j4, j5, j6, j7, j8]) (by omega)
  simpa using hz
theorem left_all10_2 {j0 j1 j2 j3 j4 j5 j6 j7 j8 j9 : Bool} (h : left #[j0, j1, j2, j3, j4, j5, j6, j7, j8, j9, false, false] = 2) : j0 = true ∧ j1 = true ∧ j2 = true ∧ j3 = true ∧ j4 = true ∧ j5 = true ∧ j6 = true ∧ j7 = true ∧ j8 = true ∧ j9 = true := by
  have e := left_count #[j0, j1, j2, j3, j4, j5, j6, j7, j8, j9] 2
  have e2 : (#[j0, j1, j2, j3, j4, j5, j6, j7, j8, j9] ++ Array.replicate 2 false) = #[j0, j1, j2, j3, j4, j5, j6, j7, j8, j9, false, false] := rfl
  rw [e2, h] at e
  have hz := left_zero (l := #[j0, j1, j2, j3, j4, j5, j6, j7, j8, j9]) (by omega)
  simpa using hz
noncomputable def rCO : Array Oper := (Tryd.f16.body.bind fun c => findR c 1).getD #[]
def rCI (w0 : World) (b : Nat) (ra : Option Addr) (rn rc : Nat) (gb : Bool) (i1 i2 : Int) (R : World → Value → Prop) (t1 t2 t3 t4 t5 t15 t16 t17 t18 t19 t20 t21 t22 t23 t24 t25 t26 t27 t28 t29 t30 t31 t32 t33 t34 t35 t36 t37 : Value) (ds : List Deferred) (l : Array Bool) (a : Act) (w : World) : Prop :=
  ∃ j0 j1 j2 j3 j4 j5 j6 j7 j8 : Bool, ∃ x0 x1 x2 x3 x4 x5 x6 x7 x8 : Value, l = #[j0, j1, j2, j3, j4, j5, j6, j7, j8, false, false, false] ∧ a = { tmps := #[.pointer (some ⟨b, 0, none⟩), t1, t2, t3, t4, t5, x0, x1, x2, x3, x4, x5, x6, x7, x8, t15, t16, t17, t18, t19, t20, t21, t22, t23, t24, t25, t26, t27, t28, t29, t30, t31, t32, t33, t34, t35, t36, t37], defers := ds } ∧ (j4 = false → w = w0.drew) ∧
  (j0 = true → x0 = .pointer (some ⟨b, 0, none⟩)) ∧ (j1 = true → x1 = .pointer (some ⟨b, 0, none⟩)) ∧ (j2 = true → x2 = .pointer (some ⟨b, 4, none⟩)) ∧ (j3 = true → x3 = .slice ra rn rc) ∧ (j4 = true → R w x4) ∧ (j5 = true → x5 = .pointer (some ⟨b, 0, none⟩)) ∧ (j6 = true → x6 = .pointer (some ⟨b, 0, none⟩)) ∧ (j7 = true → x7 = .pointer (some ⟨b, 5, none⟩)) ∧ (j8 = true → x8 = .agg #[.bool gb, .int .i64 i1, .int .i64 i2]) ∧
  (j1 = true → j0 = true) ∧ (j2 = true → j1 = true) ∧ (j3 = true → j2 = true) ∧ (j4 = true → j3 = true) ∧ (j6 = true → j5 = true) ∧ (j7 = true → j6 = true) ∧ (j8 = true → j7 = true)
set_option maxHeartbeats 16000000 in
theorem rC_none (b : Nat) (ra : Option Addr) (rn rc : Nat) (gb : Bool) (i1 i2 : Int) (R : World → Value → Prop) (w : World) {t1 t2 t3 t4 t5 t15 t16 t17 t18 t19 t20 t21 t22 t23 t24 t25 t26 t27 t28 t29 t30 t31 t32 t33 t34 t35 t36 t37 : Value} {ds : List Deferred} : ∀ l a w1, rCI w b ra rn rc gb i1 i2 R t1 t2 t3 t4 t5 t15 t16 t17 t18 t19 t20 t21 t22 t23 t24 t25 t26 t27 t28 t29 t30 t31 t32 t33 t34 t35 t36 t37 ds l a w1 → Region.ready .any rCO l = [] → left l = 3 := by
  simp only [rCO, findR, Tryd.f16, Option.bind_some, Option.or, Option.getD, Nat.reduceEqDiff, if_true, if_false, reduceIte]
  rintro l a w1 hI hr
  obtain ⟨j0, j1, j2, j3, j4, j5, j6, j7, j8, x0, x1, x2, x3, x4, x5, x6, x7, x8, rfl, rfl, hW, h0, h1, h2, h3, h4, h5, h6, h7, h8, k1, k2, k3, k4, k6, k7, k8⟩ := hI
  have hn := fun i => List.eq_nil_iff_forall_not_mem.1 hr i
  clear hr
  have d0 : j0 = true := by
    cases hj : j0
    · exact absurd (mem_ready.2 ⟨by simp [hj], _, rfl, by simp [Region.binds, hj]⟩) (hn 0)
    · rfl
  subst d0
  have d1 : j1 = true := by
    cases hj : j1
    · exact absurd (mem_ready.2 ⟨by simp [hj], _, rfl, by simp [Region.binds, hj]⟩) (hn 1)
    · rfl
  subst d1
  have d2 : j2 = true := by
    cases hj : j2
    · exact absurd (mem_ready.2 ⟨by simp [hj], _, rfl, by simp [Region.binds, hj]⟩) (hn 2)
    · rfl
  subst d2
  have d3 : j3 = true := by
    cases hj : j3
    · exact absurd (mem_ready.2 ⟨by simp [hj], _, rfl, by simp [Region.binds, hj]⟩) (hn 3)
    · rfl
  subst d3
  have d4 : j4 = true := by
    cases hj : j4
    · exact absurd (mem_ready.2 ⟨by simp [hj], _, rfl, by simp [Region.binds, hj]⟩) (hn 4)
    · rfl
  subst d4
  have d5 : j5 = true := by
    cases hj : j5
    · exact absurd (mem_ready.2 ⟨by simp [hj], _, rfl, by simp [Region.binds, hj]⟩) (hn 5)
    · rfl
  subst d5
  have d6 : j6 = true := by
    cases hj : j6
    · exact absurd (mem_ready.2 ⟨by simp [hj], _, rfl, by simp [Region.binds, hj]⟩) (hn 6)
    · rfl
  subst d6
  have d7 : j7 = true := by
    cases hj : j7
    · exact absurd (mem_ready.2 ⟨by simp [hj], _, rfl, by simp [Region.binds, hj]⟩) (hn 7)
    · rfl
  subst d7
  have d8 : j8 = true := by
    cases hj : j8
    · exact absurd (mem_ready.2 ⟨by simp [hj], _, rfl, by simp [Region.binds, hj]⟩) (hn 8)
    · rfl
  subst d8
  rfl
set_option maxHeartbeats 16000000 in
theorem rC_steps (b : Nat) (ra : Option Addr) (rn rc : Nat) (gb : Bool) (i1 i2 : Int) (R : World → Value → Prop) (w : World)  (c0 : w.cell? ⟨b, 4, none⟩ = some (.slice ra rn rc)) (rc0 : Hid (∀ w1 v, R w1 v → w1.cell? ⟨b, 4, none⟩ = some (.slice ra rn rc))) (c1 : w.cell? ⟨b, 5, none⟩ = some (.bool gb)) (rc1 : Hid (∀ w1 v, R w1 v → w1.cell? ⟨b, 5, none⟩ = some (.bool gb))) (c2 : w.cell? ⟨b, 6, none⟩ = some (.int .i64 i1)) (rc2 : Hid (∀ w1 v, R w1 v → w1.cell? ⟨b, 6, none⟩ = some (.int .i64 i1))) (c3 : w.cell? ⟨b, 7, none⟩ = some (.int .i64 i2)) (rc3 : Hid (∀ w1 v, R w1 v → w1.cell? ⟨b, 7, none⟩ = some (.int .i64 i2))) (hE : Hid (Calls Tryd.prog 50 #[.slice ra rn rc] w.drew fun e w1 => ∃ v, e = .returned v ∧ R w1 v))
    {t1 t2 t3 t4 t5 t15 t16 t17 t18 t19 t20 t21 t22 t23 t24 t25 t26 t27 t28 t29 t30 t31 t32 t33 t34 t35 t36 t37 : Value} {ds : List Deferred} {Q : Exit → Act → World → Prop} :
    ∀ l a w', rCI w b ra rn rc gb i1 i2 R t1 t2 t3 t4 t5 t15 t16 t17 t18 t19 t20 t21 t22 t23 t24 t25 t26 t27 t28 t29 t30 t31 t32 t33 t34 t35 t36 t37 ds l a w' → left l ≠ 3 → ∀ i ∈ Region.ready .any rCO l, wpOp Tryd.prog rCO Q i (fun a' w'' => rCI w b ra rn rc gb i1 i2 R t1 t2 t3 t4 t5 t15 t16 t17 t18 t19 t20 t21 t22 t23 t24 t25 t26 t27 t28 t29 t30 t31 t32 t33 t34 t35 t36 t37 ds (l.setIfInBounds i true) a' w'') a w' := by
  simp only [rCO, findR, Tryd.f16, Option.bind_some, Option.or, Option.getD, Nat.reduceEqDiff, if_true, if_false, reduceIte]
  rintro l a w' hI hlt i hi
  rw [mem_ready] at hi
  obtain ⟨hu, oo, ho, hd⟩ := hi
  have hin : i < 12 := by
    have := (Array.getElem?_eq_some_iff.1 ho).1
    simpa using this
  have hcase : i = 0 ∨ i = 1 ∨ i = 2 ∨ i = 3 ∨ i = 4 ∨ i = 5 ∨ i = 6 ∨ i = 7 ∨ i = 8 ∨ i = 9 ∨ i = 10 ∨ i = 11 := by omega
  obtain ⟨j0, j1, j2, j3, j4, j5, j6, j7, j8, x0, x1, x2, x3, x4, x5, x6, x7, x8, rfl, rfl, hW, h0, h1, h2, h3, h4, h5, h6, h7, h8, k1, k2, k3, k4, k6, k7, k8⟩ := hI
  replace hW := Lib.hid hW
  replace h0 := Lib.hid h0
  replace h1 := Lib.hid h1
  replace h2 := Lib.hid h2
  replace h3 := Lib.hid h3
  replace h4 := Lib.hid h4
  replace h5 := Lib.hid h5
  replace h6 := Lib.hid h6
  replace h7 := Lib.hid h7
  replace h8 := Lib.hid h8
  replace k1 := Lib.hid k1
  replace k2 := Lib.hid k2
  replace k3 := Lib.hid k3
  replace k4 := Lib.hid k4
  replace k6 := Lib.hid k6
  replace k7 := Lib.hid k7
  replace k8 := Lib.hid k8
  have gc0 : w'.cell? ⟨b, 4, none⟩ = some (.slice ra rn rc) := by
    cases hj : j4
    · rw [hW.out hj]; exact c0
    · exact rc0.out _ _ (h4.out hj)
  have gc1 : w'.cell? ⟨b, 5, none⟩ = some (.bool gb) := by
    cases hj : j4
    · rw [hW.out hj]; exact c1
    · exact rc1.out _ _ (h4.out hj)
  have gc2 : w'.cell? ⟨b, 6, none⟩ = some (.int .i64 i1) := by
    cases hj : j4
    · rw [hW.out hj]; exact c2
    · exact rc2.out _ _ (h4.out hj)
  have gc3 : w'.cell? ⟨b, 7, none⟩ = some (.int .i64 i2) := by
    cases hj : j4
    · rw [hW.out hj]; exact c3
    · exact rc3.out _ _ (h4.out hj)
  clear c0 c1 c2 c3
  rcases hcase with rfl | rfl | rfl | rfl | rfl | rfl | rfl | rfl | rfl | rfl | rfl | rfl
  · obtain rfl := Option.some.inj ho
    simp [Region.binds] at hu hd
    clear hd hlt
    refine wpOp_of rfl rfl ?_
    go_simp
    unfold rCI
    exact ⟨true, j1, j2, j3, j4, j5, j6, j7, j8, _, x1, x2, x3, x4, x5, x6, x7, x8, rfl, rfl, hW.out, fun _ => rfl, h1.out, h2.out, h3.out, h4.out, h5.out, h6.out, h7.out, h8.out, fun hj => absurd ((k1.out hj)) (by simp [hu]), k2.out, k3.out, k4.out, k6.out, k7.out, k8.out⟩
  · obtain rfl := Option.some.inj ho
    simp [Region.binds] at hu hd
    have d0 : j0 = true := by simp [hd]
    have e0 := h0.out d0
    subst e0
    subst d0
    clear hd hlt
    refine wpOp_of rfl rfl ?_
    go_simp
    unfold rCI
    exact ⟨true, true, j2, j3, j4, j5, j6, j7, j8, _, _, x2, x3, x4, x5, x6, x7, x8, rfl, rfl, hW.out, h0.out, fun _ => rfl, h2.out, h3.out, h4.out, h5.out, h6.out, h7.out, h8.out, fun _ => rfl, fun hj => absurd ((k2.out hj)) (by simp [hu]), k3.out, k4.out, k6.out, k7.out, k8.out⟩
  · obtain rfl := Option.some.inj ho
    simp [Region.binds] at hu hd
    have d1 : j1 = true := by simp [hd]
    have e1 := h1.out d1
    subst e1
    subst d1
    clear hd hlt
    refine wpOp_of rfl rfl ?_
    go_simp
    unfold rCI
    exact ⟨j0, true, true, j3, j4, j5, j6, j7, j8, x0, _, _, x3, x4, x5, x6, x7, x8, rfl, rfl, hW.out, h0.out, h1.out, fun _ => rfl, h3.out, h4.out, h5.out, h6.out, h7.out, h8.out, k1.out, fun _ => rfl, fun hj => absurd ((k3.out hj)) (by simp [hu]), k4.out, k6.out, k7.out, k8.out⟩
  · obtain rfl := Option.some.inj ho
    simp [Region.binds] at hu hd
    have d2 : j2 = true := by simp [hd]
    have e2 := h2.out d2
    subst e2
    subst d2
    clear hd hlt
    refine wpOp_of rfl rfl ?_
    go_simp
    unfold rCI
    exact ⟨j0, j1, true, true, j4, j5, j6, j7, j8, x0, x1, _, _, x4, x5, x6, x7, x8, rfl, rfl, hW.out, h0.out, h1.out, h2.out, fun _ => rfl, h4.out, h5.out, h6.out, h7.out, h8.out, k1.out, k2.out, fun _ => rfl, fun hj => absurd ((k4.out hj)) (by simp [hu]), k6.out, k7.out, k8.out⟩
  · obtain rfl := Option.some.inj ho
    simp [Region.binds] at hu hd
    have d3 : j3 = true := by simp [hd]
    have e3 := h3.out d3
    subst e3
    subst d3
    clear hd hlt
    have hWW := hW.out hu
    clear hW gc0 gc1 gc2 gc3
    subst hWW
    refine wpOp_of rfl rfl ?_
    go_simp
    go_at_call 50
    refine hE.out.mono ?_
    rintro e w2 ⟨v, rfl, hR⟩
    unfold rCI
    exact ⟨j0, j1, j2, true, true, j5, j6, j7, j8, x0, x1, x2, _, _, x5, x6, x7, x8, rfl, rfl, (fun h => by cases h), h0.out, h1.out, h2.out, h3.out, fun _ => hR, h5.out, h6.out, h7.out, h8.out, k1.out, k2.out, k3.out, fun _ => rfl, k6.out, k7.out, k8.out⟩
  · obtain rfl := Option.some.inj ho
    simp [Region.binds] at hu hd
    clear hd hlt
    refine wpOp_of rfl rfl ?_
    go_simp
    unfold rCI
    exact ⟨j0, j1, j2, j3, j4, true, j6, j7, j8, x0, x1, x2, x3, x4, _, x6, x7, x8, rfl, rfl, hW.out, h0.out, h1.out, h2.out, h3.out, h4.out, fun _ => rfl, h6.out, h7.out, h8.out, k1.out, k2.out, k3.out, k4.out, fun hj => absurd ((k6.out hj)) (by simp [hu]), k7.out, k8.out⟩
  · obtain rfl := Option.some.inj ho
    simp [Region.binds] at hu hd
    have d5 : j5 = true := by simp [hd]
    have e5 := h5.out d5
    subst e5
    subst d5
    clear hd hlt
    refine wpOp_of rfl rfl ?_
    go_simp
    unfold rCI
    exact ⟨j0, j1, j2, j3, j4, true, true, j7, j8, x0, x1, x2, x3, x4, _, _, x7, x8, rfl, rfl, hW.out, h0.out, h1.out, h2.out, h3.out, h4.out, h5.out, fun _ => rfl, h7.out, h8.out, k1.out, k2.out, k3.out, k4.out, fun _ => rfl, fun hj => absurd ((k7.out hj)) (by simp [hu]), k8.out⟩
  · obtain rfl := Option.some.inj ho
    simp [Region.binds] at hu hd
    have d6 : j6 = true := by simp [hd]
    have e6 := h6.out d6
    subst e6
    subst d6
    clear hd hlt
    refine wpOp_of rfl rfl ?_
    go_simp
    unfold rCI
    exact ⟨j0, j1, j2, j3, j4, j5, true, true, j8, x0, x1, x2, x3, x4, x5, _, _, x8, rfl, rfl, hW.out, h0.out, h1.out, h2.out, h3.out, h4.out, h5.out, h6.out, fun _ => rfl, h8.out, k1.out, k2.out, k3.out, k4.out, k6.out, fun _ => rfl, fun hj => absurd ((k8.out hj)) (by simp [hu])⟩
  · obtain rfl := Option.some.inj ho
    simp [Region.binds] at hu hd
    have d7 : j7 = true := by simp [hd]
    have e7 := h7.out d7
    subst e7
    subst d7
    clear hd hlt
    refine wpOp_of rfl rfl ?_
    go_simp
    unfold rCI
    exact ⟨j0, j1, j2, j3, j4, j5, j6, true, true, x0, x1, x2, x3, x4, x5, x6, _, _, rfl, rfl, hW.out, h0.out, h1.out, h2.out, h3.out, h4.out, h5.out, h6.out, h7.out, fun _ => rfl, k1.out, k2.out, k3.out, k4.out, k6.out, k7.out, fun _ => rfl⟩
  · obtain rfl := Option.some.inj ho
    simp [Region.binds] at hu hd
    exfalso
    have d4 : j4 = true := by simp [hd]
    have d8 : j8 = true := by simp [hd]
    have d7 : j7 = true := (k8.out d8)
    have d6 : j6 = true := (k7.out d7)
    have d5 : j5 = true := (k6.out d6)
    have d3 : j3 = true := (k4.out d4)
    have d2 : j2 = true := (k3.out d3)
    have d1 : j1 = true := (k2.out d2)
    have d0 : j0 = true := (k1.out d1)
    subst d4
    subst d8
    subst d7
    subst d6
    subst d5
    subst d3
    subst d2
    subst d1
    subst d0
    exact hlt rfl
  · obtain rfl := Option.some.inj ho
    exfalso
    simp [Region.binds] at hd
  · obtain rfl := Option.some.inj ho
    exfalso
    simp [Region.binds] at hd
set_option maxHeartbeats 16000000 in
theorem rC (b : Nat) (ra : Option Addr) (rn rc : Nat) (gb : Bool) (i1 i2 : Int) (R : World → Value → Prop) (w : World)  (c0 : w.cell? ⟨b, 4, none⟩ = some (.slice ra rn rc)) (rc0 : Hid (∀ w1 v, R w1 v → w1.cell? ⟨b, 4, none⟩ = some (.slice ra rn rc))) (c1 : w.cell? ⟨b, 5, none⟩ = some (.bool gb)) (rc1 : Hid (∀ w1 v, R w1 v → w1.cell? ⟨b, 5, none⟩ = some (.bool gb))) (c2 : w.cell? ⟨b, 6, none⟩ = some (.int .i64 i1)) (rc2 : Hid (∀ w1 v, R w1 v → w1.cell? ⟨b, 6, none⟩ = some (.int .i64 i1))) (c3 : w.cell? ⟨b, 7, none⟩ = some (.int .i64 i2)) (rc3 : Hid (∀ w1 v, R w1 v → w1.cell? ⟨b, 7, none⟩ = some (.int .i64 i2))) (hE : Hid (Calls Tryd.prog 50 #[.slice ra rn rc] w.drew fun e w1 => ∃ v, e = .returned v ∧ R w1 v)) {t1 t2 t3 t4 t5 t6 t7 t8 t9 t10 t11 t12 t13 t14 t15 t16 t17 t18 t19 t20 t21 t22 t23 t24 t25 t26 t27 t28 t29 t30 t31 t32 t33 t34 t35 t36 t37 : Value} {ds : List Deferred} {Q : Exit → Act → World → Prop}
    (h : ∀ (yE : Value) (w1 : World), R w1 yE → wpList Tryd.prog rCO Q (rCO.toList.drop 9) { tmps := #[.pointer (some ⟨b, 0, none⟩), t1, t2, t3, t4, t5, .pointer (some ⟨b, 0, none⟩), .pointer (some ⟨b, 0, none⟩), .pointer (some ⟨b, 4, none⟩), .slice ra rn rc, yE, .pointer (some ⟨b, 0, none⟩), .pointer (some ⟨b, 0, none⟩), .pointer (some ⟨b, 5, none⟩), .agg #[.bool gb, .int .i64 i1, .int .i64 i2], t15, t16, t17, t18, t19, t20, t21, t22, t23, t24, t25, t26, t27, t28, t29, t30, t31, t32, t33, t34, t35, t36, t37], defers := ds } w1) :
    (Code.region 1 rCO true).wp Tryd.prog Q { tmps := #[.pointer (some ⟨b, 0, none⟩), t1, t2, t3, t4, t5, t6, t7, t8, t9, t10, t11, t12, t13, t14, t15, t16, t17, t18, t19, t20, t21, t22, t23, t24, t25, t26, t27, t28, t29, t30, t31, t32, t33, t34, t35, t36, t37], defers := ds } w := by
  have hsz : rCO.size = 12 := by kernel_rfl
  refine wp_region_any (show Tryd.prog.follows .mixedOrders = true from by kernel_rfl) ?_
  rw [hsz]
  refine wpAny_inv2 (I := rCI w b ra rn rc gb i1 i2 R t1 t2 t3 t4 t5 t15 t16 t17 t18 t19 t20 t21 t22 t23 t24 t25 t26 t27 t28 t29 t30 t31 t32 t33 t34 t35 t36 t37 ds) (g := 3) (rC_none b ra rn rc gb i1 i2 R w) (rC_steps b ra rn rc gb i1 i2 R w  c0 rc0 c1 rc1 c2 rc2 c3 rc3 hE) (fun l a w' hI hl => ?_) 12 _ _ _ (by decide) (by decide) ?_
  · have hI' := hI
    obtain ⟨j0, j1, j2, j3, j4, j5, j6, j7, j8, x0, x1, x2, x3, x4, x5, x6, x7, x8, rfl, rfl, hW, h0, h1, h2, h3, h4, h5, h6, h7, h8, k1, k2, k3, k4, k6, k7, k8⟩ := hI
    obtain ⟨d0, d1, d2, d3, d4, d5, d6, d7, d8⟩ := left_all9_3 hl
    subst d0
    subst d1
    subst d2
    subst d3
    subst d4
    subst d5
    subst d6
    subst d7
    subst d8
    obtain rfl := h0 rfl
    obtain rfl := h1 rfl
    obtain rfl := h2 rfl
    obtain rfl := h3 rfl
    obtain rfl := h5 rfl
    obtain rfl := h6 rfl
    obtain rfl := h7 rfl
    obtain rfl := h8 rfl
    have hw := h _ _ (h4 rfl)
    have hB : Region.seqB .any rCO (rCO.toList.drop 9).length 9 #[true, true, true, true, true, true, true, true, true, false, false, false] = true := by kernel_rfl
    have hlen : (rCO.toList.drop 9).length = 3 := by kernel_rfl
    have := wpAny_of_seq (md := .any) (rCO.toList.drop 9) 9 _ _ _ (fun j => by simp [List.getElem?_drop]) hB hw
    rw [hlen] at this
    exact this
  · exact ⟨false, false, false, false, false, false, false, false, false, t6, t7, t8, t9, t10, t11, t12, t13, t14, rfl, rfl, fun _ => rfl, (fun h => by cases h), (fun h => by cases h), (fun h => by cases h), (fun h => by cases h), (fun h => by cases h), (fun h => by cases h), (fun h => by cases h), (fun h => by cases h), (fun h => by cases h), (fun h => by cases h), (fun h => by cases h), (fun h => by cases h), (fun h => by cases h), (fun h => by cases h), (fun h => by cases h), (fun h => by cases h)⟩
noncomputable def rD0O : Array Oper := (Tryd.f16.body.bind fun c => findR c 5).getD #[]
def rD0I (w0 : World) (cb tb g n c : Nat) (s : Int) (R : World → Value → Prop) (t0 t1 t2 t6 t7 t8 t9 t10 t11 t12 t13 t14 t15 t16 t17 t18 t19 t20 t21 t22 t23 t24 t35 t36 t37 : Value) (ds : List Deferred) (l : Array Bool) (a : Act) (w : World) : Prop :=
  ∃ j0 j1 j2 j3 j4 j5 j6 j7 j8 j9 : Bool, ∃ x0 x1 x2 x3 x4 x5 x6 x7 x8 x9 : Value, l = #[j0, j1, j2, j3, j4, j5, j6, j7, j8, j9, false, false] ∧ a = { tmps := #[t0, t1, t2, .pointer (some ⟨cb, 0, none⟩), .int .i64 0, .pointer (some ⟨tb, 0, none⟩), t6, t7, t8, t9, t10, t11, t12, t13, t14, t15, t16, t17, t18, t19, t20, t21, t22, t23, t24, x0, x1, x2, x3, x4, x5, x6, x7, x8, x9, t35, t36, t37], defers := ds } ∧ (j4 = false → w = w0.drew) ∧
  (j0 = true → x0 = .pointer (some ⟨cb, 0, none⟩)) ∧ (j1 = true → x1 = .int .i64 0) ∧ (j2 = true → x2 = .pointer (some ⟨tb, 0, none⟩)) ∧ (j3 = true → x3 = .slice (some ⟨g, 0, none⟩) n c) ∧ (j4 = true → R w x4) ∧ (j5 = true → x5 = .pointer (some ⟨tb, 1, none⟩)) ∧ (j6 = true → x6 = .int .i64 s) ∧ (j7 = true → x7 = .agg #[x4, .int .i64 s]) ∧ (j8 = true → x8 = .pointer (some ⟨cb, 0, none⟩)) ∧ (j9 = true → x9 = .pointer (some ⟨cb, 0, none⟩)) ∧
  (j3 = true → j2 = true) ∧ (j4 = true → j3 = true) ∧ (j6 = true → j5 = true) ∧ (j7 = true → j4 = true ∧ j6 = true) ∧ (j8 = true → j0 = true) ∧ (j9 = true → j8 = true)
set_option maxHeartbeats 16000000 in
theorem rD0_none (cb tb g n c : Nat) (s : Int) (R : World → Value → Prop) (w : World) {t0 t1 t2 t6 t7 t8 t9 t10 t11 t12 t13 t14 t15 t16 t17 t18 t19 t20 t21 t22 t23 t24 t35 t36 t37 : Value} {ds : List Deferred} : ∀ l a w1, rD0I w cb tb g n c s R t0 t1 t2 t6 t7 t8 t9 t10 t11 t12 t13 t14 t15 t16 t17 t18 t19 t20 t21 t22 t23 t24 t35 t36 t37 ds l a w1 → Region.ready .any rD0O l = [] → left l = 2 := by
  simp only [rD0O, findR, Tryd.f16, Option.bind_some, Option.or, Option.getD, Nat.reduceEqDiff, if_true, if_false, reduceIte]
  rintro l a w1 hI hr
  obtain ⟨j0, j1, j2, j3, j4, j5, j6, j7, j8, j9, x0, x1, x2, x3, x4, x5, x6, x7, x8, x9, rfl, rfl, hW, h0, h1, h2, h3, h4, h5, h6, h7, h8, h9, k3, k4, k6, k7, k8, k9⟩ := hI
  have hn := fun i => List.eq_nil_iff_forall_not_mem.1 hr i
  clear hr
  have d0 : j0 = true := by
    cases hj : j0
    · exact absurd (mem_ready.2 ⟨by simp [hj], _, rfl, by simp [Region.binds, hj]⟩) (hn 0)
    · rfl
  subst d0
  have d1 : j1 = true := by
    cases hj : j1
    · exact absurd (mem_ready.2 ⟨by simp [hj], _, rfl, by simp [Region.binds, hj]⟩) (hn 1)
    · rfl
  subst d1
  have d2 : j2 = true := by
    cases hj : j2
    · exact absurd (mem_ready.2 ⟨by simp [hj], _, rfl, by simp [Region.binds, hj]⟩) (hn 2)
    · rfl
  subst d2
  have d3 : j3 = true := by
    cases hj : j3
    · exact absurd (mem_ready.2 ⟨by simp [hj], _, rfl, by simp [Region.binds, hj]⟩) (hn 3)
    · rfl
  subst d3
  have d4 : j4 = true := by
    cases hj : j4
    · exact absurd (mem_ready.2 ⟨by simp [hj], _, rfl, by simp [Region.binds, hj]⟩) (hn 4)
    · rfl
  subst d4
  have d5 : j5 = true := by
    cases hj : j5
    · exact absurd (mem_ready.2 ⟨by simp [hj], _, rfl, by simp [Region.binds, hj]⟩) (hn 5)
    · rfl
  subst d5
  have d6 : j6 = true := by
    cases hj : j6
    · exact absurd (mem_ready.2 ⟨by simp [hj], _, rfl, by simp [Region.binds, hj]⟩) (hn 6)
    · rfl
  subst d6
  have d7 : j7 = true := by
    cases hj : j7
    · exact absurd (mem_ready.2 ⟨by simp [hj], _, rfl, by simp [Region.binds, hj]⟩) (hn 7)
    · rfl
  subst d7
  have d8 : j8 = true := by
    cases hj : j8
    · exact absurd (mem_ready.2 ⟨by simp [hj], _, rfl, by simp [Region.binds, hj]⟩) (hn 8)
    · rfl
  subst d8
  have d9 : j9 = true := by
    cases hj : j9
    · exact absurd (mem_ready.2 ⟨by simp [hj], _, rfl, by simp [Region.binds, hj]⟩) (hn 9)
    · rfl
  subst d9
  rfl
set_option maxHeartbeats 16000000 in
theorem rD0_steps (cb tb g n c : Nat) (s : Int) (R : World → Value → Prop) (w : World)  (c0 : w.cell? ⟨tb, 0, none⟩ = some (.slice (some ⟨g, 0, none⟩) n c)) (rc0 : Hid (∀ w1 v, R w1 v → w1.cell? ⟨tb, 0, none⟩ = some (.slice (some ⟨g, 0, none⟩) n c))) (c1 : w.cell? ⟨tb, 1, none⟩ = some (.int .i64 s)) (rc1 : Hid (∀ w1 v, R w1 v → w1.cell? ⟨tb, 1, none⟩ = some (.int .i64 s))) (hsh : Hid (∀ w1 v, R w1 v → ∃ a n c, v = .slice a n c)) (hE : Hid (Calls Tryd.prog 51 #[.slice (some ⟨g, 0, none⟩) n c] w.drew fun e w1 => ∃ v, e = .returned v ∧ R w1 v))
    {t0 t1 t2 t6 t7 t8 t9 t10 t11 t12 t13 t14 t15 t16 t17 t18 t19 t20 t21 t22 t23 t24 t35 t36 t37 : Value} {ds : List Deferred} {Q : Exit → Act → World → Prop} :
    ∀ l a w', rD0I w cb tb g n c s R t0 t1 t2 t6 t7 t8 t9 t10 t11 t12 t13 t14 t15 t16 t17 t18 t19 t20 t21 t22 t23 t24 t35 t36 t37 ds l a w' → left l ≠ 2 → ∀ i ∈ Region.ready .any rD0O l, wpOp Tryd.prog rD0O Q i (fun a' w'' => rD0I w cb tb g n c s R t0 t1 t2 t6 t7 t8 t9 t10 t11 t12 t13 t14 t15 t16 t17 t18 t19 t20 t21 t22 t23 t24 t35 t36 t37 ds (l.setIfInBounds i true) a' w'') a w' := by
  simp only [rD0O, findR, Tryd.f16, Option.bind_some, Option.or, Option.getD, Nat.reduceEqDiff, if_true, if_false, reduceIte]
  rintro l a w' hI hlt i hi
  rw [mem_ready] at hi
  obtain ⟨hu, oo, ho, hd⟩ := hi
  have hin : i < 12 := by
    have := (Array.getElem?_eq_some_iff.1 ho).1
    simpa using this
  have hcase : i = 0 ∨ i = 1 ∨ i = 2 ∨ i = 3 ∨ i = 4 ∨ i = 5 ∨ i = 6 ∨ i = 7 ∨ i = 8 ∨ i = 9 ∨ i = 10 ∨ i = 11 := by omega
  obtain ⟨j0, j1, j2, j3, j4, j5, j6, j7, j8, j9, x0, x1, x2, x3, x4, x5, x6, x7, x8, x9, rfl, rfl, hW, h0, h1, h2, h3, h4, h5, h6, h7, h8, h9, k3, k4, k6, k7, k8, k9⟩ := hI
  replace hW := Lib.hid hW
  replace h0 := Lib.hid h0
  replace h1 := Lib.hid h1
  replace h2 := Lib.hid h2
  replace h3 := Lib.hid h3
  replace h4 := Lib.hid h4
  replace h5 := Lib.hid h5
  replace h6 := Lib.hid h6
  replace h7 := Lib.hid h7
  replace h8 := Lib.hid h8
  replace h9 := Lib.hid h9
  replace k3 := Lib.hid k3
  replace k4 := Lib.hid k4
  replace k6 := Lib.hid k6
  replace k7 := Lib.hid k7
  replace k8 := Lib.hid k8
  replace k9 := Lib.hid k9
  have gc0 : w'.cell? ⟨tb, 0, none⟩ = some (.slice (some ⟨g, 0, none⟩) n c) := by
    cases hj : j4
    · rw [hW.out hj]; exact c0
    · exact rc0.out _ _ (h4.out hj)
  have gc1 : w'.cell? ⟨tb, 1, none⟩ = some (.int .i64 s) := by
    cases hj : j4
    · rw [hW.out hj]; exact c1
    · exact rc1.out _ _ (h4.out hj)
  clear c0 c1
  rcases hcase with rfl | rfl | rfl | rfl | rfl | rfl | rfl | rfl | rfl | rfl | rfl | rfl
  · obtain rfl := Option.some.inj ho
    simp [Region.binds] at hu hd
    clear hd hlt
    refine wpOp_of rfl rfl ?_
    go_simp
    unfold rD0I
    exact ⟨true, j1, j2, j3, j4, j5, j6, j7, j8, j9, _, x1, x2, x3, x4, x5, x6, x7, x8, x9, rfl, rfl, hW.out, fun _ => rfl, h1.out, h2.out, h3.out, h4.out, h5.out, h6.out, h7.out, h8.out, h9.out, k3.out, k4.out, k6.out, k7.out, fun hj => absurd ((k8.out hj)) (by simp [hu]), k9.out⟩
  · obtain rfl := Option.some.inj ho
    simp [Region.binds] at hu hd
    clear hd hlt
    refine wpOp_of rfl rfl ?_
    go_simp
    unfold rD0I
    exact ⟨j0, true, j2, j3, j4, j5, j6, j7, j8, j9, x0, _, x2, x3, x4, x5, x6, x7, x8, x9, rfl, rfl, hW.out, h0.out, fun _ => rfl, h2.out, h3.out, h4.out, h5.out, h6.out, h7.out, h8.out, h9.out, k3.out, k4.out, k6.out, k7.out, k8.out, k9.out⟩
  · obtain rfl := Option.some.inj ho
    simp [Region.binds] at hu hd
    clear hd hlt
    refine wpOp_of rfl rfl ?_
    go_simp
    unfold rD0I
    exact ⟨j0, j1, true, j3, j4, j5, j6, j7, j8, j9, x0, x1, _, x3, x4, x5, x6, x7, x8, x9, rfl, rfl, hW.out, h0.out, h1.out, fun _ => rfl, h3.out, h4.out, h5.out, h6.out, h7.out, h8.out, h9.out, fun hj => absurd ((k3.out hj)) (by simp [hu]), k4.out, k6.out, k7.out, k8.out, k9.out⟩
  · obtain rfl := Option.some.inj ho
    simp [Region.binds] at hu hd
    have d2 : j2 = true := by simp [hd]
    have e2 := h2.out d2
    subst e2
    subst d2
    clear hd hlt
    refine wpOp_of rfl rfl ?_
    go_simp
    unfold rD0I
    exact ⟨j0, j1, true, true, j4, j5, j6, j7, j8, j9, x0, x1, _, _, x4, x5, x6, x7, x8, x9, rfl, rfl, hW.out, h0.out, h1.out, h2.out, fun _ => rfl, h4.out, h5.out, h6.out, h7.out, h8.out, h9.out, fun _ => rfl, fun hj => absurd ((k4.out hj)) (by simp [hu]), k6.out, k7.out, k8.out, k9.out⟩
  · obtain rfl := Option.some.inj ho
    simp [Region.binds] at hu hd
    have d3 : j3 = true := by simp [hd]
    have e3 := h3.out d3
    subst e3
    subst d3
    clear hd hlt
    have hWW := hW.out hu
    clear hW gc0 gc1
    subst hWW
    refine wpOp_of rfl rfl ?_
    go_simp
    go_at_call 51
    refine hE.out.mono ?_
    rintro e w2 ⟨v, rfl, hR⟩
    unfold rD0I
    exact ⟨j0, j1, j2, true, true, j5, j6, j7, j8, j9, x0, x1, x2, _, _, x5, x6, x7, x8, x9, rfl, rfl, (fun h => by cases h), h0.out, h1.out, h2.out, h3.out, fun _ => hR, h5.out, h6.out, fun hj => absurd ((k7.out hj).1) (by simp [hu]), h8.out, h9.out, k3.out, fun _ => rfl, k6.out, fun hj => absurd ((k7.out hj).1) (by simp [hu]), k8.out, k9.out⟩
  · obtain rfl := Option.some.inj ho
    simp [Region.binds] at hu hd
    clear hd hlt
    refine wpOp_of rfl rfl ?_
    go_simp
    unfold rD0I
    exact ⟨j0, j1, j2, j3, j4, true, j6, j7, j8, j9, x0, x1, x2, x3, x4, _, x6, x7, x8, x9, rfl, rfl, hW.out, h0.out, h1.out, h2.out, h3.out, h4.out, fun _ => rfl, h6.out, h7.out, h8.out, h9.out, k3.out, k4.out, fun hj => absurd ((k6.out hj)) (by simp [hu]), k7.out, k8.out, k9.out⟩
  · obtain rfl := Option.some.inj ho
    simp [Region.binds] at hu hd
    have d5 : j5 = true := by simp [hd]
    have e5 := h5.out d5
    subst e5
    subst d5
    clear hd hlt
    refine wpOp_of rfl rfl ?_
    go_simp
    unfold rD0I
    exact ⟨j0, j1, j2, j3, j4, true, true, j7, j8, j9, x0, x1, x2, x3, x4, _, _, x7, x8, x9, rfl, rfl, hW.out, h0.out, h1.out, h2.out, h3.out, h4.out, h5.out, fun _ => rfl, h7.out, h8.out, h9.out, k3.out, k4.out, fun _ => rfl, fun hj => absurd ((k7.out hj).2) (by simp [hu]), k8.out, k9.out⟩
  · obtain rfl := Option.some.inj ho
    simp [Region.binds] at hu hd
    have d4 : j4 = true := by simp [hd]
    have d6 : j6 = true := by simp [hd]
    have e6 := h6.out d6
    subst e6
    subst d4
    subst d6
    clear hd hlt
    obtain ⟨sa, sn, sc, es⟩ := hsh.out _ _ (h4.out rfl)
    subst es
    refine wpOp_of rfl rfl ?_
    go_simp
    unfold rD0I
    exact ⟨j0, j1, j2, j3, true, j5, true, true, j8, j9, x0, x1, x2, x3, _, x5, _, _, x8, x9, rfl, rfl, hW.out, h0.out, h1.out, h2.out, h3.out, h4.out, h5.out, h6.out, fun _ => rfl, h8.out, h9.out, k3.out, k4.out, k6.out, fun _ => ⟨rfl, rfl⟩, k8.out, k9.out⟩
  · obtain rfl := Option.some.inj ho
    simp [Region.binds] at hu hd
    have d0 : j0 = true := by simp [hd]
    have e0 := h0.out d0
    subst e0
    subst d0
    clear hd hlt
    refine wpOp_of rfl rfl ?_
    go_simp
    unfold rD0I
    exact ⟨true, j1, j2, j3, j4, j5, j6, j7, true, j9, _, x1, x2, x3, x4, x5, x6, x7, _, x9, rfl, rfl, hW.out, h0.out, h1.out, h2.out, h3.out, h4.out, h5.out, h6.out, h7.out, fun _ => rfl, h9.out, k3.out, k4.out, k6.out, k7.out, fun _ => rfl, fun hj => absurd ((k9.out hj)) (by simp [hu])⟩
  · obtain rfl := Option.some.inj ho
    simp [Region.binds] at hu hd
    have d8 : j8 = true := by simp [hd]
    have e8 := h8.out d8
    subst e8
    subst d8
    clear hd hlt
    refine wpOp_of rfl rfl ?_
    go_simp
    unfold rD0I
    exact ⟨j0, j1, j2, j3, j4, j5, j6, j7, true, true, x0, x1, x2, x3, x4, x5, x6, x7, _, _, rfl, rfl, hW.out, h0.out, h1.out, h2.out, h3.out, h4.out, h5.out, h6.out, h7.out, h8.out, fun _ => rfl, k3.out, k4.out, k6.out, k7.out, k8.out, fun _ => rfl⟩
  · obtain rfl := Option.some.inj ho
    simp [Region.binds] at hu hd
    exfalso
    have d0 : j0 = true := by simp [hd]
    have d1 : j1 = true := by simp [hd]
    have d2 : j2 = true := by simp [hd]
    have d3 : j3 = true := by simp [hd]
    have d4 : j4 = true := by simp [hd]
    have d5 : j5 = true := by simp [hd]
    have d6 : j6 = true := by simp [hd]
    have d7 : j7 = true := by simp [hd]
    have d9 : j9 = true := by simp [hd]
    have d8 : j8 = true := (k9.out d9)
    subst d0
    subst d1
    subst d2
    subst d3
    subst d4
    subst d5
    subst d6
    subst d7
    subst d9
    subst d8
    exact hlt rfl
  · obtain rfl := Option.some.inj ho
    exfalso
    simp [Region.binds] at hd
set_option maxHeartbeats 16000000 in
theorem rD0 (cb tb g n c : Nat) (s : Int) (R : World → Value → Prop) (w : World)  (c0 : w.cell? ⟨tb, 0, none⟩ = some (.slice (some ⟨g, 0, none⟩) n c)) (rc0 : Hid (∀ w1 v, R w1 v → w1.cell? ⟨tb, 0, none⟩ = some (.slice (some ⟨g, 0, none⟩) n c))) (c1 : w.cell? ⟨tb, 1, none⟩ = some (.int .i64 s)) (rc1 : Hid (∀ w1 v, R w1 v → w1.cell? ⟨tb, 1, none⟩ = some (.int .i64 s))) (hsh : Hid (∀ w1 v, R w1 v → ∃ a n c, v = .slice a n c)) (hE : Hid (Calls Tryd.prog 51 #[.slice (some ⟨g, 0, none⟩) n c] w.drew fun e w1 => ∃ v, e = .returned v ∧ R w1 v)) {t0 t1 t2 t6 t7 t8 t9 t10 t11 t12 t13 t14 t15 t16 t17 t18 t19 t20 t21 t22 t23 t24 t25 t26 t27 t28 t29 t30 t31 t32 t33 t34 t35 t36 t37 : Value} {ds : List Deferred} {Q : Exit → Act → World → Prop}
    (h : ∀ (yE : Value) (w1 : World), R w1 yE → wpList Tryd.prog rD0O Q (rD0O.toList.drop 10) { tmps := #[t0, t1, t2, .pointer (some ⟨cb, 0, none⟩), .int .i64 0, .pointer (some ⟨tb, 0, none⟩), t6, t7, t8, t9, t10, t11, t12, t13, t14, t15, t16, t17, t18, t19, t20, t21, t22, t23, t24, .pointer (some ⟨cb, 0, none⟩), .int .i64 0, .pointer (some ⟨tb, 0, none⟩), .slice (some ⟨g, 0, none⟩) n c, yE, .pointer (some ⟨tb, 1, none⟩), .int .i64 s, .agg #[yE, .int .i64 s], .pointer (some ⟨cb, 0, none⟩), .pointer (some ⟨cb, 0, none⟩), t35, t36, t37], defers := ds } w1) :
    (Code.region 5 rD0O true).wp Tryd.prog Q { tmps := #[t0, t1, t2, .pointer (some ⟨cb, 0, none⟩), .int .i64 0, .pointer (some ⟨tb, 0, none⟩), t6, t7, t8, t9, t10, t11, t12, t13, t14, t15, t16, t17, t18, t19, t20, t21, t22, t23, t24, t25, t26, t27, t28, t29, t30, t31, t32, t33, t34, t35, t36, t37], defers := ds } w := by
  have hsz : rD0O.size = 12 := by kernel_rfl
  refine wp_region_any (show Tryd.prog.follows .mixedOrders = true from by kernel_rfl) ?_
  rw [hsz]
  refine wpAny_inv2 (I := rD0I w cb tb g n c s R t0 t1 t2 t6 t7 t8 t9 t10 t11 t12 t13 t14 t15 t16 t17 t18 t19 t20 t21 t22 t23 t24 t35 t36 t37 ds) (g := 2) (rD0_none cb tb g n c s R w) (rD0_steps cb tb g n c s R w  c0 rc0 c1 rc1 hsh hE) (fun l a w' hI hl => ?_) 12 _ _ _ (by decide) (by decide) ?_
  · have hI' := hI
    obtain ⟨j0, j1, j2, j3, j4, j5, j6, j7, j8, j9, x0, x1, x2, x3, x4, x5, x6, x7, x8, x9, rfl, rfl, hW, h0, h1, h2, h3, h4, h5, h6, h7, h8, h9, k3, k4, k6, k7, k8, k9⟩ := hI
    obtain ⟨d0, d1, d2, d3, d4, d5, d6, d7, d8, d9⟩ := left_all10_2 hl
    subst d0
    subst d1
    subst d2
    subst d3
    subst d4
    subst d5
    subst d6
    subst d7
    subst d8
    subst d9
    obtain rfl := h0 rfl
    obtain rfl := h1 rfl
    obtain rfl := h2 rfl
    obtain rfl := h3 rfl
    obtain rfl := h5 rfl
    obtain rfl := h6 rfl
    obtain rfl := h7 rfl
    obtain rfl := h8 rfl
    obtain rfl := h9 rfl
    have hw := h _ _ (h4 rfl)
    have hB : Region.seqB .any rD0O (rD0O.toList.drop 10).length 10 #[true, true, true, true, true, true, true, true, true, true, false, false] = true := by kernel_rfl
    have hlen : (rD0O.toList.drop 10).length = 2 := by kernel_rfl
    have := wpAny_of_seq (md := .any) (rD0O.toList.drop 10) 10 _ _ _ (fun j => by simp [List.getElem?_drop]) hB hw
    rw [hlen] at this
    exact this
  · exact ⟨false, false, false, false, false, false, false, false, false, false, t25, t26, t27, t28, t29, t30, t31, t32, t33, t34, rfl, rfl, fun _ => rfl, (fun h => by cases h), (fun h => by cases h), (fun h => by cases h), (fun h => by cases h), (fun h => by cases h), (fun h => by cases h), (fun h => by cases h), (fun h => by cases h), (fun h => by cases h), (fun h => by cases h), (fun h => by cases h), (fun h => by cases h), (fun h => by cases h), (fun h => by cases h), (fun h => by cases h), (fun h => by cases h)⟩
noncomputable def rD1O : Array Oper := (Tryd.f16.body.bind fun c => findR c 5).getD #[]
def rD1I (w0 : World) (cb tb g n c : Nat) (s : Int) (R : World → Value → Prop) (t0 t1 t2 t6 t7 t8 t9 t10 t11 t12 t13 t14 t15 t16 t17 t18 t19 t20 t21 t22 t23 t24 t35 t36 t37 : Value) (ds : List Deferred) (l : Array Bool) (a : Act) (w : World) : Prop :=
  ∃ j0 j1 j2 j3 j4 j5 j6 j7 j8 j9 : Bool, ∃ x0 x1 x2 x3 x4 x5 x6 x7 x8 x9 : Value, l = #[j0, j1, j2, j3, j4, j5, j6, j7, j8, j9, false, false] ∧ a = { tmps := #[t0, t1, t2, .pointer (some ⟨cb, 0, none⟩), .int .i64 1, .pointer (some ⟨tb, 0, none⟩), t6, t7, t8, t9, t10, t11, t12, t13, t14, t15, t16, t17, t18, t19, t20, t21, t22, t23, t24, x0, x1, x2, x3, x4, x5, x6, x7, x8, x9, t35, t36, t37], defers := ds } ∧ (j4 = false → w = w0.drew) ∧
  (j0 = true → x0 = .pointer (some ⟨cb, 0, none⟩)) ∧ (j1 = true → x1 = .int .i64 1) ∧ (j2 = true → x2 = .pointer (some ⟨tb, 0, none⟩)) ∧ (j3 = true → x3 = .slice (some ⟨g, 0, none⟩) n c) ∧ (j4 = true → R w x4) ∧ (j5 = true → x5 = .pointer (some ⟨tb, 1, none⟩)) ∧ (j6 = true → x6 = .int .i64 s) ∧ (j7 = true → x7 = .agg #[x4, .int .i64 s]) ∧ (j8 = true → x8 = .pointer (some ⟨cb, 0, none⟩)) ∧ (j9 = true → x9 = .pointer (some ⟨cb, 0, none⟩)) ∧
  (j3 = true → j2 = true) ∧ (j4 = true → j3 = true) ∧ (j6 = true → j5 = true) ∧ (j7 = true → j4 = true ∧ j6 = true) ∧ (j8 = true → j0 = true) ∧ (j9 = true → j8 = true)
set_option maxHeartbeats 16000000 in
theorem rD1_none (cb tb g n c : Nat) (s : Int) (R : World → Value → Prop) (w : World) {t0 t1 t2 t6 t7 t8 t9 t10 t11 t12 t13 t14 t15 t16 t17 t18 t19 t20 t21 t22 t23 t24 t35 t36 t37 : Value} {ds : List Deferred} : ∀ l a w1, rD1I w cb tb g n c s R t0 t1 t2 t6 t7 t8 t9 t10 t11 t12 t13 t14 t15 t16 t17 t18 t19 t20 t21 t22 t23 t24 t35 t36 t37 ds l a w1 → Region.ready .any rD1O l = [] → left l = 2 := by
  simp only [rD1O, findR, Tryd.f16, Option.bind_some, Option.or, Option.getD, Nat.reduceEqDiff, if_true, if_false, reduceIte]
  rintro l a w1 hI hr
  obtain ⟨j0, j1, j2, j3, j4, j5, j6, j7, j8, j9, x0, x1, x2, x3, x4, x5, x6, x7, x8, x9, rfl, rfl, hW, h0, h1, h2, h3, h4, h5, h6, h7, h8, h9, k3, k4, k6, k7, k8, k9⟩ := hI
  have hn := fun i => List.eq_nil_iff_forall_not_mem.1 hr i
  clear hr
  have d0 : j0 = true := by
    cases hj : j0
    · exact absurd (mem_ready.2 ⟨by simp [hj], _, rfl, by simp [Region.binds, hj]⟩) (hn 0)
    · rfl
  subst d0
  have d1 : j1 = true := by
    cases hj : j1
    · exact absurd (mem_ready.2 ⟨by simp [hj], _, rfl, by simp [Region.binds, hj]⟩) (hn 1)
    · rfl
  subst d1
  have d2 : j2 = true := by
    cases hj : j2
    · exact absurd (mem_ready.2 ⟨by simp [hj], _, rfl, by simp [Region.binds, hj]⟩) (hn 2)
    · rfl
  subst d2
  have d3 : j3 = true := by
    cases hj : j3
    · exact absurd (mem_ready.2 ⟨by simp [hj], _, rfl, by simp [Region.binds, hj]⟩) (hn 3)
    · rfl
  subst d3
  have d4 : j4 = true := by
    cases hj : j4
    · exact absurd (mem_ready.2 ⟨by simp [hj], _, rfl, by simp [Region.binds, hj]⟩) (hn 4)
    · rfl
  subst d4
  have d5 : j5 = true := by
    cases hj : j5
    · exact absurd (mem_ready.2 ⟨by simp [hj], _, rfl, by simp [Region.binds, hj]⟩) (hn 5)
    · rfl
  subst d5
  have d6 : j6 = true := by
    cases hj : j6
    · exact absurd (mem_ready.2 ⟨by simp [hj], _, rfl, by simp [Region.binds, hj]⟩) (hn 6)
    · rfl
  subst d6
  have d7 : j7 = true := by
    cases hj : j7
    · exact absurd (mem_ready.2 ⟨by simp [hj], _, rfl, by simp [Region.binds, hj]⟩) (hn 7)
    · rfl
  subst d7
  have d8 : j8 = true := by
    cases hj : j8
    · exact absurd (mem_ready.2 ⟨by simp [hj], _, rfl, by simp [Region.binds, hj]⟩) (hn 8)
    · rfl
  subst d8
  have d9 : j9 = true := by
    cases hj : j9
    · exact absurd (mem_ready.2 ⟨by simp [hj], _, rfl, by simp [Region.binds, hj]⟩) (hn 9)
    · rfl
  subst d9
  rfl
set_option maxHeartbeats 16000000 in
theorem rD1_steps (cb tb g n c : Nat) (s : Int) (R : World → Value → Prop) (w : World)  (c0 : w.cell? ⟨tb, 0, none⟩ = some (.slice (some ⟨g, 0, none⟩) n c)) (rc0 : Hid (∀ w1 v, R w1 v → w1.cell? ⟨tb, 0, none⟩ = some (.slice (some ⟨g, 0, none⟩) n c))) (c1 : w.cell? ⟨tb, 1, none⟩ = some (.int .i64 s)) (rc1 : Hid (∀ w1 v, R w1 v → w1.cell? ⟨tb, 1, none⟩ = some (.int .i64 s))) (hsh : Hid (∀ w1 v, R w1 v → ∃ a n c, v = .slice a n c)) (hE : Hid (Calls Tryd.prog 51 #[.slice (some ⟨g, 0, none⟩) n c] w.drew fun e w1 => ∃ v, e = .returned v ∧ R w1 v))
    {t0 t1 t2 t6 t7 t8 t9 t10 t11 t12 t13 t14 t15 t16 t17 t18 t19 t20 t21 t22 t23 t24 t35 t36 t37 : Value} {ds : List Deferred} {Q : Exit → Act → World → Prop} :
    ∀ l a w', rD1I w cb tb g n c s R t0 t1 t2 t6 t7 t8 t9 t10 t11 t12 t13 t14 t15 t16 t17 t18 t19 t20 t21 t22 t23 t24 t35 t36 t37 ds l a w' → left l ≠ 2 → ∀ i ∈ Region.ready .any rD1O l, wpOp Tryd.prog rD1O Q i (fun a' w'' => rD1I w cb tb g n c s R t0 t1 t2 t6 t7 t8 t9 t10 t11 t12 t13 t14 t15 t16 t17 t18 t19 t20 t21 t22 t23 t24 t35 t36 t37 ds (l.setIfInBounds i true) a' w'') a w' := by
  simp only [rD1O, findR, Tryd.f16, Option.bind_some, Option.or, Option.getD, Nat.reduceEqDiff, if_true, if_false, reduceIte]
  rintro l a w' hI hlt i hi
  rw [mem_ready] at hi
  obtain ⟨hu, oo, ho, hd⟩ := hi
  have hin : i < 12 := by
    have := (Array.getElem?_eq_some_iff.1 ho).1
    simpa using this
  have hcase : i = 0 ∨ i = 1 ∨ i = 2 ∨ i = 3 ∨ i = 4 ∨ i = 5 ∨ i = 6 ∨ i = 7 ∨ i = 8 ∨ i = 9 ∨ i = 10 ∨ i = 11 := by omega
  obtain ⟨j0, j1, j2, j3, j4, j5, j6, j7, j8, j9, x0, x1, x2, x3, x4, x5, x6, x7, x8, x9, rfl, rfl, hW, h0, h1, h2, h3, h4, h5, h6, h7, h8, h9, k3, k4, k6, k7, k8, k9⟩ := hI
  replace hW := Lib.hid hW
  replace h0 := Lib.hid h0
  replace h1 := Lib.hid h1
  replace h2 := Lib.hid h2
  replace h3 := Lib.hid h3
  replace h4 := Lib.hid h4
  replace h5 := Lib.hid h5
  replace h6 := Lib.hid h6
  replace h7 := Lib.hid h7
  replace h8 := Lib.hid h8
  replace h9 := Lib.hid h9
  replace k3 := Lib.hid k3
  replace k4 := Lib.hid k4
  replace k6 := Lib.hid k6
  replace k7 := Lib.hid k7
  replace k8 := Lib.hid k8
  replace k9 := Lib.hid k9
  have gc0 : w'.cell? ⟨tb, 0, none⟩ = some (.slice (some ⟨g, 0, none⟩) n c) := by
    cases hj : j4
    · rw [hW.out hj]; exact c0
    · exact rc0.out _ _ (h4.out hj)
  have gc1 : w'.cell? ⟨tb, 1, none⟩ = some (.int .i64 s) := by
    cases hj : j4
    · rw [hW.out hj]; exact c1
    · exact rc1.out _ _ (h4.out hj)
  clear c0 c1
  rcases hcase with rfl | rfl | rfl | rfl | rfl | rfl | rfl | rfl | rfl | rfl | rfl | rfl
  · obtain rfl := Option.some.inj ho
    simp [Region.binds] at hu hd
    clear hd hlt
    refine wpOp_of rfl rfl ?_
    go_simp
    unfold rD1I
    exact ⟨true, j1, j2, j3, j4, j5, j6, j7, j8, j9, _, x1, x2, x3, x4, x5, x6, x7, x8, x9, rfl, rfl, hW.out, fun _ => rfl, h1.out, h2.out, h3.out, h4.out, h5.out, h6.out, h7.out, h8.out, h9.out, k3.out, k4.out, k6.out, k7.out, fun hj => absurd ((k8.out hj)) (by simp [hu]), k9.out⟩
  · obtain rfl := Option.some.inj ho
    simp [Region.binds] at hu hd
    clear hd hlt
    refine wpOp_of rfl rfl ?_
    go_simp
    unfold rD1I
    exact ⟨j0, true, j2, j3, j4, j5, j6, j7, j8, j9, x0, _, x2, x3, x4, x5, x6, x7, x8, x9, rfl, rfl, hW.out, h0.out, fun _ => rfl, h2.out, h3.out, h4.out, h5.out, h6.out, h7.out, h8.out, h9.out, k3.out, k4.out, k6.out, k7.out, k8.out, k9.out⟩
  · obtain rfl := Option.some.inj ho
    simp [Region.binds] at hu hd
    clear hd hlt
    refine wpOp_of rfl rfl ?_
    go_simp
    unfold rD1I
    exact ⟨j0, j1, true, j3, j4, j5, j6, j7, j8, j9, x0, x1, _, x3, x4, x5, x6, x7, x8, x9, rfl, rfl, hW.out, h0.out, h1.out, fun _ => rfl, h3.out, h4.out, h5.out, h6.out, h7.out, h8.out, h9.out, fun hj => absurd ((k3.out hj)) (by simp [hu]), k4.out, k6.out, k7.out, k8.out, k9.out⟩
  · obtain rfl := Option.some.inj ho
    simp [Region.binds] at hu hd
    have d2 : j2 = true := by simp [hd]
    have e2 := h2.out d2
    subst e2
    subst d2
    clear hd hlt
    refine wpOp_of rfl rfl ?_
    go_simp
    unfold rD1I
    exact ⟨j0, j1, true, true, j4, j5, j6, j7, j8, j9, x0, x1, _, _, x4, x5, x6, x7, x8, x9, rfl, rfl, hW.out, h0.out, h1.out, h2.out, fun _ => rfl, h4.out, h5.out, h6.out, h7.out, h8.out, h9.out, fun _ => rfl, fun hj => absurd ((k4.out hj)) (by simp [hu]), k6.out, k7.out, k8.out, k9.out⟩
  · obtain rfl := Option.some.inj ho
    simp [Region.binds] at hu hd
    have d3 : j3 = true := by simp [hd]
    have e3 := h3.out d3
    subst e3
    subst d3
    clear hd hlt
    have hWW := hW.out hu
    clear hW gc0 gc1
    subst hWW
    refine wpOp_of rfl rfl ?_
    go_simp
    go_at_call 51
    refine hE.out.mono ?_
    rintro e w2 ⟨v, rfl, hR⟩
    unfold rD1I
    exact ⟨j0, j1, j2, true, true, j5, j6, j7, j8, j9, x0, x1, x2, _, _, x5, x6, x7, x8, x9, rfl, rfl, (fun h => by cases h), h0.out, h1.out, h2.out, h3.out, fun _ => hR, h5.out, h6.out, fun hj => absurd ((k7.out hj).1) (by simp [hu]), h8.out, h9.out, k3.out, fun _ => rfl, k6.out, fun hj => absurd ((k7.out hj).1) (by simp [hu]), k8.out, k9.out⟩
  · obtain rfl := Option.some.inj ho
    simp [Region.binds] at hu hd
    clear hd hlt
    refine wpOp_of rfl rfl ?_
    go_simp
    unfold rD1I
    exact ⟨j0, j1, j2, j3, j4, true, j6, j7, j8, j9, x0, x1, x2, x3, x4, _, x6, x7, x8, x9, rfl, rfl, hW.out, h0.out, h1.out, h2.out, h3.out, h4.out, fun _ => rfl, h6.out, h7.out, h8.out, h9.out, k3.out, k4.out, fun hj => absurd ((k6.out hj)) (by simp [hu]), k7.out, k8.out, k9.out⟩
  · obtain rfl := Option.some.inj ho
    simp [Region.binds] at hu hd
    have d5 : j5 = true := by simp [hd]
    have e5 := h5.out d5
    subst e5
    subst d5
    clear hd hlt
    refine wpOp_of rfl rfl ?_
    go_simp
    unfold rD1I
    exact ⟨j0, j1, j2, j3, j4, true, true, j7, j8, j9, x0, x1, x2, x3, x4, _, _, x7, x8, x9, rfl, rfl, hW.out, h0.out, h1.out, h2.out, h3.out, h4.out, h5.out, fun _ => rfl, h7.out, h8.out, h9.out, k3.out, k4.out, fun _ => rfl, fun hj => absurd ((k7.out hj).2) (by simp [hu]), k8.out, k9.out⟩
  · obtain rfl := Option.some.inj ho
    simp [Region.binds] at hu hd
    have d4 : j4 = true := by simp [hd]
    have d6 : j6 = true := by simp [hd]
    have e6 := h6.out d6
    subst e6
    subst d4
    subst d6
    clear hd hlt
    obtain ⟨sa, sn, sc, es⟩ := hsh.out _ _ (h4.out rfl)
    subst es
    refine wpOp_of rfl rfl ?_
    go_simp
    unfold rD1I
    exact ⟨j0, j1, j2, j3, true, j5, true, true, j8, j9, x0, x1, x2, x3, _, x5, _, _, x8, x9, rfl, rfl, hW.out, h0.out, h1.out, h2.out, h3.out, h4.out, h5.out, h6.out, fun _ => rfl, h8.out, h9.out, k3.out, k4.out, k6.out, fun _ => ⟨rfl, rfl⟩, k8.out, k9.out⟩
  · obtain rfl := Option.some.inj ho
    simp [Region.binds] at hu hd
    have d0 : j0 = true := by simp [hd]
    have e0 := h0.out d0
    subst e0
    subst d0
    clear hd hlt
    refine wpOp_of rfl rfl ?_
    go_simp
    unfold rD1I
    exact ⟨true, j1, j2, j3, j4, j5, j6, j7, true, j9, _, x1, x2, x3, x4, x5, x6, x7, _, x9, rfl, rfl, hW.out, h0.out, h1.out, h2.out, h3.out, h4.out, h5.out, h6.out, h7.out, fun _ => rfl, h9.out, k3.out, k4.out, k6.out, k7.out, fun _ => rfl, fun hj => absurd ((k9.out hj)) (by simp [hu])⟩
  · obtain rfl := Option.some.inj ho
    simp [Region.binds] at hu hd
    have d8 : j8 = true := by simp [hd]
    have e8 := h8.out d8
    subst e8
    subst d8
    clear hd hlt
    refine wpOp_of rfl rfl ?_
    go_simp
    unfold rD1I
    exact ⟨j0, j1, j2, j3, j4, j5, j6, j7, true, true, x0, x1, x2, x3, x4, x5, x6, x7, _, _, rfl, rfl, hW.out, h0.out, h1.out, h2.out, h3.out, h4.out, h5.out, h6.out, h7.out, h8.out, fun _ => rfl, k3.out, k4.out, k6.out, k7.out, k8.out, fun _ => rfl⟩
  · obtain rfl := Option.some.inj ho
    simp [Region.binds] at hu hd
    exfalso
    have d0 : j0 = true := by simp [hd]
    have d1 : j1 = true := by simp [hd]
    have d2 : j2 = true := by simp [hd]
    have d3 : j3 = true := by simp [hd]
    have d4 : j4 = true := by simp [hd]
    have d5 : j5 = true := by simp [hd]
    have d6 : j6 = true := by simp [hd]
    have d7 : j7 = true := by simp [hd]
    have d9 : j9 = true := by simp [hd]
    have d8 : j8 = true := (k9.out d9)
    subst d0
    subst d1
    subst d2
    subst d3
    subst d4
    subst d5
    subst d6
    subst d7
    subst d9
    subst d8
    exact hlt rfl
  · obtain rfl := Option.some.inj ho
    exfalso
    simp [Region.binds] at hd
set_option maxHeartbeats 16000000 in
theorem rD1 (cb tb g n c : Nat) (s : Int) (R : World → Value → Prop) (w : World)  (c0 : w.cell? ⟨tb, 0, none⟩ = some (.slice (some ⟨g, 0, none⟩) n c)) (rc0 : Hid (∀ w1 v, R w1 v → w1.cell? ⟨tb, 0, none⟩ = some (.slice (some ⟨g, 0, none⟩) n c))) (c1 : w.cell? ⟨tb, 1, none⟩ = some (.int .i64 s)) (rc1 : Hid (∀ w1 v, R w1 v → w1.cell? ⟨tb, 1, none⟩ = some (.int .i64 s))) (hsh : Hid (∀ w1 v, R w1 v → ∃ a n c, v = .slice a n c)) (hE : Hid (Calls Tryd.prog 51 #[.slice (some ⟨g, 0, none⟩) n c] w.drew fun e w1 => ∃ v, e = .returned v ∧ R w1 v)) {t0 t1 t2 t6 t7 t8 t9 t10 t11 t12 t13 t14 t15 t16 t17 t18 t19 t20 t21 t22 t23 t24 t25 t26 t27 t28 t29 t30 t31 t32 t33 t34 t35 t36 t37 : Value} {ds : List Deferred} {Q : Exit → Act → World → Prop}
    (h : ∀ (yE : Value) (w1 : World), R w1 yE → wpList Tryd.prog rD1O Q (rD1O.toList.drop 10) { tmps := #[t0, t1, t2, .pointer (some ⟨cb, 0, none⟩), .int .i64 1, .pointer (some ⟨tb, 0, none⟩), t6, t7, t8, t9, t10, t11, t12, t13, t14, t15, t16, t17, t18, t19, t20, t21, t22, t23, t24, .pointer (some ⟨cb, 0, none⟩), .int .i64 1, .pointer (some ⟨tb, 0, none⟩), .slice (some ⟨g, 0, none⟩) n c, yE, .pointer (some ⟨tb, 1, none⟩), .int .i64 s, .agg #[yE, .int .i64 s], .pointer (some ⟨cb, 0, none⟩), .pointer (some ⟨cb, 0, none⟩), t35, t36, t37], defers := ds } w1) :
    (Code.region 5 rD1O true).wp Tryd.prog Q { tmps := #[t0, t1, t2, .pointer (some ⟨cb, 0, none⟩), .int .i64 1, .pointer (some ⟨tb, 0, none⟩), t6, t7, t8, t9, t10, t11, t12, t13, t14, t15, t16, t17, t18, t19, t20, t21, t22, t23, t24, t25, t26, t27, t28, t29, t30, t31, t32, t33, t34, t35, t36, t37], defers := ds } w := by
  have hsz : rD1O.size = 12 := by kernel_rfl
  refine wp_region_any (show Tryd.prog.follows .mixedOrders = true from by kernel_rfl) ?_
  rw [hsz]
  refine wpAny_inv2 (I := rD1I w cb tb g n c s R t0 t1 t2 t6 t7 t8 t9 t10 t11 t12 t13 t14 t15 t16 t17 t18 t19 t20 t21 t22 t23 t24 t35 t36 t37 ds) (g := 2) (rD1_none cb tb g n c s R w) (rD1_steps cb tb g n c s R w  c0 rc0 c1 rc1 hsh hE) (fun l a w' hI hl => ?_) 12 _ _ _ (by decide) (by decide) ?_
  · have hI' := hI
    obtain ⟨j0, j1, j2, j3, j4, j5, j6, j7, j8, j9, x0, x1, x2, x3, x4, x5, x6, x7, x8, x9, rfl, rfl, hW, h0, h1, h2, h3, h4, h5, h6, h7, h8, h9, k3, k4, k6, k7, k8, k9⟩ := hI
    obtain ⟨d0, d1, d2, d3, d4, d5, d6, d7, d8, d9⟩ := left_all10_2 hl
    subst d0
    subst d1
    subst d2
    subst d3
    subst d4
    subst d5
    subst d6
    subst d7
    subst d8
    subst d9
    obtain rfl := h0 rfl
    obtain rfl := h1 rfl
    obtain rfl := h2 rfl
    obtain rfl := h3 rfl
    obtain rfl := h5 rfl
    obtain rfl := h6 rfl
    obtain rfl := h7 rfl
    obtain rfl := h8 rfl
    obtain rfl := h9 rfl
    have hw := h _ _ (h4 rfl)
    have hB : Region.seqB .any rD1O (rD1O.toList.drop 10).length 10 #[true, true, true, true, true, true, true, true, true, true, false, false] = true := by kernel_rfl
    have hlen : (rD1O.toList.drop 10).length = 2 := by kernel_rfl
    have := wpAny_of_seq (md := .any) (rD1O.toList.drop 10) 10 _ _ _ (fun j => by simp [List.getElem?_drop]) hB hw
    rw [hlen] at this
    exact this
  · exact ⟨false, false, false, false, false, false, false, false, false, false, t25, t26, t27, t28, t29, t30, t31, t32, t33, t34, rfl, rfl, fun _ => rfl, (fun h => by cases h), (fun h => by cases h), (fun h => by cases h), (fun h => by cases h), (fun h => by cases h), (fun h => by cases h), (fun h => by cases h), (fun h => by cases h), (fun h => by cases h), (fun h => by cases h), (fun h => by cases h), (fun h => by cases h), (fun h => by cases h), (fun h => by cases h), (fun h => by cases h), (fun h => by cases h)⟩
end Go.Proofs.YtmoihgniglomiaaDoor
