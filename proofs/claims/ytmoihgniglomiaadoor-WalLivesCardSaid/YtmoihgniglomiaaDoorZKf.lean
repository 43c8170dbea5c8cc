/- The drawn region of the state behind a call. No condition. -/
import Derived.Test.YtmoihgniglomiaaDoorZN
set_option linter.unusedVariables false
set_option linter.unusedSimpArgs false
set_option maxRecDepth 100000
namespace Go.Proofs.YtmoihgniglomiaaDoor
open Go.RowKit Go.Sort
noncomputable def rNO : Array Oper := (Tryd.f63.body.bind fun c => findR c 3).getD #[]
def rNI (PW : Bool → Bool → Bool → Bool → Value → Value → Value → Value → World → Prop) (b q : Nat) (sa so : ByteArray) (rv : Value) (t0 t1 t4 t5 t6 t7 t8 t9 t21 t22 t23 t24 t25 t26 t27 : Value) (ds : List Deferred) (l : Array Bool) (a : Act) (w : World) : Prop :=
  ∃ j0 j1 j2 j3 j4 j5 j6 j7 j8 j9 j10 : Bool, ∃ x0 x1 x2 x3 x4 x5 x6 x7 x8 x9 x10 : Value, l = #[j0, j1, j2, j3, j4, j5, j6, j7, j8, j9, j10, false, false] ∧ a = { tmps := #[t0, t1, .pointer (some ⟨b, 0, none⟩), .pointer (some ⟨q, 0, none⟩), t4, t5, t6, t7, t8, t9, x0, x1, x2, x3, x4, x5, x6, x7, x8, x9, x10, t21, t22, t23, t24, t25, t26, t27], defers := ds } ∧ PW j2 j5 j8 j9 x2 x5 x8 x9 w ∧
  (j0 = true → x0 = .pointer (some ⟨b, 0, none⟩)) ∧ (j1 = true → x1 = .string sa) ∧ (j3 = true → x3 = .pointer (some ⟨b, 1, none⟩)) ∧ (j4 = true → x4 = rv) ∧ (j6 = true → x6 = .pointer (some ⟨q, 4, none⟩)) ∧ (j7 = true → x7 = .string so) ∧ (j10 = true → x10 = .agg #[.string sa, x9]) ∧ (j1 = true → j0 = true) ∧ (j4 = true → j3 = true) ∧ (j5 = true → j2 = true ∧ j4 = true) ∧ (j7 = true → j6 = true) ∧ (j8 = true → j7 = true) ∧ (j9 = true → j5 = true ∧ j8 = true) ∧ (j10 = true → j1 = true ∧ j9 = true)
theorem rN_left {j0 j1 j2 j3 j4 j5 j6 j7 j8 j9 j10 : Bool} (h : left #[j0, j1, j2, j3, j4, j5, j6, j7, j8, j9, j10, false, false] = 2) : j0 = true ∧ j1 = true ∧ j2 = true ∧ j3 = true ∧ j4 = true ∧ j5 = true ∧ j6 = true ∧ j7 = true ∧ j8 = true ∧ j9 = true ∧ j10 = true := by
  have e := left_count #[j0, j1, j2, j3, j4, j5, j6, j7, j8, j9, j10] 2
  have e2 : (#[j0, j1, j2, j3, j4, j5, j6, j7, j8, j9, j10] ++ Array.replicate 2 false) = #[j0, j1, j2, j3, j4, j5, j6, j7, j8, j9, j10, false, false] := rfl
  rw [e2, h] at e
  have hz := left_zero (l := #[j0, j1, j2, j3, j4, j5, j6, j7, j8, j9, j10]) (by omega)
  simpa using hz
set_option maxHeartbeats 16000000 in
theorem rN_none (PW : Bool → Bool → Bool → Bool → Value → Value → Value → Value → World → Prop) (b q : Nat) (sa so : ByteArray) (rv : Value) {t0 t1 t4 t5 t6 t7 t8 t9 t21 t22 t23 t24 t25 t26 t27 : Value} {ds : List Deferred} : ∀ l a w1, rNI PW b q sa so rv t0 t1 t4 t5 t6 t7 t8 t9 t21 t22 t23 t24 t25 t26 t27 ds l a w1 → Region.ready .any rNO l = [] → left l = 2 := by
  simp only [rNO, findR, Tryd.f63, Option.bind_some, Option.or, Option.getD, Nat.reduceEqDiff, if_true, if_false, reduceIte]
  rintro l a w1 hI hr
  obtain ⟨j0, j1, j2, j3, j4, j5, j6, j7, j8, j9, j10, x0, x1, x2, x3, x4, x5, x6, x7, x8, x9, x10, rfl, rfl, hW, h0, h1, h3, h4, h6, h7, h10, k1, k4, k5, k7, k8, k9, k10⟩ := hI
  have hn := fun i => List.eq_nil_iff_forall_not_mem.1 hr i
  clear hr
  have d0 : j0 = true := by
    cases hj : j0
    · exact absurd (mem_ready.2 ⟨by simp [hj], _, rfl, by simp [Region.binds, hj]⟩) (hn 0)
    · rfl
  subst d0
  have d1 : j1 = true := by
    cases hj : j1
    · exact absurd (mem_ready.2 ⟨by simp [hj], _, rfl, by simp [Region.binds, hj]⟩) (hn 1)
    · rfl
  subst d1
  have d2 : j2 = true := by
    cases hj : j2
    · exact absurd (mem_ready.2 ⟨by simp [hj], _, rfl, by simp [Region.binds, hj]⟩) (hn 2)
    · rfl
  subst d2
  have d3 : j3 = true := by
    cases hj : j3
    · exact absurd (mem_ready.2 ⟨by simp [hj], _, rfl, by simp [Region.binds, hj]⟩) (hn 3)
    · rfl
  subst d3
  have d4 : j4 = true := by
    cases hj : j4
    · exact absurd (mem_ready.2 ⟨by simp [hj], _, rfl, by simp [Region.binds, hj]⟩) (hn 4)
    · rfl
  subst d4
  have d5 : j5 = true := by
    cases hj : j5
    · exact absurd (mem_ready.2 ⟨by simp [hj], _, rfl, by simp [Region.binds, hj]⟩) (hn 5)
    · rfl
  subst d5
  have d6 : j6 = true := by
    cases hj : j6
    · exact absurd (mem_ready.2 ⟨by simp [hj], _, rfl, by simp [Region.binds, hj]⟩) (hn 6)
    · rfl
  subst d6
  have d7 : j7 = true := by
    cases hj : j7
    · exact absurd (mem_ready.2 ⟨by simp [hj], _, rfl, by simp [Region.binds, hj]⟩) (hn 7)
    · rfl
  subst d7
  have d8 : j8 = true := by
    cases hj : j8
    · exact absurd (mem_ready.2 ⟨by simp [hj], _, rfl, by simp [Region.binds, hj]⟩) (hn 8)
    · rfl
  subst d8
  have d9 : j9 = true := by
    cases hj : j9
    · exact absurd (mem_ready.2 ⟨by simp [hj], _, rfl, by simp [Region.binds, hj]⟩) (hn 9)
    · rfl
  subst d9
  have d10 : j10 = true := by
    cases hj : j10
    · exact absurd (mem_ready.2 ⟨by simp [hj], _, rfl, by simp [Region.binds, hj]⟩) (hn 10)
    · rfl
  subst d10
  rfl
set_option maxHeartbeats 16000000 in
theorem rN_steps (PW : Bool → Bool → Bool → Bool → Value → Value → Value → Value → World → Prop) (b q : Nat) (sa so : ByteArray) (rv : Value)  (la : ∀ (b2 b5 b8 b9 : Bool) (y2 y5 y8 y9 : Value) (w : World), PW b2 b5 b8 b9 y2 y5 y8 y9 w → w.cell? ⟨b, 0, none⟩ = some (.string sa)) (lb : ∀ (b2 b5 b8 b9 : Bool) (y2 y5 y8 y9 : Value) (w : World), PW b2 b5 b8 b9 y2 y5 y8 y9 w → w.cell? ⟨b, 1, none⟩ = some (rv)) (lc4 : ∀ (b2 b5 b8 b9 : Bool) (y2 y5 y8 y9 : Value) (w : World), PW b2 b5 b8 b9 y2 y5 y8 y9 w → w.cell? ⟨q, 4, none⟩ = some (.string so)) (cl2 : ∀ (b8 : Bool) (y2 y5 y8 y9 : Value) (w : World), PW false false b8 false y2 y5 y8 y9 w → PW true false b8 false (.slice (some ⟨w.heap.size, 0, none⟩) 0 0) y5 y8 y9 (w.alloc (.cells #[] 9))) (cl5 : ∀ (b8 : Bool) (y2 y5 y8 y9 : Value) (w : World), PW true false b8 false y2 y5 y8 y9 w → ∃ v w', (Builtin.append_ #[31, 31] 31 #[y2, rv]).run Tryd.prog w = .ok v w' ∧ PW true true b8 false y2 v y8 y9 w') (cl8 : ∀ (b2 b5 : Bool) (y2 y5 y8 y9 : Value) (w : World), PW b2 b5 false false y2 y5 y8 y9 w → PW b2 b5 true false y2 y5 (.slice (some ⟨w.heap.size, 0, none⟩) 1 1) y9 (w.alloc (.cells #[.string so] 9))) (cl9 : ∀ (y2 y5 y8 y9 : Value) (w : World), PW true true true false y2 y5 y8 y9 w → ∃ v w', (Builtin.append_ #[31, 31] 31 #[y5, y8]).run Tryd.prog w = .ok v w' ∧ PW true true true true y2 y5 y8 v w') (sh : ∀ (b2 b5 b8 : Bool) (y2 y5 y8 y9 : Value) (w : World), PW b2 b5 b8 true y2 y5 y8 y9 w → ∃ a n c, y9 = .slice a n c)
    {t0 t1 t4 t5 t6 t7 t8 t9 t21 t22 t23 t24 t25 t26 t27 : Value} {ds : List Deferred} {Q : Exit → Act → World → Prop} :
    ∀ l a w', rNI PW b q sa so rv t0 t1 t4 t5 t6 t7 t8 t9 t21 t22 t23 t24 t25 t26 t27 ds l a w' → left l ≠ 2 → ∀ i ∈ Region.ready .any rNO l, wpOp Tryd.prog rNO Q i (fun a' w'' => rNI PW b q sa so rv t0 t1 t4 t5 t6 t7 t8 t9 t21 t22 t23 t24 t25 t26 t27 ds (l.setIfInBounds i true) a' w'') a w' := by
  simp only [rNO, findR, Tryd.f63, Option.bind_some, Option.or, Option.getD, Nat.reduceEqDiff, if_true, if_false, reduceIte]
  rintro l a w' hI hlt i hi
  rw [mem_ready] at hi
  obtain ⟨hu, oo, ho, hd⟩ := hi
  have hin : i < 13 := by
    have := (Array.getElem?_eq_some_iff.1 ho).1
    simpa using this
  have hcase : i = 0 ∨ i = 1 ∨ i = 2 ∨ i = 3 ∨ i = 4 ∨ i = 5 ∨ i = 6 ∨ i = 7 ∨ i = 8 ∨ i = 9 ∨ i = 10 ∨ i = 11 ∨ i = 12 := by omega
  obtain ⟨j0, j1, j2, j3, j4, j5, j6, j7, j8, j9, j10, x0, x1, x2, x3, x4, x5, x6, x7, x8, x9, x10, rfl, rfl, hW, h0, h1, h3, h4, h6, h7, h10, k1, k4, k5, k7, k8, k9, k10⟩ := hI
  replace h0 := Lib.hid h0
  replace h1 := Lib.hid h1
  replace h3 := Lib.hid h3
  replace h4 := Lib.hid h4
  replace h6 := Lib.hid h6
  replace h7 := Lib.hid h7
  replace h10 := Lib.hid h10
  replace k1 := Lib.hid k1
  replace k4 := Lib.hid k4
  replace k5 := Lib.hid k5
  replace k7 := Lib.hid k7
  replace k8 := Lib.hid k8
  replace k9 := Lib.hid k9
  replace k10 := Lib.hid k10
  rcases hcase with rfl | rfl | rfl | rfl | rfl | rfl | rfl | rfl | rfl | rfl | rfl | rfl | rfl
  · obtain rfl := Option.some.inj ho
    simp [Region.binds] at hu hd
    clear hlt
    subst hu
    clear hd
    clear la lb lc4 cl2 cl5 cl8 cl9 sh
    refine wpOp_of rfl rfl ?_
    go_simp
    unfold rNI
    exact ⟨true, j1, j2, j3, j4, j5, j6, j7, j8, j9, j10, _, x1, x2, x3, x4, x5, x6, x7, x8, x9, x10, rfl, rfl, hW, fun _ => rfl, h1.out, h3.out, h4.out, h6.out, h7.out, h10.out, (fun hj => absurd ((k1.out hj)) (by simp)), k4.out, k5.out, k7.out, k8.out, k9.out, k10.out⟩
  · obtain rfl := Option.some.inj ho
    simp [Region.binds] at hu hd
    clear hlt
    have d0 : j0 = true := by simp [hd]
    have e0 := h0.out d0
    subst e0
    subst d0
    subst hu
    clear hd
    clear lb lc4 cl2 cl5 cl8 cl9 sh
    have lc := la _ _ _ _ _ _ _ _ _ hW
    refine wpOp_of rfl rfl ?_
    go_simp
    unfold rNI
    exact ⟨true, true, j2, j3, j4, j5, j6, j7, j8, j9, j10, _, _, x2, x3, x4, x5, x6, x7, x8, x9, x10, rfl, rfl, hW, h0.out, fun _ => rfl, h3.out, h4.out, h6.out, h7.out, h10.out, fun _ => rfl, k4.out, k5.out, k7.out, k8.out, k9.out, (fun hj => absurd ((k10.out hj).1) (by simp))⟩
  · obtain rfl := Option.some.inj ho
    simp [Region.binds] at hu hd
    clear hlt
    have z5 : j5 = false := by
      cases hj : j5
      · rfl
      · exact absurd ((k5.out hj).1) (by simp [hu])
    have z9 : j9 = false := by
      cases hj : j9
      · rfl
      · exact absurd ((k9.out hj).1) (by simp [z5])
    have z10 : j10 = false := by
      cases hj : j10
      · rfl
      · exact absurd ((k10.out hj).2) (by simp [z9])
    subst z5
    subst z9
    subst z10
    subst hu
    clear hd
    clear la lb lc4 cl5 cl8 cl9 sh
    have hW2 := cl2 _ _ _ _ _ _ hW
    refine wpOp_of rfl rfl ?_
    go_simp
    unfold rNI
    exact ⟨j0, j1, true, j3, j4, false, j6, j7, j8, false, false, x0, x1, _, x3, x4, x5, x6, x7, x8, x9, x10, rfl, rfl, hW2, h0.out, h1.out, h3.out, h4.out, h6.out, h7.out, (fun h => by cases h), k1.out, k4.out, (fun hj => absurd ((k5.out hj).1) (by simp)), k7.out, k8.out, k9.out, k10.out⟩
  · obtain rfl := Option.some.inj ho
    simp [Region.binds] at hu hd
    clear hlt
    subst hu
    clear hd
    clear la lb lc4 cl2 cl5 cl8 cl9 sh
    refine wpOp_of rfl rfl ?_
    go_simp
    unfold rNI
    exact ⟨j0, j1, j2, true, j4, j5, j6, j7, j8, j9, j10, x0, x1, x2, _, x4, x5, x6, x7, x8, x9, x10, rfl, rfl, hW, h0.out, h1.out, fun _ => rfl, h4.out, h6.out, h7.out, h10.out, k1.out, (fun hj => absurd ((k4.out hj)) (by simp)), k5.out, k7.out, k8.out, k9.out, k10.out⟩
  · obtain rfl := Option.some.inj ho
    simp [Region.binds] at hu hd
    clear hlt
    have d3 : j3 = true := by simp [hd]
    have e3 := h3.out d3
    subst e3
    subst d3
    subst hu
    clear hd
    clear la lc4 cl2 cl5 cl8 cl9 sh
    have lc := lb _ _ _ _ _ _ _ _ _ hW
    refine wpOp_of rfl rfl ?_
    go_simp
    unfold rNI
    exact ⟨j0, j1, j2, true, true, j5, j6, j7, j8, j9, j10, x0, x1, x2, _, _, x5, x6, x7, x8, x9, x10, rfl, rfl, hW, h0.out, h1.out, h3.out, fun _ => rfl, h6.out, h7.out, h10.out, k1.out, fun _ => rfl, (fun hj => absurd ((k5.out hj).2) (by simp)), k7.out, k8.out, k9.out, k10.out⟩
  · obtain rfl := Option.some.inj ho
    simp [Region.binds] at hu hd
    clear hlt
    have d2 : j2 = true := by simp [hd]
    have d4 : j4 = true := by simp [hd]
    have d3 : j3 = true := (k4.out d4)
    have z9 : j9 = false := by
      cases hj : j9
      · rfl
      · exact absurd ((k9.out hj).1) (by simp [hu])
    have z10 : j10 = false := by
      cases hj : j10
      · rfl
      · exact absurd ((k10.out hj).2) (by simp [z9])
    have e4 := h4.out d4
    subst e4
    have e3 := h3.out d3
    subst e3
    subst d2
    subst d4
    subst d3
    subst z9
    subst z10
    subst hu
    clear hd
    clear la lb lc4 cl2 cl8 cl9 sh
    obtain ⟨v, w2, hrun, hW2⟩ := cl5 _ _ _ _ _ _ hW
    refine wpOp_of rfl rfl ?_
    refine wp_append_runE _ _ 31 31 rfl _ _ rfl rfl v w2 hrun ?_
    unfold rNI
    exact ⟨j0, j1, true, true, true, true, j6, j7, j8, false, false, x0, x1, x2, _, _, _, x6, x7, x8, x9, x10, rfl, rfl, hW2, h0.out, h1.out, h3.out, h4.out, h6.out, h7.out, (fun h => by cases h), k1.out, k4.out, fun _ => ⟨rfl, rfl⟩, k7.out, k8.out, (fun hj => absurd ((k9.out hj).1) (by simp)), k10.out⟩
  · obtain rfl := Option.some.inj ho
    simp [Region.binds] at hu hd
    clear hlt
    subst hu
    clear hd
    clear la lb lc4 cl2 cl5 cl8 cl9 sh
    refine wpOp_of rfl rfl ?_
    go_simp
    unfold rNI
    exact ⟨j0, j1, j2, j3, j4, j5, true, j7, j8, j9, j10, x0, x1, x2, x3, x4, x5, _, x7, x8, x9, x10, rfl, rfl, hW, h0.out, h1.out, h3.out, h4.out, fun _ => rfl, h7.out, h10.out, k1.out, k4.out, k5.out, (fun hj => absurd ((k7.out hj)) (by simp)), k8.out, k9.out, k10.out⟩
  · obtain rfl := Option.some.inj ho
    simp [Region.binds] at hu hd
    clear hlt
    have d6 : j6 = true := by simp [hd]
    have e6 := h6.out d6
    subst e6
    subst d6
    subst hu
    clear hd
    clear la lb cl2 cl5 cl8 cl9 sh
    have lc := lc4 _ _ _ _ _ _ _ _ _ hW
    refine wpOp_of rfl rfl ?_
    go_simp
    unfold rNI
    exact ⟨j0, j1, j2, j3, j4, j5, true, true, j8, j9, j10, x0, x1, x2, x3, x4, x5, _, _, x8, x9, x10, rfl, rfl, hW, h0.out, h1.out, h3.out, h4.out, h6.out, fun _ => rfl, h10.out, k1.out, k4.out, k5.out, fun _ => rfl, (fun hj => absurd ((k8.out hj)) (by simp)), k9.out, k10.out⟩
  · obtain rfl := Option.some.inj ho
    simp [Region.binds] at hu hd
    clear hlt
    have d7 : j7 = true := by simp [hd]
    have d6 : j6 = true := (k7.out d7)
    have z9 : j9 = false := by
      cases hj : j9
      · rfl
      · exact absurd ((k9.out hj).2) (by simp [hu])
    have z10 : j10 = false := by
      cases hj : j10
      · rfl
      · exact absurd ((k10.out hj).2) (by simp [z9])
    have e7 := h7.out d7
    subst e7
    have e6 := h6.out d6
    subst e6
    subst d7
    subst d6
    subst z9
    subst z10
    subst hu
    clear hd
    clear la lb lc4 cl2 cl5 cl9 sh
    have hW2 := cl8 _ _ _ _ _ _ _ hW
    refine wpOp_of rfl rfl ?_
    go_simp
    unfold rNI
    exact ⟨j0, j1, j2, j3, j4, j5, true, true, true, false, false, x0, x1, x2, x3, x4, x5, _, _, _, x9, x10, rfl, rfl, hW2, h0.out, h1.out, h3.out, h4.out, h6.out, h7.out, (fun h => by cases h), k1.out, k4.out, k5.out, k7.out, fun _ => rfl, (fun hj => absurd ((k9.out hj).2) (by simp)), k10.out⟩
  · obtain rfl := Option.some.inj ho
    simp [Region.binds] at hu hd
    clear hlt
    have d5 : j5 = true := by simp [hd]
    have d8 : j8 = true := by simp [hd]
    have d7 : j7 = true := (k8.out d8)
    have d6 : j6 = true := (k7.out d7)
    have d2 : j2 = true := (k5.out d5).1
    have d4 : j4 = true := (k5.out d5).2
    have d3 : j3 = true := (k4.out d4)
    have z10 : j10 = false := by
      cases hj : j10
      · rfl
      · exact absurd ((k10.out hj).2) (by simp [hu])
    have e7 := h7.out d7
    subst e7
    have e6 := h6.out d6
    subst e6
    have e4 := h4.out d4
    subst e4
    have e3 := h3.out d3
    subst e3
    subst d5
    subst d8
    subst d7
    subst d6
    subst d2
    subst d4
    subst d3
    subst z10
    subst hu
    clear hd
    clear la lb lc4 cl2 cl5 cl8 sh
    obtain ⟨v, w2, hrun, hW2⟩ := cl9 _ _ _ _ _ hW
    refine wpOp_of rfl rfl ?_
    refine wp_append_runE _ _ 31 31 rfl _ _ rfl rfl v w2 hrun ?_
    unfold rNI
    exact ⟨j0, j1, true, true, true, true, true, true, true, true, false, x0, x1, x2, _, _, x5, _, _, x8, _, x10, rfl, rfl, hW2, h0.out, h1.out, h3.out, h4.out, h6.out, h7.out, (fun h => by cases h), k1.out, k4.out, k5.out, k7.out, k8.out, fun _ => ⟨rfl, rfl⟩, (fun hj => absurd ((k10.out hj).2) (by simp))⟩
  · obtain rfl := Option.some.inj ho
    simp [Region.binds] at hu hd
    clear hlt
    have d1 : j1 = true := by simp [hd]
    have d9 : j9 = true := by simp [hd]
    have e1 := h1.out d1
    subst e1
    subst d1
    subst d9
    subst hu
    clear hd
    clear la lb lc4 cl2 cl5 cl8 cl9
    obtain ⟨ya, yn, yc, rfl⟩ := sh _ _ _ _ _ _ _ _ hW
    refine wpOp_of rfl rfl ?_
    go_simp
    unfold rNI
    exact ⟨j0, true, j2, j3, j4, j5, j6, j7, j8, true, true, x0, _, x2, x3, x4, x5, x6, x7, x8, _, _, rfl, rfl, hW, h0.out, h1.out, h3.out, h4.out, h6.out, h7.out, fun _ => rfl, k1.out, k4.out, k5.out, k7.out, k8.out, k9.out, fun _ => ⟨rfl, rfl⟩⟩
  · obtain rfl := Option.some.inj ho
    simp [Region.binds] at hu hd
    exfalso
    have d0 : j0 = true := by simp [hd]
    have d1 : j1 = true := by simp [hd]
    have d2 : j2 = true := by simp [hd]
    have d3 : j3 = true := by simp [hd]
    have d4 : j4 = true := by simp [hd]
    have d5 : j5 = true := by simp [hd]
    have d6 : j6 = true := by simp [hd]
    have d7 : j7 = true := by simp [hd]
    have d8 : j8 = true := by simp [hd]
    have d9 : j9 = true := by simp [hd]
    have d10 : j10 = true := by simp [hd]
    subst d0
    subst d1
    subst d2
    subst d3
    subst d4
    subst d5
    subst d6
    subst d7
    subst d8
    subst d9
    subst d10
    exact hlt rfl
  · obtain rfl := Option.some.inj ho
    exfalso
    simp [Region.binds] at hd
set_option maxHeartbeats 16000000 in
theorem rN (PW : Bool → Bool → Bool → Bool → Value → Value → Value → Value → World → Prop) (b q : Nat) (sa so : ByteArray) (rv : Value) (w : World)  (la : ∀ (b2 b5 b8 b9 : Bool) (y2 y5 y8 y9 : Value) (w : World), PW b2 b5 b8 b9 y2 y5 y8 y9 w → w.cell? ⟨b, 0, none⟩ = some (.string sa)) (lb : ∀ (b2 b5 b8 b9 : Bool) (y2 y5 y8 y9 : Value) (w : World), PW b2 b5 b8 b9 y2 y5 y8 y9 w → w.cell? ⟨b, 1, none⟩ = some (rv)) (lc4 : ∀ (b2 b5 b8 b9 : Bool) (y2 y5 y8 y9 : Value) (w : World), PW b2 b5 b8 b9 y2 y5 y8 y9 w → w.cell? ⟨q, 4, none⟩ = some (.string so)) (cl2 : ∀ (b8 : Bool) (y2 y5 y8 y9 : Value) (w : World), PW false false b8 false y2 y5 y8 y9 w → PW true false b8 false (.slice (some ⟨w.heap.size, 0, none⟩) 0 0) y5 y8 y9 (w.alloc (.cells #[] 9))) (cl5 : ∀ (b8 : Bool) (y2 y5 y8 y9 : Value) (w : World), PW true false b8 false y2 y5 y8 y9 w → ∃ v w', (Builtin.append_ #[31, 31] 31 #[y2, rv]).run Tryd.prog w = .ok v w' ∧ PW true true b8 false y2 v y8 y9 w') (cl8 : ∀ (b2 b5 : Bool) (y2 y5 y8 y9 : Value) (w : World), PW b2 b5 false false y2 y5 y8 y9 w → PW b2 b5 true false y2 y5 (.slice (some ⟨w.heap.size, 0, none⟩) 1 1) y9 (w.alloc (.cells #[.string so] 9))) (cl9 : ∀ (y2 y5 y8 y9 : Value) (w : World), PW true true true false y2 y5 y8 y9 w → ∃ v w', (Builtin.append_ #[31, 31] 31 #[y5, y8]).run Tryd.prog w = .ok v w' ∧ PW true true true true y2 y5 y8 v w') (sh : ∀ (b2 b5 b8 : Bool) (y2 y5 y8 y9 : Value) (w : World), PW b2 b5 b8 true y2 y5 y8 y9 w → ∃ a n c, y9 = .slice a n c) {t0 t1 t4 t5 t6 t7 t8 t9 t10 t11 t12 t13 t14 t15 t16 t17 t18 t19 t20 t21 t22 t23 t24 t25 t26 t27 : Value} (w0 : PW false false false false t12 t15 t18 t19 w.drew) {ds : List Deferred} {Q : Exit → Act → World → Prop}
    (h : ∀ (y2 y5 y8 y9 : Value) (w1 : World), PW true true true true y2 y5 y8 y9 w1 → wpList Tryd.prog rNO Q (rNO.toList.drop 11) { tmps := #[t0, t1, .pointer (some ⟨b, 0, none⟩), .pointer (some ⟨q, 0, none⟩), t4, t5, t6, t7, t8, t9, .pointer (some ⟨b, 0, none⟩), .string sa, y2, .pointer (some ⟨b, 1, none⟩), rv, y5, .pointer (some ⟨q, 4, none⟩), .string so, y8, y9, .agg #[.string sa, y9], t21, t22, t23, t24, t25, t26, t27], defers := ds } w1) :
    (Code.region 3 rNO true).wp Tryd.prog Q { tmps := #[t0, t1, .pointer (some ⟨b, 0, none⟩), .pointer (some ⟨q, 0, none⟩), t4, t5, t6, t7, t8, t9, t10, t11, t12, t13, t14, t15, t16, t17, t18, t19, t20, t21, t22, t23, t24, t25, t26, t27], defers := ds } w := by
  have hsz : rNO.size = 13 := by kernel_rfl
  refine wp_region_any (show Tryd.prog.follows .mixedOrders = true from by kernel_rfl) ?_
  rw [hsz]
  refine wpAny_inv2 (I := rNI PW b q sa so rv t0 t1 t4 t5 t6 t7 t8 t9 t21 t22 t23 t24 t25 t26 t27 ds) (g := 2) (rN_none PW b q sa so rv) (rN_steps PW b q sa so rv  la lb lc4 cl2 cl5 cl8 cl9 sh) (fun l a w' hI hl => ?_) 13 _ _ _ (by decide) (by decide) ?_
  · obtain ⟨j0, j1, j2, j3, j4, j5, j6, j7, j8, j9, j10, x0, x1, x2, x3, x4, x5, x6, x7, x8, x9, x10, rfl, rfl, hW, h0, h1, h3, h4, h6, h7, h10, k1, k4, k5, k7, k8, k9, k10⟩ := hI
    obtain ⟨d0, d1, d2, d3, d4, d5, d6, d7, d8, d9, d10⟩ := rN_left hl
    subst d0
    subst d1
    subst d2
    subst d3
    subst d4
    subst d5
    subst d6
    subst d7
    subst d8
    subst d9
    subst d10
    obtain rfl := h0 rfl
    obtain rfl := h1 rfl
    obtain rfl := h3 rfl
    obtain rfl := h4 rfl
    obtain rfl := h6 rfl
    obtain rfl := h7 rfl
    obtain rfl := h10 rfl
    have hlen : (rNO.toList.drop 11).length = 2 := by rw [List.length_drop, Array.length_toList, hsz]
    rw [← hlen]
    refine wpAny_of_seq (rNO.toList.drop 11) 11 _ _ _ (fun j => by rw [List.getElem?_drop, Array.getElem?_toList]) (by rw [hlen]; kernel_rfl) (h _ _ _ _ _ hW)
  · exact ⟨false, false, false, false, false, false, false, false, false, false, false, t10, t11, t12, t13, t14, t15, t16, t17, t18, t19, t20, rfl, rfl, w0, (fun h => by cases h), (fun h => by cases h), (fun h => by cases h), (fun h => by cases h), (fun h => by cases h), (fun h => by cases h), (fun h => by cases h), (fun h => by cases h), (fun h => by cases h), (fun h => by cases h), (fun h => by cases h), (fun h => by cases h), (fun h => by cases h), (fun h => by cases h)⟩
end Go.Proofs.YtmoihgniglomiaaDoor
