/- The region of the law of reckoning that reads both numbers' digits. No condition but what it reads. -/
import Derived.Test.YtglmmodkflkkkaaFo
import Derived.Test.YtglmmodkflkkkaaIv
import Derived.Test.YtglmmodkflkkkaaJk
import Derived.Test.YtglmmodkflkkkaaRb
set_option linter.unusedVariables false
set_option linter.unusedSimpArgs false
set_option maxRecDepth 100000
namespace Go.Proofs.Ytglmmodkflkkkaa.Ref
open Go.RowKit Go.Proofs.Ytglmmodkflkkkaa.Digits Limbs

def rk1I (w0 : World) (gA gB ua ub : Nat) (t0 t1 t2 t3 t6 t13 t14 t15 t16 t17 t18 t19 t20 t21 t22 t23 t24 t25 t26 t27 t28 t29 t30 t31 t32 t33 t34 t35 t36 t37 t38 t39 t40 t41 t42 t43 t44 t45 t46 t47 t48 t49 t50 t51 t52 t53 t54 t55 t56 t57 t58 t59 t60 t61 t62 t63 t64 t65 t66 t67 t68 t69 : Value) (ds : List Deferred) (l : Array Bool) (a : Act) (w : World) : Prop :=
  ∃ j0 j1 j2 j3 j4 j5 : Bool, ∃ x0 x1 x2 x3 x4 x5 : Value, l = #[j0, j1, j2, j3, j4, j5] ∧ a = { tmps := #[t0, t1, t2, t3, .pointer (some ⟨gA, 0, none⟩), .pointer (some ⟨gB, 0, none⟩), t6, x4, x5, x0, x1, x2, x3, t13, t14, t15, t16, t17, t18, t19, t20, t21, t22, t23, t24, t25, t26, t27, t28, t29, t30, t31, t32, t33, t34, t35, t36, t37, t38, t39, t40, t41, t42, t43, t44, t45, t46, t47, t48, t49, t50, t51, t52, t53, t54, t55, t56, t57, t58, t59, t60, t61, t62, t63, t64, t65, t66, t67, t68, t69], defers := ds } ∧ Below w0.heap.size w0 w ∧
  (j0 = true → x0 = .agg #[.int .u64 (lb ua 0 : Nat), .int .u64 (lb ua 1 : Nat), .int .u64 (lb ua 2 : Nat), .int .u64 (lb ua 3 : Nat)]) ∧ (j1 = true → NV w x1 ua) ∧ (j2 = true → x2 = .agg #[.int .u64 (lb ub 0 : Nat), .int .u64 (lb ub 1 : Nat), .int .u64 (lb ub 2 : Nat), .int .u64 (lb ub 3 : Nat)]) ∧ (j3 = true → NV w x3 ub) ∧ (j4 = true → NV w x4 ua) ∧ (j5 = true → NV w x5 ub)
noncomputable def rk1O : Array Oper := (Try.f3.body.bind fun c => findR c 1).getD #[]
set_option maxHeartbeats 16000000 in
theorem rk1_steps (gA gB ua ub : Nat) (w : World) (KA : Bk 24 w gA #[.int .u64 (lb ua 0 : Nat), .int .u64 (lb ua 1 : Nat), .int .u64 (lb ua 2 : Nat), .int .u64 (lb ua 3 : Nat)]) (KB : Bk 24 w gB #[.int .u64 (lb ub 0 : Nat), .int .u64 (lb ub 1 : Nat), .int .u64 (lb ub 2 : Nat), .int .u64 (lb ub 3 : Nat)]) (HA : Hid (∀ w, Calls Try.prog 14 #[.agg #[.int .u64 (lb ua 0 : Nat), .int .u64 (lb ua 1 : Nat), .int .u64 (lb ua 2 : Nat), .int .u64 (lb ua 3 : Nat)]] w fun e w' => ∃ v', e = .returned v' ∧ Nr w w' v' ua)) (HB : Hid (∀ w, Calls Try.prog 14 #[.agg #[.int .u64 (lb ub 0 : Nat), .int .u64 (lb ub 1 : Nat), .int .u64 (lb ub 2 : Nat), .int .u64 (lb ub 3 : Nat)]] w fun e w' => ∃ v', e = .returned v' ∧ Nr w w' v' ub))
    {t0 t1 t2 t3 t6 t13 t14 t15 t16 t17 t18 t19 t20 t21 t22 t23 t24 t25 t26 t27 t28 t29 t30 t31 t32 t33 t34 t35 t36 t37 t38 t39 t40 t41 t42 t43 t44 t45 t46 t47 t48 t49 t50 t51 t52 t53 t54 t55 t56 t57 t58 t59 t60 t61 t62 t63 t64 t65 t66 t67 t68 t69 : Value} {ds : List Deferred} {Q : Exit → Act → World → Prop} :
    ∀ l a w', rk1I w gA gB ua ub t0 t1 t2 t3 t6 t13 t14 t15 t16 t17 t18 t19 t20 t21 t22 t23 t24 t25 t26 t27 t28 t29 t30 t31 t32 t33 t34 t35 t36 t37 t38 t39 t40 t41 t42 t43 t44 t45 t46 t47 t48 t49 t50 t51 t52 t53 t54 t55 t56 t57 t58 t59 t60 t61 t62 t63 t64 t65 t66 t67 t68 t69 ds l a w' → ∀ i ∈ Region.ready .any rk1O l, wpOp Try.prog rk1O Q i (fun a' w'' => rk1I w gA gB ua ub t0 t1 t2 t3 t6 t13 t14 t15 t16 t17 t18 t19 t20 t21 t22 t23 t24 t25 t26 t27 t28 t29 t30 t31 t32 t33 t34 t35 t36 t37 t38 t39 t40 t41 t42 t43 t44 t45 t46 t47 t48 t49 t50 t51 t52 t53 t54 t55 t56 t57 t58 t59 t60 t61 t62 t63 t64 t65 t66 t67 t68 t69 ds (l.setIfInBounds i true) a' w'') a w' := by
  simp only [rk1O, findR, Try.f3, Option.bind_some, Option.or, Option.getD, Nat.reduceEqDiff, if_true, if_false, reduceIte]
  rintro l a w' ⟨j0, j1, j2, j3, j4, j5, x0, x1, x2, x3, x4, x5, rfl, rfl, hB, h0, h1, h2, h3, h4, h5⟩ i hi
  rw [mem_ready] at hi
  obtain ⟨hu, oo, ho, hd⟩ := hi
  have hin : i < 6 := by
    have := (Array.getElem?_eq_some_iff.1 ho).1
    simpa using this
  replace h0 := Lib.hid h0
  replace h1 := Lib.hid h1
  replace h2 := Lib.hid h2
  replace h3 := Lib.hid h3
  replace h4 := Lib.hid h4
  replace h5 := Lib.hid h5
  have hcase : i = 0 ∨ i = 1 ∨ i = 2 ∨ i = 3 ∨ i = 4 ∨ i = 5 := by omega
  rcases hcase with rfl | rfl | rfl | rfl | rfl | rfl
  · obtain rfl := Option.some.inj ho
    simp [Region.binds] at hu hd
    clear hd
    refine wpOp_of rfl rfl ?_
    have i0 : w'.cell? ⟨gA, 0, none⟩ = some (.int .u64 (lb ua 0 : Nat)) := (KA.below hB).cell 0
    have i1 : w'.cell? ⟨gA, 1, none⟩ = some (.int .u64 (lb ua 1 : Nat)) := (KA.below hB).cell 1
    have i2 : w'.cell? ⟨gA, 2, none⟩ = some (.int .u64 (lb ua 2 : Nat)) := (KA.below hB).cell 2
    have i3 : w'.cell? ⟨gA, 3, none⟩ = some (.int .u64 (lb ua 3 : Nat)) := (KA.below hB).cell 3
    go_simp
    unfold rk1I
    exact ⟨true, j1, j2, j3, j4, j5, _, x1, x2, x3, x4, x5, rfl, rfl, hB, fun _ => rfl, h1.out, h2.out, h3.out, h4.out, h5.out⟩
  · obtain rfl := Option.some.inj ho
    simp [Region.binds] at hu hd
    have d0 : j0 = true := by simp [hd]
    have e0 := h0.out d0
    subst e0
    subst d0
    clear hd
    refine wpOp_of rfl rfl ?_
    go_simp
    go_at_call 14
    refine (nk w.heap.size w (HA.out _) hB (Nat.le_refl _)).mono ?_
    rintro e w2 ⟨v', rfl, hn', hB2, hb2⟩
    unfold rk1I
    exact ⟨true, true, j2, j3, j4, j5, _, _, x2, x3, x4, x5, rfl, rfl, hB2, h0.out, fun _ => hn', h2.out, fun hj => (h3.out hj).below hb2, fun hj => (h4.out hj).below hb2, fun hj => (h5.out hj).below hb2⟩
  · obtain rfl := Option.some.inj ho
    simp [Region.binds] at hu hd
    clear hd
    refine wpOp_of rfl rfl ?_
    have i0 : w'.cell? ⟨gB, 0, none⟩ = some (.int .u64 (lb ub 0 : Nat)) := (KB.below hB).cell 0
    have i1 : w'.cell? ⟨gB, 1, none⟩ = some (.int .u64 (lb ub 1 : Nat)) := (KB.below hB).cell 1
    have i2 : w'.cell? ⟨gB, 2, none⟩ = some (.int .u64 (lb ub 2 : Nat)) := (KB.below hB).cell 2
    have i3 : w'.cell? ⟨gB, 3, none⟩ = some (.int .u64 (lb ub 3 : Nat)) := (KB.below hB).cell 3
    go_simp
    unfold rk1I
    exact ⟨j0, j1, true, j3, j4, j5, x0, x1, _, x3, x4, x5, rfl, rfl, hB, h0.out, h1.out, fun _ => rfl, h3.out, h4.out, h5.out⟩
  · obtain rfl := Option.some.inj ho
    simp [Region.binds] at hu hd
    have d2 : j2 = true := by simp [hd]
    have e2 := h2.out d2
    subst e2
    subst d2
    clear hd
    refine wpOp_of rfl rfl ?_
    go_simp
    go_at_call 14
    refine (nk w.heap.size w (HB.out _) hB (Nat.le_refl _)).mono ?_
    rintro e w2 ⟨v', rfl, hn', hB2, hb2⟩
    unfold rk1I
    exact ⟨j0, j1, true, true, j4, j5, x0, x1, _, _, x4, x5, rfl, rfl, hB2, h0.out, fun hj => (h1.out hj).below hb2, h2.out, fun _ => hn', fun hj => (h4.out hj).below hb2, fun hj => (h5.out hj).below hb2⟩
  · obtain rfl := Option.some.inj ho
    simp [Region.binds] at hu hd
    have d1 : j1 = true := by simp [hd]
    subst d1
    clear hd
    refine wpOp_of rfl rfl ?_
    go_simp
    unfold rk1I
    exact ⟨j0, true, j2, j3, true, j5, x0, _, x2, x3, _, x5, rfl, rfl, hB, h0.out, h1.out, h2.out, h3.out, fun _ => h1.out rfl, h5.out⟩
  · obtain rfl := Option.some.inj ho
    simp [Region.binds] at hu hd
    have d3 : j3 = true := by simp [hd]
    subst d3
    clear hd
    refine wpOp_of rfl rfl ?_
    go_simp
    unfold rk1I
    exact ⟨j0, j1, j2, true, j4, true, x0, x1, x2, _, x4, _, rfl, rfl, hB, h0.out, h1.out, h2.out, h3.out, h4.out, fun _ => h3.out rfl⟩
set_option maxHeartbeats 16000000 in
theorem rk1_fin (gA gB ua ub : Nat) (w : World) {t0 t1 t2 t3 t6 t13 t14 t15 t16 t17 t18 t19 t20 t21 t22 t23 t24 t25 t26 t27 t28 t29 t30 t31 t32 t33 t34 t35 t36 t37 t38 t39 t40 t41 t42 t43 t44 t45 t46 t47 t48 t49 t50 t51 t52 t53 t54 t55 t56 t57 t58 t59 t60 t61 t62 t63 t64 t65 t66 t67 t68 t69 : Value} {ds : List Deferred} : ∀ l a w', rk1I w gA gB ua ub t0 t1 t2 t3 t6 t13 t14 t15 t16 t17 t18 t19 t20 t21 t22 t23 t24 t25 t26 t27 t28 t29 t30 t31 t32 t33 t34 t35 t36 t37 t38 t39 t40 t41 t42 t43 t44 t45 t46 t47 t48 t49 t50 t51 t52 t53 t54 t55 t56 t57 t58 t59 t60 t61 t62 t63 t64 t65 t66 t67 t68 t69 ds l a w' → Region.ready .any rk1O l = [] →
    ∃ (y0 y1 y2 y3 v7 v8 : Value), a = { tmps := #[t0, t1, t2, t3, .pointer (some ⟨gA, 0, none⟩), .pointer (some ⟨gB, 0, none⟩), t6, v7, v8, y0, y1, y2, y3, t13, t14, t15, t16, t17, t18, t19, t20, t21, t22, t23, t24, t25, t26, t27, t28, t29, t30, t31, t32, t33, t34, t35, t36, t37, t38, t39, t40, t41, t42, t43, t44, t45, t46, t47, t48, t49, t50, t51, t52, t53, t54, t55, t56, t57, t58, t59, t60, t61, t62, t63, t64, t65, t66, t67, t68, t69], defers := ds } ∧ Below w.heap.size w w' ∧ NV w' v7 ua ∧ NV w' v8 ub := by
  simp only [rk1O, findR, Try.f3, Option.bind_some, Option.or, Option.getD, Nat.reduceEqDiff, if_true, if_false, reduceIte]
  rintro l a w' ⟨j0, j1, j2, j3, j4, j5, x0, x1, x2, x3, x4, x5, rfl, rfl, hB, h0, h1, h2, h3, h4, h5⟩ hr
  have hn := fun i => List.eq_nil_iff_forall_not_mem.1 hr i
  clear hr
  have d0 : j0 = true := by
    cases hj : j0
    · exact absurd (mem_ready.2 ⟨by simp [hj], _, rfl, by simp [Region.binds, hj]⟩) (hn 0)
    · rfl
  subst d0
  have d1 : j1 = true := by
    cases hj : j1
    · exact absurd (mem_ready.2 ⟨by simp [hj], _, rfl, by simp [Region.binds, hj]⟩) (hn 1)
    · rfl
  subst d1
  have d2 : j2 = true := by
    cases hj : j2
    · exact absurd (mem_ready.2 ⟨by simp [hj], _, rfl, by simp [Region.binds, hj]⟩) (hn 2)
    · rfl
  subst d2
  have d3 : j3 = true := by
    cases hj : j3
    · exact absurd (mem_ready.2 ⟨by simp [hj], _, rfl, by simp [Region.binds, hj]⟩) (hn 3)
    · rfl
  subst d3
  have d4 : j4 = true := by
    cases hj : j4
    · exact absurd (mem_ready.2 ⟨by simp [hj], _, rfl, by simp [Region.binds, hj]⟩) (hn 4)
    · rfl
  subst d4
  have d5 : j5 = true := by
    cases hj : j5
    · exact absurd (mem_ready.2 ⟨by simp [hj], _, rfl, by simp [Region.binds, hj]⟩) (hn 5)
    · rfl
  subst d5
  exact ⟨x0, x1, x2, x3, x4, x5, rfl, hB, h4 rfl, h5 rfl⟩
theorem rk1 (gA gB ua ub : Nat) (w : World) (KA : Bk 24 w gA #[.int .u64 (lb ua 0 : Nat), .int .u64 (lb ua 1 : Nat), .int .u64 (lb ua 2 : Nat), .int .u64 (lb ua 3 : Nat)]) (KB : Bk 24 w gB #[.int .u64 (lb ub 0 : Nat), .int .u64 (lb ub 1 : Nat), .int .u64 (lb ub 2 : Nat), .int .u64 (lb ub 3 : Nat)]) (HA : Hid (∀ w, Calls Try.prog 14 #[.agg #[.int .u64 (lb ua 0 : Nat), .int .u64 (lb ua 1 : Nat), .int .u64 (lb ua 2 : Nat), .int .u64 (lb ua 3 : Nat)]] w fun e w' => ∃ v', e = .returned v' ∧ Nr w w' v' ua)) (HB : Hid (∀ w, Calls Try.prog 14 #[.agg #[.int .u64 (lb ub 0 : Nat), .int .u64 (lb ub 1 : Nat), .int .u64 (lb ub 2 : Nat), .int .u64 (lb ub 3 : Nat)]] w fun e w' => ∃ v', e = .returned v' ∧ Nr w w' v' ub)) {t0 t1 t2 t3 t6 t7 t8 t9 t10 t11 t12 t13 t14 t15 t16 t17 t18 t19 t20 t21 t22 t23 t24 t25 t26 t27 t28 t29 t30 t31 t32 t33 t34 t35 t36 t37 t38 t39 t40 t41 t42 t43 t44 t45 t46 t47 t48 t49 t50 t51 t52 t53 t54 t55 t56 t57 t58 t59 t60 t61 t62 t63 t64 t65 t66 t67 t68 t69 : Value} {ds : List Deferred} {K : Act → World → Prop} {Q : Exit → Act → World → Prop}
    (h : ∀ (y0 y1 y2 y3 v7 v8 : Value) (w' : World) (hb : Below w.heap.size w w') (n7 : NV w' v7 ua) (n8 : NV w' v8 ub), K { tmps := #[t0, t1, t2, t3, .pointer (some ⟨gA, 0, none⟩), .pointer (some ⟨gB, 0, none⟩), t6, v7, v8, y0, y1, y2, y3, t13, t14, t15, t16, t17, t18, t19, t20, t21, t22, t23, t24, t25, t26, t27, t28, t29, t30, t31, t32, t33, t34, t35, t36, t37, t38, t39, t40, t41, t42, t43, t44, t45, t46, t47, t48, t49, t50, t51, t52, t53, t54, t55, t56, t57, t58, t59, t60, t61, t62, t63, t64, t65, t66, t67, t68, t69], defers := ds } w') :
    (Code.region 1 rk1O true).wp Try.prog (Exit.then K Q) { tmps := #[t0, t1, t2, t3, .pointer (some ⟨gA, 0, none⟩), .pointer (some ⟨gB, 0, none⟩), t6, t7, t8, t9, t10, t11, t12, t13, t14, t15, t16, t17, t18, t19, t20, t21, t22, t23, t24, t25, t26, t27, t28, t29, t30, t31, t32, t33, t34, t35, t36, t37, t38, t39, t40, t41, t42, t43, t44, t45, t46, t47, t48, t49, t50, t51, t52, t53, t54, t55, t56, t57, t58, t59, t60, t61, t62, t63, t64, t65, t66, t67, t68, t69], defers := ds } w := by
  have hsz : rk1O.size = 6 := by kernel_rfl
  refine wp_region_any (show Try.prog.follows .mixedOrders = true from by kernel_rfl) ?_
  rw [hsz]
  refine wpAny_inv (I := rk1I w gA gB ua ub t0 t1 t2 t3 t6 t13 t14 t15 t16 t17 t18 t19 t20 t21 t22 t23 t24 t25 t26 t27 t28 t29 t30 t31 t32 t33 t34 t35 t36 t37 t38 t39 t40 t41 t42 t43 t44 t45 t46 t47 t48 t49 t50 t51 t52 t53 t54 t55 t56 t57 t58 t59 t60 t61 t62 t63 t64 t65 t66 t67 t68 t69 ds) (rk1_steps gA gB ua ub w KA KB HA HB) (fun l a w' hI hr => ?_) 6 _ _ _ (by decide) ?_
  · obtain ⟨y0, y1, y2, y3, v7, v8, rfl, hb, n7, n8⟩ := rk1_fin gA gB ua ub w l a w' hI hr
    exact h _ _ _ _ _ _ w' hb n7 n8
  · exact ⟨false, false, false, false, false, false, t9, t10, t11, t12, t7, t8, rfl, rfl, ⟨rfl, rfl, rfl, Nat.le_refl _, fun _ _ => rfl⟩, (fun h => by cases h), (fun h => by cases h), (fun h => by cases h), (fun h => by cases h), (fun h => by cases h), (fun h => by cases h)⟩
end Go.Proofs.Ytglmmodkflkkkaa.Ref
