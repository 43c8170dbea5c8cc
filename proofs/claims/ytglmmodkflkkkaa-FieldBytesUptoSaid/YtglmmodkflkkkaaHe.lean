/- Numbers are read from bytes, and told as bytes, and any bytes are taken modulo the primes: the law's walk. Condition: at most 1048576 bytes. -/
import Derived.Test.YtglmmodkflkkkaaHd
import Derived.Test.YtglmmodkflkkkaaHb
import Derived.Test.YtglmmodkflkkkaaJc
import Derived.Test.YtglmmodkflkkkaaJd
set_option linter.unusedVariables false
set_option linter.unusedSimpArgs false
set_option maxRecDepth 100000
namespace Go.Proofs.Ytglmmodkflkkkaa.Ref
open Go.RowKit Go.Proofs.Ytglmmodkflkkkaa.Digits Limbs

theorem left_long (L : Nat) (hL : L ≤ 1000000000000) (v u : Value) (w : World) (a b : Nat) (ha : a < 65536 ^ L) (hb : b < big) (hb0 : 0 < b) (h : NV w v a) (k : NV w u b) : Calls Try.prog 27 #[v, u] w fun e w' => ∃ v', e = .returned v' ∧ Nr w w' v' (a % b) := by
  obtain ⟨r, h1, h2, h3, h4⟩ := h
  obtain ⟨s, k1, k2, k3, k4⟩ := k
  have := left_any r s h2 k2 (by have := len_le (n := L) h3 (by rw [h4]; exact ha); omega) (by have := len_big k3 k4 hb; omega) (by rw [k4]; exact hb0) v u w h1 k1
  rwa [h4, k4] at this
def fb6I (w0 : World) (gA ua ur nn : Nat) (mm : Int) (S : ByteArray) (B : ByteArray) (v9 : Value) (t2 t3 t4 t7 t8 t10 t11 t12 t13 t14 t15 t16 t17 t18 t19 t20 t21 t22 t23 t24 t25 t26 t27 t28 t29 t30 t31 t32 t33 t34 t35 t36 t37 t38 t39 t40 t41 t42 t43 t44 t45 t46 t47 t48 t49 t50 t51 t52 t53 t54 t55 t56 t57 t58 t59 t60 t61 t62 t63 : Value) (ds : List Deferred) (l : Array Bool) (a : Act) (w : World) : Prop :=
  ∃ j0 j1 j2 j3 j4 j5 j6 j7 j8 j9 j10 j11 j12 j13 j14 j15 j16 : Bool, ∃ x0 x1 x2 x3 x4 x5 x6 x7 x8 x9 x10 x11 x12 x13 x14 x15 x16 : Value, l = #[j0, j1, j2, j3, j4, j5, j6, j7, j8, j9, j10, j11, j12, j13, j14, j15, j16] ∧ a = { tmps := #[.int .i64 mm, .string S, t2, t3, t4, .pointer (some ⟨gA, 0, none⟩), x16, t7, t8, v9, t10, t11, t12, t13, t14, t15, t16, t17, t18, t19, t20, t21, t22, t23, t24, t25, t26, t27, t28, t29, t30, t31, t32, t33, t34, t35, t36, t37, t38, t39, t40, t41, t42, t43, t44, t45, t46, t47, t48, t49, t50, t51, t52, t53, t54, t55, t56, t57, t58, t59, t60, t61, t62, t63, x0, x1, x2, x3, x4, x5, x6, x7, x8, x9, x10, x11, x12, x13, x14, x15], defers := ds } ∧ Below w0.heap.size w0 w ∧
  (j0 = true → x0 = .agg #[.int .u64 (lb ua 0 : Nat), .int .u64 (lb ua 1 : Nat), .int .u64 (lb ua 2 : Nat), .int .u64 (lb ua 3 : Nat)]) ∧ (j1 = true → x1 = .string B) ∧ (j2 = true → x2 = .agg #[.int .u64 (lb ua 0 : Nat), .int .u64 (lb ua 1 : Nat), .int .u64 (lb ua 2 : Nat), .int .u64 (lb ua 3 : Nat)]) ∧ (j3 = true → x3 = .string B) ∧ (j4 = true → x4 = .bool true) ∧ (j5 = true → x5 = .bool true) ∧ (j6 = true → x6 = .int .i64 mm) ∧ (j7 = true → x7 = .string S) ∧ (j8 = true → x8 = .agg #[.int .u64 (lb ur 0 : Nat), .int .u64 (lb ur 1 : Nat), .int .u64 (lb ur 2 : Nat), .int .u64 (lb ur 3 : Nat)]) ∧ (j9 = true → NV w x9 (ur)) ∧ (j10 = true → x10 = v9) ∧ (j11 = true → x11 = .int .i64 mm) ∧ (j12 = true → NV w x12 (md mm)) ∧ (j13 = true → NV w x13 (ur)) ∧ (j14 = true → x14 = .bool true) ∧ (j15 = true → x15 = .bool true) ∧ (j16 = true → x16 = .bool true)
noncomputable def fb6O : Array Oper := (Try.f6.body.bind fun c => findR c 6).getD #[]
set_option maxHeartbeats 16000000 in
theorem fb6_steps (gA ua ur nn : Nat) (mm : Int) (S : ByteArray) (B : ByteArray) (v9 : Value) (w : World) (KA : Bk 24 w gA #[.int .u64 (lb ua 0 : Nat), .int .u64 (lb ua 1 : Nat), .int .u64 (lb ua 2 : Nat), .int .u64 (lb ua 3 : Nat)]) (NR : NV w v9 nn) (HF : Hid (∀ w, Calls Try.prog 34 #[.agg #[.int .u64 (lb ua 0 : Nat), .int .u64 (lb ua 1 : Nat), .int .u64 (lb ua 2 : Nat), .int .u64 (lb ua 3 : Nat)]] w fun e w' => e = .returned (.string B) ∧ Below w.heap.size w w')) (HG : Hid (∀ w, Calls Try.prog 35 #[.agg #[.int .u64 (lb ua 0 : Nat), .int .u64 (lb ua 1 : Nat), .int .u64 (lb ua 2 : Nat), .int .u64 (lb ua 3 : Nat)]] w fun e w' => e = .returned (.string B) ∧ Below w.heap.size w w')) (HR : Hid (∀ w, Calls Try.prog 36 #[.int .i64 mm, .string S] w fun e w' => e = .returned (.agg #[.int .u64 (lb ur 0 : Nat), .int .u64 (lb ur 1 : Nat), .int .u64 (lb ur 2 : Nat), .int .u64 (lb ur 3 : Nat)]) ∧ Below w.heap.size w w')) (HI : Hid (∀ w, Calls Try.prog 14 #[.agg #[.int .u64 (lb ur 0 : Nat), .int .u64 (lb ur 1 : Nat), .int .u64 (lb ur 2 : Nat), .int .u64 (lb ur 3 : Nat)]] w fun e w' => ∃ v', e = .returned v' ∧ Nr w w' v' ur)) (HM : Hid (∀ w, Calls Try.prog 18 #[.int .i64 mm] w fun e w' => ∃ v', e = .returned v' ∧ Nr w w' v' (md mm))) (HL : Hid (∀ v u w, NV w v nn → NV w u (md mm) → Calls Try.prog 27 #[v, u] w fun e w' => ∃ v', e = .returned v' ∧ Nr w w' v' ur))
    {t2 t3 t4 t7 t8 t10 t11 t12 t13 t14 t15 t16 t17 t18 t19 t20 t21 t22 t23 t24 t25 t26 t27 t28 t29 t30 t31 t32 t33 t34 t35 t36 t37 t38 t39 t40 t41 t42 t43 t44 t45 t46 t47 t48 t49 t50 t51 t52 t53 t54 t55 t56 t57 t58 t59 t60 t61 t62 t63 : Value} {ds : List Deferred} {Q : Exit → Act → World → Prop} :
    ∀ l a w', fb6I w gA ua ur nn mm S B v9 t2 t3 t4 t7 t8 t10 t11 t12 t13 t14 t15 t16 t17 t18 t19 t20 t21 t22 t23 t24 t25 t26 t27 t28 t29 t30 t31 t32 t33 t34 t35 t36 t37 t38 t39 t40 t41 t42 t43 t44 t45 t46 t47 t48 t49 t50 t51 t52 t53 t54 t55 t56 t57 t58 t59 t60 t61 t62 t63 ds l a w' → ∀ i ∈ Region.ready .any fb6O l, wpOp Try.prog fb6O Q i (fun a' w'' => fb6I w gA ua ur nn mm S B v9 t2 t3 t4 t7 t8 t10 t11 t12 t13 t14 t15 t16 t17 t18 t19 t20 t21 t22 t23 t24 t25 t26 t27 t28 t29 t30 t31 t32 t33 t34 t35 t36 t37 t38 t39 t40 t41 t42 t43 t44 t45 t46 t47 t48 t49 t50 t51 t52 t53 t54 t55 t56 t57 t58 t59 t60 t61 t62 t63 ds (l.setIfInBounds i true) a' w'') a w' := by
  simp only [fb6O, findR, Try.f6, Option.bind_some, Option.or, Option.getD, Nat.reduceEqDiff, if_true, if_false, reduceIte]
  rintro l a w' ⟨j0, j1, j2, j3, j4, j5, j6, j7, j8, j9, j10, j11, j12, j13, j14, j15, j16, x0, x1, x2, x3, x4, x5, x6, x7, x8, x9, x10, x11, x12, x13, x14, x15, x16, rfl, rfl, hB, h0, h1, h2, h3, h4, h5, h6, h7, h8, h9, h10, h11, h12, h13, h14, h15, h16⟩ i hi
  rw [mem_ready] at hi
  obtain ⟨hu, oo, ho, hd⟩ := hi
  have hin : i < 17 := by
    have := (Array.getElem?_eq_some_iff.1 ho).1
    simpa using this
  replace h0 := Lib.hid h0
  replace h1 := Lib.hid h1
  replace h2 := Lib.hid h2
  replace h3 := Lib.hid h3
  replace h4 := Lib.hid h4
  replace h5 := Lib.hid h5
  replace h6 := Lib.hid h6
  replace h7 := Lib.hid h7
  replace h8 := Lib.hid h8
  replace h9 := Lib.hid h9
  replace h10 := Lib.hid h10
  replace h11 := Lib.hid h11
  replace h12 := Lib.hid h12
  replace h13 := Lib.hid h13
  replace h14 := Lib.hid h14
  replace h15 := Lib.hid h15
  replace h16 := Lib.hid h16
  have hcase : i = 0 ∨ i = 1 ∨ i = 2 ∨ i = 3 ∨ i = 4 ∨ i = 5 ∨ i = 6 ∨ i = 7 ∨ i = 8 ∨ i = 9 ∨ i = 10 ∨ i = 11 ∨ i = 12 ∨ i = 13 ∨ i = 14 ∨ i = 15 ∨ i = 16 := by omega
  rcases hcase with rfl | rfl | rfl | rfl | rfl | rfl | rfl | rfl | rfl | rfl | rfl | rfl | rfl | rfl | rfl | rfl | rfl
  · obtain rfl := Option.some.inj ho
    simp [Region.binds] at hu hd
    clear hd
    refine wpOp_of rfl rfl ?_
    have i0 : w'.cell? ⟨gA, 0, none⟩ = some (.int .u64 (lb ua 0 : Nat)) := (KA.below hB).cell 0
    have i1 : w'.cell? ⟨gA, 1, none⟩ = some (.int .u64 (lb ua 1 : Nat)) := (KA.below hB).cell 1
    have i2 : w'.cell? ⟨gA, 2, none⟩ = some (.int .u64 (lb ua 2 : Nat)) := (KA.below hB).cell 2
    have i3 : w'.cell? ⟨gA, 3, none⟩ = some (.int .u64 (lb ua 3 : Nat)) := (KA.below hB).cell 3
    go_simp
    unfold fb6I
    exact ⟨true, j1, j2, j3, j4, j5, j6, j7, j8, j9, j10, j11, j12, j13, j14, j15, j16, _, x1, x2, x3, x4, x5, x6, x7, x8, x9, x10, x11, x12, x13, x14, x15, x16, rfl, rfl, hB, fun _ => rfl, h1.out, h2.out, h3.out, h4.out, h5.out, h6.out, h7.out, h8.out, h9.out, h10.out, h11.out, h12.out, h13.out, h14.out, h15.out, h16.out⟩
  · obtain rfl := Option.some.inj ho
    simp [Region.binds] at hu hd
    have d0 : j0 = true := by simp [hd]
    have e0 := h0.out d0
    subst e0
    subst d0
    clear hd
    refine wpOp_of rfl rfl ?_
    go_simp
    go_at_call 34
    refine (keep w.heap.size w (HF.out _) hB (Nat.le_refl _)).mono ?_
    rintro e w2 ⟨rfl, hB2, hb2⟩
    unfold fb6I
    exact ⟨true, true, j2, j3, j4, j5, j6, j7, j8, j9, j10, j11, j12, j13, j14, j15, j16, _, _, x2, x3, x4, x5, x6, x7, x8, x9, x10, x11, x12, x13, x14, x15, x16, rfl, rfl, hB2, h0.out, fun _ => rfl, h2.out, h3.out, h4.out, h5.out, h6.out, h7.out, h8.out, fun hj => (h9.out hj).below hb2, h10.out, h11.out, fun hj => (h12.out hj).below hb2, fun hj => (h13.out hj).below hb2, h14.out, h15.out, h16.out⟩
  · obtain rfl := Option.some.inj ho
    simp [Region.binds] at hu hd
    clear hd
    refine wpOp_of rfl rfl ?_
    have i0 : w'.cell? ⟨gA, 0, none⟩ = some (.int .u64 (lb ua 0 : Nat)) := (KA.below hB).cell 0
    have i1 : w'.cell? ⟨gA, 1, none⟩ = some (.int .u64 (lb ua 1 : Nat)) := (KA.below hB).cell 1
    have i2 : w'.cell? ⟨gA, 2, none⟩ = some (.int .u64 (lb ua 2 : Nat)) := (KA.below hB).cell 2
    have i3 : w'.cell? ⟨gA, 3, none⟩ = some (.int .u64 (lb ua 3 : Nat)) := (KA.below hB).cell 3
    go_simp
    unfold fb6I
    exact ⟨j0, j1, true, j3, j4, j5, j6, j7, j8, j9, j10, j11, j12, j13, j14, j15, j16, x0, x1, _, x3, x4, x5, x6, x7, x8, x9, x10, x11, x12, x13, x14, x15, x16, rfl, rfl, hB, h0.out, h1.out, fun _ => rfl, h3.out, h4.out, h5.out, h6.out, h7.out, h8.out, h9.out, h10.out, h11.out, h12.out, h13.out, h14.out, h15.out, h16.out⟩
  · obtain rfl := Option.some.inj ho
    simp [Region.binds] at hu hd
    have d2 : j2 = true := by simp [hd]
    have e2 := h2.out d2
    subst e2
    subst d2
    clear hd
    refine wpOp_of rfl rfl ?_
    go_simp
    go_at_call 35
    refine (keep w.heap.size w (HG.out _) hB (Nat.le_refl _)).mono ?_
    rintro e w2 ⟨rfl, hB2, hb2⟩
    unfold fb6I
    exact ⟨j0, j1, true, true, j4, j5, j6, j7, j8, j9, j10, j11, j12, j13, j14, j15, j16, x0, x1, _, _, x4, x5, x6, x7, x8, x9, x10, x11, x12, x13, x14, x15, x16, rfl, rfl, hB2, h0.out, h1.out, h2.out, fun _ => rfl, h4.out, h5.out, h6.out, h7.out, h8.out, fun hj => (h9.out hj).below hb2, h10.out, h11.out, fun hj => (h12.out hj).below hb2, fun hj => (h13.out hj).below hb2, h14.out, h15.out, h16.out⟩
  · obtain rfl := Option.some.inj ho
    simp [Region.binds] at hu hd
    have d1 : j1 = true := by simp [hd]
    have e1 := h1.out d1
    subst e1
    have d3 : j3 = true := by simp [hd]
    have e3 := h3.out d3
    subst e3
    subst d1
    subst d3
    clear hd
    refine wpOp_of rfl rfl ?_
    go_simp
    unfold fb6I
    exact ⟨j0, true, j2, true, true, j5, j6, j7, j8, j9, j10, j11, j12, j13, j14, j15, j16, x0, _, x2, _, _, x5, x6, x7, x8, x9, x10, x11, x12, x13, x14, x15, x16, rfl, rfl, hB, h0.out, h1.out, h2.out, h3.out, fun _ => rfl, h5.out, h6.out, h7.out, h8.out, h9.out, h10.out, h11.out, h12.out, h13.out, h14.out, h15.out, h16.out⟩
  · obtain rfl := Option.some.inj ho
    simp [Region.binds] at hu hd
    have d4 : j4 = true := by simp [hd]
    have e4 := h4.out d4
    subst e4
    subst d4
    clear hd
    refine wpOp_of rfl rfl ?_
    go_simp
    unfold fb6I
    exact ⟨j0, j1, j2, j3, true, true, j6, j7, j8, j9, j10, j11, j12, j13, j14, j15, j16, x0, x1, x2, x3, _, _, x6, x7, x8, x9, x10, x11, x12, x13, x14, x15, x16, rfl, rfl, hB, h0.out, h1.out, h2.out, h3.out, h4.out, fun _ => rfl, h6.out, h7.out, h8.out, h9.out, h10.out, h11.out, h12.out, h13.out, h14.out, h15.out, h16.out⟩
  · obtain rfl := Option.some.inj ho
    simp [Region.binds] at hu hd
    have d5 : j5 = true := by simp [hd]
    have e5 := h5.out d5
    subst e5
    subst d5
    clear hd
    refine wpOp_want rfl rfl ?_
    go_simp
    unfold fb6I
    exact ⟨j0, j1, j2, j3, j4, true, true, j7, j8, j9, j10, j11, j12, j13, j14, j15, j16, x0, x1, x2, x3, x4, _, _, x7, x8, x9, x10, x11, x12, x13, x14, x15, x16, rfl, rfl, hB, h0.out, h1.out, h2.out, h3.out, h4.out, h5.out, fun _ => rfl, h7.out, h8.out, h9.out, h10.out, h11.out, h12.out, h13.out, h14.out, h15.out, h16.out⟩
  · obtain rfl := Option.some.inj ho
    simp [Region.binds] at hu hd
    have d5 : j5 = true := by simp [hd]
    have e5 := h5.out d5
    subst e5
    subst d5
    clear hd
    refine wpOp_want rfl rfl ?_
    go_simp
    unfold fb6I
    exact ⟨j0, j1, j2, j3, j4, true, j6, true, j8, j9, j10, j11, j12, j13, j14, j15, j16, x0, x1, x2, x3, x4, _, x6, _, x8, x9, x10, x11, x12, x13, x14, x15, x16, rfl, rfl, hB, h0.out, h1.out, h2.out, h3.out, h4.out, h5.out, h6.out, fun _ => rfl, h8.out, h9.out, h10.out, h11.out, h12.out, h13.out, h14.out, h15.out, h16.out⟩
  · obtain rfl := Option.some.inj ho
    simp [Region.binds] at hu hd
    have d5 : j5 = true := by simp [hd]
    have e5 := h5.out d5
    subst e5
    have d6 : j6 = true := by simp [hd]
    have e6 := h6.out d6
    subst e6
    have d7 : j7 = true := by simp [hd]
    have e7 := h7.out d7
    subst e7
    subst d5
    subst d6
    subst d7
    clear hd
    refine wpOp_want rfl rfl ?_
    go_simp
    go_at_call 36
    refine (keep w.heap.size w (HR.out _) hB (Nat.le_refl _)).mono ?_
    rintro e w2 ⟨rfl, hB2, hb2⟩
    unfold fb6I
    exact ⟨j0, j1, j2, j3, j4, true, true, true, true, j9, j10, j11, j12, j13, j14, j15, j16, x0, x1, x2, x3, x4, _, _, _, _, x9, x10, x11, x12, x13, x14, x15, x16, rfl, rfl, hB2, h0.out, h1.out, h2.out, h3.out, h4.out, h5.out, h6.out, h7.out, fun _ => rfl, fun hj => (h9.out hj).below hb2, h10.out, h11.out, fun hj => (h12.out hj).below hb2, fun hj => (h13.out hj).below hb2, h14.out, h15.out, h16.out⟩
  · obtain rfl := Option.some.inj ho
    simp [Region.binds] at hu hd
    have d5 : j5 = true := by simp [hd]
    have e5 := h5.out d5
    subst e5
    have d8 : j8 = true := by simp [hd]
    have e8 := h8.out d8
    subst e8
    subst d5
    subst d8
    clear hd
    refine wpOp_want rfl rfl ?_
    go_simp
    go_at_call 14
    refine (nk w.heap.size w (HI.out _) hB (Nat.le_refl _)).mono ?_
    rintro e w2 ⟨v', rfl, hn', hB2, hb2⟩
    unfold fb6I
    exact ⟨j0, j1, j2, j3, j4, true, j6, j7, true, true, j10, j11, j12, j13, j14, j15, j16, x0, x1, x2, x3, x4, _, x6, x7, _, _, x10, x11, x12, x13, x14, x15, x16, rfl, rfl, hB2, h0.out, h1.out, h2.out, h3.out, h4.out, h5.out, h6.out, h7.out, h8.out, fun _ => hn', h10.out, h11.out, fun hj => (h12.out hj).below hb2, fun hj => (h13.out hj).below hb2, h14.out, h15.out, h16.out⟩
  · obtain rfl := Option.some.inj ho
    simp [Region.binds] at hu hd
    have d5 : j5 = true := by simp [hd]
    have e5 := h5.out d5
    subst e5
    subst d5
    clear hd
    refine wpOp_want rfl rfl ?_
    go_simp
    unfold fb6I
    exact ⟨j0, j1, j2, j3, j4, true, j6, j7, j8, j9, true, j11, j12, j13, j14, j15, j16, x0, x1, x2, x3, x4, _, x6, x7, x8, x9, _, x11, x12, x13, x14, x15, x16, rfl, rfl, hB, h0.out, h1.out, h2.out, h3.out, h4.out, h5.out, h6.out, h7.out, h8.out, h9.out, fun _ => rfl, h11.out, h12.out, h13.out, h14.out, h15.out, h16.out⟩
  · obtain rfl := Option.some.inj ho
    simp [Region.binds] at hu hd
    have d5 : j5 = true := by simp [hd]
    have e5 := h5.out d5
    subst e5
    subst d5
    clear hd
    refine wpOp_want rfl rfl ?_
    go_simp
    unfold fb6I
    exact ⟨j0, j1, j2, j3, j4, true, j6, j7, j8, j9, j10, true, j12, j13, j14, j15, j16, x0, x1, x2, x3, x4, _, x6, x7, x8, x9, x10, _, x12, x13, x14, x15, x16, rfl, rfl, hB, h0.out, h1.out, h2.out, h3.out, h4.out, h5.out, h6.out, h7.out, h8.out, h9.out, h10.out, fun _ => rfl, h12.out, h13.out, h14.out, h15.out, h16.out⟩
  · obtain rfl := Option.some.inj ho
    simp [Region.binds] at hu hd
    have d5 : j5 = true := by simp [hd]
    have e5 := h5.out d5
    subst e5
    have d11 : j11 = true := by simp [hd]
    have e11 := h11.out d11
    subst e11
    subst d5
    subst d11
    clear hd
    refine wpOp_want rfl rfl ?_
    go_simp
    go_at_call 18
    refine (nk w.heap.size w (HM.out _) hB (Nat.le_refl _)).mono ?_
    rintro e w2 ⟨v', rfl, hn', hB2, hb2⟩
    unfold fb6I
    exact ⟨j0, j1, j2, j3, j4, true, j6, j7, j8, j9, j10, true, true, j13, j14, j15, j16, x0, x1, x2, x3, x4, _, x6, x7, x8, x9, x10, _, _, x13, x14, x15, x16, rfl, rfl, hB2, h0.out, h1.out, h2.out, h3.out, h4.out, h5.out, h6.out, h7.out, h8.out, fun hj => (h9.out hj).below hb2, h10.out, h11.out, fun _ => hn', fun hj => (h13.out hj).below hb2, h14.out, h15.out, h16.out⟩
  · obtain rfl := Option.some.inj ho
    simp [Region.binds] at hu hd
    have d5 : j5 = true := by simp [hd]
    have e5 := h5.out d5
    subst e5
    have d10 : j10 = true := by simp [hd]
    have e10 := h10.out d10
    subst e10
    have d12 : j12 = true := by simp [hd]
    subst d5
    subst d10
    subst d12
    clear hd
    refine wpOp_want rfl rfl ?_
    go_simp
    go_at_call 27
    refine (nk w.heap.size w (HL.out _ _ _ (NR.below hB) (h12.out rfl)) hB (Nat.le_refl _)).mono ?_
    rintro e w2 ⟨v', rfl, hn', hB2, hb2⟩
    unfold fb6I
    exact ⟨j0, j1, j2, j3, j4, true, j6, j7, j8, j9, true, j11, true, true, j14, j15, j16, x0, x1, x2, x3, x4, _, x6, x7, x8, x9, _, x11, x12, _, x14, x15, x16, rfl, rfl, hB2, h0.out, h1.out, h2.out, h3.out, h4.out, h5.out, h6.out, h7.out, h8.out, fun hj => (h9.out hj).below hb2, h10.out, h11.out, fun hj => (h12.out hj).below hb2, fun _ => hn', h14.out, h15.out, h16.out⟩
  · obtain rfl := Option.some.inj ho
    simp [Region.binds] at hu hd
    have d5 : j5 = true := by simp [hd]
    have e5 := h5.out d5
    subst e5
    have d9 : j9 = true := by simp [hd]
    have d13 : j13 = true := by simp [hd]
    subst d5
    subst d9
    subst d13
    clear hd
    refine wpOp_want rfl rfl ?_
    go_simp
    go_at_call 17
    refine (keep w.heap.size w (is_same _ _ _ ur ur rfl (h9.out rfl) (h13.out rfl)) hB (Nat.le_refl _)).mono ?_
    rintro e w2 ⟨rfl, hB2, hb2⟩
    unfold fb6I
    exact ⟨j0, j1, j2, j3, j4, true, j6, j7, j8, true, j10, j11, j12, true, true, j15, j16, x0, x1, x2, x3, x4, _, x6, x7, x8, x9, x10, x11, x12, x13, _, x15, x16, rfl, rfl, hB2, h0.out, h1.out, h2.out, h3.out, h4.out, h5.out, h6.out, h7.out, h8.out, fun hj => (h9.out hj).below hb2, h10.out, h11.out, fun hj => (h12.out hj).below hb2, fun hj => (h13.out hj).below hb2, fun _ => rfl, h15.out, h16.out⟩
  · obtain rfl := Option.some.inj ho
    simp [Region.binds] at hu hd
    have d5 : j5 = true := by simp [hd]
    have e5 := h5.out d5
    subst e5
    have d14 : j14 = true := by simp [hd]
    have e14 := h14.out d14
    subst e14
    subst d5
    subst d14
    clear hd
    refine wpOp_of rfl rfl ?_
    go_simp
    unfold fb6I
    exact ⟨j0, j1, j2, j3, j4, true, j6, j7, j8, j9, j10, j11, j12, j13, true, true, j16, x0, x1, x2, x3, x4, _, x6, x7, x8, x9, x10, x11, x12, x13, _, _, x16, rfl, rfl, hB, h0.out, h1.out, h2.out, h3.out, h4.out, h5.out, h6.out, h7.out, h8.out, h9.out, h10.out, h11.out, h12.out, h13.out, h14.out, fun _ => rfl, h16.out⟩
  · obtain rfl := Option.some.inj ho
    simp [Region.binds] at hu hd
    have d15 : j15 = true := by simp [hd]
    have e15 := h15.out d15
    subst e15
    subst d15
    clear hd
    refine wpOp_of rfl rfl ?_
    go_simp
    unfold fb6I
    exact ⟨j0, j1, j2, j3, j4, j5, j6, j7, j8, j9, j10, j11, j12, j13, j14, true, true, x0, x1, x2, x3, x4, x5, x6, x7, x8, x9, x10, x11, x12, x13, x14, _, _, rfl, rfl, hB, h0.out, h1.out, h2.out, h3.out, h4.out, h5.out, h6.out, h7.out, h8.out, h9.out, h10.out, h11.out, h12.out, h13.out, h14.out, h15.out, fun _ => rfl⟩
set_option maxHeartbeats 16000000 in
theorem fb6_fin (gA ua ur nn : Nat) (mm : Int) (S : ByteArray) (B : ByteArray) (v9 : Value) (w : World) {t2 t3 t4 t7 t8 t10 t11 t12 t13 t14 t15 t16 t17 t18 t19 t20 t21 t22 t23 t24 t25 t26 t27 t28 t29 t30 t31 t32 t33 t34 t35 t36 t37 t38 t39 t40 t41 t42 t43 t44 t45 t46 t47 t48 t49 t50 t51 t52 t53 t54 t55 t56 t57 t58 t59 t60 t61 t62 t63 : Value} {ds : List Deferred} : ∀ l a w1, fb6I w gA ua ur nn mm S B v9 t2 t3 t4 t7 t8 t10 t11 t12 t13 t14 t15 t16 t17 t18 t19 t20 t21 t22 t23 t24 t25 t26 t27 t28 t29 t30 t31 t32 t33 t34 t35 t36 t37 t38 t39 t40 t41 t42 t43 t44 t45 t46 t47 t48 t49 t50 t51 t52 t53 t54 t55 t56 t57 t58 t59 t60 t61 t62 t63 ds l a w1 → Region.ready .any fb6O l = [] →
    ∃ (y0 y1 y2 y3 y4 y5 y6 y7 y8 y9 y10 y11 y12 y13 y14 y15 : Value) , a = { tmps := #[.int .i64 mm, .string S, t2, t3, t4, .pointer (some ⟨gA, 0, none⟩), .bool true, t7, t8, v9, t10, t11, t12, t13, t14, t15, t16, t17, t18, t19, t20, t21, t22, t23, t24, t25, t26, t27, t28, t29, t30, t31, t32, t33, t34, t35, t36, t37, t38, t39, t40, t41, t42, t43, t44, t45, t46, t47, t48, t49, t50, t51, t52, t53, t54, t55, t56, t57, t58, t59, t60, t61, t62, t63, y0, y1, y2, y3, y4, y5, y6, y7, y8, y9, y10, y11, y12, y13, y14, y15], defers := ds } ∧ Below w.heap.size w w1 := by
  simp only [fb6O, findR, Try.f6, Option.bind_some, Option.or, Option.getD, Nat.reduceEqDiff, if_true, if_false, reduceIte]
  rintro l a w1 ⟨j0, j1, j2, j3, j4, j5, j6, j7, j8, j9, j10, j11, j12, j13, j14, j15, j16, x0, x1, x2, x3, x4, x5, x6, x7, x8, x9, x10, x11, x12, x13, x14, x15, x16, rfl, rfl, hB, h0, h1, h2, h3, h4, h5, h6, h7, h8, h9, h10, h11, h12, h13, h14, h15, h16⟩ hr
  have hn := fun i => List.eq_nil_iff_forall_not_mem.1 hr i
  clear hr
  have d0 : j0 = true := by
    cases hj : j0
    · exact absurd (mem_ready.2 ⟨by simp [hj], _, rfl, by simp [Region.binds, hj]⟩) (hn 0)
    · rfl
  subst d0
  have d1 : j1 = true := by
    cases hj : j1
    · exact absurd (mem_ready.2 ⟨by simp [hj], _, rfl, by simp [Region.binds, hj]⟩) (hn 1)
    · rfl
  subst d1
  have d2 : j2 = true := by
    cases hj : j2
    · exact absurd (mem_ready.2 ⟨by simp [hj], _, rfl, by simp [Region.binds, hj]⟩) (hn 2)
    · rfl
  subst d2
  have d3 : j3 = true := by
    cases hj : j3
    · exact absurd (mem_ready.2 ⟨by simp [hj], _, rfl, by simp [Region.binds, hj]⟩) (hn 3)
    · rfl
  subst d3
  have d4 : j4 = true := by
    cases hj : j4
    · exact absurd (mem_ready.2 ⟨by simp [hj], _, rfl, by simp [Region.binds, hj]⟩) (hn 4)
    · rfl
  subst d4
  have d5 : j5 = true := by
    cases hj : j5
    · exact absurd (mem_ready.2 ⟨by simp [hj], _, rfl, by simp [Region.binds, hj]⟩) (hn 5)
    · rfl
  subst d5
  have d6 : j6 = true := by
    cases hj : j6
    · exact absurd (mem_ready.2 ⟨by simp [hj], _, rfl, by simp [Region.binds, hj]⟩) (hn 6)
    · rfl
  subst d6
  have d7 : j7 = true := by
    cases hj : j7
    · exact absurd (mem_ready.2 ⟨by simp [hj], _, rfl, by simp [Region.binds, hj]⟩) (hn 7)
    · rfl
  subst d7
  have d8 : j8 = true := by
    cases hj : j8
    · exact absurd (mem_ready.2 ⟨by simp [hj], _, rfl, by simp [Region.binds, hj]⟩) (hn 8)
    · rfl
  subst d8
  have d9 : j9 = true := by
    cases hj : j9
    · exact absurd (mem_ready.2 ⟨by simp [hj], _, rfl, by simp [Region.binds, hj]⟩) (hn 9)
    · rfl
  subst d9
  have d10 : j10 = true := by
    cases hj : j10
    · exact absurd (mem_ready.2 ⟨by simp [hj], _, rfl, by simp [Region.binds, hj]⟩) (hn 10)
    · rfl
  subst d10
  have d11 : j11 = true := by
    cases hj : j11
    · exact absurd (mem_ready.2 ⟨by simp [hj], _, rfl, by simp [Region.binds, hj]⟩) (hn 11)
    · rfl
  subst d11
  have d12 : j12 = true := by
    cases hj : j12
    · exact absurd (mem_ready.2 ⟨by simp [hj], _, rfl, by simp [Region.binds, hj]⟩) (hn 12)
    · rfl
  subst d12
  have d13 : j13 = true := by
    cases hj : j13
    · exact absurd (mem_ready.2 ⟨by simp [hj], _, rfl, by simp [Region.binds, hj]⟩) (hn 13)
    · rfl
  subst d13
  have d14 : j14 = true := by
    cases hj : j14
    · exact absurd (mem_ready.2 ⟨by simp [hj], _, rfl, by simp [Region.binds, hj]⟩) (hn 14)
    · rfl
  subst d14
  have d15 : j15 = true := by
    cases hj : j15
    · exact absurd (mem_ready.2 ⟨by simp [hj], _, rfl, by simp [Region.binds, hj]⟩) (hn 15)
    · rfl
  subst d15
  have d16 : j16 = true := by
    cases hj : j16
    · exact absurd (mem_ready.2 ⟨by simp [hj], _, rfl, by simp [Region.binds, hj]⟩) (hn 16)
    · rfl
  subst d16
  obtain rfl := h16 rfl
  exact ⟨_, _, _, _, _, _, _, _, _, _, _, _, _, _, _, _, rfl, hB⟩
theorem fb6 (gA ua ur nn : Nat) (mm : Int) (S : ByteArray) (B : ByteArray) (v9 : Value) (w : World) (KA : Bk 24 w gA #[.int .u64 (lb ua 0 : Nat), .int .u64 (lb ua 1 : Nat), .int .u64 (lb ua 2 : Nat), .int .u64 (lb ua 3 : Nat)]) (NR : NV w v9 nn) (HF : Hid (∀ w, Calls Try.prog 34 #[.agg #[.int .u64 (lb ua 0 : Nat), .int .u64 (lb ua 1 : Nat), .int .u64 (lb ua 2 : Nat), .int .u64 (lb ua 3 : Nat)]] w fun e w' => e = .returned (.string B) ∧ Below w.heap.size w w')) (HG : Hid (∀ w, Calls Try.prog 35 #[.agg #[.int .u64 (lb ua 0 : Nat), .int .u64 (lb ua 1 : Nat), .int .u64 (lb ua 2 : Nat), .int .u64 (lb ua 3 : Nat)]] w fun e w' => e = .returned (.string B) ∧ Below w.heap.size w w')) (HR : Hid (∀ w, Calls Try.prog 36 #[.int .i64 mm, .string S] w fun e w' => e = .returned (.agg #[.int .u64 (lb ur 0 : Nat), .int .u64 (lb ur 1 : Nat), .int .u64 (lb ur 2 : Nat), .int .u64 (lb ur 3 : Nat)]) ∧ Below w.heap.size w w')) (HI : Hid (∀ w, Calls Try.prog 14 #[.agg #[.int .u64 (lb ur 0 : Nat), .int .u64 (lb ur 1 : Nat), .int .u64 (lb ur 2 : Nat), .int .u64 (lb ur 3 : Nat)]] w fun e w' => ∃ v', e = .returned v' ∧ Nr w w' v' ur)) (HM : Hid (∀ w, Calls Try.prog 18 #[.int .i64 mm] w fun e w' => ∃ v', e = .returned v' ∧ Nr w w' v' (md mm))) (HL : Hid (∀ v u w, NV w v nn → NV w u (md mm) → Calls Try.prog 27 #[v, u] w fun e w' => ∃ v', e = .returned v' ∧ Nr w w' v' ur)) {t2 t3 t4 t7 t8 t10 t11 t12 t13 t14 t15 t16 t17 t18 t19 t20 t21 t22 t23 t24 t25 t26 t27 t28 t29 t30 t31 t32 t33 t34 t35 t36 t37 t38 t39 t40 t41 t42 t43 t44 t45 t46 t47 t48 t49 t50 t51 t52 t53 t54 t55 t56 t57 t58 t59 t60 t61 t62 t63 t64 t65 t66 t67 t68 t69 t70 t71 t72 t73 t74 t75 t76 t77 t78 t79 : Value} {ds : List Deferred} {K : Act → World → Prop} {Q : Exit → Act → World → Prop}
    (h : ∀ (y0 y1 y2 y3 y4 y5 y6 y7 y8 y9 y10 y11 y12 y13 y14 y15 : Value) (w1 : World) (hb : Below w.heap.size w w1), K { tmps := #[.int .i64 mm, .string S, t2, t3, t4, .pointer (some ⟨gA, 0, none⟩), .bool true, t7, t8, v9, t10, t11, t12, t13, t14, t15, t16, t17, t18, t19, t20, t21, t22, t23, t24, t25, t26, t27, t28, t29, t30, t31, t32, t33, t34, t35, t36, t37, t38, t39, t40, t41, t42, t43, t44, t45, t46, t47, t48, t49, t50, t51, t52, t53, t54, t55, t56, t57, t58, t59, t60, t61, t62, t63, y0, y1, y2, y3, y4, y5, y6, y7, y8, y9, y10, y11, y12, y13, y14, y15], defers := ds } w1) :
    (Code.region 6 fb6O true).wp Try.prog (Exit.then K Q) { tmps := #[.int .i64 mm, .string S, t2, t3, t4, .pointer (some ⟨gA, 0, none⟩), .bool false, t7, t8, v9, t10, t11, t12, t13, t14, t15, t16, t17, t18, t19, t20, t21, t22, t23, t24, t25, t26, t27, t28, t29, t30, t31, t32, t33, t34, t35, t36, t37, t38, t39, t40, t41, t42, t43, t44, t45, t46, t47, t48, t49, t50, t51, t52, t53, t54, t55, t56, t57, t58, t59, t60, t61, t62, t63, t64, t65, t66, t67, t68, t69, t70, t71, t72, t73, t74, t75, t76, t77, t78, t79], defers := ds } w := by
  have hsz : fb6O.size = 17 := by kernel_rfl
  refine wp_region_any (show Try.prog.follows .mixedOrders = true from by kernel_rfl) ?_
  rw [hsz]
  refine wpAny_inv (I := fb6I w gA ua ur nn mm S B v9 t2 t3 t4 t7 t8 t10 t11 t12 t13 t14 t15 t16 t17 t18 t19 t20 t21 t22 t23 t24 t25 t26 t27 t28 t29 t30 t31 t32 t33 t34 t35 t36 t37 t38 t39 t40 t41 t42 t43 t44 t45 t46 t47 t48 t49 t50 t51 t52 t53 t54 t55 t56 t57 t58 t59 t60 t61 t62 t63 ds) (fb6_steps gA ua ur nn mm S B v9 w KA NR HF HG HR HI HM HL) (fun l a w' hI hr => ?_) 17 _ _ _ (by decide) ?_
  · obtain ⟨y0, y1, y2, y3, y4, y5, y6, y7, y8, y9, y10, y11, y12, y13, y14, y15, rfl, hb⟩ := fb6_fin gA ua ur nn mm S B v9 w l a w' hI hr
    exact h _ _ _ _ _ _ _ _ _ _ _ _ _ _ _ _ w' hb
  · exact ⟨false, false, false, false, false, false, false, false, false, false, false, false, false, false, false, false, false, t64, t65, t66, t67, t68, t69, t70, t71, t72, t73, t74, t75, t76, t77, t78, t79, .bool false, rfl, rfl, ⟨rfl, rfl, rfl, Nat.le_refl _, fun _ _ => rfl⟩, (fun h => by cases h), (fun h => by cases h), (fun h => by cases h), (fun h => by cases h), (fun h => by cases h), (fun h => by cases h), (fun h => by cases h), (fun h => by cases h), (fun h => by cases h), (fun h => by cases h), (fun h => by cases h), (fun h => by cases h), (fun h => by cases h), (fun h => by cases h), (fun h => by cases h), (fun h => by cases h), (fun h => by cases h)⟩

set_option maxHeartbeats 16000000 in
theorem fieldbytes_walk (m : Int) (s : List UInt8) (hs : s.length ≤ 1048576) (ua : Nat) (ha : ua < W256) (w : World) :
    Calls Try.prog 6 #[.int .i64 m, .string ⟨s.toArray⟩, nv ua] w fun r w' => r = .returned (.bool true) ∧ Below w.heap.size w w' := by
  have H0 := Lib.hid awake_any
  have HO := Lib.hid (fun w => of_any m s (by omega) w)
  have HRD := Lib.hid (fun w => read_any s (by omega) w)
  have HMR := Lib.hid (fun w => modref_any m w)
  have HBA := Lib.hid (fun w => bytes_any ua w)
  have HBR := Lib.hid (fun w => rbytes_any ua w)
  have HRE := Lib.hid (fun w => reduce_any m s (by omega) w)
  have hur : bv s % md m < W256 := Nat.lt_trans (Nat.mod_lt _ (md_pos m)) (md_lt (md_or m)).1
  have HIR := Lib.hid (fun w => in_any _ hur w)
  have HLL := Lib.hid (fun v u w h k => left_long s.length (by omega) v u w (bv s) (md m) (Nat.lt_of_lt_of_le (bv_lt s) (Nat.pow_le_pow_left (by decide) _)) (md_big m) (md_pos m) h k)
  have HSM : Hid (md m < W256) := Lib.hid (md_lt (md_or m)).1
  have hsz : (⟨s.toArray⟩ : ByteArray).size = s.length := by simp [ByteArray.size]
  have HSZ := Lib.hid hsz
  generalize (⟨s.toArray⟩ : ByteArray) = SB at HO HRD HRE hsz HSZ ⊢
  generalize (⟨(nb ua).toArray⟩ : ByteArray) = BB at HBA HBR
  by_cases hf : s.length = 32 ∧ bv s < md m
  · have HFI := Lib.hid hf
    have hl32 : SB.size = 32 := by rw [hsz]; exact hf.1
    have hxW : bv s < W256 := Nat.lt_trans hf.2 HSM.out
    have HIX := Lib.hid (fun w => in_any _ hxW w)
    simp only [if_pos hf] at HO
    simp only [nv, num] at HIX
    clear hf hsz hs ha hur hxW
    simp only [nv, num] at HO HBA HBR HRE HIR ⊢
    generalize bv s % md m = ur at HRE HIR HLL
    go_enter Try.func6, Try.ntmps6
    go_wp2_with fail
    have KA : Hid (Bk 24 (w.alloc (.cells #[.int .u64 (lb ua 0 : Nat), .int .u64 (lb ua 1 : Nat), .int .u64 (lb ua 2 : Nat), .int .u64 (lb ua 3 : Nat)] 24)) w.heap.size #[.int .u64 (lb ua 0 : Nat), .int .u64 (lb ua 1 : Nat), .int .u64 (lb ua 2 : Nat), .int .u64 (lb ua 3 : Nat)]) := Lib.hid (Bk.new rfl)
    have HB : Hid (Below w.heap.size w (w.alloc (.cells #[.int .u64 (lb ua 0 : Nat), .int .u64 (lb ua 1 : Nat), .int .u64 (lb ua 2 : Nat), .int .u64 (lb ua 3 : Nat)] 24))) := Lib.hid (by go_grown)
    generalize (w.alloc (.cells #[.int .u64 (lb ua 0 : Nat), .int .u64 (lb ua 1 : Nat), .int .u64 (lb ua 2 : Nat), .int .u64 (lb ua 3 : Nat)] 24)) = w0 at KA HB ⊢
    refine (keep w.heap.size w (HO.out _) HB.out (Nat.le_refl _)).mono ?_
    rintro e w1 ⟨rfl, hb, hk⟩
    replace KA := Lib.hid (KA.out.below hk)
    replace HB := Lib.hid hb
    clear hb hk
    go_wp2_with fail
    replace KA := Lib.hid (KA.out.alloc (o := .cells #[.int .u64 (lb (bv s) 0 : Nat), .int .u64 (lb (bv s) 1 : Nat), .int .u64 (lb (bv s) 2 : Nat), .int .u64 (lb (bv s) 3 : Nat)] 24))
    have KX : Hid (Bk 24 (w1.alloc (.cells #[.int .u64 (lb (bv s) 0 : Nat), .int .u64 (lb (bv s) 1 : Nat), .int .u64 (lb (bv s) 2 : Nat), .int .u64 (lb (bv s) 3 : Nat)] 24)) w1.heap.size #[.int .u64 (lb (bv s) 0 : Nat), .int .u64 (lb (bv s) 1 : Nat), .int .u64 (lb (bv s) 2 : Nat), .int .u64 (lb (bv s) 3 : Nat)]) := Lib.hid (Bk.new rfl)
    replace HB := Lib.hid (HB.out.trans ((al_below w1 (.cells #[.int .u64 (lb (bv s) 0 : Nat), .int .u64 (lb (bv s) 1 : Nat), .int .u64 (lb (bv s) 2 : Nat), .int .u64 (lb (bv s) 3 : Nat)] 24)).mono HB.out.size))
    obtain ⟨gx, hgx⟩ : ∃ g, g = w1.heap.size := ⟨_, rfl⟩
    rw [← hgx] at KX ⊢
    generalize (w1.alloc (.cells #[.int .u64 (lb (bv s) 0 : Nat), .int .u64 (lb (bv s) 1 : Nat), .int .u64 (lb (bv s) 2 : Nat), .int .u64 (lb (bv s) 3 : Nat)] 24)) = w2 at KA KX HB ⊢
    clear hgx
    refine (nk w.heap.size w (HRD.out _) HB.out (Nat.le_refl _)).mono ?_
    rintro e w3 ⟨v3, rfl, n3, hb, hk⟩
    replace KA := Lib.hid (KA.out.below hk)
    replace KX := Lib.hid (KX.out.below hk)
    have N3 := Lib.hid n3
    replace HB := Lib.hid hb
    clear n3 hb hk
    go_wp2_with fail
    refine (nk w.heap.size w (HMR.out _) HB.out (Nat.le_refl _)).mono ?_
    rintro e w4 ⟨v4, rfl, n4, hb, hk⟩
    replace KA := Lib.hid (KA.out.below hk)
    replace KX := Lib.hid (KX.out.below hk)
    replace N3 := Lib.hid (N3.out.below hk)
    have N4 := Lib.hid n4
    replace HB := Lib.hid hb
    clear n4 hb hk
    go_wp2_with fail
    have HC := Lib.hid (cmp_nv _ _ _ _ _ N3.out N4.out)
    rw [cmpN_lt HFI.out.2] at HC
    refine HC.out.mono ?_
    rintro e w5 ⟨rfl, s5⟩
    replace KA := Lib.hid (KA.out.below s5.below0)
    replace KX := Lib.hid (KX.out.below s5.below0)
    replace N3 := Lib.hid (N3.out.below s5.below0)
    replace HB := Lib.hid (s5.below HB.out)
    clear s5 HC N4
    go_wp2_with fail
    refine (keep w.heap.size w (H0.out _) HB.out (Nat.le_refl _)).mono ?_
    rintro e w6 ⟨rfl, hb, hk⟩
    replace KA := Lib.hid (KA.out.below hk)
    replace KX := Lib.hid (KX.out.below hk)
    replace N3 := Lib.hid (N3.out.below hk)
    replace HB := Lib.hid hb
    clear hb hk
    obtain ⟨a0, a1, a2, a3⟩ := KX.out.cells
    go_wp2_with fail
    clear a0 a1 a2 a3
    refine (nk w.heap.size w (HIX.out _) HB.out (Nat.le_refl _)).mono ?_
    rintro e w7 ⟨v7, rfl, n7, hb, hk⟩
    replace KA := Lib.hid (KA.out.below hk)
    replace N3 := Lib.hid (N3.out.below hk)
    have N7 := Lib.hid n7
    replace HB := Lib.hid hb
    clear n7 hb hk KX
    go_wp2_with fail
    refine (keep w.heap.size w (is_same _ _ _ (bv s) (bv s) rfl N7.out N3.out) HB.out (Nat.le_refl _)).mono ?_
    rintro e w8 ⟨rfl, hb, hk⟩
    replace KA := Lib.hid (KA.out.below hk)
    replace N3 := Lib.hid (N3.out.below hk)
    replace HB := Lib.hid hb
    clear hb hk N7
    go_wp2_with fail
    refine fb6 w.heap.size ua ur (bv s) m SB BB v3 w8 KA.out N3.out HBA HBR HRE HIR HMR HLL ?_
    intros
    rename_i wz hz
    replace HB := Lib.hid (HB.out.trans (hz.mono HB.out.size))
    go_wp2_with fail
    go_ret
    exact ⟨rfl, HB.out⟩
  · by_cases hl : s.length = 32
    · have HFI : Hid (¬ bv s < md m) := Lib.hid (fun h => hf ⟨hl, h⟩)
      have hl32 : SB.size = 32 := by rw [hsz]; exact hl
      simp only [if_neg hf, nv_zero] at HO
      clear hf hsz hs ha hur hl
      simp only [nv, num] at HO HBA HBR HRE HIR ⊢
      generalize bv s % md m = ur at HRE HIR HLL
      go_enter Try.func6, Try.ntmps6
      go_wp2_with fail
      have KA : Hid (Bk 24 (w.alloc (.cells #[.int .u64 (lb ua 0 : Nat), .int .u64 (lb ua 1 : Nat), .int .u64 (lb ua 2 : Nat), .int .u64 (lb ua 3 : Nat)] 24)) w.heap.size #[.int .u64 (lb ua 0 : Nat), .int .u64 (lb ua 1 : Nat), .int .u64 (lb ua 2 : Nat), .int .u64 (lb ua 3 : Nat)]) := Lib.hid (Bk.new rfl)
      have HB : Hid (Below w.heap.size w (w.alloc (.cells #[.int .u64 (lb ua 0 : Nat), .int .u64 (lb ua 1 : Nat), .int .u64 (lb ua 2 : Nat), .int .u64 (lb ua 3 : Nat)] 24))) := Lib.hid (by go_grown)
      generalize (w.alloc (.cells #[.int .u64 (lb ua 0 : Nat), .int .u64 (lb ua 1 : Nat), .int .u64 (lb ua 2 : Nat), .int .u64 (lb ua 3 : Nat)] 24)) = w0 at KA HB ⊢
      refine (keep w.heap.size w (HO.out _) HB.out (Nat.le_refl _)).mono ?_
      rintro e w1 ⟨rfl, hb, hk⟩
      replace KA := Lib.hid (KA.out.below hk)
      replace HB := Lib.hid hb
      clear hb hk
      go_wp2_with fail
      replace KA := Lib.hid (KA.out.alloc (o := .cells #[.int .u64 0, .int .u64 0, .int .u64 0, .int .u64 0] 24))
      have KX : Hid (Bk 24 (w1.alloc (.cells #[.int .u64 0, .int .u64 0, .int .u64 0, .int .u64 0] 24)) w1.heap.size #[.int .u64 0, .int .u64 0, .int .u64 0, .int .u64 0]) := Lib.hid (Bk.new rfl)
      replace HB := Lib.hid (HB.out.trans ((al_below w1 (.cells #[.int .u64 0, .int .u64 0, .int .u64 0, .int .u64 0] 24)).mono HB.out.size))
      obtain ⟨gx, hgx⟩ : ∃ g, g = w1.heap.size := ⟨_, rfl⟩
      rw [← hgx] at KX ⊢
      generalize (w1.alloc (.cells #[.int .u64 0, .int .u64 0, .int .u64 0, .int .u64 0] 24)) = w2 at KA KX HB ⊢
      clear hgx
      refine (nk w.heap.size w (HRD.out _) HB.out (Nat.le_refl _)).mono ?_
      rintro e w3 ⟨v3, rfl, n3, hb, hk⟩
      replace KA := Lib.hid (KA.out.below hk)
      replace KX := Lib.hid (KX.out.below hk)
      have N3 := Lib.hid n3
      replace HB := Lib.hid hb
      clear n3 hb hk
      go_wp2_with fail
      refine (nk w.heap.size w (HMR.out _) HB.out (Nat.le_refl _)).mono ?_
      rintro e w4 ⟨v4, rfl, n4, hb, hk⟩
      replace KA := Lib.hid (KA.out.below hk)
      replace KX := Lib.hid (KX.out.below hk)
      replace N3 := Lib.hid (N3.out.below hk)
      have N4 := Lib.hid n4
      replace HB := Lib.hid hb
      clear n4 hb hk
      go_wp2_with fail
      have HC := Lib.hid (cmp_nv _ _ _ _ _ N3.out N4.out)
      have hcm : 0 ≤ cmpN (bv s) (md m) := by unfold cmpN; rw [if_neg HFI.out]; split <;> omega
      generalize cmpN (bv s) (md m) = cm at HC hcm
      refine HC.out.mono ?_
      rintro e w5 ⟨rfl, s5⟩
      replace KA := Lib.hid (KA.out.below s5.below0)
      replace KX := Lib.hid (KX.out.below s5.below0)
      replace N3 := Lib.hid (N3.out.below s5.below0)
      replace HB := Lib.hid (s5.below HB.out)
      clear s5 HC N4
      go_wp2_with fail
      refine (keep w.heap.size w (H0.out _) HB.out (Nat.le_refl _)).mono ?_
      rintro e w6 ⟨rfl, hb, hk⟩
      replace KA := Lib.hid (KA.out.below hk)
      replace KX := Lib.hid (KX.out.below hk)
      replace N3 := Lib.hid (N3.out.below hk)
      replace HB := Lib.hid hb
      clear hb hk
      obtain ⟨a0, a1, a2, a3⟩ := KX.out.cells
      have heq : ∀ w, (Op.equalIn 10000 24 (.agg #[.int .u64 0, .int .u64 0, .int .u64 0, .int .u64 0]) (.agg #[.int .u64 0, .int .u64 0, .int .u64 0, .int .u64 0])).run Try.prog w = .ok true w := fun w => eqN 0 0 (by decide +kernel) (by decide +kernel) w
      go_wp2_with fail
      clear a0 a1 a2 a3
      refine fb6 w.heap.size ua ur (bv s) m SB BB v3 w6 KA.out N3.out HBA HBR HRE HIR HMR HLL ?_
      intros
      rename_i wz hz
      replace HB := Lib.hid (HB.out.trans (hz.mono HB.out.size))
      go_wp2_with fail
      go_ret
      exact ⟨rfl, HB.out⟩
    · have hne : ((s.length : Nat) : Int) ≠ 32 := by omega
      have hl32 : (((SB.size : Nat) : Int) == 32) = false := by rw [hsz]; simpa using hne
      clear hne
      simp only [if_neg hf, nv_zero] at HO
      clear hf hsz hs ha hur hl
      simp only [nv, num] at HO HBA HBR HRE HIR ⊢
      generalize bv s % md m = ur at HRE HIR HLL
      go_enter Try.func6, Try.ntmps6
      go_wp2_with fail
      have KA : Hid (Bk 24 (w.alloc (.cells #[.int .u64 (lb ua 0 : Nat), .int .u64 (lb ua 1 : Nat), .int .u64 (lb ua 2 : Nat), .int .u64 (lb ua 3 : Nat)] 24)) w.heap.size #[.int .u64 (lb ua 0 : Nat), .int .u64 (lb ua 1 : Nat), .int .u64 (lb ua 2 : Nat), .int .u64 (lb ua 3 : Nat)]) := Lib.hid (Bk.new rfl)
      have HB : Hid (Below w.heap.size w (w.alloc (.cells #[.int .u64 (lb ua 0 : Nat), .int .u64 (lb ua 1 : Nat), .int .u64 (lb ua 2 : Nat), .int .u64 (lb ua 3 : Nat)] 24))) := Lib.hid (by go_grown)
      generalize (w.alloc (.cells #[.int .u64 (lb ua 0 : Nat), .int .u64 (lb ua 1 : Nat), .int .u64 (lb ua 2 : Nat), .int .u64 (lb ua 3 : Nat)] 24)) = w0 at KA HB ⊢
      refine (keep w.heap.size w (HO.out _) HB.out (Nat.le_refl _)).mono ?_
      rintro e w1 ⟨rfl, hb, hk⟩
      replace KA := Lib.hid (KA.out.below hk)
      replace HB := Lib.hid hb
      clear hb hk
      go_wp2_with fail
      replace KA := Lib.hid (KA.out.alloc (o := .cells #[.int .u64 0, .int .u64 0, .int .u64 0, .int .u64 0] 24))
      have KX : Hid (Bk 24 (w1.alloc (.cells #[.int .u64 0, .int .u64 0, .int .u64 0, .int .u64 0] 24)) w1.heap.size #[.int .u64 0, .int .u64 0, .int .u64 0, .int .u64 0]) := Lib.hid (Bk.new rfl)
      replace HB := Lib.hid (HB.out.trans ((al_below w1 (.cells #[.int .u64 0, .int .u64 0, .int .u64 0, .int .u64 0] 24)).mono HB.out.size))
      obtain ⟨gx, hgx⟩ : ∃ g, g = w1.heap.size := ⟨_, rfl⟩
      rw [← hgx] at KX ⊢
      generalize (w1.alloc (.cells #[.int .u64 0, .int .u64 0, .int .u64 0, .int .u64 0] 24)) = w2 at KA KX HB ⊢
      clear hgx
      refine (nk w.heap.size w (HRD.out _) HB.out (Nat.le_refl _)).mono ?_
      rintro e w3 ⟨v3, rfl, n3, hb, hk⟩
      replace KA := Lib.hid (KA.out.below hk)
      replace KX := Lib.hid (KX.out.below hk)
      have N3 := Lib.hid n3
      replace HB := Lib.hid hb
      clear n3 hb hk
      go_wp2_with fail
      refine (keep w.heap.size w (H0.out _) HB.out (Nat.le_refl _)).mono ?_
      rintro e w6 ⟨rfl, hb, hk⟩
      replace KA := Lib.hid (KA.out.below hk)
      replace KX := Lib.hid (KX.out.below hk)
      replace N3 := Lib.hid (N3.out.below hk)
      replace HB := Lib.hid hb
      clear hb hk
      obtain ⟨a0, a1, a2, a3⟩ := KX.out.cells
      have heq : ∀ w, (Op.equalIn 10000 24 (.agg #[.int .u64 0, .int .u64 0, .int .u64 0, .int .u64 0]) (.agg #[.int .u64 0, .int .u64 0, .int .u64 0, .int .u64 0])).run Try.prog w = .ok true w := fun w => eqN 0 0 (by decide +kernel) (by decide +kernel) w
      go_wp2_with fail
      clear a0 a1 a2 a3
      refine fb6 w.heap.size ua ur (bv s) m SB BB v3 w6 KA.out N3.out HBA HBR HRE HIR HMR HLL ?_
      intros
      rename_i wz hz
      replace HB := Lib.hid (HB.out.trans (hz.mono HB.out.size))
      go_wp2_with fail
      go_ret
      exact ⟨rfl, HB.out⟩
end Go.Proofs.Ytglmmodkflkkkaa.Ref
