import Derived.Test.YtglmmodkflkkkaaXKv
set_option linter.unusedVariables false
set_option linter.unusedSimpArgs false
set_option maxRecDepth 100000
namespace Go.Proofs.Ytglmmodkflkkkaa.Ref
open Go.RowKit Go.Proofs.Ytglmmodkflkkkaa.Digits Limbs Curve
def cs6F (w0 : World) (gN gP gA kx px py ax ay : Nat) (pi ai : Bool) (t0 t1 t7 t8 t9 t10 t11 t12 t13 t14 t15 t16 t17 t18 t19 t20 t21 t22 t23 t24 : Value) (ds : List Deferred) (a : Act) (w : World) : Prop :=
  ∃ y0 y1 y2 y3 y4 y5 y6 y7 y8 y9 y10 y11 y12 y13 y14 y15 y16 y17 y18 y19 y20 y21 : Value, ∃ wm : World, a = { tmps := #[t0, t1, .pointer (some ⟨gN, 0, none⟩), .pointer (some ⟨gP, 0, none⟩), .bool true, .pointer (some ⟨gA, 0, none⟩), .int .i64 0, t7, t8, t9, t10, t11, t12, t13, t14, t15, t16, t17, t18, t19, t20, t21, t22, t23, t24, y0, y1, y2, y3, y4, y5, y6, y7, y8, y9, y10, y11, y12, y13, y14, y15, y16, y17, y18, y19, y20, y21], defers := ds } ∧ Below w0.heap.size w0 wm ∧ w = wm
def cs6I (w0 : World) (gN gP gA kx px py ax ay : Nat) (pi ai : Bool) (t0 t1 t7 t8 t9 t10 t11 t12 t13 t14 t15 t16 t17 t18 t19 t20 t21 t22 t23 t24 : Value) (ds : List Deferred) (l : Array Bool) (a : Act) (w : World) : Prop :=
  ∃ j0 j1 j2 j3 j4 j5 j6 j7 j8 j9 j10 j11 j12 j13 j14 j15 j16 j17 j18 j19 j20 j21 j22 : Bool, ∃ x0 x1 x2 x3 x4 x5 x6 x7 x8 x9 x10 x11 x12 x13 x14 x15 x16 x17 x18 x19 x20 x21 x22 : Value, l = #[j0, j1, j2, j3, j4, j5, j6, j7, j8, j9, j10, j11, j12, j13, j14, j15, j16, j17, j18, j19, j20, j21, j22] ∧ a = { tmps := #[t0, t1, .pointer (some ⟨gN, 0, none⟩), .pointer (some ⟨gP, 0, none⟩), x22, .pointer (some ⟨gA, 0, none⟩), .int .i64 0, t7, t8, t9, t10, t11, t12, t13, t14, t15, t16, t17, t18, t19, t20, t21, t22, t23, t24, x0, x1, x2, x3, x4, x5, x6, x7, x8, x9, x10, x11, x12, x13, x14, x15, x16, x17, x18, x19, x20, x21], defers := ds } ∧ Below w0.heap.size w0 w ∧
  (j0 = true → x0 = .int .i64 0) ∧ (j1 = true → x1 = .bool true) ∧ (j2 = true → x2 = .bool true) ∧ (j3 = true → x3 = .agg #[.int .u64 (lb ax 0 : Nat), .int .u64 (lb ax 1 : Nat), .int .u64 (lb ax 2 : Nat), .int .u64 (lb ax 3 : Nat), .int .u64 (lb ay 0 : Nat), .int .u64 (lb ay 1 : Nat), .int .u64 (lb ay 2 : Nat), .int .u64 (lb ay 3 : Nat), .bool ai]) ∧ (j4 = true → x4 = .agg #[.int .u64 (lb px 0 : Nat), .int .u64 (lb px 1 : Nat), .int .u64 (lb px 2 : Nat), .int .u64 (lb px 3 : Nat), .int .u64 (lb py 0 : Nat), .int .u64 (lb py 1 : Nat), .int .u64 (lb py 2 : Nat), .int .u64 (lb py 3 : Nat), .bool pi]) ∧ (j5 = true → RP w x5 ((Po.mk px py pi))) ∧ (j6 = true → x6 = .agg #[.int .u64 (lb kx 0 : Nat), .int .u64 (lb kx 1 : Nat), .int .u64 (lb kx 2 : Nat), .int .u64 (lb kx 3 : Nat)]) ∧ (j7 = true → NV w x7 (kx)) ∧ (j8 = true → RP w x8 ((mulB (Po.mk px py pi) kx 0))) ∧ (j9 = true → x9 = .agg #[.int .u64 (lb ax 0 : Nat), .int .u64 (lb ax 1 : Nat), .int .u64 (lb ax 2 : Nat), .int .u64 (lb ax 3 : Nat), .int .u64 (lb ay 0 : Nat), .int .u64 (lb ay 1 : Nat), .int .u64 (lb ay 2 : Nat), .int .u64 (lb ay 3 : Nat), .bool ai]) ∧ (j10 = true → x10 = .bool true) ∧ (j11 = true → x11 = .bool true) ∧ (j12 = true → x12 = .bool true) ∧ (j13 = true → x13 = .agg #[.int .u64 (lb ax 0 : Nat), .int .u64 (lb ax 1 : Nat), .int .u64 (lb ax 2 : Nat), .int .u64 (lb ax 3 : Nat), .int .u64 (lb ay 0 : Nat), .int .u64 (lb ay 1 : Nat), .int .u64 (lb ay 2 : Nat), .int .u64 (lb ay 3 : Nat), .bool ai]) ∧ (j14 = true → x14 = .agg #[.int .u64 (lb px 0 : Nat), .int .u64 (lb px 1 : Nat), .int .u64 (lb px 2 : Nat), .int .u64 (lb px 3 : Nat), .int .u64 (lb py 0 : Nat), .int .u64 (lb py 1 : Nat), .int .u64 (lb py 2 : Nat), .int .u64 (lb py 3 : Nat), .bool pi]) ∧ (j15 = true → RP w x15 ((Po.mk px py pi))) ∧ (j16 = true → x16 = .agg #[.int .u64 (lb kx 0 : Nat), .int .u64 (lb kx 1 : Nat), .int .u64 (lb kx 2 : Nat), .int .u64 (lb kx 3 : Nat)]) ∧ (j17 = true → NV w x17 (kx)) ∧ (j18 = true → RP w x18 ((mulB (Po.mk px py pi) kx 0))) ∧ (j19 = true → x19 = .agg #[.int .u64 (lb ax 0 : Nat), .int .u64 (lb ax 1 : Nat), .int .u64 (lb ax 2 : Nat), .int .u64 (lb ax 3 : Nat), .int .u64 (lb ay 0 : Nat), .int .u64 (lb ay 1 : Nat), .int .u64 (lb ay 2 : Nat), .int .u64 (lb ay 3 : Nat), .bool ai]) ∧ (j20 = true → x20 = .bool true) ∧ (j21 = true → x21 = .bool true) ∧ (j22 = true → x22 = .bool true)
noncomputable def cs6O : Array Oper := (Try.f10.body.bind fun c => findR c 6).getD #[]
set_option maxHeartbeats 16000000 in
theorem cs6_steps (gN gP gA kx px py ax ay : Nat) (pi ai : Bool) (w : World) (KN : Bk 24 w gN #[.int .u64 (lb kx 0 : Nat), .int .u64 (lb kx 1 : Nat), .int .u64 (lb kx 2 : Nat), .int .u64 (lb kx 3 : Nat)]) (KP : Bk 51 w gP #[.int .u64 (lb px 0 : Nat), .int .u64 (lb px 1 : Nat), .int .u64 (lb px 2 : Nat), .int .u64 (lb px 3 : Nat), .int .u64 (lb py 0 : Nat), .int .u64 (lb py 1 : Nat), .int .u64 (lb py 2 : Nat), .int .u64 (lb py 3 : Nat), .bool pi]) (KA : Bk 51 w gA #[.int .u64 (lb ax 0 : Nat), .int .u64 (lb ax 1 : Nat), .int .u64 (lb ax 2 : Nat), .int .u64 (lb ax 3 : Nat), .int .u64 (lb ay 0 : Nat), .int .u64 (lb ay 1 : Nat), .int .u64 (lb ay 2 : Nat), .int .u64 (lb ay 3 : Nat), .bool ai]) (HIP : Hid (∀ w, Calls Try.prog 46 #[.agg #[.int .u64 (lb px 0 : Nat), .int .u64 (lb px 1 : Nat), .int .u64 (lb px 2 : Nat), .int .u64 (lb px 3 : Nat), .int .u64 (lb py 0 : Nat), .int .u64 (lb py 1 : Nat), .int .u64 (lb py 2 : Nat), .int .u64 (lb py 3 : Nat), .bool pi]] w fun e w' => ∃ v', e = .returned v' ∧ RP w' v' (Po.mk px py pi) ∧ Below w.heap.size w w')) (HIK : Hid (∀ w, Calls Try.prog 14 #[.agg #[.int .u64 (lb kx 0 : Nat), .int .u64 (lb kx 1 : Nat), .int .u64 (lb kx 2 : Nat), .int .u64 (lb kx 3 : Nat)]] w fun e w' => ∃ v', e = .returned v' ∧ Nr w w' v' kx)) (HTI : Hid (∀ v u w, RP w v (Po.mk px py pi) → NV w u kx → Calls Try.prog 51 #[v, u] w fun e w' => ∃ v', e = .returned v' ∧ RP w' v' (mulB (Po.mk px py pi) kx 0) ∧ Below w.heap.size w w')) (HFA : Hid (∀ v u w, RP w v (Po.mk px py pi) → NV w u kx → Calls Try.prog 52 #[v, u] w fun e w' => ∃ v', e = .returned v' ∧ RP w' v' (mulB (Po.mk px py pi) kx 0) ∧ Below w.heap.size w w')) (HOU : Hid (∀ v w, RP w v (mulB (Po.mk px py pi) kx 0) → Calls Try.prog 48 #[v] w fun e w' => e = .returned (.agg #[.int .u64 (lb ax 0 : Nat), .int .u64 (lb ax 1 : Nat), .int .u64 (lb ax 2 : Nat), .int .u64 (lb ax 3 : Nat), .int .u64 (lb ay 0 : Nat), .int .u64 (lb ay 1 : Nat), .int .u64 (lb ay 2 : Nat), .int .u64 (lb ay 3 : Nat), .bool ai]) ∧ Below w.heap.size w w')) (HEQ : Hid (∀ w, (Op.equalIn 10000 51 (.agg #[.int .u64 (lb ax 0 : Nat), .int .u64 (lb ax 1 : Nat), .int .u64 (lb ax 2 : Nat), .int .u64 (lb ax 3 : Nat), .int .u64 (lb ay 0 : Nat), .int .u64 (lb ay 1 : Nat), .int .u64 (lb ay 2 : Nat), .int .u64 (lb ay 3 : Nat), .bool ai]) (.agg #[.int .u64 (lb ax 0 : Nat), .int .u64 (lb ax 1 : Nat), .int .u64 (lb ax 2 : Nat), .int .u64 (lb ax 3 : Nat), .int .u64 (lb ay 0 : Nat), .int .u64 (lb ay 1 : Nat), .int .u64 (lb ay 2 : Nat), .int .u64 (lb ay 3 : Nat), .bool ai])).run Try.prog w = .ok true w))
    {t0 t1 t7 t8 t9 t10 t11 t12 t13 t14 t15 t16 t17 t18 t19 t20 t21 t22 t23 t24 : Value} {ds : List Deferred} {Q : Exit → Act → World → Prop} :
    ∀ l a w', cs6I w gN gP gA kx px py ax ay pi ai t0 t1 t7 t8 t9 t10 t11 t12 t13 t14 t15 t16 t17 t18 t19 t20 t21 t22 t23 t24 ds l a w' → ∀ i ∈ Region.ready .any cs6O l, wpOp Try.prog cs6O Q i (fun a' w'' => cs6I w gN gP gA kx px py ax ay pi ai t0 t1 t7 t8 t9 t10 t11 t12 t13 t14 t15 t16 t17 t18 t19 t20 t21 t22 t23 t24 ds (l.setIfInBounds i true) a' w'') a w' := by
  simp only [cs6O, findR, Try.f10, Option.bind_some, Option.or, Option.getD, Nat.reduceEqDiff, if_true, if_false, reduceIte]
  rintro l a w' hI i hi
  rw [mem_ready] at hi
  obtain ⟨hu, oo, ho, hd⟩ := hi
  have hin : i < 23 := by
    have := (Array.getElem?_eq_some_iff.1 ho).1
    simpa using this
  have hcase : i = 0 ∨ i = 1 ∨ i = 2 ∨ i = 3 ∨ i = 4 ∨ i = 5 ∨ i = 6 ∨ i = 7 ∨ i = 8 ∨ i = 9 ∨ i = 10 ∨ i = 11 ∨ i = 12 ∨ i = 13 ∨ i = 14 ∨ i = 15 ∨ i = 16 ∨ i = 17 ∨ i = 18 ∨ i = 19 ∨ i = 20 ∨ i = 21 ∨ i = 22 := by omega
  obtain ⟨j0, j1, j2, j3, j4, j5, j6, j7, j8, j9, j10, j11, j12, j13, j14, j15, j16, j17, j18, j19, j20, j21, j22, x0, x1, x2, x3, x4, x5, x6, x7, x8, x9, x10, x11, x12, x13, x14, x15, x16, x17, x18, x19, x20, x21, x22, rfl, rfl, hB, h0, h1, h2, h3, h4, h5, h6, h7, h8, h9, h10, h11, h12, h13, h14, h15, h16, h17, h18, h19, h20, h21, h22⟩ := hI
  replace h0 := Lib.hid h0
  replace h1 := Lib.hid h1
  replace h2 := Lib.hid h2
  replace h3 := Lib.hid h3
  replace h4 := Lib.hid h4
  replace h5 := Lib.hid h5
  replace h6 := Lib.hid h6
  replace h7 := Lib.hid h7
  replace h8 := Lib.hid h8
  replace h9 := Lib.hid h9
  replace h10 := Lib.hid h10
  replace h11 := Lib.hid h11
  replace h12 := Lib.hid h12
  replace h13 := Lib.hid h13
  replace h14 := Lib.hid h14
  replace h15 := Lib.hid h15
  replace h16 := Lib.hid h16
  replace h17 := Lib.hid h17
  replace h18 := Lib.hid h18
  replace h19 := Lib.hid h19
  replace h20 := Lib.hid h20
  replace h21 := Lib.hid h21
  replace h22 := Lib.hid h22
  rcases hcase with rfl | rfl | rfl | rfl | rfl | rfl | rfl | rfl | rfl | rfl | rfl | rfl | rfl | rfl | rfl | rfl | rfl | rfl | rfl | rfl | rfl | rfl | rfl
  · obtain rfl := Option.some.inj ho
    simp [Region.binds] at hu hd
    clear hd
    refine wpOp_of rfl rfl ?_
    go_simp
    unfold cs6I
    exact ⟨true, j1, j2, j3, j4, j5, j6, j7, j8, j9, j10, j11, j12, j13, j14, j15, j16, j17, j18, j19, j20, j21, j22, _, x1, x2, x3, x4, x5, x6, x7, x8, x9, x10, x11, x12, x13, x14, x15, x16, x17, x18, x19, x20, x21, x22, rfl, rfl, hB, fun _ => rfl, h1.out, h2.out, h3.out, h4.out, h5.out, h6.out, h7.out, h8.out, h9.out, h10.out, h11.out, h12.out, h13.out, h14.out, h15.out, h16.out, h17.out, h18.out, h19.out, h20.out, h21.out, h22.out⟩
  · obtain rfl := Option.some.inj ho
    simp [Region.binds] at hu hd
    have d0 : j0 = true := by simp [hd]
    have e0 := h0.out d0
    subst e0
    subst d0
    clear hd
    refine wpOp_of rfl rfl ?_
    go_simp
    unfold cs6I
    exact ⟨true, true, j2, j3, j4, j5, j6, j7, j8, j9, j10, j11, j12, j13, j14, j15, j16, j17, j18, j19, j20, j21, j22, _, _, x2, x3, x4, x5, x6, x7, x8, x9, x10, x11, x12, x13, x14, x15, x16, x17, x18, x19, x20, x21, x22, rfl, rfl, hB, h0.out, fun _ => rfl, h2.out, h3.out, h4.out, h5.out, h6.out, h7.out, h8.out, h9.out, h10.out, h11.out, h12.out, h13.out, h14.out, h15.out, h16.out, h17.out, h18.out, h19.out, h20.out, h21.out, h22.out⟩
  · obtain rfl := Option.some.inj ho
    simp [Region.binds] at hu hd
    have d1 : j1 = true := by simp [hd]
    have e1 := h1.out d1
    subst e1
    subst d1
    clear hd
    refine wpOp_of rfl rfl ?_
    go_simp
    unfold cs6I
    exact ⟨j0, true, true, j3, j4, j5, j6, j7, j8, j9, j10, j11, j12, j13, j14, j15, j16, j17, j18, j19, j20, j21, j22, x0, _, _, x3, x4, x5, x6, x7, x8, x9, x10, x11, x12, x13, x14, x15, x16, x17, x18, x19, x20, x21, x22, rfl, rfl, hB, h0.out, h1.out, fun _ => rfl, h3.out, h4.out, h5.out, h6.out, h7.out, h8.out, h9.out, h10.out, h11.out, h12.out, h13.out, h14.out, h15.out, h16.out, h17.out, h18.out, h19.out, h20.out, h21.out, h22.out⟩
  · obtain rfl := Option.some.inj ho
    simp [Region.binds] at hu hd
    have d2 : j2 = true := by simp [hd]
    have e2 := h2.out d2
    subst e2
    subst d2
    clear hd
    refine wpOp_want rfl rfl ?_
    have i0 : w'.cell? ⟨gA, 0, none⟩ = some (.int .u64 (lb ax 0 : Nat)) := (KA.below hB).cell 0
    have i1 : w'.cell? ⟨gA, 1, none⟩ = some (.int .u64 (lb ax 1 : Nat)) := (KA.below hB).cell 1
    have i2 : w'.cell? ⟨gA, 2, none⟩ = some (.int .u64 (lb ax 2 : Nat)) := (KA.below hB).cell 2
    have i3 : w'.cell? ⟨gA, 3, none⟩ = some (.int .u64 (lb ax 3 : Nat)) := (KA.below hB).cell 3
    have i4 : w'.cell? ⟨gA, 4, none⟩ = some (.int .u64 (lb ay 0 : Nat)) := (KA.below hB).cell 4
    have i5 : w'.cell? ⟨gA, 5, none⟩ = some (.int .u64 (lb ay 1 : Nat)) := (KA.below hB).cell 5
    have i6 : w'.cell? ⟨gA, 6, none⟩ = some (.int .u64 (lb ay 2 : Nat)) := (KA.below hB).cell 6
    have i7 : w'.cell? ⟨gA, 7, none⟩ = some (.int .u64 (lb ay 3 : Nat)) := (KA.below hB).cell 7
    have i8 : w'.cell? ⟨gA, 8, none⟩ = some (.bool ai) := (KA.below hB).cell 8
    go_simp
    unfold cs6I
    exact ⟨j0, j1, true, true, j4, j5, j6, j7, j8, j9, j10, j11, j12, j13, j14, j15, j16, j17, j18, j19, j20, j21, j22, x0, x1, _, _, x4, x5, x6, x7, x8, x9, x10, x11, x12, x13, x14, x15, x16, x17, x18, x19, x20, x21, x22, rfl, rfl, hB, h0.out, h1.out, h2.out, fun _ => rfl, h4.out, h5.out, h6.out, h7.out, h8.out, h9.out, h10.out, h11.out, h12.out, h13.out, h14.out, h15.out, h16.out, h17.out, h18.out, h19.out, h20.out, h21.out, h22.out⟩
  · obtain rfl := Option.some.inj ho
    simp [Region.binds] at hu hd
    have d2 : j2 = true := by simp [hd]
    have e2 := h2.out d2
    subst e2
    subst d2
    clear hd
    refine wpOp_want rfl rfl ?_
    have i0 : w'.cell? ⟨gP, 0, none⟩ = some (.int .u64 (lb px 0 : Nat)) := (KP.below hB).cell 0
    have i1 : w'.cell? ⟨gP, 1, none⟩ = some (.int .u64 (lb px 1 : Nat)) := (KP.below hB).cell 1
    have i2 : w'.cell? ⟨gP, 2, none⟩ = some (.int .u64 (lb px 2 : Nat)) := (KP.below hB).cell 2
    have i3 : w'.cell? ⟨gP, 3, none⟩ = some (.int .u64 (lb px 3 : Nat)) := (KP.below hB).cell 3
    have i4 : w'.cell? ⟨gP, 4, none⟩ = some (.int .u64 (lb py 0 : Nat)) := (KP.below hB).cell 4
    have i5 : w'.cell? ⟨gP, 5, none⟩ = some (.int .u64 (lb py 1 : Nat)) := (KP.below hB).cell 5
    have i6 : w'.cell? ⟨gP, 6, none⟩ = some (.int .u64 (lb py 2 : Nat)) := (KP.below hB).cell 6
    have i7 : w'.cell? ⟨gP, 7, none⟩ = some (.int .u64 (lb py 3 : Nat)) := (KP.below hB).cell 7
    have i8 : w'.cell? ⟨gP, 8, none⟩ = some (.bool pi) := (KP.below hB).cell 8
    go_simp
    unfold cs6I
    exact ⟨j0, j1, true, j3, true, j5, j6, j7, j8, j9, j10, j11, j12, j13, j14, j15, j16, j17, j18, j19, j20, j21, j22, x0, x1, _, x3, _, x5, x6, x7, x8, x9, x10, x11, x12, x13, x14, x15, x16, x17, x18, x19, x20, x21, x22, rfl, rfl, hB, h0.out, h1.out, h2.out, h3.out, fun _ => rfl, h5.out, h6.out, h7.out, h8.out, h9.out, h10.out, h11.out, h12.out, h13.out, h14.out, h15.out, h16.out, h17.out, h18.out, h19.out, h20.out, h21.out, h22.out⟩
  · obtain rfl := Option.some.inj ho
    simp [Region.binds] at hu hd
    have d2 : j2 = true := by simp [hd]
    have d4 : j4 = true := by simp [hd]
    have e2 := h2.out d2
    subst e2
    have e4 := h4.out d4
    subst e4
    subst d2
    subst d4
    clear hd
    refine wpOp_want rfl rfl ?_
    go_simp
    go_at_call 46
    refine (qk w.heap.size w (HIP.out _) hB (Nat.le_refl _)).mono ?_
    rintro e w2 ⟨v', rfl, hn', hB2, hb2⟩
    unfold cs6I
    exact ⟨j0, j1, true, j3, true, true, j6, j7, j8, j9, j10, j11, j12, j13, j14, j15, j16, j17, j18, j19, j20, j21, j22, x0, x1, _, x3, _, _, x6, x7, x8, x9, x10, x11, x12, x13, x14, x15, x16, x17, x18, x19, x20, x21, x22, rfl, rfl, hB2, h0.out, h1.out, h2.out, h3.out, h4.out, fun _ => hn', h6.out, fun hj => (h7.out hj).below hb2, fun hj => (h8.out hj).below hb2, h9.out, h10.out, h11.out, h12.out, h13.out, h14.out, fun hj => (h15.out hj).below hb2, h16.out, fun hj => (h17.out hj).below hb2, fun hj => (h18.out hj).below hb2, h19.out, h20.out, h21.out, h22.out⟩
  · obtain rfl := Option.some.inj ho
    simp [Region.binds] at hu hd
    have d2 : j2 = true := by simp [hd]
    have e2 := h2.out d2
    subst e2
    subst d2
    clear hd
    refine wpOp_want rfl rfl ?_
    have i0 : w'.cell? ⟨gN, 0, none⟩ = some (.int .u64 (lb kx 0 : Nat)) := (KN.below hB).cell 0
    have i1 : w'.cell? ⟨gN, 1, none⟩ = some (.int .u64 (lb kx 1 : Nat)) := (KN.below hB).cell 1
    have i2 : w'.cell? ⟨gN, 2, none⟩ = some (.int .u64 (lb kx 2 : Nat)) := (KN.below hB).cell 2
    have i3 : w'.cell? ⟨gN, 3, none⟩ = some (.int .u64 (lb kx 3 : Nat)) := (KN.below hB).cell 3
    go_simp
    unfold cs6I
    exact ⟨j0, j1, true, j3, j4, j5, true, j7, j8, j9, j10, j11, j12, j13, j14, j15, j16, j17, j18, j19, j20, j21, j22, x0, x1, _, x3, x4, x5, _, x7, x8, x9, x10, x11, x12, x13, x14, x15, x16, x17, x18, x19, x20, x21, x22, rfl, rfl, hB, h0.out, h1.out, h2.out, h3.out, h4.out, h5.out, fun _ => rfl, h7.out, h8.out, h9.out, h10.out, h11.out, h12.out, h13.out, h14.out, h15.out, h16.out, h17.out, h18.out, h19.out, h20.out, h21.out, h22.out⟩
  · obtain rfl := Option.some.inj ho
    simp [Region.binds] at hu hd
    have d2 : j2 = true := by simp [hd]
    have d5 : j5 = true := by simp [hd]
    have d6 : j6 = true := by simp [hd]
    have e2 := h2.out d2
    subst e2
    have e6 := h6.out d6
    subst e6
    subst d2
    subst d5
    subst d6
    clear hd
    refine wpOp_want rfl rfl ?_
    go_simp
    go_at_call 14
    refine (nk w.heap.size w (HIK.out _) hB (Nat.le_refl _)).mono ?_
    rintro e w2 ⟨v', rfl, hn', hB2, hb2⟩
    unfold cs6I
    exact ⟨j0, j1, true, j3, j4, true, true, true, j8, j9, j10, j11, j12, j13, j14, j15, j16, j17, j18, j19, j20, j21, j22, x0, x1, _, x3, x4, x5, _, _, x8, x9, x10, x11, x12, x13, x14, x15, x16, x17, x18, x19, x20, x21, x22, rfl, rfl, hB2, h0.out, h1.out, h2.out, h3.out, h4.out, fun hj => (h5.out hj).below hb2, h6.out, fun _ => hn', fun hj => (h8.out hj).below hb2, h9.out, h10.out, h11.out, h12.out, h13.out, h14.out, fun hj => (h15.out hj).below hb2, h16.out, fun hj => (h17.out hj).below hb2, fun hj => (h18.out hj).below hb2, h19.out, h20.out, h21.out, h22.out⟩
  · obtain rfl := Option.some.inj ho
    simp [Region.binds] at hu hd
    have d2 : j2 = true := by simp [hd]
    have d5 : j5 = true := by simp [hd]
    have d7 : j7 = true := by simp [hd]
    have e2 := h2.out d2
    subst e2
    subst d2
    subst d5
    subst d7
    clear hd
    refine wpOp_want rfl rfl ?_
    go_simp
    go_at_call 51
    refine (qk w.heap.size w (HTI.out _ _ _ (h5.out rfl) (h7.out rfl)) hB (Nat.le_refl _)).mono ?_
    rintro e w2 ⟨v', rfl, hn', hB2, hb2⟩
    unfold cs6I
    exact ⟨j0, j1, true, j3, j4, true, j6, true, true, j9, j10, j11, j12, j13, j14, j15, j16, j17, j18, j19, j20, j21, j22, x0, x1, _, x3, x4, x5, x6, x7, _, x9, x10, x11, x12, x13, x14, x15, x16, x17, x18, x19, x20, x21, x22, rfl, rfl, hB2, h0.out, h1.out, h2.out, h3.out, h4.out, fun hj => (h5.out hj).below hb2, h6.out, fun hj => (h7.out hj).below hb2, fun _ => hn', h9.out, h10.out, h11.out, h12.out, h13.out, h14.out, fun hj => (h15.out hj).below hb2, h16.out, fun hj => (h17.out hj).below hb2, fun hj => (h18.out hj).below hb2, h19.out, h20.out, h21.out, h22.out⟩
  · obtain rfl := Option.some.inj ho
    simp [Region.binds] at hu hd
    have d2 : j2 = true := by simp [hd]
    have d8 : j8 = true := by simp [hd]
    have e2 := h2.out d2
    subst e2
    subst d2
    subst d8
    clear hd
    refine wpOp_want rfl rfl ?_
    go_simp
    go_at_call 48
    refine (keep w.heap.size w (HOU.out _ _ (h8.out rfl)) hB (Nat.le_refl _)).mono ?_
    rintro e w2 ⟨rfl, hB2, hb2⟩
    unfold cs6I
    exact ⟨j0, j1, true, j3, j4, j5, j6, j7, true, true, j10, j11, j12, j13, j14, j15, j16, j17, j18, j19, j20, j21, j22, x0, x1, _, x3, x4, x5, x6, x7, x8, _, x10, x11, x12, x13, x14, x15, x16, x17, x18, x19, x20, x21, x22, rfl, rfl, hB2, h0.out, h1.out, h2.out, h3.out, h4.out, fun hj => (h5.out hj).below hb2, h6.out, fun hj => (h7.out hj).below hb2, fun hj => (h8.out hj).below hb2, fun _ => rfl, h10.out, h11.out, h12.out, h13.out, h14.out, fun hj => (h15.out hj).below hb2, h16.out, fun hj => (h17.out hj).below hb2, fun hj => (h18.out hj).below hb2, h19.out, h20.out, h21.out, h22.out⟩
  · obtain rfl := Option.some.inj ho
    simp [Region.binds] at hu hd
    have d2 : j2 = true := by simp [hd]
    have d3 : j3 = true := by simp [hd]
    have d9 : j9 = true := by simp [hd]
    have e2 := h2.out d2
    subst e2
    have e3 := h3.out d3
    subst e3
    have e9 := h9.out d9
    subst e9
    subst d2
    subst d3
    subst d9
    clear hd
    refine wpOp_want rfl rfl ?_
    have hq := HEQ.out
    go_simp
    unfold cs6I
    exact ⟨j0, j1, true, true, j4, j5, j6, j7, j8, true, true, j11, j12, j13, j14, j15, j16, j17, j18, j19, j20, j21, j22, x0, x1, _, _, x4, x5, x6, x7, x8, _, _, x11, x12, x13, x14, x15, x16, x17, x18, x19, x20, x21, x22, rfl, rfl, hB, h0.out, h1.out, h2.out, h3.out, h4.out, h5.out, h6.out, h7.out, h8.out, h9.out, fun _ => rfl, h11.out, h12.out, h13.out, h14.out, h15.out, h16.out, h17.out, h18.out, h19.out, h20.out, h21.out, h22.out⟩
  · obtain rfl := Option.some.inj ho
    simp [Region.binds] at hu hd
    have d2 : j2 = true := by simp [hd]
    have d10 : j10 = true := by simp [hd]
    have e2 := h2.out d2
    subst e2
    have e10 := h10.out d10
    subst e10
    subst d2
    subst d10
    clear hd
    refine wpOp_of rfl rfl ?_
    go_simp
    unfold cs6I
    exact ⟨j0, j1, true, j3, j4, j5, j6, j7, j8, j9, true, true, j12, j13, j14, j15, j16, j17, j18, j19, j20, j21, j22, x0, x1, _, x3, x4, x5, x6, x7, x8, x9, _, _, x12, x13, x14, x15, x16, x17, x18, x19, x20, x21, x22, rfl, rfl, hB, h0.out, h1.out, h2.out, h3.out, h4.out, h5.out, h6.out, h7.out, h8.out, h9.out, h10.out, fun _ => rfl, h12.out, h13.out, h14.out, h15.out, h16.out, h17.out, h18.out, h19.out, h20.out, h21.out, h22.out⟩
  · obtain rfl := Option.some.inj ho
    simp [Region.binds] at hu hd
    have d9 : j9 = true := by simp [hd]
    have d11 : j11 = true := by simp [hd]
    have e9 := h9.out d9
    subst e9
    have e11 := h11.out d11
    subst e11
    subst d9
    subst d11
    clear hd
    refine wpOp_of rfl rfl ?_
    go_simp
    unfold cs6I
    exact ⟨j0, j1, j2, j3, j4, j5, j6, j7, j8, true, j10, true, true, j13, j14, j15, j16, j17, j18, j19, j20, j21, j22, x0, x1, x2, x3, x4, x5, x6, x7, x8, _, x10, _, _, x13, x14, x15, x16, x17, x18, x19, x20, x21, x22, rfl, rfl, hB, h0.out, h1.out, h2.out, h3.out, h4.out, h5.out, h6.out, h7.out, h8.out, h9.out, h10.out, h11.out, fun _ => rfl, h13.out, h14.out, h15.out, h16.out, h17.out, h18.out, h19.out, h20.out, h21.out, h22.out⟩
  · obtain rfl := Option.some.inj ho
    simp [Region.binds] at hu hd
    have d12 : j12 = true := by simp [hd]
    have e12 := h12.out d12
    subst e12
    subst d12
    clear hd
    refine wpOp_want rfl rfl ?_
    have i0 : w'.cell? ⟨gA, 0, none⟩ = some (.int .u64 (lb ax 0 : Nat)) := (KA.below hB).cell 0
    have i1 : w'.cell? ⟨gA, 1, none⟩ = some (.int .u64 (lb ax 1 : Nat)) := (KA.below hB).cell 1
    have i2 : w'.cell? ⟨gA, 2, none⟩ = some (.int .u64 (lb ax 2 : Nat)) := (KA.below hB).cell 2
    have i3 : w'.cell? ⟨gA, 3, none⟩ = some (.int .u64 (lb ax 3 : Nat)) := (KA.below hB).cell 3
    have i4 : w'.cell? ⟨gA, 4, none⟩ = some (.int .u64 (lb ay 0 : Nat)) := (KA.below hB).cell 4
    have i5 : w'.cell? ⟨gA, 5, none⟩ = some (.int .u64 (lb ay 1 : Nat)) := (KA.below hB).cell 5
    have i6 : w'.cell? ⟨gA, 6, none⟩ = some (.int .u64 (lb ay 2 : Nat)) := (KA.below hB).cell 6
    have i7 : w'.cell? ⟨gA, 7, none⟩ = some (.int .u64 (lb ay 3 : Nat)) := (KA.below hB).cell 7
    have i8 : w'.cell? ⟨gA, 8, none⟩ = some (.bool ai) := (KA.below hB).cell 8
    go_simp
    unfold cs6I
    exact ⟨j0, j1, j2, j3, j4, j5, j6, j7, j8, j9, j10, j11, true, true, j14, j15, j16, j17, j18, j19, j20, j21, j22, x0, x1, x2, x3, x4, x5, x6, x7, x8, x9, x10, x11, _, _, x14, x15, x16, x17, x18, x19, x20, x21, x22, rfl, rfl, hB, h0.out, h1.out, h2.out, h3.out, h4.out, h5.out, h6.out, h7.out, h8.out, h9.out, h10.out, h11.out, h12.out, fun _ => rfl, h14.out, h15.out, h16.out, h17.out, h18.out, h19.out, h20.out, h21.out, h22.out⟩
  · obtain rfl := Option.some.inj ho
    simp [Region.binds] at hu hd
    have d12 : j12 = true := by simp [hd]
    have e12 := h12.out d12
    subst e12
    subst d12
    clear hd
    refine wpOp_want rfl rfl ?_
    have i0 : w'.cell? ⟨gP, 0, none⟩ = some (.int .u64 (lb px 0 : Nat)) := (KP.below hB).cell 0
    have i1 : w'.cell? ⟨gP, 1, none⟩ = some (.int .u64 (lb px 1 : Nat)) := (KP.below hB).cell 1
    have i2 : w'.cell? ⟨gP, 2, none⟩ = some (.int .u64 (lb px 2 : Nat)) := (KP.below hB).cell 2
    have i3 : w'.cell? ⟨gP, 3, none⟩ = some (.int .u64 (lb px 3 : Nat)) := (KP.below hB).cell 3
    have i4 : w'.cell? ⟨gP, 4, none⟩ = some (.int .u64 (lb py 0 : Nat)) := (KP.below hB).cell 4
    have i5 : w'.cell? ⟨gP, 5, none⟩ = some (.int .u64 (lb py 1 : Nat)) := (KP.below hB).cell 5
    have i6 : w'.cell? ⟨gP, 6, none⟩ = some (.int .u64 (lb py 2 : Nat)) := (KP.below hB).cell 6
    have i7 : w'.cell? ⟨gP, 7, none⟩ = some (.int .u64 (lb py 3 : Nat)) := (KP.below hB).cell 7
    have i8 : w'.cell? ⟨gP, 8, none⟩ = some (.bool pi) := (KP.below hB).cell 8
    go_simp
    unfold cs6I
    exact ⟨j0, j1, j2, j3, j4, j5, j6, j7, j8, j9, j10, j11, true, j13, true, j15, j16, j17, j18, j19, j20, j21, j22, x0, x1, x2, x3, x4, x5, x6, x7, x8, x9, x10, x11, _, x13, _, x15, x16, x17, x18, x19, x20, x21, x22, rfl, rfl, hB, h0.out, h1.out, h2.out, h3.out, h4.out, h5.out, h6.out, h7.out, h8.out, h9.out, h10.out, h11.out, h12.out, h13.out, fun _ => rfl, h15.out, h16.out, h17.out, h18.out, h19.out, h20.out, h21.out, h22.out⟩
  · obtain rfl := Option.some.inj ho
    simp [Region.binds] at hu hd
    have d12 : j12 = true := by simp [hd]
    have d14 : j14 = true := by simp [hd]
    have e12 := h12.out d12
    subst e12
    have e14 := h14.out d14
    subst e14
    subst d12
    subst d14
    clear hd
    refine wpOp_want rfl rfl ?_
    go_simp
    go_at_call 46
    refine (qk w.heap.size w (HIP.out _) hB (Nat.le_refl _)).mono ?_
    rintro e w2 ⟨v', rfl, hn', hB2, hb2⟩
    unfold cs6I
    exact ⟨j0, j1, j2, j3, j4, j5, j6, j7, j8, j9, j10, j11, true, j13, true, true, j16, j17, j18, j19, j20, j21, j22, x0, x1, x2, x3, x4, x5, x6, x7, x8, x9, x10, x11, _, x13, _, _, x16, x17, x18, x19, x20, x21, x22, rfl, rfl, hB2, h0.out, h1.out, h2.out, h3.out, h4.out, fun hj => (h5.out hj).below hb2, h6.out, fun hj => (h7.out hj).below hb2, fun hj => (h8.out hj).below hb2, h9.out, h10.out, h11.out, h12.out, h13.out, h14.out, fun _ => hn', h16.out, fun hj => (h17.out hj).below hb2, fun hj => (h18.out hj).below hb2, h19.out, h20.out, h21.out, h22.out⟩
  · obtain rfl := Option.some.inj ho
    simp [Region.binds] at hu hd
    have d12 : j12 = true := by simp [hd]
    have e12 := h12.out d12
    subst e12
    subst d12
    clear hd
    refine wpOp_want rfl rfl ?_
    have i0 : w'.cell? ⟨gN, 0, none⟩ = some (.int .u64 (lb kx 0 : Nat)) := (KN.below hB).cell 0
    have i1 : w'.cell? ⟨gN, 1, none⟩ = some (.int .u64 (lb kx 1 : Nat)) := (KN.below hB).cell 1
    have i2 : w'.cell? ⟨gN, 2, none⟩ = some (.int .u64 (lb kx 2 : Nat)) := (KN.below hB).cell 2
    have i3 : w'.cell? ⟨gN, 3, none⟩ = some (.int .u64 (lb kx 3 : Nat)) := (KN.below hB).cell 3
    go_simp
    unfold cs6I
    exact ⟨j0, j1, j2, j3, j4, j5, j6, j7, j8, j9, j10, j11, true, j13, j14, j15, true, j17, j18, j19, j20, j21, j22, x0, x1, x2, x3, x4, x5, x6, x7, x8, x9, x10, x11, _, x13, x14, x15, _, x17, x18, x19, x20, x21, x22, rfl, rfl, hB, h0.out, h1.out, h2.out, h3.out, h4.out, h5.out, h6.out, h7.out, h8.out, h9.out, h10.out, h11.out, h12.out, h13.out, h14.out, h15.out, fun _ => rfl, h17.out, h18.out, h19.out, h20.out, h21.out, h22.out⟩
  · obtain rfl := Option.some.inj ho
    simp [Region.binds] at hu hd
    have d12 : j12 = true := by simp [hd]
    have d15 : j15 = true := by simp [hd]
    have d16 : j16 = true := by simp [hd]
    have e12 := h12.out d12
    subst e12
    have e16 := h16.out d16
    subst e16
    subst d12
    subst d15
    subst d16
    clear hd
    refine wpOp_want rfl rfl ?_
    go_simp
    go_at_call 14
    refine (nk w.heap.size w (HIK.out _) hB (Nat.le_refl _)).mono ?_
    rintro e w2 ⟨v', rfl, hn', hB2, hb2⟩
    unfold cs6I
    exact ⟨j0, j1, j2, j3, j4, j5, j6, j7, j8, j9, j10, j11, true, j13, j14, true, true, true, j18, j19, j20, j21, j22, x0, x1, x2, x3, x4, x5, x6, x7, x8, x9, x10, x11, _, x13, x14, x15, _, _, x18, x19, x20, x21, x22, rfl, rfl, hB2, h0.out, h1.out, h2.out, h3.out, h4.out, fun hj => (h5.out hj).below hb2, h6.out, fun hj => (h7.out hj).below hb2, fun hj => (h8.out hj).below hb2, h9.out, h10.out, h11.out, h12.out, h13.out, h14.out, fun hj => (h15.out hj).below hb2, h16.out, fun _ => hn', fun hj => (h18.out hj).below hb2, h19.out, h20.out, h21.out, h22.out⟩
  · obtain rfl := Option.some.inj ho
    simp [Region.binds] at hu hd
    have d12 : j12 = true := by simp [hd]
    have d15 : j15 = true := by simp [hd]
    have d17 : j17 = true := by simp [hd]
    have e12 := h12.out d12
    subst e12
    subst d12
    subst d15
    subst d17
    clear hd
    refine wpOp_want rfl rfl ?_
    go_simp
    go_at_call 52
    refine (qk w.heap.size w (HFA.out _ _ _ (h15.out rfl) (h17.out rfl)) hB (Nat.le_refl _)).mono ?_
    rintro e w2 ⟨v', rfl, hn', hB2, hb2⟩
    unfold cs6I
    exact ⟨j0, j1, j2, j3, j4, j5, j6, j7, j8, j9, j10, j11, true, j13, j14, true, j16, true, true, j19, j20, j21, j22, x0, x1, x2, x3, x4, x5, x6, x7, x8, x9, x10, x11, _, x13, x14, x15, x16, x17, _, x19, x20, x21, x22, rfl, rfl, hB2, h0.out, h1.out, h2.out, h3.out, h4.out, fun hj => (h5.out hj).below hb2, h6.out, fun hj => (h7.out hj).below hb2, fun hj => (h8.out hj).below hb2, h9.out, h10.out, h11.out, h12.out, h13.out, h14.out, fun hj => (h15.out hj).below hb2, h16.out, fun hj => (h17.out hj).below hb2, fun _ => hn', h19.out, h20.out, h21.out, h22.out⟩
  · obtain rfl := Option.some.inj ho
    simp [Region.binds] at hu hd
    have d12 : j12 = true := by simp [hd]
    have d18 : j18 = true := by simp [hd]
    have e12 := h12.out d12
    subst e12
    subst d12
    subst d18
    clear hd
    refine wpOp_want rfl rfl ?_
    go_simp
    go_at_call 48
    refine (keep w.heap.size w (HOU.out _ _ (h18.out rfl)) hB (Nat.le_refl _)).mono ?_
    rintro e w2 ⟨rfl, hB2, hb2⟩
    unfold cs6I
    exact ⟨j0, j1, j2, j3, j4, j5, j6, j7, j8, j9, j10, j11, true, j13, j14, j15, j16, j17, true, true, j20, j21, j22, x0, x1, x2, x3, x4, x5, x6, x7, x8, x9, x10, x11, _, x13, x14, x15, x16, x17, x18, _, x20, x21, x22, rfl, rfl, hB2, h0.out, h1.out, h2.out, h3.out, h4.out, fun hj => (h5.out hj).below hb2, h6.out, fun hj => (h7.out hj).below hb2, fun hj => (h8.out hj).below hb2, h9.out, h10.out, h11.out, h12.out, h13.out, h14.out, fun hj => (h15.out hj).below hb2, h16.out, fun hj => (h17.out hj).below hb2, fun hj => (h18.out hj).below hb2, fun _ => rfl, h20.out, h21.out, h22.out⟩
  · obtain rfl := Option.some.inj ho
    simp [Region.binds] at hu hd
    have d12 : j12 = true := by simp [hd]
    have d13 : j13 = true := by simp [hd]
    have d19 : j19 = true := by simp [hd]
    have e12 := h12.out d12
    subst e12
    have e13 := h13.out d13
    subst e13
    have e19 := h19.out d19
    subst e19
    subst d12
    subst d13
    subst d19
    clear hd
    refine wpOp_want rfl rfl ?_
    have hq := HEQ.out
    go_simp
    unfold cs6I
    exact ⟨j0, j1, j2, j3, j4, j5, j6, j7, j8, j9, j10, j11, true, true, j14, j15, j16, j17, j18, true, true, j21, j22, x0, x1, x2, x3, x4, x5, x6, x7, x8, x9, x10, x11, _, _, x14, x15, x16, x17, x18, _, _, x21, x22, rfl, rfl, hB, h0.out, h1.out, h2.out, h3.out, h4.out, h5.out, h6.out, h7.out, h8.out, h9.out, h10.out, h11.out, h12.out, h13.out, h14.out, h15.out, h16.out, h17.out, h18.out, h19.out, fun _ => rfl, h21.out, h22.out⟩
  · obtain rfl := Option.some.inj ho
    simp [Region.binds] at hu hd
    have d12 : j12 = true := by simp [hd]
    have d20 : j20 = true := by simp [hd]
    have e12 := h12.out d12
    subst e12
    have e20 := h20.out d20
    subst e20
    subst d12
    subst d20
    clear hd
    refine wpOp_of rfl rfl ?_
    go_simp
    unfold cs6I
    exact ⟨j0, j1, j2, j3, j4, j5, j6, j7, j8, j9, j10, j11, true, j13, j14, j15, j16, j17, j18, j19, true, true, j22, x0, x1, x2, x3, x4, x5, x6, x7, x8, x9, x10, x11, _, x13, x14, x15, x16, x17, x18, x19, _, _, x22, rfl, rfl, hB, h0.out, h1.out, h2.out, h3.out, h4.out, h5.out, h6.out, h7.out, h8.out, h9.out, h10.out, h11.out, h12.out, h13.out, h14.out, h15.out, h16.out, h17.out, h18.out, h19.out, h20.out, fun _ => rfl, h22.out⟩
  · obtain rfl := Option.some.inj ho
    simp [Region.binds] at hu hd
    have d0 : j0 = true := by simp [hd]
    have d1 : j1 = true := by simp [hd]
    have d2 : j2 = true := by simp [hd]
    have d3 : j3 = true := by simp [hd]
    have d4 : j4 = true := by simp [hd]
    have d5 : j5 = true := by simp [hd]
    have d6 : j6 = true := by simp [hd]
    have d7 : j7 = true := by simp [hd]
    have d8 : j8 = true := by simp [hd]
    have d9 : j9 = true := by simp [hd]
    have d10 : j10 = true := by simp [hd]
    have d11 : j11 = true := by simp [hd]
    have d12 : j12 = true := by simp [hd]
    have d13 : j13 = true := by simp [hd]
    have d14 : j14 = true := by simp [hd]
    have d15 : j15 = true := by simp [hd]
    have d16 : j16 = true := by simp [hd]
    have d17 : j17 = true := by simp [hd]
    have d18 : j18 = true := by simp [hd]
    have d19 : j19 = true := by simp [hd]
    have d20 : j20 = true := by simp [hd]
    have d21 : j21 = true := by simp [hd]
    have e0 := h0.out d0
    subst e0
    have e1 := h1.out d1
    subst e1
    have e2 := h2.out d2
    subst e2
    have e3 := h3.out d3
    subst e3
    have e4 := h4.out d4
    subst e4
    have e6 := h6.out d6
    subst e6
    have e9 := h9.out d9
    subst e9
    have e10 := h10.out d10
    subst e10
    have e11 := h11.out d11
    subst e11
    have e12 := h12.out d12
    subst e12
    have e13 := h13.out d13
    subst e13
    have e14 := h14.out d14
    subst e14
    have e16 := h16.out d16
    subst e16
    have e19 := h19.out d19
    subst e19
    have e20 := h20.out d20
    subst e20
    have e21 := h21.out d21
    subst e21
    subst d0
    subst d1
    subst d2
    subst d3
    subst d4
    subst d5
    subst d6
    subst d7
    subst d8
    subst d9
    subst d10
    subst d11
    subst d12
    subst d13
    subst d14
    subst d15
    subst d16
    subst d17
    subst d18
    subst d19
    subst d20
    subst d21
    clear hd
    refine wpOp_of rfl rfl ?_
    go_simp
    unfold cs6I
    exact ⟨true, true, true, true, true, true, true, true, true, true, true, true, true, true, true, true, true, true, true, true, true, true, true, _, _, _, _, _, x5, _, x7, x8, _, _, _, _, _, _, x15, _, x17, x18, _, _, _, _, rfl, rfl, hB, h0.out, h1.out, h2.out, h3.out, h4.out, h5.out, h6.out, h7.out, h8.out, h9.out, h10.out, h11.out, h12.out, h13.out, h14.out, h15.out, h16.out, h17.out, h18.out, h19.out, h20.out, h21.out, fun _ => rfl⟩
set_option maxHeartbeats 16000000 in
theorem cs6_fin (gN gP gA kx px py ax ay : Nat) (pi ai : Bool) (w : World) {t0 t1 t7 t8 t9 t10 t11 t12 t13 t14 t15 t16 t17 t18 t19 t20 t21 t22 t23 t24 : Value} {ds : List Deferred} : ∀ l a w1, cs6I w gN gP gA kx px py ax ay pi ai t0 t1 t7 t8 t9 t10 t11 t12 t13 t14 t15 t16 t17 t18 t19 t20 t21 t22 t23 t24 ds l a w1 → Region.ready .any cs6O l = [] → cs6F w gN gP gA kx px py ax ay pi ai t0 t1 t7 t8 t9 t10 t11 t12 t13 t14 t15 t16 t17 t18 t19 t20 t21 t22 t23 t24 ds a w1 := by
  simp only [cs6O, findR, Try.f10, Option.bind_some, Option.or, Option.getD, Nat.reduceEqDiff, if_true, if_false, reduceIte]
  rintro l a w1 hI hr
  obtain ⟨j0, j1, j2, j3, j4, j5, j6, j7, j8, j9, j10, j11, j12, j13, j14, j15, j16, j17, j18, j19, j20, j21, j22, x0, x1, x2, x3, x4, x5, x6, x7, x8, x9, x10, x11, x12, x13, x14, x15, x16, x17, x18, x19, x20, x21, x22, rfl, rfl, hB, h0, h1, h2, h3, h4, h5, h6, h7, h8, h9, h10, h11, h12, h13, h14, h15, h16, h17, h18, h19, h20, h21, h22⟩ := hI
  have hn := fun i => List.eq_nil_iff_forall_not_mem.1 hr i
  clear hr
  have d0 : j0 = true := by
    cases hj : j0
    · exact absurd (mem_ready.2 ⟨by simp [hj], _, rfl, by simp [Region.binds, hj]⟩) (hn 0)
    · rfl
  subst d0
  have d1 : j1 = true := by
    cases hj : j1
    · exact absurd (mem_ready.2 ⟨by simp [hj], _, rfl, by simp [Region.binds, hj]⟩) (hn 1)
    · rfl
  subst d1
  have d2 : j2 = true := by
    cases hj : j2
    · exact absurd (mem_ready.2 ⟨by simp [hj], _, rfl, by simp [Region.binds, hj]⟩) (hn 2)
    · rfl
  subst d2
  have d3 : j3 = true := by
    cases hj : j3
    · exact absurd (mem_ready.2 ⟨by simp [hj], _, rfl, by simp [Region.binds, hj]⟩) (hn 3)
    · rfl
  subst d3
  have d4 : j4 = true := by
    cases hj : j4
    · exact absurd (mem_ready.2 ⟨by simp [hj], _, rfl, by simp [Region.binds, hj]⟩) (hn 4)
    · rfl
  subst d4
  have d5 : j5 = true := by
    cases hj : j5
    · exact absurd (mem_ready.2 ⟨by simp [hj], _, rfl, by simp [Region.binds, hj]⟩) (hn 5)
    · rfl
  subst d5
  have d6 : j6 = true := by
    cases hj : j6
    · exact absurd (mem_ready.2 ⟨by simp [hj], _, rfl, by simp [Region.binds, hj]⟩) (hn 6)
    · rfl
  subst d6
  have d7 : j7 = true := by
    cases hj : j7
    · exact absurd (mem_ready.2 ⟨by simp [hj], _, rfl, by simp [Region.binds, hj]⟩) (hn 7)
    · rfl
  subst d7
  have d8 : j8 = true := by
    cases hj : j8
    · exact absurd (mem_ready.2 ⟨by simp [hj], _, rfl, by simp [Region.binds, hj]⟩) (hn 8)
    · rfl
  subst d8
  have d9 : j9 = true := by
    cases hj : j9
    · exact absurd (mem_ready.2 ⟨by simp [hj], _, rfl, by simp [Region.binds, hj]⟩) (hn 9)
    · rfl
  subst d9
  have d10 : j10 = true := by
    cases hj : j10
    · exact absurd (mem_ready.2 ⟨by simp [hj], _, rfl, by simp [Region.binds, hj]⟩) (hn 10)
    · rfl
  subst d10
  have d11 : j11 = true := by
    cases hj : j11
    · exact absurd (mem_ready.2 ⟨by simp [hj], _, rfl, by simp [Region.binds, hj]⟩) (hn 11)
    · rfl
  subst d11
  have d12 : j12 = true := by
    cases hj : j12
    · exact absurd (mem_ready.2 ⟨by simp [hj], _, rfl, by simp [Region.binds, hj]⟩) (hn 12)
    · rfl
  subst d12
  have d13 : j13 = true := by
    cases hj : j13
    · exact absurd (mem_ready.2 ⟨by simp [hj], _, rfl, by simp [Region.binds, hj]⟩) (hn 13)
    · rfl
  subst d13
  have d14 : j14 = true := by
    cases hj : j14
    · exact absurd (mem_ready.2 ⟨by simp [hj], _, rfl, by simp [Region.binds, hj]⟩) (hn 14)
    · rfl
  subst d14
  have d15 : j15 = true := by
    cases hj : j15
    · exact absurd (mem_ready.2 ⟨by simp [hj], _, rfl, by simp [Region.binds, hj]⟩) (hn 15)
    · rfl
  subst d15
  have d16 : j16 = true := by
    cases hj : j16
    · exact absurd (mem_ready.2 ⟨by simp [hj], _, rfl, by simp [Region.binds, hj]⟩) (hn 16)
    · rfl
  subst d16
  have d17 : j17 = true := by
    cases hj : j17
    · exact absurd (mem_ready.2 ⟨by simp [hj], _, rfl, by simp [Region.binds, hj]⟩) (hn 17)
    · rfl
  subst d17
  have d18 : j18 = true := by
    cases hj : j18
    · exact absurd (mem_ready.2 ⟨by simp [hj], _, rfl, by simp [Region.binds, hj]⟩) (hn 18)
    · rfl
  subst d18
  have d19 : j19 = true := by
    cases hj : j19
    · exact absurd (mem_ready.2 ⟨by simp [hj], _, rfl, by simp [Region.binds, hj]⟩) (hn 19)
    · rfl
  subst d19
  have d20 : j20 = true := by
    cases hj : j20
    · exact absurd (mem_ready.2 ⟨by simp [hj], _, rfl, by simp [Region.binds, hj]⟩) (hn 20)
    · rfl
  subst d20
  have d21 : j21 = true := by
    cases hj : j21
    · exact absurd (mem_ready.2 ⟨by simp [hj], _, rfl, by simp [Region.binds, hj]⟩) (hn 21)
    · rfl
  subst d21
  have d22 : j22 = true := by
    cases hj : j22
    · exact absurd (mem_ready.2 ⟨by simp [hj], _, rfl, by simp [Region.binds, hj]⟩) (hn 22)
    · rfl
  subst d22
  obtain rfl := h22 rfl
  exact ⟨_, _, _, _, _, _, _, _, _, _, _, _, _, _, _, _, _, _, _, _, _, _, w1, rfl, hB, rfl⟩
theorem cs6 (gN gP gA kx px py ax ay : Nat) (pi ai : Bool) (w : World) (KN : Bk 24 w gN #[.int .u64 (lb kx 0 : Nat), .int .u64 (lb kx 1 : Nat), .int .u64 (lb kx 2 : Nat), .int .u64 (lb kx 3 : Nat)]) (KP : Bk 51 w gP #[.int .u64 (lb px 0 : Nat), .int .u64 (lb px 1 : Nat), .int .u64 (lb px 2 : Nat), .int .u64 (lb px 3 : Nat), .int .u64 (lb py 0 : Nat), .int .u64 (lb py 1 : Nat), .int .u64 (lb py 2 : Nat), .int .u64 (lb py 3 : Nat), .bool pi]) (KA : Bk 51 w gA #[.int .u64 (lb ax 0 : Nat), .int .u64 (lb ax 1 : Nat), .int .u64 (lb ax 2 : Nat), .int .u64 (lb ax 3 : Nat), .int .u64 (lb ay 0 : Nat), .int .u64 (lb ay 1 : Nat), .int .u64 (lb ay 2 : Nat), .int .u64 (lb ay 3 : Nat), .bool ai]) (HIP : Hid (∀ w, Calls Try.prog 46 #[.agg #[.int .u64 (lb px 0 : Nat), .int .u64 (lb px 1 : Nat), .int .u64 (lb px 2 : Nat), .int .u64 (lb px 3 : Nat), .int .u64 (lb py 0 : Nat), .int .u64 (lb py 1 : Nat), .int .u64 (lb py 2 : Nat), .int .u64 (lb py 3 : Nat), .bool pi]] w fun e w' => ∃ v', e = .returned v' ∧ RP w' v' (Po.mk px py pi) ∧ Below w.heap.size w w')) (HIK : Hid (∀ w, Calls Try.prog 14 #[.agg #[.int .u64 (lb kx 0 : Nat), .int .u64 (lb kx 1 : Nat), .int .u64 (lb kx 2 : Nat), .int .u64 (lb kx 3 : Nat)]] w fun e w' => ∃ v', e = .returned v' ∧ Nr w w' v' kx)) (HTI : Hid (∀ v u w, RP w v (Po.mk px py pi) → NV w u kx → Calls Try.prog 51 #[v, u] w fun e w' => ∃ v', e = .returned v' ∧ RP w' v' (mulB (Po.mk px py pi) kx 0) ∧ Below w.heap.size w w')) (HFA : Hid (∀ v u w, RP w v (Po.mk px py pi) → NV w u kx → Calls Try.prog 52 #[v, u] w fun e w' => ∃ v', e = .returned v' ∧ RP w' v' (mulB (Po.mk px py pi) kx 0) ∧ Below w.heap.size w w')) (HOU : Hid (∀ v w, RP w v (mulB (Po.mk px py pi) kx 0) → Calls Try.prog 48 #[v] w fun e w' => e = .returned (.agg #[.int .u64 (lb ax 0 : Nat), .int .u64 (lb ax 1 : Nat), .int .u64 (lb ax 2 : Nat), .int .u64 (lb ax 3 : Nat), .int .u64 (lb ay 0 : Nat), .int .u64 (lb ay 1 : Nat), .int .u64 (lb ay 2 : Nat), .int .u64 (lb ay 3 : Nat), .bool ai]) ∧ Below w.heap.size w w')) (HEQ : Hid (∀ w, (Op.equalIn 10000 51 (.agg #[.int .u64 (lb ax 0 : Nat), .int .u64 (lb ax 1 : Nat), .int .u64 (lb ax 2 : Nat), .int .u64 (lb ax 3 : Nat), .int .u64 (lb ay 0 : Nat), .int .u64 (lb ay 1 : Nat), .int .u64 (lb ay 2 : Nat), .int .u64 (lb ay 3 : Nat), .bool ai]) (.agg #[.int .u64 (lb ax 0 : Nat), .int .u64 (lb ax 1 : Nat), .int .u64 (lb ax 2 : Nat), .int .u64 (lb ax 3 : Nat), .int .u64 (lb ay 0 : Nat), .int .u64 (lb ay 1 : Nat), .int .u64 (lb ay 2 : Nat), .int .u64 (lb ay 3 : Nat), .bool ai])).run Try.prog w = .ok true w)) {t0 t1 t7 t8 t9 t10 t11 t12 t13 t14 t15 t16 t17 t18 t19 t20 t21 t22 t23 t24 t25 t26 t27 t28 t29 t30 t31 t32 t33 t34 t35 t36 t37 t38 t39 t40 t41 t42 t43 t44 t45 t46 : Value} {ds : List Deferred} {K : Act → World → Prop} {Q : Exit → Act → World → Prop}
    (h : ∀ (y0 y1 y2 y3 y4 y5 y6 y7 y8 y9 y10 y11 y12 y13 y14 y15 y16 y17 y18 y19 y20 y21 : Value) (w1 : World) (hb : Below w.heap.size w w1), K { tmps := #[t0, t1, .pointer (some ⟨gN, 0, none⟩), .pointer (some ⟨gP, 0, none⟩), .bool true, .pointer (some ⟨gA, 0, none⟩), .int .i64 0, t7, t8, t9, t10, t11, t12, t13, t14, t15, t16, t17, t18, t19, t20, t21, t22, t23, t24, y0, y1, y2, y3, y4, y5, y6, y7, y8, y9, y10, y11, y12, y13, y14, y15, y16, y17, y18, y19, y20, y21], defers := ds } w1) :
    (Code.region 6 cs6O true).wp Try.prog (Exit.then K Q) { tmps := #[t0, t1, .pointer (some ⟨gN, 0, none⟩), .pointer (some ⟨gP, 0, none⟩), .bool false, .pointer (some ⟨gA, 0, none⟩), .int .i64 0, t7, t8, t9, t10, t11, t12, t13, t14, t15, t16, t17, t18, t19, t20, t21, t22, t23, t24, t25, t26, t27, t28, t29, t30, t31, t32, t33, t34, t35, t36, t37, t38, t39, t40, t41, t42, t43, t44, t45, t46], defers := ds } w := by
  have hsz : cs6O.size = 23 := by kernel_rfl
  refine wp_region_any (show Try.prog.follows .mixedOrders = true from by kernel_rfl) ?_
  rw [hsz]
  refine wpAny_inv (I := cs6I w gN gP gA kx px py ax ay pi ai t0 t1 t7 t8 t9 t10 t11 t12 t13 t14 t15 t16 t17 t18 t19 t20 t21 t22 t23 t24 ds) (cs6_steps gN gP gA kx px py ax ay pi ai w KN KP KA HIP HIK HTI HFA HOU HEQ) (fun l a w' hI hr => ?_) 23 _ _ _ (by decide) ?_
  · obtain ⟨y0, y1, y2, y3, y4, y5, y6, y7, y8, y9, y10, y11, y12, y13, y14, y15, y16, y17, y18, y19, y20, y21, wm, rfl, hb, rfl⟩ := cs6_fin gN gP gA kx px py ax ay pi ai w l a w' hI hr
    exact h _ _ _ _ _ _ _ _ _ _ _ _ _ _ _ _ _ _ _ _ _ _ _ hb
  · exact ⟨false, false, false, false, false, false, false, false, false, false, false, false, false, false, false, false, false, false, false, false, false, false, false, t25, t26, t27, t28, t29, t30, t31, t32, t33, t34, t35, t36, t37, t38, t39, t40, t41, t42, t43, t44, t45, t46, .bool false, rfl, rfl, ⟨rfl, rfl, rfl, Nat.le_refl _, fun _ _ => rfl⟩, (fun h => by cases h), (fun h => by cases h), (fun h => by cases h), (fun h => by cases h), (fun h => by cases h), (fun h => by cases h), (fun h => by cases h), (fun h => by cases h), (fun h => by cases h), (fun h => by cases h), (fun h => by cases h), (fun h => by cases h), (fun h => by cases h), (fun h => by cases h), (fun h => by cases h), (fun h => by cases h), (fun h => by cases h), (fun h => by cases h), (fun h => by cases h), (fun h => by cases h), (fun h => by cases h), (fun h => by cases h), (fun h => by cases h)⟩
end Go.Proofs.Ytglmmodkflkkkaa.Ref
