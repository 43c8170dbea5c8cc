/- The inverse is what the document says: the law's walk. No condition but that the number is below 2 to the 256. -/
import Derived.Test.YtglmmodkflkkkaaHc
import Derived.Test.YtglmmodkflkkkaaFu
set_option linter.unusedVariables false
set_option linter.unusedSimpArgs false
set_option maxRecDepth 100000
namespace Go.Proofs.Ytglmmodkflkkkaa.Ref
open Go.RowKit Go.Proofs.Ytglmmodkflkkkaa.Digits Limbs

theorem inv_one {m : Int} {a z : Nat} (h0 : a % md m ≠ 0) (hz : z < md m) (h : z * a % md m = 1) : z = a ^ (md m - 2) % md m := by
  have hp := md_prime (md_or m)
  have hnd : ¬ md m ∣ a := fun hd => h0 (Nat.mod_eq_zero_of_dvd hd)
  have hc := hp.cop hnd
  have hf := Primes.fermat hp hnd
  have h2 : 2 ≤ md m := hp.1
  have e : a * (a ^ (md m - 2) % md m) % md m = 1 := by
    rw [Nat.mul_mod_mod, Nat.mul_comm, ← Nat.pow_succ, show (md m - 2).succ = md m - 1 by omega]
    exact hf
  have := Primes.cancel hc (x := z) (y := a ^ (md m - 2) % md m) (by rw [e, Nat.mul_comm]; exact h)
  rwa [Nat.mod_eq_of_lt hz, Nat.mod_mod] at this
theorem inverse_is (m : Int) (v : Value) (w : World) (a : Nat) (ha : a < big) (h0 : a % md m ≠ 0) (h : NV w v a) :
    Calls Try.prog 28 #[.int .i64 m, v] w fun e w' => ∃ v', e = .returned v' ∧ Nr w w' v' (a ^ (md m - 2) % md m) :=
  (inverse_nv m v w a ha h0 h).mono fun e w' ⟨v', z, h1, h2, h3, h4⟩ => ⟨v', h1, by rw [← inv_one h0 h3 h4]; exact h2⟩
def fi7I (w0 : World) (gA gX ua ux : Nat) (mm : Int) (t1 t2 t7 t8 t9 t10 t11 t12 t13 t14 t15 t16 t17 t18 t19 t20 t21 t22 t23 t24 t25 t26 t27 t28 t29 t30 t31 t32 : Value) (ds : List Deferred) (l : Array Bool) (a : Act) (w : World) : Prop :=
  ∃ j0 j1 j2 j3 j4 j5 j6 j7 j8 j9 j10 j11 : Bool, ∃ x0 x1 x2 x3 x4 x5 x6 x7 x8 x9 x10 x11 : Value, l = #[j0, j1, j2, j3, j4, j5, j6, j7, j8, j9, j10, j11] ∧ a = { tmps := #[.int .i64 mm, t1, t2, .pointer (some ⟨gA, 0, none⟩), x11, .pointer (some ⟨gX, 0, none⟩), .int .i64 0, t7, t8, t9, t10, t11, t12, t13, t14, t15, t16, t17, t18, t19, t20, t21, t22, t23, t24, t25, t26, t27, t28, t29, t30, t31, t32, x0, x1, x2, x3, x4, x5, x6, x7, x8, x9, x10], defers := ds } ∧ Below w0.heap.size w0 w ∧
  (j0 = true → x0 = .int .i64 0) ∧ (j1 = true → x1 = .bool true) ∧ (j2 = true → x2 = .bool true) ∧ (j3 = true → x3 = .agg #[.int .u64 (lb ux 0 : Nat), .int .u64 (lb ux 1 : Nat), .int .u64 (lb ux 2 : Nat), .int .u64 (lb ux 3 : Nat)]) ∧ (j4 = true → NV w x4 (ux)) ∧ (j5 = true → x5 = .int .i64 mm) ∧ (j6 = true → x6 = .agg #[.int .u64 (lb ua 0 : Nat), .int .u64 (lb ua 1 : Nat), .int .u64 (lb ua 2 : Nat), .int .u64 (lb ua 3 : Nat)]) ∧ (j7 = true → NV w x7 (ua)) ∧ (j8 = true → NV w x8 (ux)) ∧ (j9 = true → x9 = .bool true) ∧ (j10 = true → x10 = .bool true) ∧ (j11 = true → x11 = .bool true)
noncomputable def fi7O : Array Oper := (Try.f4.body.bind fun c => findR c 7).getD #[]
set_option maxHeartbeats 16000000 in
theorem fi7_steps (gA gX ua ux : Nat) (mm : Int) (w : World) (KA : Bk 24 w gA #[.int .u64 (lb ua 0 : Nat), .int .u64 (lb ua 1 : Nat), .int .u64 (lb ua 2 : Nat), .int .u64 (lb ua 3 : Nat)]) (KX : Bk 24 w gX #[.int .u64 (lb ux 0 : Nat), .int .u64 (lb ux 1 : Nat), .int .u64 (lb ux 2 : Nat), .int .u64 (lb ux 3 : Nat)]) (HA : Hid (∀ w, Calls Try.prog 14 #[.agg #[.int .u64 (lb ua 0 : Nat), .int .u64 (lb ua 1 : Nat), .int .u64 (lb ua 2 : Nat), .int .u64 (lb ua 3 : Nat)]] w fun e w' => ∃ v', e = .returned v' ∧ Nr w w' v' ua)) (HX : Hid (∀ w, Calls Try.prog 14 #[.agg #[.int .u64 (lb ux 0 : Nat), .int .u64 (lb ux 1 : Nat), .int .u64 (lb ux 2 : Nat), .int .u64 (lb ux 3 : Nat)]] w fun e w' => ∃ v', e = .returned v' ∧ Nr w w' v' ux)) (HI : Hid (∀ v w, NV w v ua → Calls Try.prog 28 #[.int .i64 mm, v] w fun e w' => ∃ v', e = .returned v' ∧ Nr w w' v' ux))
    {t1 t2 t7 t8 t9 t10 t11 t12 t13 t14 t15 t16 t17 t18 t19 t20 t21 t22 t23 t24 t25 t26 t27 t28 t29 t30 t31 t32 : Value} {ds : List Deferred} {Q : Exit → Act → World → Prop} :
    ∀ l a w', fi7I w gA gX ua ux mm t1 t2 t7 t8 t9 t10 t11 t12 t13 t14 t15 t16 t17 t18 t19 t20 t21 t22 t23 t24 t25 t26 t27 t28 t29 t30 t31 t32 ds l a w' → ∀ i ∈ Region.ready .any fi7O l, wpOp Try.prog fi7O Q i (fun a' w'' => fi7I w gA gX ua ux mm t1 t2 t7 t8 t9 t10 t11 t12 t13 t14 t15 t16 t17 t18 t19 t20 t21 t22 t23 t24 t25 t26 t27 t28 t29 t30 t31 t32 ds (l.setIfInBounds i true) a' w'') a w' := by
  simp only [fi7O, findR, Try.f4, Option.bind_some, Option.or, Option.getD, Nat.reduceEqDiff, if_true, if_false, reduceIte]
  rintro l a w' ⟨j0, j1, j2, j3, j4, j5, j6, j7, j8, j9, j10, j11, x0, x1, x2, x3, x4, x5, x6, x7, x8, x9, x10, x11, rfl, rfl, hB, h0, h1, h2, h3, h4, h5, h6, h7, h8, h9, h10, h11⟩ i hi
  rw [mem_ready] at hi
  obtain ⟨hu, oo, ho, hd⟩ := hi
  have hin : i < 12 := by
    have := (Array.getElem?_eq_some_iff.1 ho).1
    simpa using this
  replace h0 := Lib.hid h0
  replace h1 := Lib.hid h1
  replace h2 := Lib.hid h2
  replace h3 := Lib.hid h3
  replace h4 := Lib.hid h4
  replace h5 := Lib.hid h5
  replace h6 := Lib.hid h6
  replace h7 := Lib.hid h7
  replace h8 := Lib.hid h8
  replace h9 := Lib.hid h9
  replace h10 := Lib.hid h10
  replace h11 := Lib.hid h11
  have hcase : i = 0 ∨ i = 1 ∨ i = 2 ∨ i = 3 ∨ i = 4 ∨ i = 5 ∨ i = 6 ∨ i = 7 ∨ i = 8 ∨ i = 9 ∨ i = 10 ∨ i = 11 := by omega
  rcases hcase with rfl | rfl | rfl | rfl | rfl | rfl | rfl | rfl | rfl | rfl | rfl | rfl
  · obtain rfl := Option.some.inj ho
    simp [Region.binds] at hu hd
    clear hd
    refine wpOp_of rfl rfl ?_
    go_simp
    unfold fi7I
    exact ⟨true, j1, j2, j3, j4, j5, j6, j7, j8, j9, j10, j11, _, x1, x2, x3, x4, x5, x6, x7, x8, x9, x10, x11, rfl, rfl, hB, fun _ => rfl, h1.out, h2.out, h3.out, h4.out, h5.out, h6.out, h7.out, h8.out, h9.out, h10.out, h11.out⟩
  · obtain rfl := Option.some.inj ho
    simp [Region.binds] at hu hd
    have d0 : j0 = true := by simp [hd]
    have e0 := h0.out d0
    subst e0
    subst d0
    clear hd
    refine wpOp_of rfl rfl ?_
    go_simp
    unfold fi7I
    exact ⟨true, true, j2, j3, j4, j5, j6, j7, j8, j9, j10, j11, _, _, x2, x3, x4, x5, x6, x7, x8, x9, x10, x11, rfl, rfl, hB, h0.out, fun _ => rfl, h2.out, h3.out, h4.out, h5.out, h6.out, h7.out, h8.out, h9.out, h10.out, h11.out⟩
  · obtain rfl := Option.some.inj ho
    simp [Region.binds] at hu hd
    have d1 : j1 = true := by simp [hd]
    have e1 := h1.out d1
    subst e1
    subst d1
    clear hd
    refine wpOp_of rfl rfl ?_
    go_simp
    unfold fi7I
    exact ⟨j0, true, true, j3, j4, j5, j6, j7, j8, j9, j10, j11, x0, _, _, x3, x4, x5, x6, x7, x8, x9, x10, x11, rfl, rfl, hB, h0.out, h1.out, fun _ => rfl, h3.out, h4.out, h5.out, h6.out, h7.out, h8.out, h9.out, h10.out, h11.out⟩
  · obtain rfl := Option.some.inj ho
    simp [Region.binds] at hu hd
    have d2 : j2 = true := by simp [hd]
    have e2 := h2.out d2
    subst e2
    subst d2
    clear hd
    refine wpOp_want rfl rfl ?_
    have i0 : w'.cell? ⟨gX, 0, none⟩ = some (.int .u64 (lb ux 0 : Nat)) := (KX.below hB).cell 0
    have i1 : w'.cell? ⟨gX, 1, none⟩ = some (.int .u64 (lb ux 1 : Nat)) := (KX.below hB).cell 1
    have i2 : w'.cell? ⟨gX, 2, none⟩ = some (.int .u64 (lb ux 2 : Nat)) := (KX.below hB).cell 2
    have i3 : w'.cell? ⟨gX, 3, none⟩ = some (.int .u64 (lb ux 3 : Nat)) := (KX.below hB).cell 3
    go_simp
    unfold fi7I
    exact ⟨j0, j1, true, true, j4, j5, j6, j7, j8, j9, j10, j11, x0, x1, _, _, x4, x5, x6, x7, x8, x9, x10, x11, rfl, rfl, hB, h0.out, h1.out, h2.out, fun _ => rfl, h4.out, h5.out, h6.out, h7.out, h8.out, h9.out, h10.out, h11.out⟩
  · obtain rfl := Option.some.inj ho
    simp [Region.binds] at hu hd
    have d2 : j2 = true := by simp [hd]
    have e2 := h2.out d2
    subst e2
    have d3 : j3 = true := by simp [hd]
    have e3 := h3.out d3
    subst e3
    subst d2
    subst d3
    clear hd
    refine wpOp_want rfl rfl ?_
    go_simp
    go_at_call 14
    refine (nk w.heap.size w (HX.out _) hB (Nat.le_refl _)).mono ?_
    rintro e w2 ⟨v', rfl, hn', hB2, hb2⟩
    unfold fi7I
    exact ⟨j0, j1, true, true, true, j5, j6, j7, j8, j9, j10, j11, x0, x1, _, _, _, x5, x6, x7, x8, x9, x10, x11, rfl, rfl, hB2, h0.out, h1.out, h2.out, h3.out, fun _ => hn', h5.out, h6.out, fun hj => (h7.out hj).below hb2, fun hj => (h8.out hj).below hb2, h9.out, h10.out, h11.out⟩
  · obtain rfl := Option.some.inj ho
    simp [Region.binds] at hu hd
    have d2 : j2 = true := by simp [hd]
    have e2 := h2.out d2
    subst e2
    subst d2
    clear hd
    refine wpOp_want rfl rfl ?_
    go_simp
    unfold fi7I
    exact ⟨j0, j1, true, j3, j4, true, j6, j7, j8, j9, j10, j11, x0, x1, _, x3, x4, _, x6, x7, x8, x9, x10, x11, rfl, rfl, hB, h0.out, h1.out, h2.out, h3.out, h4.out, fun _ => rfl, h6.out, h7.out, h8.out, h9.out, h10.out, h11.out⟩
  · obtain rfl := Option.some.inj ho
    simp [Region.binds] at hu hd
    have d2 : j2 = true := by simp [hd]
    have e2 := h2.out d2
    subst e2
    subst d2
    clear hd
    refine wpOp_want rfl rfl ?_
    have i0 : w'.cell? ⟨gA, 0, none⟩ = some (.int .u64 (lb ua 0 : Nat)) := (KA.below hB).cell 0
    have i1 : w'.cell? ⟨gA, 1, none⟩ = some (.int .u64 (lb ua 1 : Nat)) := (KA.below hB).cell 1
    have i2 : w'.cell? ⟨gA, 2, none⟩ = some (.int .u64 (lb ua 2 : Nat)) := (KA.below hB).cell 2
    have i3 : w'.cell? ⟨gA, 3, none⟩ = some (.int .u64 (lb ua 3 : Nat)) := (KA.below hB).cell 3
    go_simp
    unfold fi7I
    exact ⟨j0, j1, true, j3, j4, j5, true, j7, j8, j9, j10, j11, x0, x1, _, x3, x4, x5, _, x7, x8, x9, x10, x11, rfl, rfl, hB, h0.out, h1.out, h2.out, h3.out, h4.out, h5.out, fun _ => rfl, h7.out, h8.out, h9.out, h10.out, h11.out⟩
  · obtain rfl := Option.some.inj ho
    simp [Region.binds] at hu hd
    have d2 : j2 = true := by simp [hd]
    have e2 := h2.out d2
    subst e2
    have d6 : j6 = true := by simp [hd]
    have e6 := h6.out d6
    subst e6
    subst d2
    subst d6
    clear hd
    refine wpOp_want rfl rfl ?_
    go_simp
    go_at_call 14
    refine (nk w.heap.size w (HA.out _) hB (Nat.le_refl _)).mono ?_
    rintro e w2 ⟨v', rfl, hn', hB2, hb2⟩
    unfold fi7I
    exact ⟨j0, j1, true, j3, j4, j5, true, true, j8, j9, j10, j11, x0, x1, _, x3, x4, x5, _, _, x8, x9, x10, x11, rfl, rfl, hB2, h0.out, h1.out, h2.out, h3.out, fun hj => (h4.out hj).below hb2, h5.out, h6.out, fun _ => hn', fun hj => (h8.out hj).below hb2, h9.out, h10.out, h11.out⟩
  · obtain rfl := Option.some.inj ho
    simp [Region.binds] at hu hd
    have d2 : j2 = true := by simp [hd]
    have e2 := h2.out d2
    subst e2
    have d5 : j5 = true := by simp [hd]
    have e5 := h5.out d5
    subst e5
    have d7 : j7 = true := by simp [hd]
    subst d2
    subst d5
    subst d7
    clear hd
    refine wpOp_want rfl rfl ?_
    go_simp
    go_at_call 28
    refine (nk w.heap.size w (HI.out _ _ (h7.out rfl)) hB (Nat.le_refl _)).mono ?_
    rintro e w2 ⟨v', rfl, hn', hB2, hb2⟩
    unfold fi7I
    exact ⟨j0, j1, true, j3, j4, true, j6, true, true, j9, j10, j11, x0, x1, _, x3, x4, _, x6, x7, _, x9, x10, x11, rfl, rfl, hB2, h0.out, h1.out, h2.out, h3.out, fun hj => (h4.out hj).below hb2, h5.out, h6.out, fun hj => (h7.out hj).below hb2, fun _ => hn', h9.out, h10.out, h11.out⟩
  · obtain rfl := Option.some.inj ho
    simp [Region.binds] at hu hd
    have d2 : j2 = true := by simp [hd]
    have e2 := h2.out d2
    subst e2
    have d4 : j4 = true := by simp [hd]
    have d8 : j8 = true := by simp [hd]
    subst d2
    subst d4
    subst d8
    clear hd
    refine wpOp_want rfl rfl ?_
    go_simp
    go_at_call 17
    refine (keep w.heap.size w (is_same _ _ _ ux ux rfl (h4.out rfl) (h8.out rfl)) hB (Nat.le_refl _)).mono ?_
    rintro e w2 ⟨rfl, hB2, hb2⟩
    unfold fi7I
    exact ⟨j0, j1, true, j3, true, j5, j6, j7, true, true, j10, j11, x0, x1, _, x3, x4, x5, x6, x7, x8, _, x10, x11, rfl, rfl, hB2, h0.out, h1.out, h2.out, h3.out, fun hj => (h4.out hj).below hb2, h5.out, h6.out, fun hj => (h7.out hj).below hb2, fun hj => (h8.out hj).below hb2, fun _ => rfl, h10.out, h11.out⟩
  · obtain rfl := Option.some.inj ho
    simp [Region.binds] at hu hd
    have d2 : j2 = true := by simp [hd]
    have e2 := h2.out d2
    subst e2
    have d9 : j9 = true := by simp [hd]
    have e9 := h9.out d9
    subst e9
    subst d2
    subst d9
    clear hd
    refine wpOp_of rfl rfl ?_
    go_simp
    unfold fi7I
    exact ⟨j0, j1, true, j3, j4, j5, j6, j7, j8, true, true, j11, x0, x1, _, x3, x4, x5, x6, x7, x8, _, _, x11, rfl, rfl, hB, h0.out, h1.out, h2.out, h3.out, h4.out, h5.out, h6.out, h7.out, h8.out, h9.out, fun _ => rfl, h11.out⟩
  · obtain rfl := Option.some.inj ho
    simp [Region.binds] at hu hd
    have d10 : j10 = true := by simp [hd]
    have e10 := h10.out d10
    subst e10
    subst d10
    clear hd
    refine wpOp_of rfl rfl ?_
    go_simp
    unfold fi7I
    exact ⟨j0, j1, j2, j3, j4, j5, j6, j7, j8, j9, true, true, x0, x1, x2, x3, x4, x5, x6, x7, x8, x9, _, _, rfl, rfl, hB, h0.out, h1.out, h2.out, h3.out, h4.out, h5.out, h6.out, h7.out, h8.out, h9.out, h10.out, fun _ => rfl⟩
set_option maxHeartbeats 16000000 in
theorem fi7_fin (gA gX ua ux : Nat) (mm : Int) (w : World) {t1 t2 t7 t8 t9 t10 t11 t12 t13 t14 t15 t16 t17 t18 t19 t20 t21 t22 t23 t24 t25 t26 t27 t28 t29 t30 t31 t32 : Value} {ds : List Deferred} : ∀ l a w1, fi7I w gA gX ua ux mm t1 t2 t7 t8 t9 t10 t11 t12 t13 t14 t15 t16 t17 t18 t19 t20 t21 t22 t23 t24 t25 t26 t27 t28 t29 t30 t31 t32 ds l a w1 → Region.ready .any fi7O l = [] →
    ∃ (y0 y1 y2 y3 y4 y5 y6 y7 y8 y9 y10 : Value) , a = { tmps := #[.int .i64 mm, t1, t2, .pointer (some ⟨gA, 0, none⟩), .bool true, .pointer (some ⟨gX, 0, none⟩), .int .i64 0, t7, t8, t9, t10, t11, t12, t13, t14, t15, t16, t17, t18, t19, t20, t21, t22, t23, t24, t25, t26, t27, t28, t29, t30, t31, t32, y0, y1, y2, y3, y4, y5, y6, y7, y8, y9, y10], defers := ds } ∧ Below w.heap.size w w1 := by
  simp only [fi7O, findR, Try.f4, Option.bind_some, Option.or, Option.getD, Nat.reduceEqDiff, if_true, if_false, reduceIte]
  rintro l a w1 ⟨j0, j1, j2, j3, j4, j5, j6, j7, j8, j9, j10, j11, x0, x1, x2, x3, x4, x5, x6, x7, x8, x9, x10, x11, rfl, rfl, hB, h0, h1, h2, h3, h4, h5, h6, h7, h8, h9, h10, h11⟩ hr
  have hn := fun i => List.eq_nil_iff_forall_not_mem.1 hr i
  clear hr
  have d0 : j0 = true := by
    cases hj : j0
    · exact absurd (mem_ready.2 ⟨by simp [hj], _, rfl, by simp [Region.binds, hj]⟩) (hn 0)
    · rfl
  subst d0
  have d1 : j1 = true := by
    cases hj : j1
    · exact absurd (mem_ready.2 ⟨by simp [hj], _, rfl, by simp [Region.binds, hj]⟩) (hn 1)
    · rfl
  subst d1
  have d2 : j2 = true := by
    cases hj : j2
    · exact absurd (mem_ready.2 ⟨by simp [hj], _, rfl, by simp [Region.binds, hj]⟩) (hn 2)
    · rfl
  subst d2
  have d3 : j3 = true := by
    cases hj : j3
    · exact absurd (mem_ready.2 ⟨by simp [hj], _, rfl, by simp [Region.binds, hj]⟩) (hn 3)
    · rfl
  subst d3
  have d4 : j4 = true := by
    cases hj : j4
    · exact absurd (mem_ready.2 ⟨by simp [hj], _, rfl, by simp [Region.binds, hj]⟩) (hn 4)
    · rfl
  subst d4
  have d5 : j5 = true := by
    cases hj : j5
    · exact absurd (mem_ready.2 ⟨by simp [hj], _, rfl, by simp [Region.binds, hj]⟩) (hn 5)
    · rfl
  subst d5
  have d6 : j6 = true := by
    cases hj : j6
    · exact absurd (mem_ready.2 ⟨by simp [hj], _, rfl, by simp [Region.binds, hj]⟩) (hn 6)
    · rfl
  subst d6
  have d7 : j7 = true := by
    cases hj : j7
    · exact absurd (mem_ready.2 ⟨by simp [hj], _, rfl, by simp [Region.binds, hj]⟩) (hn 7)
    · rfl
  subst d7
  have d8 : j8 = true := by
    cases hj : j8
    · exact absurd (mem_ready.2 ⟨by simp [hj], _, rfl, by simp [Region.binds, hj]⟩) (hn 8)
    · rfl
  subst d8
  have d9 : j9 = true := by
    cases hj : j9
    · exact absurd (mem_ready.2 ⟨by simp [hj], _, rfl, by simp [Region.binds, hj]⟩) (hn 9)
    · rfl
  subst d9
  have d10 : j10 = true := by
    cases hj : j10
    · exact absurd (mem_ready.2 ⟨by simp [hj], _, rfl, by simp [Region.binds, hj]⟩) (hn 10)
    · rfl
  subst d10
  have d11 : j11 = true := by
    cases hj : j11
    · exact absurd (mem_ready.2 ⟨by simp [hj], _, rfl, by simp [Region.binds, hj]⟩) (hn 11)
    · rfl
  subst d11
  obtain rfl := h11 rfl
  exact ⟨_, _, _, _, _, _, _, _, _, _, _, rfl, hB⟩
theorem fi7 (gA gX ua ux : Nat) (mm : Int) (w : World) (KA : Bk 24 w gA #[.int .u64 (lb ua 0 : Nat), .int .u64 (lb ua 1 : Nat), .int .u64 (lb ua 2 : Nat), .int .u64 (lb ua 3 : Nat)]) (KX : Bk 24 w gX #[.int .u64 (lb ux 0 : Nat), .int .u64 (lb ux 1 : Nat), .int .u64 (lb ux 2 : Nat), .int .u64 (lb ux 3 : Nat)]) (HA : Hid (∀ w, Calls Try.prog 14 #[.agg #[.int .u64 (lb ua 0 : Nat), .int .u64 (lb ua 1 : Nat), .int .u64 (lb ua 2 : Nat), .int .u64 (lb ua 3 : Nat)]] w fun e w' => ∃ v', e = .returned v' ∧ Nr w w' v' ua)) (HX : Hid (∀ w, Calls Try.prog 14 #[.agg #[.int .u64 (lb ux 0 : Nat), .int .u64 (lb ux 1 : Nat), .int .u64 (lb ux 2 : Nat), .int .u64 (lb ux 3 : Nat)]] w fun e w' => ∃ v', e = .returned v' ∧ Nr w w' v' ux)) (HI : Hid (∀ v w, NV w v ua → Calls Try.prog 28 #[.int .i64 mm, v] w fun e w' => ∃ v', e = .returned v' ∧ Nr w w' v' ux)) {t1 t2 t4 t7 t8 t9 t10 t11 t12 t13 t14 t15 t16 t17 t18 t19 t20 t21 t22 t23 t24 t25 t26 t27 t28 t29 t30 t31 t32 t33 t34 t35 t36 t37 t38 t39 t40 t41 t42 t43 : Value} {ds : List Deferred} {K : Act → World → Prop} {Q : Exit → Act → World → Prop}
    (h : ∀ (y0 y1 y2 y3 y4 y5 y6 y7 y8 y9 y10 : Value) (w1 : World) (hb : Below w.heap.size w w1), K { tmps := #[.int .i64 mm, t1, t2, .pointer (some ⟨gA, 0, none⟩), .bool true, .pointer (some ⟨gX, 0, none⟩), .int .i64 0, t7, t8, t9, t10, t11, t12, t13, t14, t15, t16, t17, t18, t19, t20, t21, t22, t23, t24, t25, t26, t27, t28, t29, t30, t31, t32, y0, y1, y2, y3, y4, y5, y6, y7, y8, y9, y10], defers := ds } w1) :
    (Code.region 7 fi7O true).wp Try.prog (Exit.then K Q) { tmps := #[.int .i64 mm, t1, t2, .pointer (some ⟨gA, 0, none⟩), t4, .pointer (some ⟨gX, 0, none⟩), .int .i64 0, t7, t8, t9, t10, t11, t12, t13, t14, t15, t16, t17, t18, t19, t20, t21, t22, t23, t24, t25, t26, t27, t28, t29, t30, t31, t32, t33, t34, t35, t36, t37, t38, t39, t40, t41, t42, t43], defers := ds } w := by
  have hsz : fi7O.size = 12 := by kernel_rfl
  refine wp_region_any (show Try.prog.follows .mixedOrders = true from by kernel_rfl) ?_
  rw [hsz]
  refine wpAny_inv (I := fi7I w gA gX ua ux mm t1 t2 t7 t8 t9 t10 t11 t12 t13 t14 t15 t16 t17 t18 t19 t20 t21 t22 t23 t24 t25 t26 t27 t28 t29 t30 t31 t32 ds) (fi7_steps gA gX ua ux mm w KA KX HA HX HI) (fun l a w' hI hr => ?_) 12 _ _ _ (by decide) ?_
  · obtain ⟨y0, y1, y2, y3, y4, y5, y6, y7, y8, y9, y10, rfl, hb⟩ := fi7_fin gA gX ua ux mm w l a w' hI hr
    exact h _ _ _ _ _ _ _ _ _ _ _ w' hb
  · exact ⟨false, false, false, false, false, false, false, false, false, false, false, false, t33, t34, t35, t36, t37, t38, t39, t40, t41, t42, t43, t4, rfl, rfl, ⟨rfl, rfl, rfl, Nat.le_refl _, fun _ _ => rfl⟩, (fun h => by cases h), (fun h => by cases h), (fun h => by cases h), (fun h => by cases h), (fun h => by cases h), (fun h => by cases h), (fun h => by cases h), (fun h => by cases h), (fun h => by cases h), (fun h => by cases h), (fun h => by cases h), (fun h => by cases h)⟩

theorem row_len {r : List Nat} (ht : Trim r) : (((r.length : Nat) : Int) == 0) = decide (val r = 0) := by
  by_cases h : r = []
  · subst h; rfl
  · have h1 := val_ge ht h
    have h2 : 0 < 65536 ^ (r.length - 1) := Nat.pow_pos (by decide)
    have h3 : 0 < r.length := List.length_pos_iff.2 h
    rw [decide_eq_false (by omega)]
    simp
    exact h
set_option maxHeartbeats 16000000 in
theorem inverts_walk (m : Int) (ua : Nat) (ha : ua < W256) (w : World) :
    Calls Try.prog 4 #[.int .i64 m, nv ua] w fun r w' => r = .returned (.bool true) ∧ Below w.heap.size w w' := by
  have H0 := Lib.hid awake_any
  have HV := Lib.hid (fun w => Go.Proofs.Ytglmmodkflkkkaa.inv_any m ua ha w)
  have HIA := Lib.hid (fun w => in_any ua ha w)
  have HMR := Lib.hid (fun w => modref_any m w)
  have HLF := Lib.hid (fun v u w' h k => left_nv v u w' ua (md m) (Nat.lt_of_lt_of_le (w_big ha) big_sq) (md_big m) (md_pos m) h k)
  by_cases h0 : ua % md m = 0
  · have HZ := Lib.hid h0
    simp only [if_pos h0, nv_zero] at HV
    clear h0 ha
    simp only [nv, num] at HV HIA ⊢
    go_enter Try.func4, Try.ntmps4
    go_wp2_with fail
    have KA : Hid (Bk 24 (w.alloc (.cells #[.int .u64 (lb ua 0 : Nat), .int .u64 (lb ua 1 : Nat), .int .u64 (lb ua 2 : Nat), .int .u64 (lb ua 3 : Nat)] 24)) w.heap.size #[.int .u64 (lb ua 0 : Nat), .int .u64 (lb ua 1 : Nat), .int .u64 (lb ua 2 : Nat), .int .u64 (lb ua 3 : Nat)]) := Lib.hid (Bk.new rfl)
    have HB : Hid (Below w.heap.size w (w.alloc (.cells #[.int .u64 (lb ua 0 : Nat), .int .u64 (lb ua 1 : Nat), .int .u64 (lb ua 2 : Nat), .int .u64 (lb ua 3 : Nat)] 24))) := Lib.hid (by go_grown)
    generalize (w.alloc (.cells #[.int .u64 (lb ua 0 : Nat), .int .u64 (lb ua 1 : Nat), .int .u64 (lb ua 2 : Nat), .int .u64 (lb ua 3 : Nat)] 24)) = w0 at KA HB ⊢
    refine (keep w.heap.size w (HV.out _) HB.out (Nat.le_refl _)).mono ?_
    rintro e w1 ⟨rfl, hb, hk⟩
    replace KA := Lib.hid (KA.out.below hk)
    replace HB := Lib.hid hb
    clear hb hk
    obtain ⟨a0, a1, a2, a3⟩ := KA.out.cellsA
    go_wp2_with fail
    clear a0 a1 a2 a3
    replace KA := Lib.hid (KA.out.alloc (o := .cells #[.int .u64 0, .int .u64 0, .int .u64 0, .int .u64 0] 24))
    have KX : Hid (Bk 24 (w1.alloc (.cells #[.int .u64 0, .int .u64 0, .int .u64 0, .int .u64 0] 24)) w1.heap.size #[.int .u64 0, .int .u64 0, .int .u64 0, .int .u64 0]) := Lib.hid (Bk.new rfl)
    replace HB := Lib.hid (HB.out.trans ((al_below w1 (.cells #[.int .u64 0, .int .u64 0, .int .u64 0, .int .u64 0] 24)).mono HB.out.size))
    generalize (w1.alloc (.cells #[.int .u64 0, .int .u64 0, .int .u64 0, .int .u64 0] 24)) = w2 at KA KX HB ⊢
    refine (nk w.heap.size w (HIA.out _) HB.out (Nat.le_refl _)).mono ?_
    rintro e w3 ⟨v3, rfl, n3, hb, hk⟩
    replace KX := Lib.hid (KX.out.below hk)
    have N3 := Lib.hid n3
    replace HB := Lib.hid hb
    clear n3 hb hk
    go_wp2_with fail
    refine (nk w.heap.size w (HMR.out _) HB.out (Nat.le_refl _)).mono ?_
    rintro e w4 ⟨v4, rfl, n4, hb, hk⟩
    replace KX := Lib.hid (KX.out.below hk)
    replace N3 := Lib.hid (N3.out.below hk)
    have N4 := Lib.hid n4
    replace HB := Lib.hid hb
    clear n4 hb hk
    go_wp2_with fail
    refine (nk w.heap.size w (HLF.out _ _ _ N3.out N4.out) HB.out (Nat.le_refl _)).mono ?_
    rintro e w5 ⟨v5, rfl, n5, hb, hk⟩
    replace KX := Lib.hid (KX.out.below hk)
    replace HB := Lib.hid hb
    clear hb hk N3 N4
    obtain ⟨r, ⟨g, cap, rfl, _, _, _, _⟩, _, ht, hv⟩ := n5
    have hrl := row_len ht
    rw [hv, HZ.out] at hrl
    clear ht hv
    generalize r.length = rl at hrl ⊢
    have hrl' : ((rl : Int) == 0) = true := hrl
    clear hrl
    go_wp2_with fail
    refine (keep w.heap.size w (H0.out _) HB.out (Nat.le_refl _)).mono ?_
    rintro e w6 ⟨rfl, hb, hk⟩
    replace KX := Lib.hid (KX.out.below hk)
    replace HB := Lib.hid hb
    clear hb hk
    obtain ⟨a0, a1, a2, a3⟩ := KX.out.cells
    have heq : ∀ w, (Op.equalIn 10000 24 (.agg #[.int .u64 0, .int .u64 0, .int .u64 0, .int .u64 0]) (.agg #[.int .u64 0, .int .u64 0, .int .u64 0, .int .u64 0])).run Try.prog w = .ok true w := fun w => eqN 0 0 (by decide +kernel) (by decide +kernel) w
    go_wp2_with fail
    go_ret
    exact ⟨rfl, HB.out⟩
  · have HZ := Lib.hid h0
    simp only [if_neg h0] at HV
    have hux : ua ^ (md m - 2) % md m < W256 := Nat.lt_trans (Nat.mod_lt _ (md_pos m)) (md_lt (md_or m)).1
    have HIX := Lib.hid (fun w => in_any _ hux w)
    have HII := Lib.hid (fun v w h => inverse_is m v w ua (w_big ha) h0 h)
    generalize ua ^ (md m - 2) % md m = ux at *
    clear h0 ha hux
    simp only [nv, num] at HV HIA HIX ⊢
    go_enter Try.func4, Try.ntmps4
    go_wp2_with fail
    have KA : Hid (Bk 24 (w.alloc (.cells #[.int .u64 (lb ua 0 : Nat), .int .u64 (lb ua 1 : Nat), .int .u64 (lb ua 2 : Nat), .int .u64 (lb ua 3 : Nat)] 24)) w.heap.size #[.int .u64 (lb ua 0 : Nat), .int .u64 (lb ua 1 : Nat), .int .u64 (lb ua 2 : Nat), .int .u64 (lb ua 3 : Nat)]) := Lib.hid (Bk.new rfl)
    have HB : Hid (Below w.heap.size w (w.alloc (.cells #[.int .u64 (lb ua 0 : Nat), .int .u64 (lb ua 1 : Nat), .int .u64 (lb ua 2 : Nat), .int .u64 (lb ua 3 : Nat)] 24))) := Lib.hid (by go_grown)
    generalize (w.alloc (.cells #[.int .u64 (lb ua 0 : Nat), .int .u64 (lb ua 1 : Nat), .int .u64 (lb ua 2 : Nat), .int .u64 (lb ua 3 : Nat)] 24)) = w0 at KA HB ⊢
    refine (keep w.heap.size w (HV.out _) HB.out (Nat.le_refl _)).mono ?_
    rintro e w1 ⟨rfl, hb, hk⟩
    replace KA := Lib.hid (KA.out.below hk)
    replace HB := Lib.hid hb
    clear hb hk
    obtain ⟨a0, a1, a2, a3⟩ := KA.out.cellsA
    go_wp2_with fail
    clear a0 a1 a2 a3
    replace KA := Lib.hid (KA.out.alloc (o := .cells #[.int .u64 (lb ux 0 : Nat), .int .u64 (lb ux 1 : Nat), .int .u64 (lb ux 2 : Nat), .int .u64 (lb ux 3 : Nat)] 24))
    have KX : Hid (Bk 24 (w1.alloc (.cells #[.int .u64 (lb ux 0 : Nat), .int .u64 (lb ux 1 : Nat), .int .u64 (lb ux 2 : Nat), .int .u64 (lb ux 3 : Nat)] 24)) w1.heap.size #[.int .u64 (lb ux 0 : Nat), .int .u64 (lb ux 1 : Nat), .int .u64 (lb ux 2 : Nat), .int .u64 (lb ux 3 : Nat)]) := Lib.hid (Bk.new rfl)
    replace HB := Lib.hid (HB.out.trans ((al_below w1 (.cells #[.int .u64 (lb ux 0 : Nat), .int .u64 (lb ux 1 : Nat), .int .u64 (lb ux 2 : Nat), .int .u64 (lb ux 3 : Nat)] 24)).mono HB.out.size))
    generalize (w1.alloc (.cells #[.int .u64 (lb ux 0 : Nat), .int .u64 (lb ux 1 : Nat), .int .u64 (lb ux 2 : Nat), .int .u64 (lb ux 3 : Nat)] 24)) = w2 at KA KX HB ⊢
    refine (nk w.heap.size w (HIA.out _) HB.out (Nat.le_refl _)).mono ?_
    rintro e w3 ⟨v3, rfl, n3, hb, hk⟩
    replace KA := Lib.hid (KA.out.below hk)
    replace KX := Lib.hid (KX.out.below hk)
    have N3 := Lib.hid n3
    replace HB := Lib.hid hb
    clear n3 hb hk
    go_wp2_with fail
    refine (nk w.heap.size w (HMR.out _) HB.out (Nat.le_refl _)).mono ?_
    rintro e w4 ⟨v4, rfl, n4, hb, hk⟩
    replace KA := Lib.hid (KA.out.below hk)
    replace KX := Lib.hid (KX.out.below hk)
    replace N3 := Lib.hid (N3.out.below hk)
    have N4 := Lib.hid n4
    replace HB := Lib.hid hb
    clear n4 hb hk
    go_wp2_with fail
    refine (nk w.heap.size w (HLF.out _ _ _ N3.out N4.out) HB.out (Nat.le_refl _)).mono ?_
    rintro e w5 ⟨v5, rfl, n5, hb, hk⟩
    replace KA := Lib.hid (KA.out.below hk)
    replace KX := Lib.hid (KX.out.below hk)
    replace HB := Lib.hid hb
    clear hb hk N3 N4
    obtain ⟨r, ⟨g, cap, rfl, _, _, _, _⟩, _, ht, hv⟩ := n5
    have hrl := row_len ht
    rw [hv, decide_eq_false HZ.out] at hrl
    clear ht hv
    generalize r.length = rl at hrl ⊢
    have hrl' : ((rl : Int) == 0) = false := hrl
    clear hrl
    go_wp2_with fail
    refine (keep w.heap.size w (H0.out _) HB.out (Nat.le_refl _)).mono ?_
    rintro e w6 ⟨rfl, hb, hk⟩
    replace KA := Lib.hid (KA.out.below hk)
    replace KX := Lib.hid (KX.out.below hk)
    replace HB := Lib.hid hb
    clear hb hk hrl'
    obtain ⟨gx, hgx⟩ : ∃ g, g = w1.heap.size := ⟨_, rfl⟩
    rw [← hgx] at KX ⊢
    clear hgx
    go_wp2_with fail
    refine fi7 w.heap.size gx ua ux m w6 KA.out KX.out HIA HIX HII ?_
    intros
    rename_i wz hz
    replace HB := Lib.hid (HB.out.trans (hz.mono HB.out.size))
    go_wp2_with fail
    go_ret
    exact ⟨rfl, HB.out⟩
end Go.Proofs.Ytglmmodkflkkkaa.Ref
