/- The regions of along, of twice, of plus and of On that draw their order and lay a variable. No condition but what they read. -/
import Derived.Test.YtpggkfdijmnmiaaGreatZuk05
import Derived.Test.YtpggkfdijmnmiaaGreatZuk02
set_option linter.unusedVariables false
set_option linter.unusedSimpArgs false
set_option maxRecDepth 100000
namespace Go.Proofs.YtpggkfdijmnmiaaGreat
open Go.RowKit Go.Sort Limbs
def al1I (w0 : World) (gp gr go x y z r o rr d1 d2 : Nat) (t0 t1 t2 t6 t16 t17 t18 t19 t20 t21 t22 t23 t24 t25 t26 t27 t28 : Value) (ds : List Deferred) (l : Array Bool) (a : Act) (w : World) : Prop :=
  ∃ j0 j1 j2 j3 j4 j5 j6 j7 j8 j9 : Bool, ∃ x0 x1 x2 x3 x4 x5 x6 x7 x8 : Value, ∃ g8 : Nat, l = #[j0, j1, j2, j3, j4, j5, j6, j7, j8, j9] ∧ a = { tmps := #[t0, t1, t2, .pointer (some ⟨gp, 0, none⟩), .pointer (some ⟨gr, 0, none⟩), .pointer (some ⟨go, 0, none⟩), t6, x8, x0, x1, x2, x3, x4, x5, x6, x7, t16, t17, t18, t19, t20, t21, t22, t23, t24, t25, t26, t27, t28], defers := ds } ∧ Below w0.heap.size w0 w ∧
  (j0 = true → x0 = .agg #[.int .u64 (lb r 0 : Nat), .int .u64 (lb r 1 : Nat), .int .u64 (lb r 2 : Nat), .int .u64 (lb r 3 : Nat)]) ∧
  (j1 = true → x1 = .agg #[.int .u64 (lb r 0 : Nat), .int .u64 (lb r 1 : Nat), .int .u64 (lb r 2 : Nat), .int .u64 (lb r 3 : Nat)]) ∧
  (j2 = true → x2 = .agg #[.int .u64 (lb rr 0 : Nat), .int .u64 (lb rr 1 : Nat), .int .u64 (lb rr 2 : Nat), .int .u64 (lb rr 3 : Nat)]) ∧
  (j3 = true → x3 = .pointer (some ⟨gp, 0, none⟩)) ∧
  (j4 = true → x4 = .agg #[.int .u64 (lb x 0 : Nat), .int .u64 (lb x 1 : Nat), .int .u64 (lb x 2 : Nat), .int .u64 (lb x 3 : Nat)]) ∧
  (j5 = true → x5 = .agg #[.int .u64 (lb d1 0 : Nat), .int .u64 (lb d1 1 : Nat), .int .u64 (lb d1 2 : Nat), .int .u64 (lb d1 3 : Nat)]) ∧
  (j6 = true → x6 = .agg #[.int .u64 (lb o 0 : Nat), .int .u64 (lb o 1 : Nat), .int .u64 (lb o 2 : Nat), .int .u64 (lb o 3 : Nat)]) ∧
  (j7 = true → x7 = .agg #[.int .u64 (lb d2 0 : Nat), .int .u64 (lb d2 1 : Nat), .int .u64 (lb d2 2 : Nat), .int .u64 (lb d2 3 : Nat)]) ∧
  (j8 = true → x8 = .pointer (some ⟨g8, 0, none⟩) ∧ w0.heap.size ≤ g8 ∧ ∃ z0 z1 z2 z3 : Value, Bk 24 w g8 #[z0, z1, z2, z3] ∧ (j9 = true → #[z0, z1, z2, z3] = #[.int .u64 (lb d2 0 : Nat), .int .u64 (lb d2 1 : Nat), .int .u64 (lb d2 2 : Nat), .int .u64 (lb d2 3 : Nat)])) ∧
  (j9 = true → j8 = true)
noncomputable def al1O : Array Oper := (Tryz.f184.body.bind fun c => findR c 1).getD #[]
set_option maxHeartbeats 16000000 in
theorem al1_steps (gp gr go x y z r o rr d1 d2 : Nat) (w : World) (KP : Bk 162 w gp #[.int .u64 (lb x 0 : Nat), .int .u64 (lb x 1 : Nat), .int .u64 (lb x 2 : Nat), .int .u64 (lb x 3 : Nat), .int .u64 (lb y 0 : Nat), .int .u64 (lb y 1 : Nat), .int .u64 (lb y 2 : Nat), .int .u64 (lb y 3 : Nat), .int .u64 (lb z 0 : Nat), .int .u64 (lb z 1 : Nat), .int .u64 (lb z 2 : Nat), .int .u64 (lb z 3 : Nat)]) (KR : Bk 24 w gr #[.int .u64 (lb r 0 : Nat), .int .u64 (lb r 1 : Nat), .int .u64 (lb r 2 : Nat), .int .u64 (lb r 3 : Nat)]) (KO : Bk 24 w go #[.int .u64 (lb o 0 : Nat), .int .u64 (lb o 1 : Nat), .int .u64 (lb o 2 : Nat), .int .u64 (lb o 3 : Nat)]) (H1 : Hid (∀ w, Calls Tryz.prog 108 #[.agg #[.int .u64 (lb r 0 : Nat), .int .u64 (lb r 1 : Nat), .int .u64 (lb r 2 : Nat), .int .u64 (lb r 3 : Nat)], .agg #[.int .u64 (lb r 0 : Nat), .int .u64 (lb r 1 : Nat), .int .u64 (lb r 2 : Nat), .int .u64 (lb r 3 : Nat)]] w fun e w' => e = .returned (.agg #[.int .u64 (lb rr 0 : Nat), .int .u64 (lb rr 1 : Nat), .int .u64 (lb rr 2 : Nat), .int .u64 (lb rr 3 : Nat)]) ∧ Below w.heap.size w w')) (H2 : Hid (∀ w, Calls Tryz.prog 110 #[.agg #[.int .u64 (lb rr 0 : Nat), .int .u64 (lb rr 1 : Nat), .int .u64 (lb rr 2 : Nat), .int .u64 (lb rr 3 : Nat)], .agg #[.int .u64 (lb x 0 : Nat), .int .u64 (lb x 1 : Nat), .int .u64 (lb x 2 : Nat), .int .u64 (lb x 3 : Nat)]] w fun e w' => e = .returned (.agg #[.int .u64 (lb d1 0 : Nat), .int .u64 (lb d1 1 : Nat), .int .u64 (lb d1 2 : Nat), .int .u64 (lb d1 3 : Nat)]) ∧ Below w.heap.size w w')) (H3 : Hid (∀ w, Calls Tryz.prog 110 #[.agg #[.int .u64 (lb d1 0 : Nat), .int .u64 (lb d1 1 : Nat), .int .u64 (lb d1 2 : Nat), .int .u64 (lb d1 3 : Nat)], .agg #[.int .u64 (lb o 0 : Nat), .int .u64 (lb o 1 : Nat), .int .u64 (lb o 2 : Nat), .int .u64 (lb o 3 : Nat)]] w fun e w' => e = .returned (.agg #[.int .u64 (lb d2 0 : Nat), .int .u64 (lb d2 1 : Nat), .int .u64 (lb d2 2 : Nat), .int .u64 (lb d2 3 : Nat)]) ∧ Below w.heap.size w w'))
    {t0 t1 t2 t6 t16 t17 t18 t19 t20 t21 t22 t23 t24 t25 t26 t27 t28 : Value} {ds : List Deferred} {Q : Exit → Act → World → Prop} :
    ∀ l a w', al1I w gp gr go x y z r o rr d1 d2 t0 t1 t2 t6 t16 t17 t18 t19 t20 t21 t22 t23 t24 t25 t26 t27 t28 ds l a w' → ∀ i ∈ Region.ready .any al1O l, wpOp Tryz.prog al1O Q i (fun a' w'' => al1I w gp gr go x y z r o rr d1 d2 t0 t1 t2 t6 t16 t17 t18 t19 t20 t21 t22 t23 t24 t25 t26 t27 t28 ds (l.setIfInBounds i true) a' w'') a w' := by
  simp only [al1O, findR, Tryz.f184, Option.bind_some, Option.or, Option.getD, Nat.reduceEqDiff, if_true, if_false, reduceIte]
  rintro l a w' ⟨j0, j1, j2, j3, j4, j5, j6, j7, j8, j9, x0, x1, x2, x3, x4, x5, x6, x7, x8, g8, rfl, rfl, hB, h0, h1, h2, h3, h4, h5, h6, h7, a8, s8⟩ i hi
  rw [mem_ready] at hi
  obtain ⟨hu, oo, ho, hd⟩ := hi
  have hin : i < 10 := by
    have := (Array.getElem?_eq_some_iff.1 ho).1
    simpa using this
  replace h0 := Lib.hid h0
  replace h1 := Lib.hid h1
  replace h2 := Lib.hid h2
  replace h3 := Lib.hid h3
  replace h4 := Lib.hid h4
  replace h5 := Lib.hid h5
  replace h6 := Lib.hid h6
  replace h7 := Lib.hid h7
  have hcase : i = 0 ∨ i = 1 ∨ i = 2 ∨ i = 3 ∨ i = 4 ∨ i = 5 ∨ i = 6 ∨ i = 7 ∨ i = 8 ∨ i = 9 := by omega
  rcases hcase with rfl | rfl | rfl | rfl | rfl | rfl | rfl | rfl | rfl | rfl
  · obtain rfl := Option.some.inj ho
    simp [Region.binds] at hu hd
    clear hd
    refine wpOp_of rfl rfl ?_
    have i0 : w'.cell? ⟨gr, 0, none⟩ = some (.int .u64 (lb r 0 : Nat)) := (KR.below hB).cell 0
    have i1 : w'.cell? ⟨gr, 1, none⟩ = some (.int .u64 (lb r 1 : Nat)) := (KR.below hB).cell 1
    have i2 : w'.cell? ⟨gr, 2, none⟩ = some (.int .u64 (lb r 2 : Nat)) := (KR.below hB).cell 2
    have i3 : w'.cell? ⟨gr, 3, none⟩ = some (.int .u64 (lb r 3 : Nat)) := (KR.below hB).cell 3
    go_simp
    unfold al1I
    exact ⟨true, j1, j2, j3, j4, j5, j6, j7, j8, j9, _, x1, x2, x3, x4, x5, x6, x7, x8, g8, rfl, rfl, hB, fun _ => rfl, h1.out, h2.out, h3.out, h4.out, h5.out, h6.out, h7.out, a8, s8⟩
  · obtain rfl := Option.some.inj ho
    simp [Region.binds] at hu hd
    clear hd
    refine wpOp_of rfl rfl ?_
    have i0 : w'.cell? ⟨gr, 0, none⟩ = some (.int .u64 (lb r 0 : Nat)) := (KR.below hB).cell 0
    have i1 : w'.cell? ⟨gr, 1, none⟩ = some (.int .u64 (lb r 1 : Nat)) := (KR.below hB).cell 1
    have i2 : w'.cell? ⟨gr, 2, none⟩ = some (.int .u64 (lb r 2 : Nat)) := (KR.below hB).cell 2
    have i3 : w'.cell? ⟨gr, 3, none⟩ = some (.int .u64 (lb r 3 : Nat)) := (KR.below hB).cell 3
    go_simp
    unfold al1I
    exact ⟨j0, true, j2, j3, j4, j5, j6, j7, j8, j9, x0, _, x2, x3, x4, x5, x6, x7, x8, g8, rfl, rfl, hB, h0.out, fun _ => rfl, h2.out, h3.out, h4.out, h5.out, h6.out, h7.out, a8, s8⟩
  · obtain rfl := Option.some.inj ho
    simp [Region.binds] at hu hd
    have d0 : j0 = true := by simp [hd]
    have e0 := h0.out d0
    subst e0
    have d1 : j1 = true := by simp [hd]
    have e1 := h1.out d1
    subst e1
    subst d0
    subst d1
    clear hd
    refine wpOp_of rfl rfl ?_
    go_simp
    go_at_call 108
    refine (keep w.heap.size w (H1.out _) hB (Nat.le_refl _)).mono ?_
    rintro e w2 ⟨rfl, hB2, hb2⟩
    unfold al1I
    exact ⟨true, true, true, j3, j4, j5, j6, j7, j8, j9, _, _, _, x3, x4, x5, x6, x7, x8, g8, rfl, rfl, hB2, h0.out, h1.out, fun _ => rfl, h3.out, h4.out, h5.out, h6.out, h7.out, (fun hj => by obtain ⟨q1, q2, z0, z1, z2, z3, q3, q4⟩ := a8 hj; exact ⟨q1, q2, z0, z1, z2, z3, q3.below hb2, q4⟩), s8⟩
  · obtain rfl := Option.some.inj ho
    simp [Region.binds] at hu hd
    clear hd
    refine wpOp_of rfl rfl ?_
    go_simp
    unfold al1I
    exact ⟨j0, j1, j2, true, j4, j5, j6, j7, j8, j9, x0, x1, x2, _, x4, x5, x6, x7, x8, g8, rfl, rfl, hB, h0.out, h1.out, h2.out, fun _ => rfl, h4.out, h5.out, h6.out, h7.out, a8, s8⟩
  · obtain rfl := Option.some.inj ho
    simp [Region.binds] at hu hd
    have d3 : j3 = true := by simp [hd]
    have e3 := h3.out d3
    subst e3
    subst d3
    clear hd
    refine wpOp_of rfl rfl ?_
    have i0 : w'.cell? ⟨gp, 0, none⟩ = some (.int .u64 (lb x 0 : Nat)) := (KP.below hB).cell 0
    have i1 : w'.cell? ⟨gp, 1, none⟩ = some (.int .u64 (lb x 1 : Nat)) := (KP.below hB).cell 1
    have i2 : w'.cell? ⟨gp, 2, none⟩ = some (.int .u64 (lb x 2 : Nat)) := (KP.below hB).cell 2
    have i3 : w'.cell? ⟨gp, 3, none⟩ = some (.int .u64 (lb x 3 : Nat)) := (KP.below hB).cell 3
    go_simp
    unfold al1I
    exact ⟨j0, j1, j2, true, true, j5, j6, j7, j8, j9, x0, x1, x2, _, _, x5, x6, x7, x8, g8, rfl, rfl, hB, h0.out, h1.out, h2.out, h3.out, fun _ => rfl, h5.out, h6.out, h7.out, a8, s8⟩
  · obtain rfl := Option.some.inj ho
    simp [Region.binds] at hu hd
    have d2 : j2 = true := by simp [hd]
    have e2 := h2.out d2
    subst e2
    have d4 : j4 = true := by simp [hd]
    have e4 := h4.out d4
    subst e4
    subst d2
    subst d4
    clear hd
    refine wpOp_of rfl rfl ?_
    go_simp
    go_at_call 110
    refine (keep w.heap.size w (H2.out _) hB (Nat.le_refl _)).mono ?_
    rintro e w2 ⟨rfl, hB2, hb2⟩
    unfold al1I
    exact ⟨j0, j1, true, j3, true, true, j6, j7, j8, j9, x0, x1, _, x3, _, _, x6, x7, x8, g8, rfl, rfl, hB2, h0.out, h1.out, h2.out, h3.out, h4.out, fun _ => rfl, h6.out, h7.out, (fun hj => by obtain ⟨q1, q2, z0, z1, z2, z3, q3, q4⟩ := a8 hj; exact ⟨q1, q2, z0, z1, z2, z3, q3.below hb2, q4⟩), s8⟩
  · obtain rfl := Option.some.inj ho
    simp [Region.binds] at hu hd
    clear hd
    refine wpOp_of rfl rfl ?_
    have i0 : w'.cell? ⟨go, 0, none⟩ = some (.int .u64 (lb o 0 : Nat)) := (KO.below hB).cell 0
    have i1 : w'.cell? ⟨go, 1, none⟩ = some (.int .u64 (lb o 1 : Nat)) := (KO.below hB).cell 1
    have i2 : w'.cell? ⟨go, 2, none⟩ = some (.int .u64 (lb o 2 : Nat)) := (KO.below hB).cell 2
    have i3 : w'.cell? ⟨go, 3, none⟩ = some (.int .u64 (lb o 3 : Nat)) := (KO.below hB).cell 3
    go_simp
    unfold al1I
    exact ⟨j0, j1, j2, j3, j4, j5, true, j7, j8, j9, x0, x1, x2, x3, x4, x5, _, x7, x8, g8, rfl, rfl, hB, h0.out, h1.out, h2.out, h3.out, h4.out, h5.out, fun _ => rfl, h7.out, a8, s8⟩
  · obtain rfl := Option.some.inj ho
    simp [Region.binds] at hu hd
    have d5 : j5 = true := by simp [hd]
    have e5 := h5.out d5
    subst e5
    have d6 : j6 = true := by simp [hd]
    have e6 := h6.out d6
    subst e6
    subst d5
    subst d6
    clear hd
    refine wpOp_of rfl rfl ?_
    go_simp
    go_at_call 110
    refine (keep w.heap.size w (H3.out _) hB (Nat.le_refl _)).mono ?_
    rintro e w2 ⟨rfl, hB2, hb2⟩
    unfold al1I
    exact ⟨j0, j1, j2, j3, j4, true, true, true, j8, j9, x0, x1, x2, x3, x4, _, _, _, x8, g8, rfl, rfl, hB2, h0.out, h1.out, h2.out, h3.out, h4.out, h5.out, h6.out, fun _ => rfl, (fun hj => by obtain ⟨q1, q2, z0, z1, z2, z3, q3, q4⟩ := a8 hj; exact ⟨q1, q2, z0, z1, z2, z3, q3.below hb2, q4⟩), s8⟩
  · obtain rfl := Option.some.inj ho
    simp [Region.binds] at hu hd
    clear hd
    refine wpOp_of rfl rfl ?_
    have hs := hB.size
    go_simp
    unfold al1I
    exact ⟨j0, j1, j2, j3, j4, j5, j6, j7, true, j9, x0, x1, x2, x3, x4, x5, x6, x7, _, w'.heap.size, rfl, rfl, (by go_grown), h0.out, h1.out, h2.out, h3.out, h4.out, h5.out, h6.out, h7.out, (fun _ => ⟨rfl, hs, _, _, _, _, Bk.new rfl, fun hj => absurd (s8 hj) (by simp [hu])⟩), (fun _ => rfl)⟩
  · obtain rfl := Option.some.inj ho
    simp [Region.binds] at hu hd
    have d7 : j7 = true := by simp [hd]
    have e7 := h7.out d7
    subst e7
    have d8 : j8 = true := by simp [hd]
    subst d7
    subst d8
    clear hd
    refine wpOp_of rfl rfl ?_
    obtain ⟨p1, p2, z0, z1, z2, z3, p3, p4⟩ := a8 rfl
    subst p1
    obtain ⟨f0, f1, f2, f3⟩ := p3.fros
    obtain ⟨c0, c1, c2, c3⟩ := p3.cells
    clear a8
    go_simp
    unfold al1I
    exact ⟨j0, j1, j2, j3, j4, j5, j6, true, true, true, x0, x1, x2, x3, x4, x5, x6, _, _, g8, rfl, rfl, (by go_grown), h0.out, h1.out, h2.out, h3.out, h4.out, h5.out, h6.out, h7.out, (fun _ => ⟨rfl, p2, _, _, _, _, Bk.put p3, fun _ => rfl⟩), (fun _ => rfl)⟩
set_option maxHeartbeats 16000000 in
theorem al1_fin (gp gr go x y z r o rr d1 d2 : Nat) (w : World)
    {t0 t1 t2 t6 t16 t17 t18 t19 t20 t21 t22 t23 t24 t25 t26 t27 t28 : Value} {ds : List Deferred} : ∀ l a w', al1I w gp gr go x y z r o rr d1 d2 t0 t1 t2 t6 t16 t17 t18 t19 t20 t21 t22 t23 t24 t25 t26 t27 t28 ds l a w' → Region.ready .any al1O l = [] →
    ∃ (y0 y1 y2 y3 y4 y5 y6 y7 : Value) (g8 : Nat), a = { tmps := #[t0, t1, t2, .pointer (some ⟨gp, 0, none⟩), .pointer (some ⟨gr, 0, none⟩), .pointer (some ⟨go, 0, none⟩), t6, .pointer (some ⟨g8, 0, none⟩), y0, y1, y2, y3, y4, y5, y6, y7, t16, t17, t18, t19, t20, t21, t22, t23, t24, t25, t26, t27, t28], defers := ds } ∧ Below w.heap.size w w' ∧ w.heap.size ≤ g8 ∧ Bk 24 w' g8 #[.int .u64 (lb d2 0 : Nat), .int .u64 (lb d2 1 : Nat), .int .u64 (lb d2 2 : Nat), .int .u64 (lb d2 3 : Nat)] := by
  simp only [al1O, findR, Tryz.f184, Option.bind_some, Option.or, Option.getD, Nat.reduceEqDiff, if_true, if_false, reduceIte]
  rintro l a w' ⟨j0, j1, j2, j3, j4, j5, j6, j7, j8, j9, x0, x1, x2, x3, x4, x5, x6, x7, x8, g8, rfl, rfl, hB, h0, h1, h2, h3, h4, h5, h6, h7, a8, s8⟩ hr
  have hn := fun i => List.eq_nil_iff_forall_not_mem.1 hr i
  clear hr
  cases j0; exact absurd (mem_ready.2 ⟨by simp, _, rfl, by simp [Region.binds]⟩) (hn 0)
  obtain rfl := h0 rfl
  cases j1; exact absurd (mem_ready.2 ⟨by simp, _, rfl, by simp [Region.binds]⟩) (hn 1)
  obtain rfl := h1 rfl
  cases j2; exact absurd (mem_ready.2 ⟨by simp, _, rfl, by simp [Region.binds]⟩) (hn 2)
  obtain rfl := h2 rfl
  cases j3; exact absurd (mem_ready.2 ⟨by simp, _, rfl, by simp [Region.binds]⟩) (hn 3)
  obtain rfl := h3 rfl
  cases j4; exact absurd (mem_ready.2 ⟨by simp, _, rfl, by simp [Region.binds]⟩) (hn 4)
  obtain rfl := h4 rfl
  cases j5; exact absurd (mem_ready.2 ⟨by simp, _, rfl, by simp [Region.binds]⟩) (hn 5)
  obtain rfl := h5 rfl
  cases j6; exact absurd (mem_ready.2 ⟨by simp, _, rfl, by simp [Region.binds]⟩) (hn 6)
  obtain rfl := h6 rfl
  cases j7; exact absurd (mem_ready.2 ⟨by simp, _, rfl, by simp [Region.binds]⟩) (hn 7)
  obtain rfl := h7 rfl
  cases j8; exact absurd (mem_ready.2 ⟨by simp, _, rfl, by simp [Region.binds]⟩) (hn 8)
  cases j9; exact absurd (mem_ready.2 ⟨by simp, _, rfl, by simp [Region.binds]⟩) (hn 9)
  obtain ⟨rfl, l8, z0, z1, z2, z3, b8, r8⟩ := a8 rfl
  rw [r8 rfl] at b8
  exact ⟨_, _, _, _, _, _, _, _, g8, rfl, hB, l8, b8⟩
theorem al1 (gp gr go x y z r o rr d1 d2 : Nat) (w : World) (KP : Bk 162 w gp #[.int .u64 (lb x 0 : Nat), .int .u64 (lb x 1 : Nat), .int .u64 (lb x 2 : Nat), .int .u64 (lb x 3 : Nat), .int .u64 (lb y 0 : Nat), .int .u64 (lb y 1 : Nat), .int .u64 (lb y 2 : Nat), .int .u64 (lb y 3 : Nat), .int .u64 (lb z 0 : Nat), .int .u64 (lb z 1 : Nat), .int .u64 (lb z 2 : Nat), .int .u64 (lb z 3 : Nat)]) (KR : Bk 24 w gr #[.int .u64 (lb r 0 : Nat), .int .u64 (lb r 1 : Nat), .int .u64 (lb r 2 : Nat), .int .u64 (lb r 3 : Nat)]) (KO : Bk 24 w go #[.int .u64 (lb o 0 : Nat), .int .u64 (lb o 1 : Nat), .int .u64 (lb o 2 : Nat), .int .u64 (lb o 3 : Nat)]) (H1 : Hid (∀ w, Calls Tryz.prog 108 #[.agg #[.int .u64 (lb r 0 : Nat), .int .u64 (lb r 1 : Nat), .int .u64 (lb r 2 : Nat), .int .u64 (lb r 3 : Nat)], .agg #[.int .u64 (lb r 0 : Nat), .int .u64 (lb r 1 : Nat), .int .u64 (lb r 2 : Nat), .int .u64 (lb r 3 : Nat)]] w fun e w' => e = .returned (.agg #[.int .u64 (lb rr 0 : Nat), .int .u64 (lb rr 1 : Nat), .int .u64 (lb rr 2 : Nat), .int .u64 (lb rr 3 : Nat)]) ∧ Below w.heap.size w w')) (H2 : Hid (∀ w, Calls Tryz.prog 110 #[.agg #[.int .u64 (lb rr 0 : Nat), .int .u64 (lb rr 1 : Nat), .int .u64 (lb rr 2 : Nat), .int .u64 (lb rr 3 : Nat)], .agg #[.int .u64 (lb x 0 : Nat), .int .u64 (lb x 1 : Nat), .int .u64 (lb x 2 : Nat), .int .u64 (lb x 3 : Nat)]] w fun e w' => e = .returned (.agg #[.int .u64 (lb d1 0 : Nat), .int .u64 (lb d1 1 : Nat), .int .u64 (lb d1 2 : Nat), .int .u64 (lb d1 3 : Nat)]) ∧ Below w.heap.size w w')) (H3 : Hid (∀ w, Calls Tryz.prog 110 #[.agg #[.int .u64 (lb d1 0 : Nat), .int .u64 (lb d1 1 : Nat), .int .u64 (lb d1 2 : Nat), .int .u64 (lb d1 3 : Nat)], .agg #[.int .u64 (lb o 0 : Nat), .int .u64 (lb o 1 : Nat), .int .u64 (lb o 2 : Nat), .int .u64 (lb o 3 : Nat)]] w fun e w' => e = .returned (.agg #[.int .u64 (lb d2 0 : Nat), .int .u64 (lb d2 1 : Nat), .int .u64 (lb d2 2 : Nat), .int .u64 (lb d2 3 : Nat)]) ∧ Below w.heap.size w w'))
    {t0 t1 t2 t6 t7 t8 t9 t10 t11 t12 t13 t14 t15 t16 t17 t18 t19 t20 t21 t22 t23 t24 t25 t26 t27 t28 : Value} {ds : List Deferred} {K : Act → World → Prop} {Q : Exit → Act → World → Prop}
    (h : ∀ (y0 y1 y2 y3 y4 y5 y6 y7 : Value) (g8 : Nat) (w' : World) (hb : Below w.heap.size w w') (hg8 : w.heap.size ≤ g8) (hk8 : Bk 24 w' g8 #[.int .u64 (lb d2 0 : Nat), .int .u64 (lb d2 1 : Nat), .int .u64 (lb d2 2 : Nat), .int .u64 (lb d2 3 : Nat)]), K { tmps := #[t0, t1, t2, .pointer (some ⟨gp, 0, none⟩), .pointer (some ⟨gr, 0, none⟩), .pointer (some ⟨go, 0, none⟩), t6, .pointer (some ⟨g8, 0, none⟩), y0, y1, y2, y3, y4, y5, y6, y7, t16, t17, t18, t19, t20, t21, t22, t23, t24, t25, t26, t27, t28], defers := ds } w') :
    (Code.region 1 al1O true).wp Tryz.prog (Exit.then K Q) { tmps := #[t0, t1, t2, .pointer (some ⟨gp, 0, none⟩), .pointer (some ⟨gr, 0, none⟩), .pointer (some ⟨go, 0, none⟩), t6, t7, t8, t9, t10, t11, t12, t13, t14, t15, t16, t17, t18, t19, t20, t21, t22, t23, t24, t25, t26, t27, t28], defers := ds } w := by
  have hsz : al1O.size = 10 := by kernel_rfl
  refine wp_region_any mixed ?_
  rw [hsz]
  refine wpAny_inv (I := al1I w gp gr go x y z r o rr d1 d2 t0 t1 t2 t6 t16 t17 t18 t19 t20 t21 t22 t23 t24 t25 t26 t27 t28 ds) (al1_steps gp gr go x y z r o rr d1 d2 w KP KR KO H1 H2 H3) (fun l a w' hI hr => ?_) 10 _ _ _ (by decide) ?_
  · obtain ⟨y0, y1, y2, y3, y4, y5, y6, y7, g8, rfl, hb, l8, b8⟩ := al1_fin gp gr go x y z r o rr d1 d2 w l a w' hI hr
    exact h _ _ _ _ _ _ _ _ g8 w' hb l8 b8
  · exact ⟨false, false, false, false, false, false, false, false, false, false, t8, t9, t10, t11, t12, t13, t14, t15, t7, 0, rfl, rfl, ⟨rfl, rfl, rfl, Nat.le_refl _, fun _ _ => rfl⟩, (fun h => by cases h), (fun h => by cases h), (fun h => by cases h), (fun h => by cases h), (fun h => by cases h), (fun h => by cases h), (fun h => by cases h), (fun h => by cases h), (fun h => by cases h), (fun h => by cases h)⟩
def tw4I (w0 : World) (gp gs x y z q dd ss mm rise : Nat) (t0 t2 t5 t6 t7 t8 t9 t10 t11 t12 t13 t24 t25 t26 t27 t28 t29 t30 t31 t32 t33 t34 t35 : Value) (ds : List Deferred) (l : Array Bool) (a : Act) (w : World) : Prop :=
  ∃ j0 j1 j2 j3 j4 j5 j6 j7 j8 j9 j10 j11 : Bool, ∃ x0 x1 x2 x3 x4 x5 x6 x7 x8 x9 x10 : Value, ∃ g10 : Nat, l = #[j0, j1, j2, j3, j4, j5, j6, j7, j8, j9, j10, j11] ∧ a = { tmps := #[t0, .pointer (some ⟨gp, 0, none⟩), t2, .pointer (some ⟨gs, 0, none⟩), x10, t5, t6, t7, t8, t9, t10, t11, t12, t13, x0, x1, x2, x3, x4, x5, x6, x7, x8, x9, t24, t25, t26, t27, t28, t29, t30, t31, t32, t33, t34, t35], defers := ds } ∧ Below w0.heap.size w0 w ∧
  (j0 = true → x0 = .pointer (some ⟨gp, 0, none⟩)) ∧
  (j1 = true → x1 = .agg #[.int .u64 (lb x 0 : Nat), .int .u64 (lb x 1 : Nat), .int .u64 (lb x 2 : Nat), .int .u64 (lb x 3 : Nat)]) ∧
  (j2 = true → x2 = .agg #[.int .u64 (lb q 0 : Nat), .int .u64 (lb q 1 : Nat), .int .u64 (lb q 2 : Nat), .int .u64 (lb q 3 : Nat)]) ∧
  (j3 = true → x3 = .agg #[.int .u64 (lb dd 0 : Nat), .int .u64 (lb dd 1 : Nat), .int .u64 (lb dd 2 : Nat), .int .u64 (lb dd 3 : Nat)]) ∧
  (j4 = true → x4 = .pointer (some ⟨gp, 0, none⟩)) ∧
  (j5 = true → x5 = .agg #[.int .u64 (lb x 0 : Nat), .int .u64 (lb x 1 : Nat), .int .u64 (lb x 2 : Nat), .int .u64 (lb x 3 : Nat)]) ∧
  (j6 = true → x6 = .agg #[.int .u64 (lb q 0 : Nat), .int .u64 (lb q 1 : Nat), .int .u64 (lb q 2 : Nat), .int .u64 (lb q 3 : Nat)]) ∧
  (j7 = true → x7 = .agg #[.int .u64 (lb ss 0 : Nat), .int .u64 (lb ss 1 : Nat), .int .u64 (lb ss 2 : Nat), .int .u64 (lb ss 3 : Nat)]) ∧
  (j8 = true → x8 = .agg #[.int .u64 (lb mm 0 : Nat), .int .u64 (lb mm 1 : Nat), .int .u64 (lb mm 2 : Nat), .int .u64 (lb mm 3 : Nat)]) ∧
  (j9 = true → x9 = .agg #[.int .u64 (lb rise 0 : Nat), .int .u64 (lb rise 1 : Nat), .int .u64 (lb rise 2 : Nat), .int .u64 (lb rise 3 : Nat)]) ∧
  (j10 = true → x10 = .pointer (some ⟨g10, 0, none⟩) ∧ w0.heap.size ≤ g10 ∧ ∃ z0 z1 z2 z3 : Value, Bk 24 w g10 #[z0, z1, z2, z3] ∧ (j11 = true → #[z0, z1, z2, z3] = #[.int .u64 (lb rise 0 : Nat), .int .u64 (lb rise 1 : Nat), .int .u64 (lb rise 2 : Nat), .int .u64 (lb rise 3 : Nat)])) ∧
  (j11 = true → j10 = true)
noncomputable def tw4O : Array Oper := (Tryz.f168.body.bind fun c => findR c 4).getD #[]
set_option maxHeartbeats 16000000 in
theorem tw4_steps (gp gs x y z q dd ss mm rise : Nat) (w : World) (KP : Bk 162 w gp #[.int .u64 (lb x 0 : Nat), .int .u64 (lb x 1 : Nat), .int .u64 (lb x 2 : Nat), .int .u64 (lb x 3 : Nat), .int .u64 (lb y 0 : Nat), .int .u64 (lb y 1 : Nat), .int .u64 (lb y 2 : Nat), .int .u64 (lb y 3 : Nat), .int .u64 (lb z 0 : Nat), .int .u64 (lb z 1 : Nat), .int .u64 (lb z 2 : Nat), .int .u64 (lb z 3 : Nat)]) (KS : Bk 24 w gs #[.int .u64 (lb q 0 : Nat), .int .u64 (lb q 1 : Nat), .int .u64 (lb q 2 : Nat), .int .u64 (lb q 3 : Nat)]) (H1 : Hid (∀ w, Calls Tryz.prog 110 #[.agg #[.int .u64 (lb x 0 : Nat), .int .u64 (lb x 1 : Nat), .int .u64 (lb x 2 : Nat), .int .u64 (lb x 3 : Nat)], .agg #[.int .u64 (lb q 0 : Nat), .int .u64 (lb q 1 : Nat), .int .u64 (lb q 2 : Nat), .int .u64 (lb q 3 : Nat)]] w fun e w' => e = .returned (.agg #[.int .u64 (lb dd 0 : Nat), .int .u64 (lb dd 1 : Nat), .int .u64 (lb dd 2 : Nat), .int .u64 (lb dd 3 : Nat)]) ∧ Below w.heap.size w w')) (H2 : Hid (∀ w, Calls Tryz.prog 109 #[.agg #[.int .u64 (lb x 0 : Nat), .int .u64 (lb x 1 : Nat), .int .u64 (lb x 2 : Nat), .int .u64 (lb x 3 : Nat)], .agg #[.int .u64 (lb q 0 : Nat), .int .u64 (lb q 1 : Nat), .int .u64 (lb q 2 : Nat), .int .u64 (lb q 3 : Nat)]] w fun e w' => e = .returned (.agg #[.int .u64 (lb ss 0 : Nat), .int .u64 (lb ss 1 : Nat), .int .u64 (lb ss 2 : Nat), .int .u64 (lb ss 3 : Nat)]) ∧ Below w.heap.size w w')) (H3 : Hid (∀ w, Calls Tryz.prog 108 #[.agg #[.int .u64 (lb dd 0 : Nat), .int .u64 (lb dd 1 : Nat), .int .u64 (lb dd 2 : Nat), .int .u64 (lb dd 3 : Nat)], .agg #[.int .u64 (lb ss 0 : Nat), .int .u64 (lb ss 1 : Nat), .int .u64 (lb ss 2 : Nat), .int .u64 (lb ss 3 : Nat)]] w fun e w' => e = .returned (.agg #[.int .u64 (lb mm 0 : Nat), .int .u64 (lb mm 1 : Nat), .int .u64 (lb mm 2 : Nat), .int .u64 (lb mm 3 : Nat)]) ∧ Below w.heap.size w w')) (H4 : Hid (∀ w, Calls Tryz.prog 111 #[.agg #[.int .u64 (lb mm 0 : Nat), .int .u64 (lb mm 1 : Nat), .int .u64 (lb mm 2 : Nat), .int .u64 (lb mm 3 : Nat)]] w fun e w' => e = .returned (.agg #[.int .u64 (lb rise 0 : Nat), .int .u64 (lb rise 1 : Nat), .int .u64 (lb rise 2 : Nat), .int .u64 (lb rise 3 : Nat)]) ∧ Below w.heap.size w w'))
    {t0 t2 t5 t6 t7 t8 t9 t10 t11 t12 t13 t24 t25 t26 t27 t28 t29 t30 t31 t32 t33 t34 t35 : Value} {ds : List Deferred} {Q : Exit → Act → World → Prop} :
    ∀ l a w', tw4I w gp gs x y z q dd ss mm rise t0 t2 t5 t6 t7 t8 t9 t10 t11 t12 t13 t24 t25 t26 t27 t28 t29 t30 t31 t32 t33 t34 t35 ds l a w' → ∀ i ∈ Region.ready .any tw4O l, wpOp Tryz.prog tw4O Q i (fun a' w'' => tw4I w gp gs x y z q dd ss mm rise t0 t2 t5 t6 t7 t8 t9 t10 t11 t12 t13 t24 t25 t26 t27 t28 t29 t30 t31 t32 t33 t34 t35 ds (l.setIfInBounds i true) a' w'') a w' := by
  simp only [tw4O, findR, Tryz.f168, Option.bind_some, Option.or, Option.getD, Nat.reduceEqDiff, if_true, if_false, reduceIte]
  rintro l a w' ⟨j0, j1, j2, j3, j4, j5, j6, j7, j8, j9, j10, j11, x0, x1, x2, x3, x4, x5, x6, x7, x8, x9, x10, g10, rfl, rfl, hB, h0, h1, h2, h3, h4, h5, h6, h7, h8, h9, a10, s10⟩ i hi
  rw [mem_ready] at hi
  obtain ⟨hu, oo, ho, hd⟩ := hi
  have hin : i < 12 := by
    have := (Array.getElem?_eq_some_iff.1 ho).1
    simpa using this
  replace h0 := Lib.hid h0
  replace h1 := Lib.hid h1
  replace h2 := Lib.hid h2
  replace h3 := Lib.hid h3
  replace h4 := Lib.hid h4
  replace h5 := Lib.hid h5
  replace h6 := Lib.hid h6
  replace h7 := Lib.hid h7
  replace h8 := Lib.hid h8
  replace h9 := Lib.hid h9
  have hcase : i = 0 ∨ i = 1 ∨ i = 2 ∨ i = 3 ∨ i = 4 ∨ i = 5 ∨ i = 6 ∨ i = 7 ∨ i = 8 ∨ i = 9 ∨ i = 10 ∨ i = 11 := by omega
  rcases hcase with rfl | rfl | rfl | rfl | rfl | rfl | rfl | rfl | rfl | rfl | rfl | rfl
  · obtain rfl := Option.some.inj ho
    simp [Region.binds] at hu hd
    clear hd
    refine wpOp_of rfl rfl ?_
    go_simp
    unfold tw4I
    exact ⟨true, j1, j2, j3, j4, j5, j6, j7, j8, j9, j10, j11, _, x1, x2, x3, x4, x5, x6, x7, x8, x9, x10, g10, rfl, rfl, hB, fun _ => rfl, h1.out, h2.out, h3.out, h4.out, h5.out, h6.out, h7.out, h8.out, h9.out, a10, s10⟩
  · obtain rfl := Option.some.inj ho
    simp [Region.binds] at hu hd
    have d0 : j0 = true := by simp [hd]
    have e0 := h0.out d0
    subst e0
    subst d0
    clear hd
    refine wpOp_of rfl rfl ?_
    have i0 : w'.cell? ⟨gp, 0, none⟩ = some (.int .u64 (lb x 0 : Nat)) := (KP.below hB).cell 0
    have i1 : w'.cell? ⟨gp, 1, none⟩ = some (.int .u64 (lb x 1 : Nat)) := (KP.below hB).cell 1
    have i2 : w'.cell? ⟨gp, 2, none⟩ = some (.int .u64 (lb x 2 : Nat)) := (KP.below hB).cell 2
    have i3 : w'.cell? ⟨gp, 3, none⟩ = some (.int .u64 (lb x 3 : Nat)) := (KP.below hB).cell 3
    go_simp
    unfold tw4I
    exact ⟨true, true, j2, j3, j4, j5, j6, j7, j8, j9, j10, j11, _, _, x2, x3, x4, x5, x6, x7, x8, x9, x10, g10, rfl, rfl, hB, h0.out, fun _ => rfl, h2.out, h3.out, h4.out, h5.out, h6.out, h7.out, h8.out, h9.out, a10, s10⟩
  · obtain rfl := Option.some.inj ho
    simp [Region.binds] at hu hd
    clear hd
    refine wpOp_of rfl rfl ?_
    have i0 : w'.cell? ⟨gs, 0, none⟩ = some (.int .u64 (lb q 0 : Nat)) := (KS.below hB).cell 0
    have i1 : w'.cell? ⟨gs, 1, none⟩ = some (.int .u64 (lb q 1 : Nat)) := (KS.below hB).cell 1
    have i2 : w'.cell? ⟨gs, 2, none⟩ = some (.int .u64 (lb q 2 : Nat)) := (KS.below hB).cell 2
    have i3 : w'.cell? ⟨gs, 3, none⟩ = some (.int .u64 (lb q 3 : Nat)) := (KS.below hB).cell 3
    go_simp
    unfold tw4I
    exact ⟨j0, j1, true, j3, j4, j5, j6, j7, j8, j9, j10, j11, x0, x1, _, x3, x4, x5, x6, x7, x8, x9, x10, g10, rfl, rfl, hB, h0.out, h1.out, fun _ => rfl, h3.out, h4.out, h5.out, h6.out, h7.out, h8.out, h9.out, a10, s10⟩
  · obtain rfl := Option.some.inj ho
    simp [Region.binds] at hu hd
    have d1 : j1 = true := by simp [hd]
    have e1 := h1.out d1
    subst e1
    have d2 : j2 = true := by simp [hd]
    have e2 := h2.out d2
    subst e2
    subst d1
    subst d2
    clear hd
    refine wpOp_of rfl rfl ?_
    go_simp
    go_at_call 110
    refine (keep w.heap.size w (H1.out _) hB (Nat.le_refl _)).mono ?_
    rintro e w2 ⟨rfl, hB2, hb2⟩
    unfold tw4I
    exact ⟨j0, true, true, true, j4, j5, j6, j7, j8, j9, j10, j11, x0, _, _, _, x4, x5, x6, x7, x8, x9, x10, g10, rfl, rfl, hB2, h0.out, h1.out, h2.out, fun _ => rfl, h4.out, h5.out, h6.out, h7.out, h8.out, h9.out, (fun hj => by obtain ⟨q1, q2, z0, z1, z2, z3, q3, q4⟩ := a10 hj; exact ⟨q1, q2, z0, z1, z2, z3, q3.below hb2, q4⟩), s10⟩
  · obtain rfl := Option.some.inj ho
    simp [Region.binds] at hu hd
    clear hd
    refine wpOp_of rfl rfl ?_
    go_simp
    unfold tw4I
    exact ⟨j0, j1, j2, j3, true, j5, j6, j7, j8, j9, j10, j11, x0, x1, x2, x3, _, x5, x6, x7, x8, x9, x10, g10, rfl, rfl, hB, h0.out, h1.out, h2.out, h3.out, fun _ => rfl, h5.out, h6.out, h7.out, h8.out, h9.out, a10, s10⟩
  · obtain rfl := Option.some.inj ho
    simp [Region.binds] at hu hd
    have d4 : j4 = true := by simp [hd]
    have e4 := h4.out d4
    subst e4
    subst d4
    clear hd
    refine wpOp_of rfl rfl ?_
    have i0 : w'.cell? ⟨gp, 0, none⟩ = some (.int .u64 (lb x 0 : Nat)) := (KP.below hB).cell 0
    have i1 : w'.cell? ⟨gp, 1, none⟩ = some (.int .u64 (lb x 1 : Nat)) := (KP.below hB).cell 1
    have i2 : w'.cell? ⟨gp, 2, none⟩ = some (.int .u64 (lb x 2 : Nat)) := (KP.below hB).cell 2
    have i3 : w'.cell? ⟨gp, 3, none⟩ = some (.int .u64 (lb x 3 : Nat)) := (KP.below hB).cell 3
    go_simp
    unfold tw4I
    exact ⟨j0, j1, j2, j3, true, true, j6, j7, j8, j9, j10, j11, x0, x1, x2, x3, _, _, x6, x7, x8, x9, x10, g10, rfl, rfl, hB, h0.out, h1.out, h2.out, h3.out, h4.out, fun _ => rfl, h6.out, h7.out, h8.out, h9.out, a10, s10⟩
  · obtain rfl := Option.some.inj ho
    simp [Region.binds] at hu hd
    clear hd
    refine wpOp_of rfl rfl ?_
    have i0 : w'.cell? ⟨gs, 0, none⟩ = some (.int .u64 (lb q 0 : Nat)) := (KS.below hB).cell 0
    have i1 : w'.cell? ⟨gs, 1, none⟩ = some (.int .u64 (lb q 1 : Nat)) := (KS.below hB).cell 1
    have i2 : w'.cell? ⟨gs, 2, none⟩ = some (.int .u64 (lb q 2 : Nat)) := (KS.below hB).cell 2
    have i3 : w'.cell? ⟨gs, 3, none⟩ = some (.int .u64 (lb q 3 : Nat)) := (KS.below hB).cell 3
    go_simp
    unfold tw4I
    exact ⟨j0, j1, j2, j3, j4, j5, true, j7, j8, j9, j10, j11, x0, x1, x2, x3, x4, x5, _, x7, x8, x9, x10, g10, rfl, rfl, hB, h0.out, h1.out, h2.out, h3.out, h4.out, h5.out, fun _ => rfl, h7.out, h8.out, h9.out, a10, s10⟩
  · obtain rfl := Option.some.inj ho
    simp [Region.binds] at hu hd
    have d5 : j5 = true := by simp [hd]
    have e5 := h5.out d5
    subst e5
    have d6 : j6 = true := by simp [hd]
    have e6 := h6.out d6
    subst e6
    subst d5
    subst d6
    clear hd
    refine wpOp_of rfl rfl ?_
    go_simp
    go_at_call 109
    refine (keep w.heap.size w (H2.out _) hB (Nat.le_refl _)).mono ?_
    rintro e w2 ⟨rfl, hB2, hb2⟩
    unfold tw4I
    exact ⟨j0, j1, j2, j3, j4, true, true, true, j8, j9, j10, j11, x0, x1, x2, x3, x4, _, _, _, x8, x9, x10, g10, rfl, rfl, hB2, h0.out, h1.out, h2.out, h3.out, h4.out, h5.out, h6.out, fun _ => rfl, h8.out, h9.out, (fun hj => by obtain ⟨q1, q2, z0, z1, z2, z3, q3, q4⟩ := a10 hj; exact ⟨q1, q2, z0, z1, z2, z3, q3.below hb2, q4⟩), s10⟩
  · obtain rfl := Option.some.inj ho
    simp [Region.binds] at hu hd
    have d3 : j3 = true := by simp [hd]
    have e3 := h3.out d3
    subst e3
    have d7 : j7 = true := by simp [hd]
    have e7 := h7.out d7
    subst e7
    subst d3
    subst d7
    clear hd
    refine wpOp_of rfl rfl ?_
    go_simp
    go_at_call 108
    refine (keep w.heap.size w (H3.out _) hB (Nat.le_refl _)).mono ?_
    rintro e w2 ⟨rfl, hB2, hb2⟩
    unfold tw4I
    exact ⟨j0, j1, j2, true, j4, j5, j6, true, true, j9, j10, j11, x0, x1, x2, _, x4, x5, x6, _, _, x9, x10, g10, rfl, rfl, hB2, h0.out, h1.out, h2.out, h3.out, h4.out, h5.out, h6.out, h7.out, fun _ => rfl, h9.out, (fun hj => by obtain ⟨q1, q2, z0, z1, z2, z3, q3, q4⟩ := a10 hj; exact ⟨q1, q2, z0, z1, z2, z3, q3.below hb2, q4⟩), s10⟩
  · obtain rfl := Option.some.inj ho
    simp [Region.binds] at hu hd
    have d8 : j8 = true := by simp [hd]
    have e8 := h8.out d8
    subst e8
    subst d8
    clear hd
    refine wpOp_of rfl rfl ?_
    go_simp
    go_at_call 111
    refine (keep w.heap.size w (H4.out _) hB (Nat.le_refl _)).mono ?_
    rintro e w2 ⟨rfl, hB2, hb2⟩
    unfold tw4I
    exact ⟨j0, j1, j2, j3, j4, j5, j6, j7, true, true, j10, j11, x0, x1, x2, x3, x4, x5, x6, x7, _, _, x10, g10, rfl, rfl, hB2, h0.out, h1.out, h2.out, h3.out, h4.out, h5.out, h6.out, h7.out, h8.out, fun _ => rfl, (fun hj => by obtain ⟨q1, q2, z0, z1, z2, z3, q3, q4⟩ := a10 hj; exact ⟨q1, q2, z0, z1, z2, z3, q3.below hb2, q4⟩), s10⟩
  · obtain rfl := Option.some.inj ho
    simp [Region.binds] at hu hd
    clear hd
    refine wpOp_of rfl rfl ?_
    have hs := hB.size
    go_simp
    unfold tw4I
    exact ⟨j0, j1, j2, j3, j4, j5, j6, j7, j8, j9, true, j11, x0, x1, x2, x3, x4, x5, x6, x7, x8, x9, _, w'.heap.size, rfl, rfl, (by go_grown), h0.out, h1.out, h2.out, h3.out, h4.out, h5.out, h6.out, h7.out, h8.out, h9.out, (fun _ => ⟨rfl, hs, _, _, _, _, Bk.new rfl, fun hj => absurd (s10 hj) (by simp [hu])⟩), (fun _ => rfl)⟩
  · obtain rfl := Option.some.inj ho
    simp [Region.binds] at hu hd
    have d9 : j9 = true := by simp [hd]
    have e9 := h9.out d9
    subst e9
    have d10 : j10 = true := by simp [hd]
    subst d9
    subst d10
    clear hd
    refine wpOp_of rfl rfl ?_
    obtain ⟨p1, p2, z0, z1, z2, z3, p3, p4⟩ := a10 rfl
    subst p1
    obtain ⟨f0, f1, f2, f3⟩ := p3.fros
    obtain ⟨c0, c1, c2, c3⟩ := p3.cells
    clear a10
    go_simp
    unfold tw4I
    exact ⟨j0, j1, j2, j3, j4, j5, j6, j7, j8, true, true, true, x0, x1, x2, x3, x4, x5, x6, x7, x8, _, _, g10, rfl, rfl, (by go_grown), h0.out, h1.out, h2.out, h3.out, h4.out, h5.out, h6.out, h7.out, h8.out, h9.out, (fun _ => ⟨rfl, p2, _, _, _, _, Bk.put p3, fun _ => rfl⟩), (fun _ => rfl)⟩
set_option maxHeartbeats 16000000 in
theorem tw4_fin (gp gs x y z q dd ss mm rise : Nat) (w : World)
    {t0 t2 t5 t6 t7 t8 t9 t10 t11 t12 t13 t24 t25 t26 t27 t28 t29 t30 t31 t32 t33 t34 t35 : Value} {ds : List Deferred} : ∀ l a w', tw4I w gp gs x y z q dd ss mm rise t0 t2 t5 t6 t7 t8 t9 t10 t11 t12 t13 t24 t25 t26 t27 t28 t29 t30 t31 t32 t33 t34 t35 ds l a w' → Region.ready .any tw4O l = [] →
    ∃ (y0 y1 y2 y3 y4 y5 y6 y7 y8 y9 : Value) (g10 : Nat), a = { tmps := #[t0, .pointer (some ⟨gp, 0, none⟩), t2, .pointer (some ⟨gs, 0, none⟩), .pointer (some ⟨g10, 0, none⟩), t5, t6, t7, t8, t9, t10, t11, t12, t13, y0, y1, y2, y3, y4, y5, y6, y7, y8, y9, t24, t25, t26, t27, t28, t29, t30, t31, t32, t33, t34, t35], defers := ds } ∧ Below w.heap.size w w' ∧ w.heap.size ≤ g10 ∧ Bk 24 w' g10 #[.int .u64 (lb rise 0 : Nat), .int .u64 (lb rise 1 : Nat), .int .u64 (lb rise 2 : Nat), .int .u64 (lb rise 3 : Nat)] := by
  simp only [tw4O, findR, Tryz.f168, Option.bind_some, Option.or, Option.getD, Nat.reduceEqDiff, if_true, if_false, reduceIte]
  rintro l a w' ⟨j0, j1, j2, j3, j4, j5, j6, j7, j8, j9, j10, j11, x0, x1, x2, x3, x4, x5, x6, x7, x8, x9, x10, g10, rfl, rfl, hB, h0, h1, h2, h3, h4, h5, h6, h7, h8, h9, a10, s10⟩ hr
  have hn := fun i => List.eq_nil_iff_forall_not_mem.1 hr i
  clear hr
  cases j0; exact absurd (mem_ready.2 ⟨by simp, _, rfl, by simp [Region.binds]⟩) (hn 0)
  obtain rfl := h0 rfl
  cases j1; exact absurd (mem_ready.2 ⟨by simp, _, rfl, by simp [Region.binds]⟩) (hn 1)
  obtain rfl := h1 rfl
  cases j2; exact absurd (mem_ready.2 ⟨by simp, _, rfl, by simp [Region.binds]⟩) (hn 2)
  obtain rfl := h2 rfl
  cases j3; exact absurd (mem_ready.2 ⟨by simp, _, rfl, by simp [Region.binds]⟩) (hn 3)
  obtain rfl := h3 rfl
  cases j4; exact absurd (mem_ready.2 ⟨by simp, _, rfl, by simp [Region.binds]⟩) (hn 4)
  obtain rfl := h4 rfl
  cases j5; exact absurd (mem_ready.2 ⟨by simp, _, rfl, by simp [Region.binds]⟩) (hn 5)
  obtain rfl := h5 rfl
  cases j6; exact absurd (mem_ready.2 ⟨by simp, _, rfl, by simp [Region.binds]⟩) (hn 6)
  obtain rfl := h6 rfl
  cases j7; exact absurd (mem_ready.2 ⟨by simp, _, rfl, by simp [Region.binds]⟩) (hn 7)
  obtain rfl := h7 rfl
  cases j8; exact absurd (mem_ready.2 ⟨by simp, _, rfl, by simp [Region.binds]⟩) (hn 8)
  obtain rfl := h8 rfl
  cases j9; exact absurd (mem_ready.2 ⟨by simp, _, rfl, by simp [Region.binds]⟩) (hn 9)
  obtain rfl := h9 rfl
  cases j10; exact absurd (mem_ready.2 ⟨by simp, _, rfl, by simp [Region.binds]⟩) (hn 10)
  cases j11; exact absurd (mem_ready.2 ⟨by simp, _, rfl, by simp [Region.binds]⟩) (hn 11)
  obtain ⟨rfl, l10, z0, z1, z2, z3, b10, r10⟩ := a10 rfl
  rw [r10 rfl] at b10
  exact ⟨_, _, _, _, _, _, _, _, _, _, g10, rfl, hB, l10, b10⟩
theorem tw4 (gp gs x y z q dd ss mm rise : Nat) (w : World) (KP : Bk 162 w gp #[.int .u64 (lb x 0 : Nat), .int .u64 (lb x 1 : Nat), .int .u64 (lb x 2 : Nat), .int .u64 (lb x 3 : Nat), .int .u64 (lb y 0 : Nat), .int .u64 (lb y 1 : Nat), .int .u64 (lb y 2 : Nat), .int .u64 (lb y 3 : Nat), .int .u64 (lb z 0 : Nat), .int .u64 (lb z 1 : Nat), .int .u64 (lb z 2 : Nat), .int .u64 (lb z 3 : Nat)]) (KS : Bk 24 w gs #[.int .u64 (lb q 0 : Nat), .int .u64 (lb q 1 : Nat), .int .u64 (lb q 2 : Nat), .int .u64 (lb q 3 : Nat)]) (H1 : Hid (∀ w, Calls Tryz.prog 110 #[.agg #[.int .u64 (lb x 0 : Nat), .int .u64 (lb x 1 : Nat), .int .u64 (lb x 2 : Nat), .int .u64 (lb x 3 : Nat)], .agg #[.int .u64 (lb q 0 : Nat), .int .u64 (lb q 1 : Nat), .int .u64 (lb q 2 : Nat), .int .u64 (lb q 3 : Nat)]] w fun e w' => e = .returned (.agg #[.int .u64 (lb dd 0 : Nat), .int .u64 (lb dd 1 : Nat), .int .u64 (lb dd 2 : Nat), .int .u64 (lb dd 3 : Nat)]) ∧ Below w.heap.size w w')) (H2 : Hid (∀ w, Calls Tryz.prog 109 #[.agg #[.int .u64 (lb x 0 : Nat), .int .u64 (lb x 1 : Nat), .int .u64 (lb x 2 : Nat), .int .u64 (lb x 3 : Nat)], .agg #[.int .u64 (lb q 0 : Nat), .int .u64 (lb q 1 : Nat), .int .u64 (lb q 2 : Nat), .int .u64 (lb q 3 : Nat)]] w fun e w' => e = .returned (.agg #[.int .u64 (lb ss 0 : Nat), .int .u64 (lb ss 1 : Nat), .int .u64 (lb ss 2 : Nat), .int .u64 (lb ss 3 : Nat)]) ∧ Below w.heap.size w w')) (H3 : Hid (∀ w, Calls Tryz.prog 108 #[.agg #[.int .u64 (lb dd 0 : Nat), .int .u64 (lb dd 1 : Nat), .int .u64 (lb dd 2 : Nat), .int .u64 (lb dd 3 : Nat)], .agg #[.int .u64 (lb ss 0 : Nat), .int .u64 (lb ss 1 : Nat), .int .u64 (lb ss 2 : Nat), .int .u64 (lb ss 3 : Nat)]] w fun e w' => e = .returned (.agg #[.int .u64 (lb mm 0 : Nat), .int .u64 (lb mm 1 : Nat), .int .u64 (lb mm 2 : Nat), .int .u64 (lb mm 3 : Nat)]) ∧ Below w.heap.size w w')) (H4 : Hid (∀ w, Calls Tryz.prog 111 #[.agg #[.int .u64 (lb mm 0 : Nat), .int .u64 (lb mm 1 : Nat), .int .u64 (lb mm 2 : Nat), .int .u64 (lb mm 3 : Nat)]] w fun e w' => e = .returned (.agg #[.int .u64 (lb rise 0 : Nat), .int .u64 (lb rise 1 : Nat), .int .u64 (lb rise 2 : Nat), .int .u64 (lb rise 3 : Nat)]) ∧ Below w.heap.size w w'))
    {t0 t2 t4 t5 t6 t7 t8 t9 t10 t11 t12 t13 t14 t15 t16 t17 t18 t19 t20 t21 t22 t23 t24 t25 t26 t27 t28 t29 t30 t31 t32 t33 t34 t35 : Value} {ds : List Deferred} {K : Act → World → Prop} {Q : Exit → Act → World → Prop}
    (h : ∀ (y0 y1 y2 y3 y4 y5 y6 y7 y8 y9 : Value) (g10 : Nat) (w' : World) (hb : Below w.heap.size w w') (hg10 : w.heap.size ≤ g10) (hk10 : Bk 24 w' g10 #[.int .u64 (lb rise 0 : Nat), .int .u64 (lb rise 1 : Nat), .int .u64 (lb rise 2 : Nat), .int .u64 (lb rise 3 : Nat)]), K { tmps := #[t0, .pointer (some ⟨gp, 0, none⟩), t2, .pointer (some ⟨gs, 0, none⟩), .pointer (some ⟨g10, 0, none⟩), t5, t6, t7, t8, t9, t10, t11, t12, t13, y0, y1, y2, y3, y4, y5, y6, y7, y8, y9, t24, t25, t26, t27, t28, t29, t30, t31, t32, t33, t34, t35], defers := ds } w') :
    (Code.region 4 tw4O true).wp Tryz.prog (Exit.then K Q) { tmps := #[t0, .pointer (some ⟨gp, 0, none⟩), t2, .pointer (some ⟨gs, 0, none⟩), t4, t5, t6, t7, t8, t9, t10, t11, t12, t13, t14, t15, t16, t17, t18, t19, t20, t21, t22, t23, t24, t25, t26, t27, t28, t29, t30, t31, t32, t33, t34, t35], defers := ds } w := by
  have hsz : tw4O.size = 12 := by kernel_rfl
  refine wp_region_any mixed ?_
  rw [hsz]
  refine wpAny_inv (I := tw4I w gp gs x y z q dd ss mm rise t0 t2 t5 t6 t7 t8 t9 t10 t11 t12 t13 t24 t25 t26 t27 t28 t29 t30 t31 t32 t33 t34 t35 ds) (tw4_steps gp gs x y z q dd ss mm rise w KP KS H1 H2 H3 H4) (fun l a w' hI hr => ?_) 12 _ _ _ (by decide) ?_
  · obtain ⟨y0, y1, y2, y3, y4, y5, y6, y7, y8, y9, g10, rfl, hb, l10, b10⟩ := tw4_fin gp gs x y z q dd ss mm rise w l a w' hI hr
    exact h _ _ _ _ _ _ _ _ _ _ g10 w' hb l10 b10
  · exact ⟨false, false, false, false, false, false, false, false, false, false, false, false, t14, t15, t16, t17, t18, t19, t20, t21, t22, t23, t4, 0, rfl, rfl, ⟨rfl, rfl, rfl, Nat.le_refl _, fun _ _ => rfl⟩, (fun h => by cases h), (fun h => by cases h), (fun h => by cases h), (fun h => by cases h), (fun h => by cases h), (fun h => by cases h), (fun h => by cases h), (fun h => by cases h), (fun h => by cases h), (fun h => by cases h), (fun h => by cases h), (fun h => by cases h)⟩
def pl10I (w0 : World) (gp gq x y z x' y' z' run rise : Nat) (t0 t1 t4 t7 t8 t9 t10 t11 t12 t13 t14 t15 t16 t17 t18 t19 t20 t21 t22 t23 t24 t25 t26 t27 t28 t29 t30 t31 t32 t33 t44 t45 t46 t47 t48 t49 t50 t51 t52 t53 t54 : Value) (ds : List Deferred) (l : Array Bool) (a : Act) (w : World) : Prop :=
  ∃ j0 j1 j2 j3 j4 j5 j6 j7 j8 j9 j10 j11 j12 j13 : Bool, ∃ x0 x1 x2 x3 x4 x5 x6 x7 x8 x9 x10 x11 : Value, ∃ g10 g11 : Nat, l = #[j0, j1, j2, j3, j4, j5, j6, j7, j8, j9, j10, j11, j12, j13] ∧ a = { tmps := #[t0, t1, .pointer (some ⟨gp, 0, none⟩), .pointer (some ⟨gq, 0, none⟩), t4, x10, x11, t7, t8, t9, t10, t11, t12, t13, t14, t15, t16, t17, t18, t19, t20, t21, t22, t23, t24, t25, t26, t27, t28, t29, t30, t31, t32, t33, x0, x1, x2, x3, x4, x5, x6, x7, x8, x9, t44, t45, t46, t47, t48, t49, t50, t51, t52, t53, t54], defers := ds } ∧ Below w0.heap.size w0 w ∧
  (j0 = true → x0 = .pointer (some ⟨gq, 0, none⟩)) ∧
  (j1 = true → x1 = .agg #[.int .u64 (lb x' 0 : Nat), .int .u64 (lb x' 1 : Nat), .int .u64 (lb x' 2 : Nat), .int .u64 (lb x' 3 : Nat)]) ∧
  (j2 = true → x2 = .pointer (some ⟨gp, 0, none⟩)) ∧
  (j3 = true → x3 = .agg #[.int .u64 (lb x 0 : Nat), .int .u64 (lb x 1 : Nat), .int .u64 (lb x 2 : Nat), .int .u64 (lb x 3 : Nat)]) ∧
  (j4 = true → x4 = .agg #[.int .u64 (lb run 0 : Nat), .int .u64 (lb run 1 : Nat), .int .u64 (lb run 2 : Nat), .int .u64 (lb run 3 : Nat)]) ∧
  (j5 = true → x5 = .pointer (some ⟨gq, 4, none⟩)) ∧
  (j6 = true → x6 = .agg #[.int .u64 (lb y' 0 : Nat), .int .u64 (lb y' 1 : Nat), .int .u64 (lb y' 2 : Nat), .int .u64 (lb y' 3 : Nat)]) ∧
  (j7 = true → x7 = .pointer (some ⟨gp, 4, none⟩)) ∧
  (j8 = true → x8 = .agg #[.int .u64 (lb y 0 : Nat), .int .u64 (lb y 1 : Nat), .int .u64 (lb y 2 : Nat), .int .u64 (lb y 3 : Nat)]) ∧
  (j9 = true → x9 = .agg #[.int .u64 (lb rise 0 : Nat), .int .u64 (lb rise 1 : Nat), .int .u64 (lb rise 2 : Nat), .int .u64 (lb rise 3 : Nat)]) ∧
  (j10 = true → x10 = .pointer (some ⟨g10, 0, none⟩) ∧ w0.heap.size ≤ g10 ∧ ∃ z0 z1 z2 z3 : Value, Bk 24 w g10 #[z0, z1, z2, z3] ∧ (j12 = true → #[z0, z1, z2, z3] = #[.int .u64 (lb run 0 : Nat), .int .u64 (lb run 1 : Nat), .int .u64 (lb run 2 : Nat), .int .u64 (lb run 3 : Nat)])) ∧
  (j12 = true → j10 = true) ∧
  (j11 = true → x11 = .pointer (some ⟨g11, 0, none⟩) ∧ w0.heap.size ≤ g11 ∧ ∃ z0 z1 z2 z3 : Value, Bk 24 w g11 #[z0, z1, z2, z3] ∧ (j13 = true → #[z0, z1, z2, z3] = #[.int .u64 (lb rise 0 : Nat), .int .u64 (lb rise 1 : Nat), .int .u64 (lb rise 2 : Nat), .int .u64 (lb rise 3 : Nat)])) ∧
  (j13 = true → j11 = true) ∧
  (j10 = true → j11 = true → g10 ≠ g11)
noncomputable def pl10O : Array Oper := (Tryz.f158.body.bind fun c => findR c 10).getD #[]
set_option maxHeartbeats 16000000 in
theorem pl10_steps (gp gq x y z x' y' z' run rise : Nat) (w : World) (KP : Bk 162 w gp #[.int .u64 (lb x 0 : Nat), .int .u64 (lb x 1 : Nat), .int .u64 (lb x 2 : Nat), .int .u64 (lb x 3 : Nat), .int .u64 (lb y 0 : Nat), .int .u64 (lb y 1 : Nat), .int .u64 (lb y 2 : Nat), .int .u64 (lb y 3 : Nat), .int .u64 (lb z 0 : Nat), .int .u64 (lb z 1 : Nat), .int .u64 (lb z 2 : Nat), .int .u64 (lb z 3 : Nat)]) (KQ : Bk 162 w gq #[.int .u64 (lb x' 0 : Nat), .int .u64 (lb x' 1 : Nat), .int .u64 (lb x' 2 : Nat), .int .u64 (lb x' 3 : Nat), .int .u64 (lb y' 0 : Nat), .int .u64 (lb y' 1 : Nat), .int .u64 (lb y' 2 : Nat), .int .u64 (lb y' 3 : Nat), .int .u64 (lb z' 0 : Nat), .int .u64 (lb z' 1 : Nat), .int .u64 (lb z' 2 : Nat), .int .u64 (lb z' 3 : Nat)]) (H1 : Hid (∀ w, Calls Tryz.prog 110 #[.agg #[.int .u64 (lb x' 0 : Nat), .int .u64 (lb x' 1 : Nat), .int .u64 (lb x' 2 : Nat), .int .u64 (lb x' 3 : Nat)], .agg #[.int .u64 (lb x 0 : Nat), .int .u64 (lb x 1 : Nat), .int .u64 (lb x 2 : Nat), .int .u64 (lb x 3 : Nat)]] w fun e w' => e = .returned (.agg #[.int .u64 (lb run 0 : Nat), .int .u64 (lb run 1 : Nat), .int .u64 (lb run 2 : Nat), .int .u64 (lb run 3 : Nat)]) ∧ Below w.heap.size w w')) (H2 : Hid (∀ w, Calls Tryz.prog 110 #[.agg #[.int .u64 (lb y' 0 : Nat), .int .u64 (lb y' 1 : Nat), .int .u64 (lb y' 2 : Nat), .int .u64 (lb y' 3 : Nat)], .agg #[.int .u64 (lb y 0 : Nat), .int .u64 (lb y 1 : Nat), .int .u64 (lb y 2 : Nat), .int .u64 (lb y 3 : Nat)]] w fun e w' => e = .returned (.agg #[.int .u64 (lb rise 0 : Nat), .int .u64 (lb rise 1 : Nat), .int .u64 (lb rise 2 : Nat), .int .u64 (lb rise 3 : Nat)]) ∧ Below w.heap.size w w'))
    {t0 t1 t4 t7 t8 t9 t10 t11 t12 t13 t14 t15 t16 t17 t18 t19 t20 t21 t22 t23 t24 t25 t26 t27 t28 t29 t30 t31 t32 t33 t44 t45 t46 t47 t48 t49 t50 t51 t52 t53 t54 : Value} {ds : List Deferred} {Q : Exit → Act → World → Prop} :
    ∀ l a w', pl10I w gp gq x y z x' y' z' run rise t0 t1 t4 t7 t8 t9 t10 t11 t12 t13 t14 t15 t16 t17 t18 t19 t20 t21 t22 t23 t24 t25 t26 t27 t28 t29 t30 t31 t32 t33 t44 t45 t46 t47 t48 t49 t50 t51 t52 t53 t54 ds l a w' → ∀ i ∈ Region.ready .any pl10O l, wpOp Tryz.prog pl10O Q i (fun a' w'' => pl10I w gp gq x y z x' y' z' run rise t0 t1 t4 t7 t8 t9 t10 t11 t12 t13 t14 t15 t16 t17 t18 t19 t20 t21 t22 t23 t24 t25 t26 t27 t28 t29 t30 t31 t32 t33 t44 t45 t46 t47 t48 t49 t50 t51 t52 t53 t54 ds (l.setIfInBounds i true) a' w'') a w' := by
  simp only [pl10O, findR, Tryz.f158, Option.bind_some, Option.or, Option.getD, Nat.reduceEqDiff, if_true, if_false, reduceIte]
  rintro l a w' ⟨j0, j1, j2, j3, j4, j5, j6, j7, j8, j9, j10, j11, j12, j13, x0, x1, x2, x3, x4, x5, x6, x7, x8, x9, x10, x11, g10, g11, rfl, rfl, hB, h0, h1, h2, h3, h4, h5, h6, h7, h8, h9, a10, s10, a11, s11, n10_11⟩ i hi
  rw [mem_ready] at hi
  obtain ⟨hu, oo, ho, hd⟩ := hi
  have hin : i < 14 := by
    have := (Array.getElem?_eq_some_iff.1 ho).1
    simpa using this
  replace h0 := Lib.hid h0
  replace h1 := Lib.hid h1
  replace h2 := Lib.hid h2
  replace h3 := Lib.hid h3
  replace h4 := Lib.hid h4
  replace h5 := Lib.hid h5
  replace h6 := Lib.hid h6
  replace h7 := Lib.hid h7
  replace h8 := Lib.hid h8
  replace h9 := Lib.hid h9
  have hcase : i = 0 ∨ i = 1 ∨ i = 2 ∨ i = 3 ∨ i = 4 ∨ i = 5 ∨ i = 6 ∨ i = 7 ∨ i = 8 ∨ i = 9 ∨ i = 10 ∨ i = 11 ∨ i = 12 ∨ i = 13 := by omega
  rcases hcase with rfl | rfl | rfl | rfl | rfl | rfl | rfl | rfl | rfl | rfl | rfl | rfl | rfl | rfl
  · obtain rfl := Option.some.inj ho
    simp [Region.binds] at hu hd
    clear hd
    refine wpOp_of rfl rfl ?_
    go_simp
    unfold pl10I
    exact ⟨true, j1, j2, j3, j4, j5, j6, j7, j8, j9, j10, j11, j12, j13, _, x1, x2, x3, x4, x5, x6, x7, x8, x9, x10, x11, g10, g11, rfl, rfl, hB, fun _ => rfl, h1.out, h2.out, h3.out, h4.out, h5.out, h6.out, h7.out, h8.out, h9.out, a10, s10, a11, s11, n10_11⟩
  · obtain rfl := Option.some.inj ho
    simp [Region.binds] at hu hd
    have d0 : j0 = true := by simp [hd]
    have e0 := h0.out d0
    subst e0
    subst d0
    clear hd
    refine wpOp_of rfl rfl ?_
    have i0 : w'.cell? ⟨gq, 0, none⟩ = some (.int .u64 (lb x' 0 : Nat)) := (KQ.below hB).cell 0
    have i1 : w'.cell? ⟨gq, 1, none⟩ = some (.int .u64 (lb x' 1 : Nat)) := (KQ.below hB).cell 1
    have i2 : w'.cell? ⟨gq, 2, none⟩ = some (.int .u64 (lb x' 2 : Nat)) := (KQ.below hB).cell 2
    have i3 : w'.cell? ⟨gq, 3, none⟩ = some (.int .u64 (lb x' 3 : Nat)) := (KQ.below hB).cell 3
    go_simp
    unfold pl10I
    exact ⟨true, true, j2, j3, j4, j5, j6, j7, j8, j9, j10, j11, j12, j13, _, _, x2, x3, x4, x5, x6, x7, x8, x9, x10, x11, g10, g11, rfl, rfl, hB, h0.out, fun _ => rfl, h2.out, h3.out, h4.out, h5.out, h6.out, h7.out, h8.out, h9.out, a10, s10, a11, s11, n10_11⟩
  · obtain rfl := Option.some.inj ho
    simp [Region.binds] at hu hd
    clear hd
    refine wpOp_of rfl rfl ?_
    go_simp
    unfold pl10I
    exact ⟨j0, j1, true, j3, j4, j5, j6, j7, j8, j9, j10, j11, j12, j13, x0, x1, _, x3, x4, x5, x6, x7, x8, x9, x10, x11, g10, g11, rfl, rfl, hB, h0.out, h1.out, fun _ => rfl, h3.out, h4.out, h5.out, h6.out, h7.out, h8.out, h9.out, a10, s10, a11, s11, n10_11⟩
  · obtain rfl := Option.some.inj ho
    simp [Region.binds] at hu hd
    have d2 : j2 = true := by simp [hd]
    have e2 := h2.out d2
    subst e2
    subst d2
    clear hd
    refine wpOp_of rfl rfl ?_
    have i0 : w'.cell? ⟨gp, 0, none⟩ = some (.int .u64 (lb x 0 : Nat)) := (KP.below hB).cell 0
    have i1 : w'.cell? ⟨gp, 1, none⟩ = some (.int .u64 (lb x 1 : Nat)) := (KP.below hB).cell 1
    have i2 : w'.cell? ⟨gp, 2, none⟩ = some (.int .u64 (lb x 2 : Nat)) := (KP.below hB).cell 2
    have i3 : w'.cell? ⟨gp, 3, none⟩ = some (.int .u64 (lb x 3 : Nat)) := (KP.below hB).cell 3
    go_simp
    unfold pl10I
    exact ⟨j0, j1, true, true, j4, j5, j6, j7, j8, j9, j10, j11, j12, j13, x0, x1, _, _, x4, x5, x6, x7, x8, x9, x10, x11, g10, g11, rfl, rfl, hB, h0.out, h1.out, h2.out, fun _ => rfl, h4.out, h5.out, h6.out, h7.out, h8.out, h9.out, a10, s10, a11, s11, n10_11⟩
  · obtain rfl := Option.some.inj ho
    simp [Region.binds] at hu hd
    have d1 : j1 = true := by simp [hd]
    have e1 := h1.out d1
    subst e1
    have d3 : j3 = true := by simp [hd]
    have e3 := h3.out d3
    subst e3
    subst d1
    subst d3
    clear hd
    refine wpOp_of rfl rfl ?_
    go_simp
    go_at_call 110
    refine (keep w.heap.size w (H1.out _) hB (Nat.le_refl _)).mono ?_
    rintro e w2 ⟨rfl, hB2, hb2⟩
    unfold pl10I
    exact ⟨j0, true, j2, true, true, j5, j6, j7, j8, j9, j10, j11, j12, j13, x0, _, x2, _, _, x5, x6, x7, x8, x9, x10, x11, g10, g11, rfl, rfl, hB2, h0.out, h1.out, h2.out, h3.out, fun _ => rfl, h5.out, h6.out, h7.out, h8.out, h9.out, (fun hj => by obtain ⟨q1, q2, z0, z1, z2, z3, q3, q4⟩ := a10 hj; exact ⟨q1, q2, z0, z1, z2, z3, q3.below hb2, q4⟩), s10, (fun hj => by obtain ⟨q1, q2, z0, z1, z2, z3, q3, q4⟩ := a11 hj; exact ⟨q1, q2, z0, z1, z2, z3, q3.below hb2, q4⟩), s11, n10_11⟩
  · obtain rfl := Option.some.inj ho
    simp [Region.binds] at hu hd
    clear hd
    refine wpOp_of rfl rfl ?_
    go_simp
    unfold pl10I
    exact ⟨j0, j1, j2, j3, j4, true, j6, j7, j8, j9, j10, j11, j12, j13, x0, x1, x2, x3, x4, _, x6, x7, x8, x9, x10, x11, g10, g11, rfl, rfl, hB, h0.out, h1.out, h2.out, h3.out, h4.out, fun _ => rfl, h6.out, h7.out, h8.out, h9.out, a10, s10, a11, s11, n10_11⟩
  · obtain rfl := Option.some.inj ho
    simp [Region.binds] at hu hd
    have d5 : j5 = true := by simp [hd]
    have e5 := h5.out d5
    subst e5
    subst d5
    clear hd
    refine wpOp_of rfl rfl ?_
    have i4 : w'.cell? ⟨gq, 4, none⟩ = some (.int .u64 (lb y' 0 : Nat)) := (KQ.below hB).cell 4
    have i5 : w'.cell? ⟨gq, 5, none⟩ = some (.int .u64 (lb y' 1 : Nat)) := (KQ.below hB).cell 5
    have i6 : w'.cell? ⟨gq, 6, none⟩ = some (.int .u64 (lb y' 2 : Nat)) := (KQ.below hB).cell 6
    have i7 : w'.cell? ⟨gq, 7, none⟩ = some (.int .u64 (lb y' 3 : Nat)) := (KQ.below hB).cell 7
    go_simp
    unfold pl10I
    exact ⟨j0, j1, j2, j3, j4, true, true, j7, j8, j9, j10, j11, j12, j13, x0, x1, x2, x3, x4, _, _, x7, x8, x9, x10, x11, g10, g11, rfl, rfl, hB, h0.out, h1.out, h2.out, h3.out, h4.out, h5.out, fun _ => rfl, h7.out, h8.out, h9.out, a10, s10, a11, s11, n10_11⟩
  · obtain rfl := Option.some.inj ho
    simp [Region.binds] at hu hd
    clear hd
    refine wpOp_of rfl rfl ?_
    go_simp
    unfold pl10I
    exact ⟨j0, j1, j2, j3, j4, j5, j6, true, j8, j9, j10, j11, j12, j13, x0, x1, x2, x3, x4, x5, x6, _, x8, x9, x10, x11, g10, g11, rfl, rfl, hB, h0.out, h1.out, h2.out, h3.out, h4.out, h5.out, h6.out, fun _ => rfl, h8.out, h9.out, a10, s10, a11, s11, n10_11⟩
  · obtain rfl := Option.some.inj ho
    simp [Region.binds] at hu hd
    have d7 : j7 = true := by simp [hd]
    have e7 := h7.out d7
    subst e7
    subst d7
    clear hd
    refine wpOp_of rfl rfl ?_
    have i4 : w'.cell? ⟨gp, 4, none⟩ = some (.int .u64 (lb y 0 : Nat)) := (KP.below hB).cell 4
    have i5 : w'.cell? ⟨gp, 5, none⟩ = some (.int .u64 (lb y 1 : Nat)) := (KP.below hB).cell 5
    have i6 : w'.cell? ⟨gp, 6, none⟩ = some (.int .u64 (lb y 2 : Nat)) := (KP.below hB).cell 6
    have i7 : w'.cell? ⟨gp, 7, none⟩ = some (.int .u64 (lb y 3 : Nat)) := (KP.below hB).cell 7
    go_simp
    unfold pl10I
    exact ⟨j0, j1, j2, j3, j4, j5, j6, true, true, j9, j10, j11, j12, j13, x0, x1, x2, x3, x4, x5, x6, _, _, x9, x10, x11, g10, g11, rfl, rfl, hB, h0.out, h1.out, h2.out, h3.out, h4.out, h5.out, h6.out, h7.out, fun _ => rfl, h9.out, a10, s10, a11, s11, n10_11⟩
  · obtain rfl := Option.some.inj ho
    simp [Region.binds] at hu hd
    have d6 : j6 = true := by simp [hd]
    have e6 := h6.out d6
    subst e6
    have d8 : j8 = true := by simp [hd]
    have e8 := h8.out d8
    subst e8
    subst d6
    subst d8
    clear hd
    refine wpOp_of rfl rfl ?_
    go_simp
    go_at_call 110
    refine (keep w.heap.size w (H2.out _) hB (Nat.le_refl _)).mono ?_
    rintro e w2 ⟨rfl, hB2, hb2⟩
    unfold pl10I
    exact ⟨j0, j1, j2, j3, j4, j5, true, j7, true, true, j10, j11, j12, j13, x0, x1, x2, x3, x4, x5, _, x7, _, _, x10, x11, g10, g11, rfl, rfl, hB2, h0.out, h1.out, h2.out, h3.out, h4.out, h5.out, h6.out, h7.out, h8.out, fun _ => rfl, (fun hj => by obtain ⟨q1, q2, z0, z1, z2, z3, q3, q4⟩ := a10 hj; exact ⟨q1, q2, z0, z1, z2, z3, q3.below hb2, q4⟩), s10, (fun hj => by obtain ⟨q1, q2, z0, z1, z2, z3, q3, q4⟩ := a11 hj; exact ⟨q1, q2, z0, z1, z2, z3, q3.below hb2, q4⟩), s11, n10_11⟩
  · obtain rfl := Option.some.inj ho
    simp [Region.binds] at hu hd
    clear hd
    refine wpOp_of rfl rfl ?_
    have hs := hB.size
    go_simp
    unfold pl10I
    exact ⟨j0, j1, j2, j3, j4, j5, j6, j7, j8, j9, true, j11, j12, j13, x0, x1, x2, x3, x4, x5, x6, x7, x8, x9, _, x11, w'.heap.size, g11, rfl, rfl, (by go_grown), h0.out, h1.out, h2.out, h3.out, h4.out, h5.out, h6.out, h7.out, h8.out, h9.out, (fun _ => ⟨rfl, hs, _, _, _, _, Bk.new rfl, fun hj => absurd (s10 hj) (by simp [hu])⟩), (fun _ => rfl), (fun hj => by obtain ⟨q1, q2, z0, z1, z2, z3, q3, q4⟩ := a11 hj; exact ⟨q1, q2, z0, z1, z2, z3, q3.alloc, q4⟩), s11, (fun _ hj => by obtain ⟨q1, q2, z0, z1, z2, z3, q3, q4⟩ := a11 hj; exact Nat.ne_of_gt q3.lt)⟩
  · obtain rfl := Option.some.inj ho
    simp [Region.binds] at hu hd
    clear hd
    refine wpOp_of rfl rfl ?_
    have hs := hB.size
    go_simp
    unfold pl10I
    exact ⟨j0, j1, j2, j3, j4, j5, j6, j7, j8, j9, j10, true, j12, j13, x0, x1, x2, x3, x4, x5, x6, x7, x8, x9, x10, _, g10, w'.heap.size, rfl, rfl, (by go_grown), h0.out, h1.out, h2.out, h3.out, h4.out, h5.out, h6.out, h7.out, h8.out, h9.out, (fun hj => by obtain ⟨q1, q2, z0, z1, z2, z3, q3, q4⟩ := a10 hj; exact ⟨q1, q2, z0, z1, z2, z3, q3.alloc, q4⟩), s10, (fun _ => ⟨rfl, hs, _, _, _, _, Bk.new rfl, fun hj => absurd (s11 hj) (by simp [hu])⟩), (fun _ => rfl), (fun hj _ => by obtain ⟨q1, q2, z0, z1, z2, z3, q3, q4⟩ := a10 hj; exact Nat.ne_of_lt q3.lt)⟩
  · obtain rfl := Option.some.inj ho
    simp [Region.binds] at hu hd
    have d4 : j4 = true := by simp [hd]
    have e4 := h4.out d4
    subst e4
    have d10 : j10 = true := by simp [hd]
    subst d4
    subst d10
    clear hd
    refine wpOp_of rfl rfl ?_
    obtain ⟨p1, p2, z0, z1, z2, z3, p3, p4⟩ := a10 rfl
    subst p1
    obtain ⟨f0, f1, f2, f3⟩ := p3.fros
    obtain ⟨c0, c1, c2, c3⟩ := p3.cells
    go_simp
    unfold pl10I
    exact ⟨j0, j1, j2, j3, true, j5, j6, j7, j8, j9, true, j11, true, j13, x0, x1, x2, x3, _, x5, x6, x7, x8, x9, _, x11, g10, g11, rfl, rfl, (by go_grown), h0.out, h1.out, h2.out, h3.out, h4.out, h5.out, h6.out, h7.out, h8.out, h9.out, (fun _ => ⟨rfl, p2, _, _, _, _, Bk.put p3, fun _ => rfl⟩), (fun _ => rfl), (fun hj => by obtain ⟨q1, q2, z0, z1, z2, z3, q3, q4⟩ := a11 hj; exact ⟨q1, q2, z0, z1, z2, z3, Bk.puto ((Ne.symm (n10_11 rfl hj))) q3, q4⟩), s11, n10_11⟩
  · obtain rfl := Option.some.inj ho
    simp [Region.binds] at hu hd
    have d9 : j9 = true := by simp [hd]
    have e9 := h9.out d9
    subst e9
    have d11 : j11 = true := by simp [hd]
    subst d9
    subst d11
    clear hd
    refine wpOp_of rfl rfl ?_
    obtain ⟨p1, p2, z0, z1, z2, z3, p3, p4⟩ := a11 rfl
    subst p1
    obtain ⟨f0, f1, f2, f3⟩ := p3.fros
    obtain ⟨c0, c1, c2, c3⟩ := p3.cells
    go_simp
    unfold pl10I
    exact ⟨j0, j1, j2, j3, j4, j5, j6, j7, j8, true, j10, true, j12, true, x0, x1, x2, x3, x4, x5, x6, x7, x8, _, x10, _, g10, g11, rfl, rfl, (by go_grown), h0.out, h1.out, h2.out, h3.out, h4.out, h5.out, h6.out, h7.out, h8.out, h9.out, (fun hj => by obtain ⟨q1, q2, z0, z1, z2, z3, q3, q4⟩ := a10 hj; exact ⟨q1, q2, z0, z1, z2, z3, Bk.puto (n10_11 hj rfl) q3, q4⟩), s10, (fun _ => ⟨rfl, p2, _, _, _, _, Bk.put p3, fun _ => rfl⟩), (fun _ => rfl), n10_11⟩
set_option maxHeartbeats 16000000 in
theorem pl10_fin (gp gq x y z x' y' z' run rise : Nat) (w : World)
    {t0 t1 t4 t7 t8 t9 t10 t11 t12 t13 t14 t15 t16 t17 t18 t19 t20 t21 t22 t23 t24 t25 t26 t27 t28 t29 t30 t31 t32 t33 t44 t45 t46 t47 t48 t49 t50 t51 t52 t53 t54 : Value} {ds : List Deferred} : ∀ l a w', pl10I w gp gq x y z x' y' z' run rise t0 t1 t4 t7 t8 t9 t10 t11 t12 t13 t14 t15 t16 t17 t18 t19 t20 t21 t22 t23 t24 t25 t26 t27 t28 t29 t30 t31 t32 t33 t44 t45 t46 t47 t48 t49 t50 t51 t52 t53 t54 ds l a w' → Region.ready .any pl10O l = [] →
    ∃ (y0 y1 y2 y3 y4 y5 y6 y7 y8 y9 : Value) (g10 g11 : Nat), a = { tmps := #[t0, t1, .pointer (some ⟨gp, 0, none⟩), .pointer (some ⟨gq, 0, none⟩), t4, .pointer (some ⟨g10, 0, none⟩), .pointer (some ⟨g11, 0, none⟩), t7, t8, t9, t10, t11, t12, t13, t14, t15, t16, t17, t18, t19, t20, t21, t22, t23, t24, t25, t26, t27, t28, t29, t30, t31, t32, t33, y0, y1, y2, y3, y4, y5, y6, y7, y8, y9, t44, t45, t46, t47, t48, t49, t50, t51, t52, t53, t54], defers := ds } ∧ Below w.heap.size w w' ∧ w.heap.size ≤ g10 ∧ w.heap.size ≤ g11 ∧ Bk 24 w' g10 #[.int .u64 (lb run 0 : Nat), .int .u64 (lb run 1 : Nat), .int .u64 (lb run 2 : Nat), .int .u64 (lb run 3 : Nat)] ∧ Bk 24 w' g11 #[.int .u64 (lb rise 0 : Nat), .int .u64 (lb rise 1 : Nat), .int .u64 (lb rise 2 : Nat), .int .u64 (lb rise 3 : Nat)] ∧ g10 ≠ g11 := by
  simp only [pl10O, findR, Tryz.f158, Option.bind_some, Option.or, Option.getD, Nat.reduceEqDiff, if_true, if_false, reduceIte]
  rintro l a w' ⟨j0, j1, j2, j3, j4, j5, j6, j7, j8, j9, j10, j11, j12, j13, x0, x1, x2, x3, x4, x5, x6, x7, x8, x9, x10, x11, g10, g11, rfl, rfl, hB, h0, h1, h2, h3, h4, h5, h6, h7, h8, h9, a10, s10, a11, s11, n10_11⟩ hr
  have hn := fun i => List.eq_nil_iff_forall_not_mem.1 hr i
  clear hr
  cases j0; exact absurd (mem_ready.2 ⟨by simp, _, rfl, by simp [Region.binds]⟩) (hn 0)
  obtain rfl := h0 rfl
  cases j1; exact absurd (mem_ready.2 ⟨by simp, _, rfl, by simp [Region.binds]⟩) (hn 1)
  obtain rfl := h1 rfl
  cases j2; exact absurd (mem_ready.2 ⟨by simp, _, rfl, by simp [Region.binds]⟩) (hn 2)
  obtain rfl := h2 rfl
  cases j3; exact absurd (mem_ready.2 ⟨by simp, _, rfl, by simp [Region.binds]⟩) (hn 3)
  obtain rfl := h3 rfl
  cases j4; exact absurd (mem_ready.2 ⟨by simp, _, rfl, by simp [Region.binds]⟩) (hn 4)
  obtain rfl := h4 rfl
  cases j5; exact absurd (mem_ready.2 ⟨by simp, _, rfl, by simp [Region.binds]⟩) (hn 5)
  obtain rfl := h5 rfl
  cases j6; exact absurd (mem_ready.2 ⟨by simp, _, rfl, by simp [Region.binds]⟩) (hn 6)
  obtain rfl := h6 rfl
  cases j7; exact absurd (mem_ready.2 ⟨by simp, _, rfl, by simp [Region.binds]⟩) (hn 7)
  obtain rfl := h7 rfl
  cases j8; exact absurd (mem_ready.2 ⟨by simp, _, rfl, by simp [Region.binds]⟩) (hn 8)
  obtain rfl := h8 rfl
  cases j9; exact absurd (mem_ready.2 ⟨by simp, _, rfl, by simp [Region.binds]⟩) (hn 9)
  obtain rfl := h9 rfl
  cases j10; exact absurd (mem_ready.2 ⟨by simp, _, rfl, by simp [Region.binds]⟩) (hn 10)
  cases j11; exact absurd (mem_ready.2 ⟨by simp, _, rfl, by simp [Region.binds]⟩) (hn 11)
  cases j12; exact absurd (mem_ready.2 ⟨by simp, _, rfl, by simp [Region.binds]⟩) (hn 12)
  cases j13; exact absurd (mem_ready.2 ⟨by simp, _, rfl, by simp [Region.binds]⟩) (hn 13)
  obtain ⟨rfl, l10, z0, z1, z2, z3, b10, r10⟩ := a10 rfl
  rw [r10 rfl] at b10
  obtain ⟨rfl, l11, z0, z1, z2, z3, b11, r11⟩ := a11 rfl
  rw [r11 rfl] at b11
  exact ⟨_, _, _, _, _, _, _, _, _, _, g10, g11, rfl, hB, l10, l11, b10, b11, n10_11 rfl rfl⟩
theorem pl10 (gp gq x y z x' y' z' run rise : Nat) (w : World) (KP : Bk 162 w gp #[.int .u64 (lb x 0 : Nat), .int .u64 (lb x 1 : Nat), .int .u64 (lb x 2 : Nat), .int .u64 (lb x 3 : Nat), .int .u64 (lb y 0 : Nat), .int .u64 (lb y 1 : Nat), .int .u64 (lb y 2 : Nat), .int .u64 (lb y 3 : Nat), .int .u64 (lb z 0 : Nat), .int .u64 (lb z 1 : Nat), .int .u64 (lb z 2 : Nat), .int .u64 (lb z 3 : Nat)]) (KQ : Bk 162 w gq #[.int .u64 (lb x' 0 : Nat), .int .u64 (lb x' 1 : Nat), .int .u64 (lb x' 2 : Nat), .int .u64 (lb x' 3 : Nat), .int .u64 (lb y' 0 : Nat), .int .u64 (lb y' 1 : Nat), .int .u64 (lb y' 2 : Nat), .int .u64 (lb y' 3 : Nat), .int .u64 (lb z' 0 : Nat), .int .u64 (lb z' 1 : Nat), .int .u64 (lb z' 2 : Nat), .int .u64 (lb z' 3 : Nat)]) (H1 : Hid (∀ w, Calls Tryz.prog 110 #[.agg #[.int .u64 (lb x' 0 : Nat), .int .u64 (lb x' 1 : Nat), .int .u64 (lb x' 2 : Nat), .int .u64 (lb x' 3 : Nat)], .agg #[.int .u64 (lb x 0 : Nat), .int .u64 (lb x 1 : Nat), .int .u64 (lb x 2 : Nat), .int .u64 (lb x 3 : Nat)]] w fun e w' => e = .returned (.agg #[.int .u64 (lb run 0 : Nat), .int .u64 (lb run 1 : Nat), .int .u64 (lb run 2 : Nat), .int .u64 (lb run 3 : Nat)]) ∧ Below w.heap.size w w')) (H2 : Hid (∀ w, Calls Tryz.prog 110 #[.agg #[.int .u64 (lb y' 0 : Nat), .int .u64 (lb y' 1 : Nat), .int .u64 (lb y' 2 : Nat), .int .u64 (lb y' 3 : Nat)], .agg #[.int .u64 (lb y 0 : Nat), .int .u64 (lb y 1 : Nat), .int .u64 (lb y 2 : Nat), .int .u64 (lb y 3 : Nat)]] w fun e w' => e = .returned (.agg #[.int .u64 (lb rise 0 : Nat), .int .u64 (lb rise 1 : Nat), .int .u64 (lb rise 2 : Nat), .int .u64 (lb rise 3 : Nat)]) ∧ Below w.heap.size w w'))
    {t0 t1 t4 t5 t6 t7 t8 t9 t10 t11 t12 t13 t14 t15 t16 t17 t18 t19 t20 t21 t22 t23 t24 t25 t26 t27 t28 t29 t30 t31 t32 t33 t34 t35 t36 t37 t38 t39 t40 t41 t42 t43 t44 t45 t46 t47 t48 t49 t50 t51 t52 t53 t54 : Value} {ds : List Deferred} {K : Act → World → Prop} {Q : Exit → Act → World → Prop}
    (h : ∀ (y0 y1 y2 y3 y4 y5 y6 y7 y8 y9 : Value) (g10 g11 : Nat) (w' : World) (hb : Below w.heap.size w w') (hg10 : w.heap.size ≤ g10) (hg11 : w.heap.size ≤ g11) (hk10 : Bk 24 w' g10 #[.int .u64 (lb run 0 : Nat), .int .u64 (lb run 1 : Nat), .int .u64 (lb run 2 : Nat), .int .u64 (lb run 3 : Nat)]) (hk11 : Bk 24 w' g11 #[.int .u64 (lb rise 0 : Nat), .int .u64 (lb rise 1 : Nat), .int .u64 (lb rise 2 : Nat), .int .u64 (lb rise 3 : Nat)]) (hn10_11 : g10 ≠ g11), K { tmps := #[t0, t1, .pointer (some ⟨gp, 0, none⟩), .pointer (some ⟨gq, 0, none⟩), t4, .pointer (some ⟨g10, 0, none⟩), .pointer (some ⟨g11, 0, none⟩), t7, t8, t9, t10, t11, t12, t13, t14, t15, t16, t17, t18, t19, t20, t21, t22, t23, t24, t25, t26, t27, t28, t29, t30, t31, t32, t33, y0, y1, y2, y3, y4, y5, y6, y7, y8, y9, t44, t45, t46, t47, t48, t49, t50, t51, t52, t53, t54], defers := ds } w') :
    (Code.region 10 pl10O true).wp Tryz.prog (Exit.then K Q) { tmps := #[t0, t1, .pointer (some ⟨gp, 0, none⟩), .pointer (some ⟨gq, 0, none⟩), t4, t5, t6, t7, t8, t9, t10, t11, t12, t13, t14, t15, t16, t17, t18, t19, t20, t21, t22, t23, t24, t25, t26, t27, t28, t29, t30, t31, t32, t33, t34, t35, t36, t37, t38, t39, t40, t41, t42, t43, t44, t45, t46, t47, t48, t49, t50, t51, t52, t53, t54], defers := ds } w := by
  have hsz : pl10O.size = 14 := by kernel_rfl
  refine wp_region_any mixed ?_
  rw [hsz]
  refine wpAny_inv (I := pl10I w gp gq x y z x' y' z' run rise t0 t1 t4 t7 t8 t9 t10 t11 t12 t13 t14 t15 t16 t17 t18 t19 t20 t21 t22 t23 t24 t25 t26 t27 t28 t29 t30 t31 t32 t33 t44 t45 t46 t47 t48 t49 t50 t51 t52 t53 t54 ds) (pl10_steps gp gq x y z x' y' z' run rise w KP KQ H1 H2) (fun l a w' hI hr => ?_) 14 _ _ _ (by decide) ?_
  · obtain ⟨y0, y1, y2, y3, y4, y5, y6, y7, y8, y9, g10, g11, rfl, hb, l10, l11, b10, b11, n10_11⟩ := pl10_fin gp gq x y z x' y' z' run rise w l a w' hI hr
    exact h _ _ _ _ _ _ _ _ _ _ g10 g11 w' hb l10 l11 b10 b11 n10_11
  · exact ⟨false, false, false, false, false, false, false, false, false, false, false, false, false, false, t34, t35, t36, t37, t38, t39, t40, t41, t42, t43, t5, t6, 0, 0, rfl, rfl, ⟨rfl, rfl, rfl, Nat.le_refl _, fun _ _ => rfl⟩, (fun h => by cases h), (fun h => by cases h), (fun h => by cases h), (fun h => by cases h), (fun h => by cases h), (fun h => by cases h), (fun h => by cases h), (fun h => by cases h), (fun h => by cases h), (fun h => by cases h), (fun h => by cases h), (fun h => by cases h), (fun h => by cases h), (fun h => by cases h), (fun h => by cases h)⟩
def on6I (w0 : World) (gp x y sq cube : Nat) (bi : Bool) (t0 t2 t3 t5 t6 t7 t8 t9 t10 t11 t12 t13 t14 t15 t16 t17 t18 t19 t20 t29 t30 t31 t32 t33 t34 t35 t36 t37 t38 t39 t40 t41 : Value) (ds : List Deferred) (l : Array Bool) (a : Act) (w : World) : Prop :=
  ∃ j0 j1 j2 j3 j4 j5 j6 j7 j8 j9 : Bool, ∃ x0 x1 x2 x3 x4 x5 x6 x7 x8 : Value, ∃ g8 : Nat, l = #[j0, j1, j2, j3, j4, j5, j6, j7, j8, j9] ∧ a = { tmps := #[t0, .pointer (some ⟨gp, 0, none⟩), t2, t3, x8, t5, t6, t7, t8, t9, t10, t11, t12, t13, t14, t15, t16, t17, t18, t19, t20, x0, x1, x2, x3, x4, x5, x6, x7, t29, t30, t31, t32, t33, t34, t35, t36, t37, t38, t39, t40, t41], defers := ds } ∧ Below w0.heap.size w0 w ∧
  (j0 = true → x0 = .pointer (some ⟨gp, 0, none⟩)) ∧
  (j1 = true → x1 = .agg #[.int .u64 (lb x 0 : Nat), .int .u64 (lb x 1 : Nat), .int .u64 (lb x 2 : Nat), .int .u64 (lb x 3 : Nat)]) ∧
  (j2 = true → x2 = .pointer (some ⟨gp, 0, none⟩)) ∧
  (j3 = true → x3 = .agg #[.int .u64 (lb x 0 : Nat), .int .u64 (lb x 1 : Nat), .int .u64 (lb x 2 : Nat), .int .u64 (lb x 3 : Nat)]) ∧
  (j4 = true → x4 = .agg #[.int .u64 (lb sq 0 : Nat), .int .u64 (lb sq 1 : Nat), .int .u64 (lb sq 2 : Nat), .int .u64 (lb sq 3 : Nat)]) ∧
  (j5 = true → x5 = .pointer (some ⟨gp, 0, none⟩)) ∧
  (j6 = true → x6 = .agg #[.int .u64 (lb x 0 : Nat), .int .u64 (lb x 1 : Nat), .int .u64 (lb x 2 : Nat), .int .u64 (lb x 3 : Nat)]) ∧
  (j7 = true → x7 = .agg #[.int .u64 (lb cube 0 : Nat), .int .u64 (lb cube 1 : Nat), .int .u64 (lb cube 2 : Nat), .int .u64 (lb cube 3 : Nat)]) ∧
  (j8 = true → x8 = .pointer (some ⟨g8, 0, none⟩) ∧ w0.heap.size ≤ g8 ∧ ∃ z0 z1 z2 z3 : Value, Bk 24 w g8 #[z0, z1, z2, z3] ∧ (j9 = true → #[z0, z1, z2, z3] = #[.int .u64 (lb cube 0 : Nat), .int .u64 (lb cube 1 : Nat), .int .u64 (lb cube 2 : Nat), .int .u64 (lb cube 3 : Nat)])) ∧
  (j9 = true → j8 = true)
noncomputable def on6O : Array Oper := (Tryz.f61.body.bind fun c => findR c 6).getD #[]
set_option maxHeartbeats 16000000 in
theorem on6_steps (gp x y sq cube : Nat) (bi : Bool) (w : World) (KP : Bk 26 w gp #[.int .u64 (lb x 0 : Nat), .int .u64 (lb x 1 : Nat), .int .u64 (lb x 2 : Nat), .int .u64 (lb x 3 : Nat), .int .u64 (lb y 0 : Nat), .int .u64 (lb y 1 : Nat), .int .u64 (lb y 2 : Nat), .int .u64 (lb y 3 : Nat), .bool bi]) (H1 : Hid (∀ w, Calls Tryz.prog 108 #[.agg #[.int .u64 (lb x 0 : Nat), .int .u64 (lb x 1 : Nat), .int .u64 (lb x 2 : Nat), .int .u64 (lb x 3 : Nat)], .agg #[.int .u64 (lb x 0 : Nat), .int .u64 (lb x 1 : Nat), .int .u64 (lb x 2 : Nat), .int .u64 (lb x 3 : Nat)]] w fun e w' => e = .returned (.agg #[.int .u64 (lb sq 0 : Nat), .int .u64 (lb sq 1 : Nat), .int .u64 (lb sq 2 : Nat), .int .u64 (lb sq 3 : Nat)]) ∧ Below w.heap.size w w')) (H2 : Hid (∀ w, Calls Tryz.prog 108 #[.agg #[.int .u64 (lb sq 0 : Nat), .int .u64 (lb sq 1 : Nat), .int .u64 (lb sq 2 : Nat), .int .u64 (lb sq 3 : Nat)], .agg #[.int .u64 (lb x 0 : Nat), .int .u64 (lb x 1 : Nat), .int .u64 (lb x 2 : Nat), .int .u64 (lb x 3 : Nat)]] w fun e w' => e = .returned (.agg #[.int .u64 (lb cube 0 : Nat), .int .u64 (lb cube 1 : Nat), .int .u64 (lb cube 2 : Nat), .int .u64 (lb cube 3 : Nat)]) ∧ Below w.heap.size w w'))
    {t0 t2 t3 t5 t6 t7 t8 t9 t10 t11 t12 t13 t14 t15 t16 t17 t18 t19 t20 t29 t30 t31 t32 t33 t34 t35 t36 t37 t38 t39 t40 t41 : Value} {ds : List Deferred} {Q : Exit → Act → World → Prop} :
    ∀ l a w', on6I w gp x y sq cube bi t0 t2 t3 t5 t6 t7 t8 t9 t10 t11 t12 t13 t14 t15 t16 t17 t18 t19 t20 t29 t30 t31 t32 t33 t34 t35 t36 t37 t38 t39 t40 t41 ds l a w' → ∀ i ∈ Region.ready .any on6O l, wpOp Tryz.prog on6O Q i (fun a' w'' => on6I w gp x y sq cube bi t0 t2 t3 t5 t6 t7 t8 t9 t10 t11 t12 t13 t14 t15 t16 t17 t18 t19 t20 t29 t30 t31 t32 t33 t34 t35 t36 t37 t38 t39 t40 t41 ds (l.setIfInBounds i true) a' w'') a w' := by
  simp only [on6O, findR, Tryz.f61, Option.bind_some, Option.or, Option.getD, Nat.reduceEqDiff, if_true, if_false, reduceIte]
  rintro l a w' ⟨j0, j1, j2, j3, j4, j5, j6, j7, j8, j9, x0, x1, x2, x3, x4, x5, x6, x7, x8, g8, rfl, rfl, hB, h0, h1, h2, h3, h4, h5, h6, h7, a8, s8⟩ i hi
  rw [mem_ready] at hi
  obtain ⟨hu, oo, ho, hd⟩ := hi
  have hin : i < 10 := by
    have := (Array.getElem?_eq_some_iff.1 ho).1
    simpa using this
  replace h0 := Lib.hid h0
  replace h1 := Lib.hid h1
  replace h2 := Lib.hid h2
  replace h3 := Lib.hid h3
  replace h4 := Lib.hid h4
  replace h5 := Lib.hid h5
  replace h6 := Lib.hid h6
  replace h7 := Lib.hid h7
  have hcase : i = 0 ∨ i = 1 ∨ i = 2 ∨ i = 3 ∨ i = 4 ∨ i = 5 ∨ i = 6 ∨ i = 7 ∨ i = 8 ∨ i = 9 := by omega
  rcases hcase with rfl | rfl | rfl | rfl | rfl | rfl | rfl | rfl | rfl | rfl
  · obtain rfl := Option.some.inj ho
    simp [Region.binds] at hu hd
    clear hd
    refine wpOp_of rfl rfl ?_
    go_simp
    unfold on6I
    exact ⟨true, j1, j2, j3, j4, j5, j6, j7, j8, j9, _, x1, x2, x3, x4, x5, x6, x7, x8, g8, rfl, rfl, hB, fun _ => rfl, h1.out, h2.out, h3.out, h4.out, h5.out, h6.out, h7.out, a8, s8⟩
  · obtain rfl := Option.some.inj ho
    simp [Region.binds] at hu hd
    have d0 : j0 = true := by simp [hd]
    have e0 := h0.out d0
    subst e0
    subst d0
    clear hd
    refine wpOp_of rfl rfl ?_
    have i0 : w'.cell? ⟨gp, 0, none⟩ = some (.int .u64 (lb x 0 : Nat)) := (KP.below hB).cell 0
    have i1 : w'.cell? ⟨gp, 1, none⟩ = some (.int .u64 (lb x 1 : Nat)) := (KP.below hB).cell 1
    have i2 : w'.cell? ⟨gp, 2, none⟩ = some (.int .u64 (lb x 2 : Nat)) := (KP.below hB).cell 2
    have i3 : w'.cell? ⟨gp, 3, none⟩ = some (.int .u64 (lb x 3 : Nat)) := (KP.below hB).cell 3
    go_simp
    unfold on6I
    exact ⟨true, true, j2, j3, j4, j5, j6, j7, j8, j9, _, _, x2, x3, x4, x5, x6, x7, x8, g8, rfl, rfl, hB, h0.out, fun _ => rfl, h2.out, h3.out, h4.out, h5.out, h6.out, h7.out, a8, s8⟩
  · obtain rfl := Option.some.inj ho
    simp [Region.binds] at hu hd
    clear hd
    refine wpOp_of rfl rfl ?_
    go_simp
    unfold on6I
    exact ⟨j0, j1, true, j3, j4, j5, j6, j7, j8, j9, x0, x1, _, x3, x4, x5, x6, x7, x8, g8, rfl, rfl, hB, h0.out, h1.out, fun _ => rfl, h3.out, h4.out, h5.out, h6.out, h7.out, a8, s8⟩
  · obtain rfl := Option.some.inj ho
    simp [Region.binds] at hu hd
    have d2 : j2 = true := by simp [hd]
    have e2 := h2.out d2
    subst e2
    subst d2
    clear hd
    refine wpOp_of rfl rfl ?_
    have i0 : w'.cell? ⟨gp, 0, none⟩ = some (.int .u64 (lb x 0 : Nat)) := (KP.below hB).cell 0
    have i1 : w'.cell? ⟨gp, 1, none⟩ = some (.int .u64 (lb x 1 : Nat)) := (KP.below hB).cell 1
    have i2 : w'.cell? ⟨gp, 2, none⟩ = some (.int .u64 (lb x 2 : Nat)) := (KP.below hB).cell 2
    have i3 : w'.cell? ⟨gp, 3, none⟩ = some (.int .u64 (lb x 3 : Nat)) := (KP.below hB).cell 3
    go_simp
    unfold on6I
    exact ⟨j0, j1, true, true, j4, j5, j6, j7, j8, j9, x0, x1, _, _, x4, x5, x6, x7, x8, g8, rfl, rfl, hB, h0.out, h1.out, h2.out, fun _ => rfl, h4.out, h5.out, h6.out, h7.out, a8, s8⟩
  · obtain rfl := Option.some.inj ho
    simp [Region.binds] at hu hd
    have d1 : j1 = true := by simp [hd]
    have e1 := h1.out d1
    subst e1
    have d3 : j3 = true := by simp [hd]
    have e3 := h3.out d3
    subst e3
    subst d1
    subst d3
    clear hd
    refine wpOp_of rfl rfl ?_
    go_simp
    go_at_call 108
    refine (keep w.heap.size w (H1.out _) hB (Nat.le_refl _)).mono ?_
    rintro e w2 ⟨rfl, hB2, hb2⟩
    unfold on6I
    exact ⟨j0, true, j2, true, true, j5, j6, j7, j8, j9, x0, _, x2, _, _, x5, x6, x7, x8, g8, rfl, rfl, hB2, h0.out, h1.out, h2.out, h3.out, fun _ => rfl, h5.out, h6.out, h7.out, (fun hj => by obtain ⟨q1, q2, z0, z1, z2, z3, q3, q4⟩ := a8 hj; exact ⟨q1, q2, z0, z1, z2, z3, q3.below hb2, q4⟩), s8⟩
  · obtain rfl := Option.some.inj ho
    simp [Region.binds] at hu hd
    clear hd
    refine wpOp_of rfl rfl ?_
    go_simp
    unfold on6I
    exact ⟨j0, j1, j2, j3, j4, true, j6, j7, j8, j9, x0, x1, x2, x3, x4, _, x6, x7, x8, g8, rfl, rfl, hB, h0.out, h1.out, h2.out, h3.out, h4.out, fun _ => rfl, h6.out, h7.out, a8, s8⟩
  · obtain rfl := Option.some.inj ho
    simp [Region.binds] at hu hd
    have d5 : j5 = true := by simp [hd]
    have e5 := h5.out d5
    subst e5
    subst d5
    clear hd
    refine wpOp_of rfl rfl ?_
    have i0 : w'.cell? ⟨gp, 0, none⟩ = some (.int .u64 (lb x 0 : Nat)) := (KP.below hB).cell 0
    have i1 : w'.cell? ⟨gp, 1, none⟩ = some (.int .u64 (lb x 1 : Nat)) := (KP.below hB).cell 1
    have i2 : w'.cell? ⟨gp, 2, none⟩ = some (.int .u64 (lb x 2 : Nat)) := (KP.below hB).cell 2
    have i3 : w'.cell? ⟨gp, 3, none⟩ = some (.int .u64 (lb x 3 : Nat)) := (KP.below hB).cell 3
    go_simp
    unfold on6I
    exact ⟨j0, j1, j2, j3, j4, true, true, j7, j8, j9, x0, x1, x2, x3, x4, _, _, x7, x8, g8, rfl, rfl, hB, h0.out, h1.out, h2.out, h3.out, h4.out, h5.out, fun _ => rfl, h7.out, a8, s8⟩
  · obtain rfl := Option.some.inj ho
    simp [Region.binds] at hu hd
    have d4 : j4 = true := by simp [hd]
    have e4 := h4.out d4
    subst e4
    have d6 : j6 = true := by simp [hd]
    have e6 := h6.out d6
    subst e6
    subst d4
    subst d6
    clear hd
    refine wpOp_of rfl rfl ?_
    go_simp
    go_at_call 108
    refine (keep w.heap.size w (H2.out _) hB (Nat.le_refl _)).mono ?_
    rintro e w2 ⟨rfl, hB2, hb2⟩
    unfold on6I
    exact ⟨j0, j1, j2, j3, true, j5, true, true, j8, j9, x0, x1, x2, x3, _, x5, _, _, x8, g8, rfl, rfl, hB2, h0.out, h1.out, h2.out, h3.out, h4.out, h5.out, h6.out, fun _ => rfl, (fun hj => by obtain ⟨q1, q2, z0, z1, z2, z3, q3, q4⟩ := a8 hj; exact ⟨q1, q2, z0, z1, z2, z3, q3.below hb2, q4⟩), s8⟩
  · obtain rfl := Option.some.inj ho
    simp [Region.binds] at hu hd
    clear hd
    refine wpOp_of rfl rfl ?_
    have hs := hB.size
    go_simp
    unfold on6I
    exact ⟨j0, j1, j2, j3, j4, j5, j6, j7, true, j9, x0, x1, x2, x3, x4, x5, x6, x7, _, w'.heap.size, rfl, rfl, (by go_grown), h0.out, h1.out, h2.out, h3.out, h4.out, h5.out, h6.out, h7.out, (fun _ => ⟨rfl, hs, _, _, _, _, Bk.new rfl, fun hj => absurd (s8 hj) (by simp [hu])⟩), (fun _ => rfl)⟩
  · obtain rfl := Option.some.inj ho
    simp [Region.binds] at hu hd
    have d7 : j7 = true := by simp [hd]
    have e7 := h7.out d7
    subst e7
    have d8 : j8 = true := by simp [hd]
    subst d7
    subst d8
    clear hd
    refine wpOp_of rfl rfl ?_
    obtain ⟨p1, p2, z0, z1, z2, z3, p3, p4⟩ := a8 rfl
    subst p1
    obtain ⟨f0, f1, f2, f3⟩ := p3.fros
    obtain ⟨c0, c1, c2, c3⟩ := p3.cells
    clear a8
    go_simp
    unfold on6I
    exact ⟨j0, j1, j2, j3, j4, j5, j6, true, true, true, x0, x1, x2, x3, x4, x5, x6, _, _, g8, rfl, rfl, (by go_grown), h0.out, h1.out, h2.out, h3.out, h4.out, h5.out, h6.out, h7.out, (fun _ => ⟨rfl, p2, _, _, _, _, Bk.put p3, fun _ => rfl⟩), (fun _ => rfl)⟩
set_option maxHeartbeats 16000000 in
theorem on6_fin (gp x y sq cube : Nat) (bi : Bool) (w : World)
    {t0 t2 t3 t5 t6 t7 t8 t9 t10 t11 t12 t13 t14 t15 t16 t17 t18 t19 t20 t29 t30 t31 t32 t33 t34 t35 t36 t37 t38 t39 t40 t41 : Value} {ds : List Deferred} : ∀ l a w', on6I w gp x y sq cube bi t0 t2 t3 t5 t6 t7 t8 t9 t10 t11 t12 t13 t14 t15 t16 t17 t18 t19 t20 t29 t30 t31 t32 t33 t34 t35 t36 t37 t38 t39 t40 t41 ds l a w' → Region.ready .any on6O l = [] →
    ∃ (y0 y1 y2 y3 y4 y5 y6 y7 : Value) (g8 : Nat), a = { tmps := #[t0, .pointer (some ⟨gp, 0, none⟩), t2, t3, .pointer (some ⟨g8, 0, none⟩), t5, t6, t7, t8, t9, t10, t11, t12, t13, t14, t15, t16, t17, t18, t19, t20, y0, y1, y2, y3, y4, y5, y6, y7, t29, t30, t31, t32, t33, t34, t35, t36, t37, t38, t39, t40, t41], defers := ds } ∧ Below w.heap.size w w' ∧ w.heap.size ≤ g8 ∧ Bk 24 w' g8 #[.int .u64 (lb cube 0 : Nat), .int .u64 (lb cube 1 : Nat), .int .u64 (lb cube 2 : Nat), .int .u64 (lb cube 3 : Nat)] := by
  simp only [on6O, findR, Tryz.f61, Option.bind_some, Option.or, Option.getD, Nat.reduceEqDiff, if_true, if_false, reduceIte]
  rintro l a w' ⟨j0, j1, j2, j3, j4, j5, j6, j7, j8, j9, x0, x1, x2, x3, x4, x5, x6, x7, x8, g8, rfl, rfl, hB, h0, h1, h2, h3, h4, h5, h6, h7, a8, s8⟩ hr
  have hn := fun i => List.eq_nil_iff_forall_not_mem.1 hr i
  clear hr
  cases j0; exact absurd (mem_ready.2 ⟨by simp, _, rfl, by simp [Region.binds]⟩) (hn 0)
  obtain rfl := h0 rfl
  cases j1; exact absurd (mem_ready.2 ⟨by simp, _, rfl, by simp [Region.binds]⟩) (hn 1)
  obtain rfl := h1 rfl
  cases j2; exact absurd (mem_ready.2 ⟨by simp, _, rfl, by simp [Region.binds]⟩) (hn 2)
  obtain rfl := h2 rfl
  cases j3; exact absurd (mem_ready.2 ⟨by simp, _, rfl, by simp [Region.binds]⟩) (hn 3)
  obtain rfl := h3 rfl
  cases j4; exact absurd (mem_ready.2 ⟨by simp, _, rfl, by simp [Region.binds]⟩) (hn 4)
  obtain rfl := h4 rfl
  cases j5; exact absurd (mem_ready.2 ⟨by simp, _, rfl, by simp [Region.binds]⟩) (hn 5)
  obtain rfl := h5 rfl
  cases j6; exact absurd (mem_ready.2 ⟨by simp, _, rfl, by simp [Region.binds]⟩) (hn 6)
  obtain rfl := h6 rfl
  cases j7; exact absurd (mem_ready.2 ⟨by simp, _, rfl, by simp [Region.binds]⟩) (hn 7)
  obtain rfl := h7 rfl
  cases j8; exact absurd (mem_ready.2 ⟨by simp, _, rfl, by simp [Region.binds]⟩) (hn 8)
  cases j9; exact absurd (mem_ready.2 ⟨by simp, _, rfl, by simp [Region.binds]⟩) (hn 9)
  obtain ⟨rfl, l8, z0, z1, z2, z3, b8, r8⟩ := a8 rfl
  rw [r8 rfl] at b8
  exact ⟨_, _, _, _, _, _, _, _, g8, rfl, hB, l8, b8⟩
theorem on6 (gp x y sq cube : Nat) (bi : Bool) (w : World) (KP : Bk 26 w gp #[.int .u64 (lb x 0 : Nat), .int .u64 (lb x 1 : Nat), .int .u64 (lb x 2 : Nat), .int .u64 (lb x 3 : Nat), .int .u64 (lb y 0 : Nat), .int .u64 (lb y 1 : Nat), .int .u64 (lb y 2 : Nat), .int .u64 (lb y 3 : Nat), .bool bi]) (H1 : Hid (∀ w, Calls Tryz.prog 108 #[.agg #[.int .u64 (lb x 0 : Nat), .int .u64 (lb x 1 : Nat), .int .u64 (lb x 2 : Nat), .int .u64 (lb x 3 : Nat)], .agg #[.int .u64 (lb x 0 : Nat), .int .u64 (lb x 1 : Nat), .int .u64 (lb x 2 : Nat), .int .u64 (lb x 3 : Nat)]] w fun e w' => e = .returned (.agg #[.int .u64 (lb sq 0 : Nat), .int .u64 (lb sq 1 : Nat), .int .u64 (lb sq 2 : Nat), .int .u64 (lb sq 3 : Nat)]) ∧ Below w.heap.size w w')) (H2 : Hid (∀ w, Calls Tryz.prog 108 #[.agg #[.int .u64 (lb sq 0 : Nat), .int .u64 (lb sq 1 : Nat), .int .u64 (lb sq 2 : Nat), .int .u64 (lb sq 3 : Nat)], .agg #[.int .u64 (lb x 0 : Nat), .int .u64 (lb x 1 : Nat), .int .u64 (lb x 2 : Nat), .int .u64 (lb x 3 : Nat)]] w fun e w' => e = .returned (.agg #[.int .u64 (lb cube 0 : Nat), .int .u64 (lb cube 1 : Nat), .int .u64 (lb cube 2 : Nat), .int .u64 (lb cube 3 : Nat)]) ∧ Below w.heap.size w w'))
    {t0 t2 t3 t4 t5 t6 t7 t8 t9 t10 t11 t12 t13 t14 t15 t16 t17 t18 t19 t20 t21 t22 t23 t24 t25 t26 t27 t28 t29 t30 t31 t32 t33 t34 t35 t36 t37 t38 t39 t40 t41 : Value} {ds : List Deferred} {K : Act → World → Prop} {Q : Exit → Act → World → Prop}
    (h : ∀ (y0 y1 y2 y3 y4 y5 y6 y7 : Value) (g8 : Nat) (w' : World) (hb : Below w.heap.size w w') (hg8 : w.heap.size ≤ g8) (hk8 : Bk 24 w' g8 #[.int .u64 (lb cube 0 : Nat), .int .u64 (lb cube 1 : Nat), .int .u64 (lb cube 2 : Nat), .int .u64 (lb cube 3 : Nat)]), K { tmps := #[t0, .pointer (some ⟨gp, 0, none⟩), t2, t3, .pointer (some ⟨g8, 0, none⟩), t5, t6, t7, t8, t9, t10, t11, t12, t13, t14, t15, t16, t17, t18, t19, t20, y0, y1, y2, y3, y4, y5, y6, y7, t29, t30, t31, t32, t33, t34, t35, t36, t37, t38, t39, t40, t41], defers := ds } w') :
    (Code.region 6 on6O true).wp Tryz.prog (Exit.then K Q) { tmps := #[t0, .pointer (some ⟨gp, 0, none⟩), t2, t3, t4, t5, t6, t7, t8, t9, t10, t11, t12, t13, t14, t15, t16, t17, t18, t19, t20, t21, t22, t23, t24, t25, t26, t27, t28, t29, t30, t31, t32, t33, t34, t35, t36, t37, t38, t39, t40, t41], defers := ds } w := by
  have hsz : on6O.size = 10 := by kernel_rfl
  refine wp_region_any mixed ?_
  rw [hsz]
  refine wpAny_inv (I := on6I w gp x y sq cube bi t0 t2 t3 t5 t6 t7 t8 t9 t10 t11 t12 t13 t14 t15 t16 t17 t18 t19 t20 t29 t30 t31 t32 t33 t34 t35 t36 t37 t38 t39 t40 t41 ds) (on6_steps gp x y sq cube bi w KP H1 H2) (fun l a w' hI hr => ?_) 10 _ _ _ (by decide) ?_
  · obtain ⟨y0, y1, y2, y3, y4, y5, y6, y7, g8, rfl, hb, l8, b8⟩ := on6_fin gp x y sq cube bi w l a w' hI hr
    exact h _ _ _ _ _ _ _ _ g8 w' hb l8 b8
  · exact ⟨false, false, false, false, false, false, false, false, false, false, t21, t22, t23, t24, t25, t26, t27, t28, t4, 0, rfl, rfl, ⟨rfl, rfl, rfl, Nat.le_refl _, fun _ _ => rfl⟩, (fun h => by cases h), (fun h => by cases h), (fun h => by cases h), (fun h => by cases h), (fun h => by cases h), (fun h => by cases h), (fun h => by cases h), (fun h => by cases h), (fun h => by cases h), (fun h => by cases h)⟩
end Go.Proofs.YtpggkfdijmnmiaaGreat
