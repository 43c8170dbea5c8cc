/- Powers are what multiplying says: the law's walk. No condition but that each number is below 2 to the 256. -/
import Derived.Test.YtglmmodkflkkkaaFt
import Derived.Test.YtglmmodkflkkkaaFs
set_option linter.unusedVariables false
set_option linter.unusedSimpArgs false
set_option maxRecDepth 100000
namespace Go.Proofs.Ytglmmodkflkkkaa.Ref
open Go.RowKit Go.Proofs.Ytglmmodkflkkkaa.Digits Limbs

theorem wpOp_want {P : Program} {ops : Array Oper} {Q : Exit → Act → World → Prop} {i : Nat} {o : Oper} {K : Act → World → Prop} {a : Act} {w : World} (hi : ops[i]? = some o) (hw : Region.wanted o (yielded ops a.tmps) = true) (h : o.wp P a w K Q) : wpOp P ops Q i K a w := by
  unfold wpOp
  simp only [hi]
  rw [if_pos hw]
  exact .inl h
def pw1I (w0 : World) (gA gB ua ub up : Nat) (mm : Int) (t1 t2 t3 : Value) (ds : List Deferred) (l : Array Bool) (a : Act) (w : World) : Prop :=
  ∃ j0 j1 j2 j3 j4 j5 j6 j7 j8 j9 j10 j11 j12 j13 j14 j15 : Bool, ∃ x0 x1 x2 x3 x4 x5 x6 x7 x8 x9 x10 x11 x12 x13 x14 x15 : Value, l = #[j0, j1, j2, j3, j4, j5, j6, j7, j8, j9, j10, j11, j12, j13, j14, j15] ∧ a = { tmps := #[.int .i64 mm, t1, t2, t3, .pointer (some ⟨gA, 0, none⟩), .pointer (some ⟨gB, 0, none⟩), x15, x0, x1, x2, x3, x4, x5, x6, x7, x8, x9, x10, x11, x12, x13, x14], defers := ds } ∧ Below w0.heap.size w0 w ∧
  (j0 = true → x0 = .bool true) ∧ (j1 = true → x1 = .bool true) ∧ (j2 = true → x2 = .int .i64 mm) ∧ (j3 = true → x3 = .agg #[.int .u64 (lb ua 0 : Nat), .int .u64 (lb ua 1 : Nat), .int .u64 (lb ua 2 : Nat), .int .u64 (lb ua 3 : Nat)]) ∧ (j4 = true → x4 = .agg #[.int .u64 (lb ub 0 : Nat), .int .u64 (lb ub 1 : Nat), .int .u64 (lb ub 2 : Nat), .int .u64 (lb ub 3 : Nat)]) ∧ (j5 = true → x5 = .agg #[.int .u64 (lb up 0 : Nat), .int .u64 (lb up 1 : Nat), .int .u64 (lb up 2 : Nat), .int .u64 (lb up 3 : Nat)]) ∧ (j6 = true → NV w x6 up) ∧ (j7 = true → x7 = .int .i64 mm) ∧ (j8 = true → x8 = .agg #[.int .u64 (lb ua 0 : Nat), .int .u64 (lb ua 1 : Nat), .int .u64 (lb ua 2 : Nat), .int .u64 (lb ua 3 : Nat)]) ∧ (j9 = true → NV w x9 ua) ∧ (j10 = true → x10 = .agg #[.int .u64 (lb ub 0 : Nat), .int .u64 (lb ub 1 : Nat), .int .u64 (lb ub 2 : Nat), .int .u64 (lb ub 3 : Nat)]) ∧ (j11 = true → NV w x11 ub) ∧ (j12 = true → NV w x12 up) ∧ (j13 = true → x13 = .bool true) ∧ (j14 = true → x14 = .bool true) ∧ (j15 = true → x15 = .bool true)
noncomputable def pw1O : Array Oper := (Try.f5.body.bind fun c => findR c 1).getD #[]
set_option maxHeartbeats 16000000 in
theorem pw1_steps (gA gB ua ub up : Nat) (mm : Int) (w : World) (KA : Bk 24 w gA #[.int .u64 (lb ua 0 : Nat), .int .u64 (lb ua 1 : Nat), .int .u64 (lb ua 2 : Nat), .int .u64 (lb ua 3 : Nat)]) (KB : Bk 24 w gB #[.int .u64 (lb ub 0 : Nat), .int .u64 (lb ub 1 : Nat), .int .u64 (lb ub 2 : Nat), .int .u64 (lb ub 3 : Nat)]) (H0 : Hid (∀ w, Calls Try.prog 15 #[] w fun e w' => e = .returned (.bool true) ∧ Below w.heap.size w w'))
    (H1 : Hid (∀ w, Calls Try.prog 29 #[.int .i64 mm, .agg #[.int .u64 (lb ua 0 : Nat), .int .u64 (lb ua 1 : Nat), .int .u64 (lb ua 2 : Nat), .int .u64 (lb ua 3 : Nat)], .agg #[.int .u64 (lb ub 0 : Nat), .int .u64 (lb ub 1 : Nat), .int .u64 (lb ub 2 : Nat), .int .u64 (lb ub 3 : Nat)]] w fun e w' => e = .returned (.agg #[.int .u64 (lb up 0 : Nat), .int .u64 (lb up 1 : Nat), .int .u64 (lb up 2 : Nat), .int .u64 (lb up 3 : Nat)]) ∧ Below w.heap.size w w')) (H2 : Hid (∀ w, Calls Try.prog 14 #[.agg #[.int .u64 (lb up 0 : Nat), .int .u64 (lb up 1 : Nat), .int .u64 (lb up 2 : Nat), .int .u64 (lb up 3 : Nat)]] w fun e w' => ∃ v', e = .returned v' ∧ Nr w w' v' up))
    (HA : Hid (∀ w, Calls Try.prog 14 #[.agg #[.int .u64 (lb ua 0 : Nat), .int .u64 (lb ua 1 : Nat), .int .u64 (lb ua 2 : Nat), .int .u64 (lb ua 3 : Nat)]] w fun e w' => ∃ v', e = .returned v' ∧ Nr w w' v' ua)) (HB : Hid (∀ w, Calls Try.prog 14 #[.agg #[.int .u64 (lb ub 0 : Nat), .int .u64 (lb ub 1 : Nat), .int .u64 (lb ub 2 : Nat), .int .u64 (lb ub 3 : Nat)]] w fun e w' => ∃ v', e = .returned v' ∧ Nr w w' v' ub))
    (HP : Hid (∀ v u w, NV w v ua → NV w u ub → Calls Try.prog 30 #[.int .i64 mm, v, u] w fun e w' => ∃ v', e = .returned v' ∧ Nr w w' v' up))
    {t1 t2 t3 : Value} {ds : List Deferred} {Q : Exit → Act → World → Prop} :
    ∀ l a w', pw1I w gA gB ua ub up mm t1 t2 t3 ds l a w' → ∀ i ∈ Region.ready .any pw1O l, wpOp Try.prog pw1O Q i (fun a' w'' => pw1I w gA gB ua ub up mm t1 t2 t3 ds (l.setIfInBounds i true) a' w'') a w' := by
  simp only [pw1O, findR, Try.f5, Option.bind_some, Option.or, Option.getD, Nat.reduceEqDiff, if_true, if_false, reduceIte]
  rintro l a w' ⟨j0, j1, j2, j3, j4, j5, j6, j7, j8, j9, j10, j11, j12, j13, j14, j15, x0, x1, x2, x3, x4, x5, x6, x7, x8, x9, x10, x11, x12, x13, x14, x15, rfl, rfl, hB, h0, h1, h2, h3, h4, h5, h6, h7, h8, h9, h10, h11, h12, h13, h14, h15⟩ i hi
  rw [mem_ready] at hi
  obtain ⟨hu, oo, ho, hd⟩ := hi
  have hin : i < 16 := by
    have := (Array.getElem?_eq_some_iff.1 ho).1
    simpa using this
  replace h0 := Lib.hid h0
  replace h1 := Lib.hid h1
  replace h2 := Lib.hid h2
  replace h3 := Lib.hid h3
  replace h4 := Lib.hid h4
  replace h5 := Lib.hid h5
  replace h6 := Lib.hid h6
  replace h7 := Lib.hid h7
  replace h8 := Lib.hid h8
  replace h9 := Lib.hid h9
  replace h10 := Lib.hid h10
  replace h11 := Lib.hid h11
  replace h12 := Lib.hid h12
  replace h13 := Lib.hid h13
  replace h14 := Lib.hid h14
  replace h15 := Lib.hid h15
  have hcase : i = 0 ∨ i = 1 ∨ i = 2 ∨ i = 3 ∨ i = 4 ∨ i = 5 ∨ i = 6 ∨ i = 7 ∨ i = 8 ∨ i = 9 ∨ i = 10 ∨ i = 11 ∨ i = 12 ∨ i = 13 ∨ i = 14 ∨ i = 15 := by omega
  rcases hcase with rfl | rfl | rfl | rfl | rfl | rfl | rfl | rfl | rfl | rfl | rfl | rfl | rfl | rfl | rfl | rfl
  · obtain rfl := Option.some.inj ho
    simp [Region.binds] at hu hd
    clear hd
    refine wpOp_of rfl rfl ?_
    go_simp
    go_at_call 15
    refine (keep w.heap.size w (H0.out _) hB (Nat.le_refl _)).mono ?_
    rintro e w2 ⟨rfl, hB2, hb2⟩
    unfold pw1I
    exact ⟨true, j1, j2, j3, j4, j5, j6, j7, j8, j9, j10, j11, j12, j13, j14, j15, _, x1, x2, x3, x4, x5, x6, x7, x8, x9, x10, x11, x12, x13, x14, x15, rfl, rfl, hB2, fun _ => rfl, h1.out, h2.out, h3.out, h4.out, h5.out, fun hj => (h6.out hj).below hb2, h7.out, h8.out, fun hj => (h9.out hj).below hb2, h10.out, fun hj => (h11.out hj).below hb2, fun hj => (h12.out hj).below hb2, h13.out, h14.out, h15.out⟩
  · obtain rfl := Option.some.inj ho
    simp [Region.binds] at hu hd
    have d0 : j0 = true := by simp [hd]
    have e0 := h0.out d0
    subst e0
    subst d0
    clear hd
    refine wpOp_of rfl rfl ?_
    go_simp
    unfold pw1I
    exact ⟨true, true, j2, j3, j4, j5, j6, j7, j8, j9, j10, j11, j12, j13, j14, j15, _, _, x2, x3, x4, x5, x6, x7, x8, x9, x10, x11, x12, x13, x14, x15, rfl, rfl, hB, h0.out, fun _ => rfl, h2.out, h3.out, h4.out, h5.out, h6.out, h7.out, h8.out, h9.out, h10.out, h11.out, h12.out, h13.out, h14.out, h15.out⟩
  · obtain rfl := Option.some.inj ho
    simp [Region.binds] at hu hd
    have d1 : j1 = true := by simp [hd]
    have e1 := h1.out d1
    subst e1
    subst d1
    clear hd
    refine wpOp_want rfl rfl ?_
    go_simp
    unfold pw1I
    exact ⟨j0, true, true, j3, j4, j5, j6, j7, j8, j9, j10, j11, j12, j13, j14, j15, x0, _, _, x3, x4, x5, x6, x7, x8, x9, x10, x11, x12, x13, x14, x15, rfl, rfl, hB, h0.out, h1.out, fun _ => rfl, h3.out, h4.out, h5.out, h6.out, h7.out, h8.out, h9.out, h10.out, h11.out, h12.out, h13.out, h14.out, h15.out⟩
  · obtain rfl := Option.some.inj ho
    simp [Region.binds] at hu hd
    have d1 : j1 = true := by simp [hd]
    have e1 := h1.out d1
    subst e1
    subst d1
    clear hd
    refine wpOp_want rfl rfl ?_
    have i0 : w'.cell? ⟨gA, 0, none⟩ = some (.int .u64 (lb ua 0 : Nat)) := (KA.below hB).cell 0
    have i1 : w'.cell? ⟨gA, 1, none⟩ = some (.int .u64 (lb ua 1 : Nat)) := (KA.below hB).cell 1
    have i2 : w'.cell? ⟨gA, 2, none⟩ = some (.int .u64 (lb ua 2 : Nat)) := (KA.below hB).cell 2
    have i3 : w'.cell? ⟨gA, 3, none⟩ = some (.int .u64 (lb ua 3 : Nat)) := (KA.below hB).cell 3
    go_simp
    unfold pw1I
    exact ⟨j0, true, j2, true, j4, j5, j6, j7, j8, j9, j10, j11, j12, j13, j14, j15, x0, _, x2, _, x4, x5, x6, x7, x8, x9, x10, x11, x12, x13, x14, x15, rfl, rfl, hB, h0.out, h1.out, h2.out, fun _ => rfl, h4.out, h5.out, h6.out, h7.out, h8.out, h9.out, h10.out, h11.out, h12.out, h13.out, h14.out, h15.out⟩
  · obtain rfl := Option.some.inj ho
    simp [Region.binds] at hu hd
    have d1 : j1 = true := by simp [hd]
    have e1 := h1.out d1
    subst e1
    subst d1
    clear hd
    refine wpOp_want rfl rfl ?_
    have i0 : w'.cell? ⟨gB, 0, none⟩ = some (.int .u64 (lb ub 0 : Nat)) := (KB.below hB).cell 0
    have i1 : w'.cell? ⟨gB, 1, none⟩ = some (.int .u64 (lb ub 1 : Nat)) := (KB.below hB).cell 1
    have i2 : w'.cell? ⟨gB, 2, none⟩ = some (.int .u64 (lb ub 2 : Nat)) := (KB.below hB).cell 2
    have i3 : w'.cell? ⟨gB, 3, none⟩ = some (.int .u64 (lb ub 3 : Nat)) := (KB.below hB).cell 3
    go_simp
    unfold pw1I
    exact ⟨j0, true, j2, j3, true, j5, j6, j7, j8, j9, j10, j11, j12, j13, j14, j15, x0, _, x2, x3, _, x5, x6, x7, x8, x9, x10, x11, x12, x13, x14, x15, rfl, rfl, hB, h0.out, h1.out, h2.out, h3.out, fun _ => rfl, h5.out, h6.out, h7.out, h8.out, h9.out, h10.out, h11.out, h12.out, h13.out, h14.out, h15.out⟩
  · obtain rfl := Option.some.inj ho
    simp [Region.binds] at hu hd
    have d1 : j1 = true := by simp [hd]
    have e1 := h1.out d1
    subst e1
    have d2 : j2 = true := by simp [hd]
    have e2 := h2.out d2
    subst e2
    have d3 : j3 = true := by simp [hd]
    have e3 := h3.out d3
    subst e3
    have d4 : j4 = true := by simp [hd]
    have e4 := h4.out d4
    subst e4
    subst d1
    subst d2
    subst d3
    subst d4
    clear hd
    refine wpOp_want rfl rfl ?_
    go_simp
    go_at_call 29
    refine (keep w.heap.size w (H1.out _) hB (Nat.le_refl _)).mono ?_
    rintro e w2 ⟨rfl, hB2, hb2⟩
    unfold pw1I
    exact ⟨j0, true, true, true, true, true, j6, j7, j8, j9, j10, j11, j12, j13, j14, j15, x0, _, _, _, _, _, x6, x7, x8, x9, x10, x11, x12, x13, x14, x15, rfl, rfl, hB2, h0.out, h1.out, h2.out, h3.out, h4.out, fun _ => rfl, fun hj => (h6.out hj).below hb2, h7.out, h8.out, fun hj => (h9.out hj).below hb2, h10.out, fun hj => (h11.out hj).below hb2, fun hj => (h12.out hj).below hb2, h13.out, h14.out, h15.out⟩
  · obtain rfl := Option.some.inj ho
    simp [Region.binds] at hu hd
    have d1 : j1 = true := by simp [hd]
    have e1 := h1.out d1
    subst e1
    have d5 : j5 = true := by simp [hd]
    have e5 := h5.out d5
    subst e5
    subst d1
    subst d5
    clear hd
    refine wpOp_want rfl rfl ?_
    go_simp
    go_at_call 14
    refine (nk w.heap.size w (H2.out _) hB (Nat.le_refl _)).mono ?_
    rintro e w2 ⟨v', rfl, hn', hB2, hb2⟩
    unfold pw1I
    exact ⟨j0, true, j2, j3, j4, true, true, j7, j8, j9, j10, j11, j12, j13, j14, j15, x0, _, x2, x3, x4, _, _, x7, x8, x9, x10, x11, x12, x13, x14, x15, rfl, rfl, hB2, h0.out, h1.out, h2.out, h3.out, h4.out, h5.out, fun _ => hn', h7.out, h8.out, fun hj => (h9.out hj).below hb2, h10.out, fun hj => (h11.out hj).below hb2, fun hj => (h12.out hj).below hb2, h13.out, h14.out, h15.out⟩
  · obtain rfl := Option.some.inj ho
    simp [Region.binds] at hu hd
    have d1 : j1 = true := by simp [hd]
    have e1 := h1.out d1
    subst e1
    subst d1
    clear hd
    refine wpOp_want rfl rfl ?_
    go_simp
    unfold pw1I
    exact ⟨j0, true, j2, j3, j4, j5, j6, true, j8, j9, j10, j11, j12, j13, j14, j15, x0, _, x2, x3, x4, x5, x6, _, x8, x9, x10, x11, x12, x13, x14, x15, rfl, rfl, hB, h0.out, h1.out, h2.out, h3.out, h4.out, h5.out, h6.out, fun _ => rfl, h8.out, h9.out, h10.out, h11.out, h12.out, h13.out, h14.out, h15.out⟩
  · obtain rfl := Option.some.inj ho
    simp [Region.binds] at hu hd
    have d1 : j1 = true := by simp [hd]
    have e1 := h1.out d1
    subst e1
    subst d1
    clear hd
    refine wpOp_want rfl rfl ?_
    have i0 : w'.cell? ⟨gA, 0, none⟩ = some (.int .u64 (lb ua 0 : Nat)) := (KA.below hB).cell 0
    have i1 : w'.cell? ⟨gA, 1, none⟩ = some (.int .u64 (lb ua 1 : Nat)) := (KA.below hB).cell 1
    have i2 : w'.cell? ⟨gA, 2, none⟩ = some (.int .u64 (lb ua 2 : Nat)) := (KA.below hB).cell 2
    have i3 : w'.cell? ⟨gA, 3, none⟩ = some (.int .u64 (lb ua 3 : Nat)) := (KA.below hB).cell 3
    go_simp
    unfold pw1I
    exact ⟨j0, true, j2, j3, j4, j5, j6, j7, true, j9, j10, j11, j12, j13, j14, j15, x0, _, x2, x3, x4, x5, x6, x7, _, x9, x10, x11, x12, x13, x14, x15, rfl, rfl, hB, h0.out, h1.out, h2.out, h3.out, h4.out, h5.out, h6.out, h7.out, fun _ => rfl, h9.out, h10.out, h11.out, h12.out, h13.out, h14.out, h15.out⟩
  · obtain rfl := Option.some.inj ho
    simp [Region.binds] at hu hd
    have d1 : j1 = true := by simp [hd]
    have e1 := h1.out d1
    subst e1
    have d8 : j8 = true := by simp [hd]
    have e8 := h8.out d8
    subst e8
    subst d1
    subst d8
    clear hd
    refine wpOp_want rfl rfl ?_
    go_simp
    go_at_call 14
    refine (nk w.heap.size w (HA.out _) hB (Nat.le_refl _)).mono ?_
    rintro e w2 ⟨v', rfl, hn', hB2, hb2⟩
    unfold pw1I
    exact ⟨j0, true, j2, j3, j4, j5, j6, j7, true, true, j10, j11, j12, j13, j14, j15, x0, _, x2, x3, x4, x5, x6, x7, _, _, x10, x11, x12, x13, x14, x15, rfl, rfl, hB2, h0.out, h1.out, h2.out, h3.out, h4.out, h5.out, fun hj => (h6.out hj).below hb2, h7.out, h8.out, fun _ => hn', h10.out, fun hj => (h11.out hj).below hb2, fun hj => (h12.out hj).below hb2, h13.out, h14.out, h15.out⟩
  · obtain rfl := Option.some.inj ho
    simp [Region.binds] at hu hd
    have d1 : j1 = true := by simp [hd]
    have e1 := h1.out d1
    subst e1
    subst d1
    clear hd
    refine wpOp_want rfl rfl ?_
    have i0 : w'.cell? ⟨gB, 0, none⟩ = some (.int .u64 (lb ub 0 : Nat)) := (KB.below hB).cell 0
    have i1 : w'.cell? ⟨gB, 1, none⟩ = some (.int .u64 (lb ub 1 : Nat)) := (KB.below hB).cell 1
    have i2 : w'.cell? ⟨gB, 2, none⟩ = some (.int .u64 (lb ub 2 : Nat)) := (KB.below hB).cell 2
    have i3 : w'.cell? ⟨gB, 3, none⟩ = some (.int .u64 (lb ub 3 : Nat)) := (KB.below hB).cell 3
    go_simp
    unfold pw1I
    exact ⟨j0, true, j2, j3, j4, j5, j6, j7, j8, j9, true, j11, j12, j13, j14, j15, x0, _, x2, x3, x4, x5, x6, x7, x8, x9, _, x11, x12, x13, x14, x15, rfl, rfl, hB, h0.out, h1.out, h2.out, h3.out, h4.out, h5.out, h6.out, h7.out, h8.out, h9.out, fun _ => rfl, h11.out, h12.out, h13.out, h14.out, h15.out⟩
  · obtain rfl := Option.some.inj ho
    simp [Region.binds] at hu hd
    have d1 : j1 = true := by simp [hd]
    have e1 := h1.out d1
    subst e1
    have d10 : j10 = true := by simp [hd]
    have e10 := h10.out d10
    subst e10
    subst d1
    subst d10
    clear hd
    refine wpOp_want rfl rfl ?_
    go_simp
    go_at_call 14
    refine (nk w.heap.size w (HB.out _) hB (Nat.le_refl _)).mono ?_
    rintro e w2 ⟨v', rfl, hn', hB2, hb2⟩
    unfold pw1I
    exact ⟨j0, true, j2, j3, j4, j5, j6, j7, j8, j9, true, true, j12, j13, j14, j15, x0, _, x2, x3, x4, x5, x6, x7, x8, x9, _, _, x12, x13, x14, x15, rfl, rfl, hB2, h0.out, h1.out, h2.out, h3.out, h4.out, h5.out, fun hj => (h6.out hj).below hb2, h7.out, h8.out, fun hj => (h9.out hj).below hb2, h10.out, fun _ => hn', fun hj => (h12.out hj).below hb2, h13.out, h14.out, h15.out⟩
  · obtain rfl := Option.some.inj ho
    simp [Region.binds] at hu hd
    have d1 : j1 = true := by simp [hd]
    have e1 := h1.out d1
    subst e1
    have d7 : j7 = true := by simp [hd]
    have e7 := h7.out d7
    subst e7
    have d9 : j9 = true := by simp [hd]
    have d11 : j11 = true := by simp [hd]
    subst d1
    subst d7
    subst d9
    subst d11
    clear hd
    refine wpOp_want rfl rfl ?_
    go_simp
    go_at_call 30
    refine (nk w.heap.size w (HP.out _ _ _ (h9.out rfl) (h11.out rfl)) hB (Nat.le_refl _)).mono ?_
    rintro e w2 ⟨v', rfl, hn', hB2, hb2⟩
    unfold pw1I
    exact ⟨j0, true, j2, j3, j4, j5, j6, true, j8, true, j10, true, true, j13, j14, j15, x0, _, x2, x3, x4, x5, x6, _, x8, _, x10, _, _, x13, x14, x15, rfl, rfl, hB2, h0.out, h1.out, h2.out, h3.out, h4.out, h5.out, fun hj => (h6.out hj).below hb2, h7.out, h8.out, fun hj => (h9.out hj).below hb2, h10.out, fun hj => (h11.out hj).below hb2, fun _ => hn', h13.out, h14.out, h15.out⟩
  · obtain rfl := Option.some.inj ho
    simp [Region.binds] at hu hd
    have d1 : j1 = true := by simp [hd]
    have e1 := h1.out d1
    subst e1
    have d6 : j6 = true := by simp [hd]
    have d12 : j12 = true := by simp [hd]
    subst d1
    subst d6
    subst d12
    clear hd
    refine wpOp_want rfl rfl ?_
    go_simp
    go_at_call 17
    refine (keep w.heap.size w (is_same _ _ _ up up rfl (h6.out rfl) (h12.out rfl)) hB (Nat.le_refl _)).mono ?_
    rintro e w2 ⟨rfl, hB2, hb2⟩
    unfold pw1I
    exact ⟨j0, true, j2, j3, j4, j5, true, j7, j8, j9, j10, j11, true, true, j14, j15, x0, _, x2, x3, x4, x5, _, x7, x8, x9, x10, x11, _, _, x14, x15, rfl, rfl, hB2, h0.out, h1.out, h2.out, h3.out, h4.out, h5.out, fun hj => (h6.out hj).below hb2, h7.out, h8.out, fun hj => (h9.out hj).below hb2, h10.out, fun hj => (h11.out hj).below hb2, fun hj => (h12.out hj).below hb2, fun _ => rfl, h14.out, h15.out⟩
  · obtain rfl := Option.some.inj ho
    simp [Region.binds] at hu hd
    have d1 : j1 = true := by simp [hd]
    have e1 := h1.out d1
    subst e1
    have d13 : j13 = true := by simp [hd]
    have e13 := h13.out d13
    subst e13
    subst d1
    subst d13
    clear hd
    refine wpOp_of rfl rfl ?_
    go_simp
    unfold pw1I
    exact ⟨j0, true, j2, j3, j4, j5, j6, j7, j8, j9, j10, j11, j12, true, true, j15, x0, _, x2, x3, x4, x5, x6, x7, x8, x9, x10, x11, x12, _, _, x15, rfl, rfl, hB, h0.out, h1.out, h2.out, h3.out, h4.out, h5.out, h6.out, h7.out, h8.out, h9.out, h10.out, h11.out, h12.out, h13.out, fun _ => rfl, h15.out⟩
  · obtain rfl := Option.some.inj ho
    simp [Region.binds] at hu hd
    have d14 : j14 = true := by simp [hd]
    have e14 := h14.out d14
    subst e14
    subst d14
    clear hd
    refine wpOp_of rfl rfl ?_
    go_simp
    unfold pw1I
    exact ⟨j0, j1, j2, j3, j4, j5, j6, j7, j8, j9, j10, j11, j12, j13, true, true, x0, x1, x2, x3, x4, x5, x6, x7, x8, x9, x10, x11, x12, x13, _, _, rfl, rfl, hB, h0.out, h1.out, h2.out, h3.out, h4.out, h5.out, h6.out, h7.out, h8.out, h9.out, h10.out, h11.out, h12.out, h13.out, h14.out, fun _ => rfl⟩
set_option maxHeartbeats 16000000 in
theorem pw1_fin (gA gB ua ub up : Nat) (mm : Int) (w : World) {t1 t2 t3 : Value} {ds : List Deferred} : ∀ l a w', pw1I w gA gB ua ub up mm t1 t2 t3 ds l a w' → Region.ready .any pw1O l = [] →
    ∃ (y0 y1 y2 y3 y4 y5 y6 y7 y8 y9 y10 y11 y12 y13 y14 : Value), a = { tmps := #[.int .i64 mm, t1, t2, t3, .pointer (some ⟨gA, 0, none⟩), .pointer (some ⟨gB, 0, none⟩), .bool true, y0, y1, y2, y3, y4, y5, y6, y7, y8, y9, y10, y11, y12, y13, y14], defers := ds } ∧ Below w.heap.size w w' := by
  simp only [pw1O, findR, Try.f5, Option.bind_some, Option.or, Option.getD, Nat.reduceEqDiff, if_true, if_false, reduceIte]
  rintro l a w' ⟨j0, j1, j2, j3, j4, j5, j6, j7, j8, j9, j10, j11, j12, j13, j14, j15, x0, x1, x2, x3, x4, x5, x6, x7, x8, x9, x10, x11, x12, x13, x14, x15, rfl, rfl, hB, h0, h1, h2, h3, h4, h5, h6, h7, h8, h9, h10, h11, h12, h13, h14, h15⟩ hr
  have hn := fun i => List.eq_nil_iff_forall_not_mem.1 hr i
  clear hr
  have d0 : j0 = true := by
    cases hj : j0
    · exact absurd (mem_ready.2 ⟨by simp [hj], _, rfl, by simp [Region.binds, hj]⟩) (hn 0)
    · rfl
  subst d0
  have d1 : j1 = true := by
    cases hj : j1
    · exact absurd (mem_ready.2 ⟨by simp [hj], _, rfl, by simp [Region.binds, hj]⟩) (hn 1)
    · rfl
  subst d1
  have d2 : j2 = true := by
    cases hj : j2
    · exact absurd (mem_ready.2 ⟨by simp [hj], _, rfl, by simp [Region.binds, hj]⟩) (hn 2)
    · rfl
  subst d2
  have d3 : j3 = true := by
    cases hj : j3
    · exact absurd (mem_ready.2 ⟨by simp [hj], _, rfl, by simp [Region.binds, hj]⟩) (hn 3)
    · rfl
  subst d3
  have d4 : j4 = true := by
    cases hj : j4
    · exact absurd (mem_ready.2 ⟨by simp [hj], _, rfl, by simp [Region.binds, hj]⟩) (hn 4)
    · rfl
  subst d4
  have d5 : j5 = true := by
    cases hj : j5
    · exact absurd (mem_ready.2 ⟨by simp [hj], _, rfl, by simp [Region.binds, hj]⟩) (hn 5)
    · rfl
  subst d5
  have d6 : j6 = true := by
    cases hj : j6
    · exact absurd (mem_ready.2 ⟨by simp [hj], _, rfl, by simp [Region.binds, hj]⟩) (hn 6)
    · rfl
  subst d6
  have d7 : j7 = true := by
    cases hj : j7
    · exact absurd (mem_ready.2 ⟨by simp [hj], _, rfl, by simp [Region.binds, hj]⟩) (hn 7)
    · rfl
  subst d7
  have d8 : j8 = true := by
    cases hj : j8
    · exact absurd (mem_ready.2 ⟨by simp [hj], _, rfl, by simp [Region.binds, hj]⟩) (hn 8)
    · rfl
  subst d8
  have d9 : j9 = true := by
    cases hj : j9
    · exact absurd (mem_ready.2 ⟨by simp [hj], _, rfl, by simp [Region.binds, hj]⟩) (hn 9)
    · rfl
  subst d9
  have d10 : j10 = true := by
    cases hj : j10
    · exact absurd (mem_ready.2 ⟨by simp [hj], _, rfl, by simp [Region.binds, hj]⟩) (hn 10)
    · rfl
  subst d10
  have d11 : j11 = true := by
    cases hj : j11
    · exact absurd (mem_ready.2 ⟨by simp [hj], _, rfl, by simp [Region.binds, hj]⟩) (hn 11)
    · rfl
  subst d11
  have d12 : j12 = true := by
    cases hj : j12
    · exact absurd (mem_ready.2 ⟨by simp [hj], _, rfl, by simp [Region.binds, hj]⟩) (hn 12)
    · rfl
  subst d12
  have d13 : j13 = true := by
    cases hj : j13
    · exact absurd (mem_ready.2 ⟨by simp [hj], _, rfl, by simp [Region.binds, hj]⟩) (hn 13)
    · rfl
  subst d13
  have d14 : j14 = true := by
    cases hj : j14
    · exact absurd (mem_ready.2 ⟨by simp [hj], _, rfl, by simp [Region.binds, hj]⟩) (hn 14)
    · rfl
  subst d14
  have d15 : j15 = true := by
    cases hj : j15
    · exact absurd (mem_ready.2 ⟨by simp [hj], _, rfl, by simp [Region.binds, hj]⟩) (hn 15)
    · rfl
  subst d15
  obtain rfl := h15 rfl
  exact ⟨_, _, _, _, _, _, _, _, _, _, _, _, _, _, _, rfl, hB⟩
theorem pw1 (gA gB ua ub up : Nat) (mm : Int) (w : World) (KA : Bk 24 w gA #[.int .u64 (lb ua 0 : Nat), .int .u64 (lb ua 1 : Nat), .int .u64 (lb ua 2 : Nat), .int .u64 (lb ua 3 : Nat)]) (KB : Bk 24 w gB #[.int .u64 (lb ub 0 : Nat), .int .u64 (lb ub 1 : Nat), .int .u64 (lb ub 2 : Nat), .int .u64 (lb ub 3 : Nat)]) (H0 : Hid (∀ w, Calls Try.prog 15 #[] w fun e w' => e = .returned (.bool true) ∧ Below w.heap.size w w'))
    (H1 : Hid (∀ w, Calls Try.prog 29 #[.int .i64 mm, .agg #[.int .u64 (lb ua 0 : Nat), .int .u64 (lb ua 1 : Nat), .int .u64 (lb ua 2 : Nat), .int .u64 (lb ua 3 : Nat)], .agg #[.int .u64 (lb ub 0 : Nat), .int .u64 (lb ub 1 : Nat), .int .u64 (lb ub 2 : Nat), .int .u64 (lb ub 3 : Nat)]] w fun e w' => e = .returned (.agg #[.int .u64 (lb up 0 : Nat), .int .u64 (lb up 1 : Nat), .int .u64 (lb up 2 : Nat), .int .u64 (lb up 3 : Nat)]) ∧ Below w.heap.size w w')) (H2 : Hid (∀ w, Calls Try.prog 14 #[.agg #[.int .u64 (lb up 0 : Nat), .int .u64 (lb up 1 : Nat), .int .u64 (lb up 2 : Nat), .int .u64 (lb up 3 : Nat)]] w fun e w' => ∃ v', e = .returned v' ∧ Nr w w' v' up))
    (HA : Hid (∀ w, Calls Try.prog 14 #[.agg #[.int .u64 (lb ua 0 : Nat), .int .u64 (lb ua 1 : Nat), .int .u64 (lb ua 2 : Nat), .int .u64 (lb ua 3 : Nat)]] w fun e w' => ∃ v', e = .returned v' ∧ Nr w w' v' ua)) (HB : Hid (∀ w, Calls Try.prog 14 #[.agg #[.int .u64 (lb ub 0 : Nat), .int .u64 (lb ub 1 : Nat), .int .u64 (lb ub 2 : Nat), .int .u64 (lb ub 3 : Nat)]] w fun e w' => ∃ v', e = .returned v' ∧ Nr w w' v' ub))
    (HP : Hid (∀ v u w, NV w v ua → NV w u ub → Calls Try.prog 30 #[.int .i64 mm, v, u] w fun e w' => ∃ v', e = .returned v' ∧ Nr w w' v' up)) {t1 t2 t3 t6 t7 t8 t9 t10 t11 t12 t13 t14 t15 t16 t17 t18 t19 t20 t21 : Value} {ds : List Deferred} {K : Act → World → Prop} {Q : Exit → Act → World → Prop}
    (h : ∀ (y0 y1 y2 y3 y4 y5 y6 y7 y8 y9 y10 y11 y12 y13 y14 : Value) (w' : World) (hb : Below w.heap.size w w'), K { tmps := #[.int .i64 mm, t1, t2, t3, .pointer (some ⟨gA, 0, none⟩), .pointer (some ⟨gB, 0, none⟩), .bool true, y0, y1, y2, y3, y4, y5, y6, y7, y8, y9, y10, y11, y12, y13, y14], defers := ds } w') :
    (Code.region 1 pw1O true).wp Try.prog (Exit.then K Q) { tmps := #[.int .i64 mm, t1, t2, t3, .pointer (some ⟨gA, 0, none⟩), .pointer (some ⟨gB, 0, none⟩), t6, t7, t8, t9, t10, t11, t12, t13, t14, t15, t16, t17, t18, t19, t20, t21], defers := ds } w := by
  have hsz : pw1O.size = 16 := by kernel_rfl
  refine wp_region_any (show Try.prog.follows .mixedOrders = true from by kernel_rfl) ?_
  rw [hsz]
  refine wpAny_inv (I := pw1I w gA gB ua ub up mm t1 t2 t3 ds) (pw1_steps gA gB ua ub up mm w KA KB H0 H1 H2 HA HB HP) (fun l a w' hI hr => ?_) 16 _ _ _ (by decide) ?_
  · obtain ⟨y0, y1, y2, y3, y4, y5, y6, y7, y8, y9, y10, y11, y12, y13, y14, rfl, hb⟩ := pw1_fin gA gB ua ub up mm w l a w' hI hr
    exact h _ _ _ _ _ _ _ _ _ _ _ _ _ _ _ w' hb
  · exact ⟨false, false, false, false, false, false, false, false, false, false, false, false, false, false, false, false, t7, t8, t9, t10, t11, t12, t13, t14, t15, t16, t17, t18, t19, t20, t21, t6, rfl, rfl, ⟨rfl, rfl, rfl, Nat.le_refl _, fun _ _ => rfl⟩, (fun h => by cases h), (fun h => by cases h), (fun h => by cases h), (fun h => by cases h), (fun h => by cases h), (fun h => by cases h), (fun h => by cases h), (fun h => by cases h), (fun h => by cases h), (fun h => by cases h), (fun h => by cases h), (fun h => by cases h), (fun h => by cases h), (fun h => by cases h), (fun h => by cases h), (fun h => by cases h)⟩
set_option maxHeartbeats 16000000 in
theorem powers_walk (m : Int) (ua ub : Nat) (ha : ua < W256) (hb : ub < W256) (w : World) :
    Calls Try.prog 5 #[.int .i64 m, nv ua, nv ub] w fun r w' => r = .returned (.bool true) ∧ Below w.heap.size w w' := by
  have hMW : md m < W256 := (md_lt (md_or m)).1
  have hl : ua ^ ub % md m < W256 := Nat.lt_trans (Nat.mod_lt _ (md_pos m)) hMW
  have H0 := Lib.hid awake_any
  have H1 := Lib.hid (Go.Proofs.Ytglmmodkflkkkaa.pow_any m ua ub ha hb)
  have H2 := Lib.hid (in_any (ua ^ ub % md m) hl)
  have HIA := Lib.hid (in_any ua ha)
  have HIB := Lib.hid (in_any ub hb)
  have HPW := Lib.hid (fun v u w h k => power_nv m v u w ua ub (w_big ha) (w_big hb) h k)
  clear ha hb hMW hl
  generalize ua ^ ub % md m = up at *
  simp only [nv, num] at H1 H2 HIA HIB ⊢
  go_enter Try.func5, Try.ntmps5
  go_wp2_with fail
  have KA : Hid (Bk 24 ((w.alloc (.cells #[.int .u64 (lb ua 0 : Nat), .int .u64 (lb ua 1 : Nat), .int .u64 (lb ua 2 : Nat), .int .u64 (lb ua 3 : Nat)] 24)).alloc (.cells #[.int .u64 (lb ub 0 : Nat), .int .u64 (lb ub 1 : Nat), .int .u64 (lb ub 2 : Nat), .int .u64 (lb ub 3 : Nat)] 24)) w.heap.size #[.int .u64 (lb ua 0 : Nat), .int .u64 (lb ua 1 : Nat), .int .u64 (lb ua 2 : Nat), .int .u64 (lb ua 3 : Nat)]) := Lib.hid (Bk.alloc (Bk.new rfl))
  have KB : Hid (Bk 24 ((w.alloc (.cells #[.int .u64 (lb ua 0 : Nat), .int .u64 (lb ua 1 : Nat), .int .u64 (lb ua 2 : Nat), .int .u64 (lb ua 3 : Nat)] 24)).alloc (.cells #[.int .u64 (lb ub 0 : Nat), .int .u64 (lb ub 1 : Nat), .int .u64 (lb ub 2 : Nat), .int .u64 (lb ub 3 : Nat)] 24)) (w.heap.size + 1) #[.int .u64 (lb ub 0 : Nat), .int .u64 (lb ub 1 : Nat), .int .u64 (lb ub 2 : Nat), .int .u64 (lb ub 3 : Nat)]) := Lib.hid (Bk.new (by simp))
  have HB : Hid (Below w.heap.size w ((w.alloc (.cells #[.int .u64 (lb ua 0 : Nat), .int .u64 (lb ua 1 : Nat), .int .u64 (lb ua 2 : Nat), .int .u64 (lb ua 3 : Nat)] 24)).alloc (.cells #[.int .u64 (lb ub 0 : Nat), .int .u64 (lb ub 1 : Nat), .int .u64 (lb ub 2 : Nat), .int .u64 (lb ub 3 : Nat)] 24))) := Lib.hid (by go_grown)
  generalize ((w.alloc (.cells #[.int .u64 (lb ua 0 : Nat), .int .u64 (lb ua 1 : Nat), .int .u64 (lb ua 2 : Nat), .int .u64 (lb ua 3 : Nat)] 24)).alloc (.cells #[.int .u64 (lb ub 0 : Nat), .int .u64 (lb ub 1 : Nat), .int .u64 (lb ub 2 : Nat), .int .u64 (lb ub 3 : Nat)] 24)) = w0 at KA KB HB ⊢
  refine pw1 w.heap.size (w.heap.size + 1) ua ub up m w0 KA.out KB.out H0 H1 H2 HIA HIB HPW ?_
  intro _ _ _ _ _ _ _ _ _ _ _ _ _ _ _ w1 hkk
  have HB1 := Lib.hid (HB.out.trans (hkk.mono HB.out.size))
  clear hkk
  go_wp2_with fail
  go_ret
  exact ⟨rfl, HB1.out⟩
end Go.Proofs.Ytglmmodkflkkkaa.Ref
