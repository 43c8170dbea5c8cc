/- A drawn region of WalOpens: both disks are armed. No condition. -/
import Derived.Test.YtmoihgniglomiaaDoorZXc
set_option linter.unusedVariables false
set_option linter.unusedSimpArgs false
set_option maxRecDepth 100000
namespace Go.Proofs.YtmoihgniglomiaaDoor
open Go.RowKit Go.Sort
theorem wpOp_ofw {P : Program} {ops : Array Oper} {Q : Exit → Act → World → Prop} {i : Nat} {o : Oper} {K : Act → World → Prop} {a : Act} {w : World} (hi : ops[i]? = some o) (hg : Region.wanted o (yielded ops a.tmps) = true) (h : o.wp P a w K Q) : wpOp P ops Q i K a w := by
  unfold wpOp
  simp only [hi]
  rw [if_pos hg]
  exact .inl h
noncomputable def rO1O : Array Oper := (Tryd.f5.body.bind fun c => findR c 9).getD #[]
def rO1I (PW : Bool → Bool → World → Prop) (d r q n1 n2 : Nat) (na nb cd : Int) (t0 t1 t2 t4 t6 t8 t10 t12 t13 t14 t15 t16 t17 t18 t19 t20 t21 t22 t23 t24 t25 t26 t27 t28 t29 t30 t31 t32 t33 t34 t35 t36 t37 t38 t39 t40 t41 t42 t43 t44 t45 t46 t47 t48 t49 t50 t51 t72 t73 t74 t75 t76 t77 t78 t79 t80 t81 t82 t83 t84 t85 t86 t87 t88 t89 t90 t91 t92 t93 t94 t95 t96 t97 t98 t99 t100 t101 t102 t103 t104 t105 t106 : Value) (ds : List Deferred) (l : Array Bool) (a : Act) (w : World) : Prop :=
  ∃ j0 j1 j2 j3 j4 j5 j6 j7 j8 j9 j10 j11 j12 j13 j14 j15 j16 j17 j18 j19 : Bool, ∃ x0 x1 x2 x3 x4 x5 x6 x7 x8 x9 x10 x11 x12 x13 x14 x15 x16 x17 x18 x19 : Value, l = #[j0, j1, j2, j3, j4, j5, j6, j7, j8, j9, j10, j11, j12, j13, j14, j15, j16, j17, j18, j19] ∧ a = { tmps := #[t0, t1, t2, .pointer (some ⟨q, 0, none⟩), t4, .pointer (some ⟨d, 0, none⟩), t6, .pointer (some ⟨r, 0, none⟩), t8, .pointer (some ⟨n1, 0, none⟩), t10, .pointer (some ⟨n2, 0, none⟩), t12, t13, t14, t15, t16, t17, t18, t19, t20, t21, t22, t23, t24, t25, t26, t27, t28, t29, t30, t31, t32, t33, t34, t35, t36, t37, t38, t39, t40, t41, t42, t43, t44, t45, t46, t47, t48, t49, t50, t51, x0, x1, x2, x3, x4, x5, x6, x7, x8, x9, x10, x11, x12, x13, x14, x15, x16, x17, x18, x19, t72, t73, t74, t75, t76, t77, t78, t79, t80, t81, t82, t83, t84, t85, t86, t87, t88, t89, t90, t91, t92, t93, t94, t95, t96, t97, t98, t99, t100, t101, t102, t103, t104, t105, t106], defers := ds } ∧ PW j11 j17 w ∧
  (j0 = true → x0 = .pointer (some ⟨n1, 0, none⟩)) ∧ (j1 = true → x1 = .bool false) ∧ (j2 = true → x2 = .pointer (some ⟨n2, 0, none⟩)) ∧ (j3 = true → x3 = .bool false) ∧ (j4 = true → x4 = .bool false) ∧ (j5 = true → x5 = .bool false) ∧ (j6 = true → x6 = .pointer (some ⟨d, 0, none⟩)) ∧ (j7 = true → x7 = .pointer (some ⟨q, 2, none⟩)) ∧ (j8 = true → x8 = .int .i64 na) ∧ (j9 = true → x9 = .pointer (some ⟨q, 3, none⟩)) ∧ (j10 = true → x10 = .int .i64 nb) ∧ (j11 = true → x11 = .int .i64 cd) ∧ (j12 = true → x12 = .pointer (some ⟨r, 0, none⟩)) ∧ (j13 = true → x13 = .pointer (some ⟨q, 2, none⟩)) ∧ (j14 = true → x14 = .int .i64 na) ∧ (j15 = true → x15 = .pointer (some ⟨q, 3, none⟩)) ∧ (j16 = true → x16 = .int .i64 nb) ∧ (j17 = true → x17 = .int .i64 cd) ∧ (j18 = true → x18 = .bool false) ∧ (j19 = true → x19 = .bool false) ∧
  (j1 = true → j0 = true) ∧ (j3 = true → j2 = true) ∧ (j4 = true → j1 = true ∧ j3 = true) ∧ (j5 = true → j4 = true) ∧ (j6 = true → j5 = true) ∧ (j7 = true → j5 = true) ∧ (j8 = true → j5 = true ∧ j7 = true) ∧ (j9 = true → j5 = true) ∧ (j10 = true → j5 = true ∧ j9 = true) ∧ (j11 = true → j5 = true ∧ j6 = true ∧ j8 = true ∧ j10 = true) ∧ (j12 = true → j5 = true) ∧ (j13 = true → j5 = true) ∧ (j14 = true → j5 = true ∧ j13 = true) ∧ (j15 = true → j5 = true) ∧ (j16 = true → j5 = true ∧ j15 = true) ∧ (j17 = true → j5 = true ∧ j11 = true ∧ j12 = true ∧ j14 = true ∧ j16 = true) ∧ (j18 = true → j5 = true ∧ j11 = true ∧ j17 = true) ∧ (j19 = true → j5 = true ∧ j18 = true)
set_option maxHeartbeats 16000000 in
theorem rO1_none (PW : Bool → Bool → World → Prop) (d r q n1 n2 : Nat) (na nb cd : Int) {t0 t1 t2 t4 t6 t8 t10 t12 t13 t14 t15 t16 t17 t18 t19 t20 t21 t22 t23 t24 t25 t26 t27 t28 t29 t30 t31 t32 t33 t34 t35 t36 t37 t38 t39 t40 t41 t42 t43 t44 t45 t46 t47 t48 t49 t50 t51 t72 t73 t74 t75 t76 t77 t78 t79 t80 t81 t82 t83 t84 t85 t86 t87 t88 t89 t90 t91 t92 t93 t94 t95 t96 t97 t98 t99 t100 t101 t102 t103 t104 t105 t106 : Value} {ds : List Deferred} : ∀ l a w1, rO1I PW d r q n1 n2 na nb cd t0 t1 t2 t4 t6 t8 t10 t12 t13 t14 t15 t16 t17 t18 t19 t20 t21 t22 t23 t24 t25 t26 t27 t28 t29 t30 t31 t32 t33 t34 t35 t36 t37 t38 t39 t40 t41 t42 t43 t44 t45 t46 t47 t48 t49 t50 t51 t72 t73 t74 t75 t76 t77 t78 t79 t80 t81 t82 t83 t84 t85 t86 t87 t88 t89 t90 t91 t92 t93 t94 t95 t96 t97 t98 t99 t100 t101 t102 t103 t104 t105 t106 ds l a w1 → Region.ready .any rO1O l = [] → left l = 0 := by
  simp only [rO1O, findR, Tryd.f5, Option.bind_some, Option.or, Option.getD, Nat.reduceEqDiff, if_true, if_false, reduceIte]
  rintro l a w1 hI hr
  obtain ⟨j0, j1, j2, j3, j4, j5, j6, j7, j8, j9, j10, j11, j12, j13, j14, j15, j16, j17, j18, j19, x0, x1, x2, x3, x4, x5, x6, x7, x8, x9, x10, x11, x12, x13, x14, x15, x16, x17, x18, x19, rfl, rfl, hW, h0, h1, h2, h3, h4, h5, h6, h7, h8, h9, h10, h11, h12, h13, h14, h15, h16, h17, h18, h19, k1, k3, k4, k5, k6, k7, k8, k9, k10, k11, k12, k13, k14, k15, k16, k17, k18, k19⟩ := hI
  have hn := fun i => List.eq_nil_iff_forall_not_mem.1 hr i
  clear hr
  have d0 : j0 = true := by
    cases hj : j0
    · exact absurd (mem_ready.2 ⟨by simp [hj], _, rfl, by simp [Region.binds, hj]⟩) (hn 0)
    · rfl
  subst d0
  have d1 : j1 = true := by
    cases hj : j1
    · exact absurd (mem_ready.2 ⟨by simp [hj], _, rfl, by simp [Region.binds, hj]⟩) (hn 1)
    · rfl
  subst d1
  have d2 : j2 = true := by
    cases hj : j2
    · exact absurd (mem_ready.2 ⟨by simp [hj], _, rfl, by simp [Region.binds, hj]⟩) (hn 2)
    · rfl
  subst d2
  have d3 : j3 = true := by
    cases hj : j3
    · exact absurd (mem_ready.2 ⟨by simp [hj], _, rfl, by simp [Region.binds, hj]⟩) (hn 3)
    · rfl
  subst d3
  have d4 : j4 = true := by
    cases hj : j4
    · exact absurd (mem_ready.2 ⟨by simp [hj], _, rfl, by simp [Region.binds, hj]⟩) (hn 4)
    · rfl
  subst d4
  have d5 : j5 = true := by
    cases hj : j5
    · exact absurd (mem_ready.2 ⟨by simp [hj], _, rfl, by simp [Region.binds, hj]⟩) (hn 5)
    · rfl
  subst d5
  have d6 : j6 = true := by
    cases hj : j6
    · exact absurd (mem_ready.2 ⟨by simp [hj], _, rfl, by simp [Region.binds, hj]⟩) (hn 6)
    · rfl
  subst d6
  have d7 : j7 = true := by
    cases hj : j7
    · exact absurd (mem_ready.2 ⟨by simp [hj], _, rfl, by simp [Region.binds, hj]⟩) (hn 7)
    · rfl
  subst d7
  have d8 : j8 = true := by
    cases hj : j8
    · exact absurd (mem_ready.2 ⟨by simp [hj], _, rfl, by simp [Region.binds, hj]⟩) (hn 8)
    · rfl
  subst d8
  have d9 : j9 = true := by
    cases hj : j9
    · exact absurd (mem_ready.2 ⟨by simp [hj], _, rfl, by simp [Region.binds, hj]⟩) (hn 9)
    · rfl
  subst d9
  have d10 : j10 = true := by
    cases hj : j10
    · exact absurd (mem_ready.2 ⟨by simp [hj], _, rfl, by simp [Region.binds, hj]⟩) (hn 10)
    · rfl
  subst d10
  have d11 : j11 = true := by
    cases hj : j11
    · exact absurd (mem_ready.2 ⟨by simp [hj], _, rfl, by simp [Region.binds, hj]⟩) (hn 11)
    · rfl
  subst d11
  have d12 : j12 = true := by
    cases hj : j12
    · exact absurd (mem_ready.2 ⟨by simp [hj], _, rfl, by simp [Region.binds, hj]⟩) (hn 12)
    · rfl
  subst d12
  have d13 : j13 = true := by
    cases hj : j13
    · exact absurd (mem_ready.2 ⟨by simp [hj], _, rfl, by simp [Region.binds, hj]⟩) (hn 13)
    · rfl
  subst d13
  have d14 : j14 = true := by
    cases hj : j14
    · exact absurd (mem_ready.2 ⟨by simp [hj], _, rfl, by simp [Region.binds, hj]⟩) (hn 14)
    · rfl
  subst d14
  have d15 : j15 = true := by
    cases hj : j15
    · exact absurd (mem_ready.2 ⟨by simp [hj], _, rfl, by simp [Region.binds, hj]⟩) (hn 15)
    · rfl
  subst d15
  have d16 : j16 = true := by
    cases hj : j16
    · exact absurd (mem_ready.2 ⟨by simp [hj], _, rfl, by simp [Region.binds, hj]⟩) (hn 16)
    · rfl
  subst d16
  have d17 : j17 = true := by
    cases hj : j17
    · exact absurd (mem_ready.2 ⟨by simp [hj], _, rfl, by simp [Region.binds, hj]⟩) (hn 17)
    · rfl
  subst d17
  have d18 : j18 = true := by
    cases hj : j18
    · exact absurd (mem_ready.2 ⟨by simp [hj], _, rfl, by simp [Region.binds, hj]⟩) (hn 18)
    · rfl
  subst d18
  have d19 : j19 = true := by
    cases hj : j19
    · exact absurd (mem_ready.2 ⟨by simp [hj], _, rfl, by simp [Region.binds, hj]⟩) (hn 19)
    · rfl
  subst d19
  rfl
set_option maxHeartbeats 16000000 in
theorem rO1_steps (PW : Bool → Bool → World → Prop) (d r q n1 n2 : Nat) (na nb cd : Int)  (la : ∀ (b0 b1 : Bool) (w : World), PW b0 b1 w → w.cell? ⟨q, 2, none⟩ = some (.int .i64 na)) (lb : ∀ (b0 b1 : Bool) (w : World), PW b0 b1 w → w.cell? ⟨q, 3, none⟩ = some (.int .i64 nb)) (cl11 : ∀ (w : World), PW false false w → Calls Tryd.prog 22 #[.pointer (some ⟨d, 0, none⟩), .int .i64 na, .int .i64 nb] w fun e w1 => e = .returned (.int .i64 cd) ∧ PW true false w1) (cl17 : ∀ (w : World), PW true false w → Calls Tryd.prog 23 #[.pointer (some ⟨r, 0, none⟩), .int .i64 na, .int .i64 nb] w fun e w1 => e = .returned (.int .i64 cd) ∧ PW true true w1)
    {t0 t1 t2 t4 t6 t8 t10 t12 t13 t14 t15 t16 t17 t18 t19 t20 t21 t22 t23 t24 t25 t26 t27 t28 t29 t30 t31 t32 t33 t34 t35 t36 t37 t38 t39 t40 t41 t42 t43 t44 t45 t46 t47 t48 t49 t50 t51 t72 t73 t74 t75 t76 t77 t78 t79 t80 t81 t82 t83 t84 t85 t86 t87 t88 t89 t90 t91 t92 t93 t94 t95 t96 t97 t98 t99 t100 t101 t102 t103 t104 t105 t106 : Value} {ds : List Deferred} {Q : Exit → Act → World → Prop} :
    ∀ l a w', rO1I PW d r q n1 n2 na nb cd t0 t1 t2 t4 t6 t8 t10 t12 t13 t14 t15 t16 t17 t18 t19 t20 t21 t22 t23 t24 t25 t26 t27 t28 t29 t30 t31 t32 t33 t34 t35 t36 t37 t38 t39 t40 t41 t42 t43 t44 t45 t46 t47 t48 t49 t50 t51 t72 t73 t74 t75 t76 t77 t78 t79 t80 t81 t82 t83 t84 t85 t86 t87 t88 t89 t90 t91 t92 t93 t94 t95 t96 t97 t98 t99 t100 t101 t102 t103 t104 t105 t106 ds l a w' → left l ≠ 0 → ∀ i ∈ Region.ready .any rO1O l, wpOp Tryd.prog rO1O Q i (fun a' w'' => rO1I PW d r q n1 n2 na nb cd t0 t1 t2 t4 t6 t8 t10 t12 t13 t14 t15 t16 t17 t18 t19 t20 t21 t22 t23 t24 t25 t26 t27 t28 t29 t30 t31 t32 t33 t34 t35 t36 t37 t38 t39 t40 t41 t42 t43 t44 t45 t46 t47 t48 t49 t50 t51 t72 t73 t74 t75 t76 t77 t78 t79 t80 t81 t82 t83 t84 t85 t86 t87 t88 t89 t90 t91 t92 t93 t94 t95 t96 t97 t98 t99 t100 t101 t102 t103 t104 t105 t106 ds (l.setIfInBounds i true) a' w'') a w' := by
  simp only [rO1O, findR, Tryd.f5, Option.bind_some, Option.or, Option.getD, Nat.reduceEqDiff, if_true, if_false, reduceIte]
  rintro l a w' hI hlt i hi
  clear hlt
  rw [mem_ready] at hi
  obtain ⟨hu, oo, ho, hd⟩ := hi
  have hin : i < 20 := by
    have := (Array.getElem?_eq_some_iff.1 ho).1
    simpa using this
  have hcase : i = 0 ∨ i = 1 ∨ i = 2 ∨ i = 3 ∨ i = 4 ∨ i = 5 ∨ i = 6 ∨ i = 7 ∨ i = 8 ∨ i = 9 ∨ i = 10 ∨ i = 11 ∨ i = 12 ∨ i = 13 ∨ i = 14 ∨ i = 15 ∨ i = 16 ∨ i = 17 ∨ i = 18 ∨ i = 19 := by omega
  obtain ⟨j0, j1, j2, j3, j4, j5, j6, j7, j8, j9, j10, j11, j12, j13, j14, j15, j16, j17, j18, j19, x0, x1, x2, x3, x4, x5, x6, x7, x8, x9, x10, x11, x12, x13, x14, x15, x16, x17, x18, x19, rfl, rfl, hW, h0, h1, h2, h3, h4, h5, h6, h7, h8, h9, h10, h11, h12, h13, h14, h15, h16, h17, h18, h19, k1, k3, k4, k5, k6, k7, k8, k9, k10, k11, k12, k13, k14, k15, k16, k17, k18, k19⟩ := hI
  replace h0 := Lib.hid h0
  replace h1 := Lib.hid h1
  replace h2 := Lib.hid h2
  replace h3 := Lib.hid h3
  replace h4 := Lib.hid h4
  replace h5 := Lib.hid h5
  replace h6 := Lib.hid h6
  replace h7 := Lib.hid h7
  replace h8 := Lib.hid h8
  replace h9 := Lib.hid h9
  replace h10 := Lib.hid h10
  replace h11 := Lib.hid h11
  replace h12 := Lib.hid h12
  replace h13 := Lib.hid h13
  replace h14 := Lib.hid h14
  replace h15 := Lib.hid h15
  replace h16 := Lib.hid h16
  replace h17 := Lib.hid h17
  replace h18 := Lib.hid h18
  replace h19 := Lib.hid h19
  replace k1 := Lib.hid k1
  replace k3 := Lib.hid k3
  replace k4 := Lib.hid k4
  replace k5 := Lib.hid k5
  replace k6 := Lib.hid k6
  replace k7 := Lib.hid k7
  replace k8 := Lib.hid k8
  replace k9 := Lib.hid k9
  replace k10 := Lib.hid k10
  replace k11 := Lib.hid k11
  replace k12 := Lib.hid k12
  replace k13 := Lib.hid k13
  replace k14 := Lib.hid k14
  replace k15 := Lib.hid k15
  replace k16 := Lib.hid k16
  replace k17 := Lib.hid k17
  replace k18 := Lib.hid k18
  replace k19 := Lib.hid k19
  rcases hcase with rfl | rfl | rfl | rfl | rfl | rfl | rfl | rfl | rfl | rfl | rfl | rfl | rfl | rfl | rfl | rfl | rfl | rfl | rfl | rfl
  · obtain rfl := Option.some.inj ho
    simp [Region.binds] at hu hd
    subst hu
    clear hd
    clear la lb cl11 cl17
    refine wpOp_of rfl rfl ?_
    go_simp
    unfold rO1I
    exact ⟨true, j1, j2, j3, j4, j5, j6, j7, j8, j9, j10, j11, j12, j13, j14, j15, j16, j17, j18, j19, _, x1, x2, x3, x4, x5, x6, x7, x8, x9, x10, x11, x12, x13, x14, x15, x16, x17, x18, x19, rfl, rfl, hW, fun _ => rfl, h1.out, h2.out, h3.out, h4.out, h5.out, h6.out, h7.out, h8.out, h9.out, h10.out, h11.out, h12.out, h13.out, h14.out, h15.out, h16.out, h17.out, h18.out, h19.out, (fun hj => absurd ((k1.out hj)) (by simp)), k3.out, k4.out, k5.out, k6.out, k7.out, k8.out, k9.out, k10.out, k11.out, k12.out, k13.out, k14.out, k15.out, k16.out, k17.out, k18.out, k19.out⟩
  · obtain rfl := Option.some.inj ho
    simp [Region.binds] at hu hd
    have d0 : j0 = true := by simp [hd]
    have e0 := h0.out d0
    subst e0
    subst d0
    subst hu
    clear hd
    clear la lb cl11 cl17
    refine wpOp_of rfl rfl ?_
    go_simp
    unfold rO1I
    exact ⟨true, true, j2, j3, j4, j5, j6, j7, j8, j9, j10, j11, j12, j13, j14, j15, j16, j17, j18, j19, _, _, x2, x3, x4, x5, x6, x7, x8, x9, x10, x11, x12, x13, x14, x15, x16, x17, x18, x19, rfl, rfl, hW, h0.out, fun _ => rfl, h2.out, h3.out, h4.out, h5.out, h6.out, h7.out, h8.out, h9.out, h10.out, h11.out, h12.out, h13.out, h14.out, h15.out, h16.out, h17.out, h18.out, h19.out, fun _ => rfl, k3.out, (fun hj => absurd ((k4.out hj).1) (by simp)), k5.out, k6.out, k7.out, k8.out, k9.out, k10.out, k11.out, k12.out, k13.out, k14.out, k15.out, k16.out, k17.out, k18.out, k19.out⟩
  · obtain rfl := Option.some.inj ho
    simp [Region.binds] at hu hd
    subst hu
    clear hd
    clear la lb cl11 cl17
    refine wpOp_of rfl rfl ?_
    go_simp
    unfold rO1I
    exact ⟨j0, j1, true, j3, j4, j5, j6, j7, j8, j9, j10, j11, j12, j13, j14, j15, j16, j17, j18, j19, x0, x1, _, x3, x4, x5, x6, x7, x8, x9, x10, x11, x12, x13, x14, x15, x16, x17, x18, x19, rfl, rfl, hW, h0.out, h1.out, fun _ => rfl, h3.out, h4.out, h5.out, h6.out, h7.out, h8.out, h9.out, h10.out, h11.out, h12.out, h13.out, h14.out, h15.out, h16.out, h17.out, h18.out, h19.out, k1.out, (fun hj => absurd ((k3.out hj)) (by simp)), k4.out, k5.out, k6.out, k7.out, k8.out, k9.out, k10.out, k11.out, k12.out, k13.out, k14.out, k15.out, k16.out, k17.out, k18.out, k19.out⟩
  · obtain rfl := Option.some.inj ho
    simp [Region.binds] at hu hd
    have d2 : j2 = true := by simp [hd]
    have e2 := h2.out d2
    subst e2
    subst d2
    subst hu
    clear hd
    clear la lb cl11 cl17
    refine wpOp_of rfl rfl ?_
    go_simp
    unfold rO1I
    exact ⟨j0, j1, true, true, j4, j5, j6, j7, j8, j9, j10, j11, j12, j13, j14, j15, j16, j17, j18, j19, x0, x1, _, _, x4, x5, x6, x7, x8, x9, x10, x11, x12, x13, x14, x15, x16, x17, x18, x19, rfl, rfl, hW, h0.out, h1.out, h2.out, fun _ => rfl, h4.out, h5.out, h6.out, h7.out, h8.out, h9.out, h10.out, h11.out, h12.out, h13.out, h14.out, h15.out, h16.out, h17.out, h18.out, h19.out, k1.out, fun _ => rfl, (fun hj => absurd ((k4.out hj).2) (by simp)), k5.out, k6.out, k7.out, k8.out, k9.out, k10.out, k11.out, k12.out, k13.out, k14.out, k15.out, k16.out, k17.out, k18.out, k19.out⟩
  · obtain rfl := Option.some.inj ho
    simp [Region.binds] at hu hd
    have d1 : j1 = true := by simp [hd]
    have d3 : j3 = true := by simp [hd]
    have e1 := h1.out d1
    subst e1
    have e3 := h3.out d3
    subst e3
    subst d1
    subst d3
    subst hu
    clear hd
    clear la lb cl11 cl17
    refine wpOp_of rfl rfl ?_
    go_simp
    unfold rO1I
    exact ⟨j0, true, j2, true, true, j5, j6, j7, j8, j9, j10, j11, j12, j13, j14, j15, j16, j17, j18, j19, x0, _, x2, _, _, x5, x6, x7, x8, x9, x10, x11, x12, x13, x14, x15, x16, x17, x18, x19, rfl, rfl, hW, h0.out, h1.out, h2.out, h3.out, fun _ => rfl, h5.out, h6.out, h7.out, h8.out, h9.out, h10.out, h11.out, h12.out, h13.out, h14.out, h15.out, h16.out, h17.out, h18.out, h19.out, k1.out, k3.out, fun _ => ⟨rfl, rfl⟩, (fun hj => absurd ((k5.out hj)) (by simp)), k6.out, k7.out, k8.out, k9.out, k10.out, k11.out, k12.out, k13.out, k14.out, k15.out, k16.out, k17.out, k18.out, k19.out⟩
  · obtain rfl := Option.some.inj ho
    simp [Region.binds] at hu hd
    have d4 : j4 = true := by simp [hd]
    have e4 := h4.out d4
    subst e4
    subst d4
    subst hu
    clear hd
    clear la lb cl11 cl17
    refine wpOp_of rfl rfl ?_
    go_simp
    unfold rO1I
    exact ⟨j0, j1, j2, j3, true, true, j6, j7, j8, j9, j10, j11, j12, j13, j14, j15, j16, j17, j18, j19, x0, x1, x2, x3, _, _, x6, x7, x8, x9, x10, x11, x12, x13, x14, x15, x16, x17, x18, x19, rfl, rfl, hW, h0.out, h1.out, h2.out, h3.out, h4.out, fun _ => rfl, h6.out, h7.out, h8.out, h9.out, h10.out, h11.out, h12.out, h13.out, h14.out, h15.out, h16.out, h17.out, h18.out, h19.out, k1.out, k3.out, k4.out, fun _ => rfl, (fun hj => absurd ((k6.out hj)) (by simp)), (fun hj => absurd ((k7.out hj)) (by simp)), (fun hj => absurd ((k8.out hj).1) (by simp)), (fun hj => absurd ((k9.out hj)) (by simp)), (fun hj => absurd ((k10.out hj).1) (by simp)), (fun hj => absurd ((k11.out hj).1) (by simp)), (fun hj => absurd ((k12.out hj)) (by simp)), (fun hj => absurd ((k13.out hj)) (by simp)), (fun hj => absurd ((k14.out hj).1) (by simp)), (fun hj => absurd ((k15.out hj)) (by simp)), (fun hj => absurd ((k16.out hj).1) (by simp)), (fun hj => absurd ((k17.out hj).1) (by simp)), (fun hj => absurd ((k18.out hj).1) (by simp)), (fun hj => absurd ((k19.out hj).1) (by simp))⟩
  · obtain rfl := Option.some.inj ho
    simp [Region.binds] at hu hd
    have d5 : j5 = true := by simp [hd]
    have e5 := h5.out d5
    subst e5
    subst d5
    subst hu
    clear hd
    clear la lb cl11 cl17
    refine wpOp_ofw rfl rfl ?_
    go_simp
    unfold rO1I
    exact ⟨j0, j1, j2, j3, j4, true, true, j7, j8, j9, j10, j11, j12, j13, j14, j15, j16, j17, j18, j19, x0, x1, x2, x3, x4, _, _, x7, x8, x9, x10, x11, x12, x13, x14, x15, x16, x17, x18, x19, rfl, rfl, hW, h0.out, h1.out, h2.out, h3.out, h4.out, h5.out, fun _ => rfl, h7.out, h8.out, h9.out, h10.out, h11.out, h12.out, h13.out, h14.out, h15.out, h16.out, h17.out, h18.out, h19.out, k1.out, k3.out, k4.out, k5.out, fun _ => rfl, k7.out, k8.out, k9.out, k10.out, (fun hj => absurd ((k11.out hj).2.1) (by simp)), k12.out, k13.out, k14.out, k15.out, k16.out, k17.out, k18.out, k19.out⟩
  · obtain rfl := Option.some.inj ho
    simp [Region.binds] at hu hd
    have d5 : j5 = true := by simp [hd]
    have e5 := h5.out d5
    subst e5
    subst d5
    subst hu
    clear hd
    clear la lb cl11 cl17
    refine wpOp_ofw rfl rfl ?_
    go_simp
    unfold rO1I
    exact ⟨j0, j1, j2, j3, j4, true, j6, true, j8, j9, j10, j11, j12, j13, j14, j15, j16, j17, j18, j19, x0, x1, x2, x3, x4, _, x6, _, x8, x9, x10, x11, x12, x13, x14, x15, x16, x17, x18, x19, rfl, rfl, hW, h0.out, h1.out, h2.out, h3.out, h4.out, h5.out, h6.out, fun _ => rfl, h8.out, h9.out, h10.out, h11.out, h12.out, h13.out, h14.out, h15.out, h16.out, h17.out, h18.out, h19.out, k1.out, k3.out, k4.out, k5.out, k6.out, fun _ => rfl, (fun hj => absurd ((k8.out hj).2) (by simp)), k9.out, k10.out, k11.out, k12.out, k13.out, k14.out, k15.out, k16.out, k17.out, k18.out, k19.out⟩
  · obtain rfl := Option.some.inj ho
    simp [Region.binds] at hu hd
    have d5 : j5 = true := by simp [hd]
    have d7 : j7 = true := by simp [hd]
    have e5 := h5.out d5
    subst e5
    have e7 := h7.out d7
    subst e7
    subst d5
    subst d7
    subst hu
    clear hd
    clear lb cl11 cl17
    have lc := la _ _ _ hW
    refine wpOp_ofw rfl rfl ?_
    go_simp
    unfold rO1I
    exact ⟨j0, j1, j2, j3, j4, true, j6, true, true, j9, j10, j11, j12, j13, j14, j15, j16, j17, j18, j19, x0, x1, x2, x3, x4, _, x6, _, _, x9, x10, x11, x12, x13, x14, x15, x16, x17, x18, x19, rfl, rfl, hW, h0.out, h1.out, h2.out, h3.out, h4.out, h5.out, h6.out, h7.out, fun _ => rfl, h9.out, h10.out, h11.out, h12.out, h13.out, h14.out, h15.out, h16.out, h17.out, h18.out, h19.out, k1.out, k3.out, k4.out, k5.out, k6.out, k7.out, fun _ => ⟨rfl, rfl⟩, k9.out, k10.out, (fun hj => absurd ((k11.out hj).2.2.1) (by simp)), k12.out, k13.out, k14.out, k15.out, k16.out, k17.out, k18.out, k19.out⟩
  · obtain rfl := Option.some.inj ho
    simp [Region.binds] at hu hd
    have d5 : j5 = true := by simp [hd]
    have e5 := h5.out d5
    subst e5
    subst d5
    subst hu
    clear hd
    clear la lb cl11 cl17
    refine wpOp_ofw rfl rfl ?_
    go_simp
    unfold rO1I
    exact ⟨j0, j1, j2, j3, j4, true, j6, j7, j8, true, j10, j11, j12, j13, j14, j15, j16, j17, j18, j19, x0, x1, x2, x3, x4, _, x6, x7, x8, _, x10, x11, x12, x13, x14, x15, x16, x17, x18, x19, rfl, rfl, hW, h0.out, h1.out, h2.out, h3.out, h4.out, h5.out, h6.out, h7.out, h8.out, fun _ => rfl, h10.out, h11.out, h12.out, h13.out, h14.out, h15.out, h16.out, h17.out, h18.out, h19.out, k1.out, k3.out, k4.out, k5.out, k6.out, k7.out, k8.out, fun _ => rfl, (fun hj => absurd ((k10.out hj).2) (by simp)), k11.out, k12.out, k13.out, k14.out, k15.out, k16.out, k17.out, k18.out, k19.out⟩
  · obtain rfl := Option.some.inj ho
    simp [Region.binds] at hu hd
    have d5 : j5 = true := by simp [hd]
    have d9 : j9 = true := by simp [hd]
    have e5 := h5.out d5
    subst e5
    have e9 := h9.out d9
    subst e9
    subst d5
    subst d9
    subst hu
    clear hd
    clear la cl11 cl17
    have lc := lb _ _ _ hW
    refine wpOp_ofw rfl rfl ?_
    go_simp
    unfold rO1I
    exact ⟨j0, j1, j2, j3, j4, true, j6, j7, j8, true, true, j11, j12, j13, j14, j15, j16, j17, j18, j19, x0, x1, x2, x3, x4, _, x6, x7, x8, _, _, x11, x12, x13, x14, x15, x16, x17, x18, x19, rfl, rfl, hW, h0.out, h1.out, h2.out, h3.out, h4.out, h5.out, h6.out, h7.out, h8.out, h9.out, fun _ => rfl, h11.out, h12.out, h13.out, h14.out, h15.out, h16.out, h17.out, h18.out, h19.out, k1.out, k3.out, k4.out, k5.out, k6.out, k7.out, k8.out, k9.out, fun _ => ⟨rfl, rfl⟩, (fun hj => absurd ((k11.out hj).2.2.2) (by simp)), k12.out, k13.out, k14.out, k15.out, k16.out, k17.out, k18.out, k19.out⟩
  · obtain rfl := Option.some.inj ho
    simp [Region.binds] at hu hd
    have d5 : j5 = true := by simp [hd]
    have d6 : j6 = true := by simp [hd]
    have d8 : j8 = true := by simp [hd]
    have d10 : j10 = true := by simp [hd]
    have d9 : j9 = true := (k10.out d10).2
    have d7 : j7 = true := (k8.out d8).2
    have d4 : j4 = true := (k5.out d5)
    have d1 : j1 = true := (k4.out d4).1
    have d3 : j3 = true := (k4.out d4).2
    have d2 : j2 = true := (k3.out d3)
    have d0 : j0 = true := (k1.out d1)
    have z17 : j17 = false := by
      cases hj : j17
      · rfl
      · exact absurd ((k17.out hj).2.1) (by simp [hu])
    have e5 := h5.out d5
    subst e5
    have e6 := h6.out d6
    subst e6
    have e8 := h8.out d8
    subst e8
    have e10 := h10.out d10
    subst e10
    have e9 := h9.out d9
    subst e9
    have e7 := h7.out d7
    subst e7
    have e4 := h4.out d4
    subst e4
    have e1 := h1.out d1
    subst e1
    have e3 := h3.out d3
    subst e3
    have e2 := h2.out d2
    subst e2
    have e0 := h0.out d0
    subst e0
    subst d5
    subst d6
    subst d8
    subst d10
    subst d9
    subst d7
    subst d4
    subst d1
    subst d3
    subst d2
    subst d0
    subst z17
    subst hu
    clear hd
    clear la lb cl17
    refine wpOp_ofw rfl rfl ?_
    go_simp
    go_at_call 22
    refine (cl11 _ hW).mono ?_
    rintro e w2 ⟨rfl, hW2⟩
    unfold rO1I
    exact ⟨true, true, true, true, true, true, true, true, true, true, true, true, j12, j13, j14, j15, j16, false, j18, j19, _, _, _, _, _, _, _, _, _, _, _, _, x12, x13, x14, x15, x16, x17, x18, x19, rfl, rfl, hW2, h0.out, h1.out, h2.out, h3.out, h4.out, h5.out, h6.out, h7.out, h8.out, h9.out, h10.out, fun _ => rfl, h12.out, h13.out, h14.out, h15.out, h16.out, h17.out, h18.out, h19.out, k1.out, k3.out, k4.out, k5.out, k6.out, k7.out, k8.out, k9.out, k10.out, fun _ => ⟨rfl, rfl, rfl, rfl⟩, k12.out, k13.out, k14.out, k15.out, k16.out, (fun hj => absurd ((k17.out hj).2.1) (by simp)), (fun hj => absurd ((k18.out hj).2.1) (by simp)), k19.out⟩
  · obtain rfl := Option.some.inj ho
    simp [Region.binds] at hu hd
    have d5 : j5 = true := by simp [hd]
    have e5 := h5.out d5
    subst e5
    subst d5
    subst hu
    clear hd
    clear la lb cl11 cl17
    refine wpOp_ofw rfl rfl ?_
    go_simp
    unfold rO1I
    exact ⟨j0, j1, j2, j3, j4, true, j6, j7, j8, j9, j10, j11, true, j13, j14, j15, j16, j17, j18, j19, x0, x1, x2, x3, x4, _, x6, x7, x8, x9, x10, x11, _, x13, x14, x15, x16, x17, x18, x19, rfl, rfl, hW, h0.out, h1.out, h2.out, h3.out, h4.out, h5.out, h6.out, h7.out, h8.out, h9.out, h10.out, h11.out, fun _ => rfl, h13.out, h14.out, h15.out, h16.out, h17.out, h18.out, h19.out, k1.out, k3.out, k4.out, k5.out, k6.out, k7.out, k8.out, k9.out, k10.out, k11.out, fun _ => rfl, k13.out, k14.out, k15.out, k16.out, (fun hj => absurd ((k17.out hj).2.2.1) (by simp)), k18.out, k19.out⟩
  · obtain rfl := Option.some.inj ho
    simp [Region.binds] at hu hd
    have d5 : j5 = true := by simp [hd]
    have e5 := h5.out d5
    subst e5
    subst d5
    subst hu
    clear hd
    clear la lb cl11 cl17
    refine wpOp_ofw rfl rfl ?_
    go_simp
    unfold rO1I
    exact ⟨j0, j1, j2, j3, j4, true, j6, j7, j8, j9, j10, j11, j12, true, j14, j15, j16, j17, j18, j19, x0, x1, x2, x3, x4, _, x6, x7, x8, x9, x10, x11, x12, _, x14, x15, x16, x17, x18, x19, rfl, rfl, hW, h0.out, h1.out, h2.out, h3.out, h4.out, h5.out, h6.out, h7.out, h8.out, h9.out, h10.out, h11.out, h12.out, fun _ => rfl, h14.out, h15.out, h16.out, h17.out, h18.out, h19.out, k1.out, k3.out, k4.out, k5.out, k6.out, k7.out, k8.out, k9.out, k10.out, k11.out, k12.out, fun _ => rfl, (fun hj => absurd ((k14.out hj).2) (by simp)), k15.out, k16.out, k17.out, k18.out, k19.out⟩
  · obtain rfl := Option.some.inj ho
    simp [Region.binds] at hu hd
    have d5 : j5 = true := by simp [hd]
    have d13 : j13 = true := by simp [hd]
    have e5 := h5.out d5
    subst e5
    have e13 := h13.out d13
    subst e13
    subst d5
    subst d13
    subst hu
    clear hd
    clear lb cl11 cl17
    have lc := la _ _ _ hW
    refine wpOp_ofw rfl rfl ?_
    go_simp
    unfold rO1I
    exact ⟨j0, j1, j2, j3, j4, true, j6, j7, j8, j9, j10, j11, j12, true, true, j15, j16, j17, j18, j19, x0, x1, x2, x3, x4, _, x6, x7, x8, x9, x10, x11, x12, _, _, x15, x16, x17, x18, x19, rfl, rfl, hW, h0.out, h1.out, h2.out, h3.out, h4.out, h5.out, h6.out, h7.out, h8.out, h9.out, h10.out, h11.out, h12.out, h13.out, fun _ => rfl, h15.out, h16.out, h17.out, h18.out, h19.out, k1.out, k3.out, k4.out, k5.out, k6.out, k7.out, k8.out, k9.out, k10.out, k11.out, k12.out, k13.out, fun _ => ⟨rfl, rfl⟩, k15.out, k16.out, (fun hj => absurd ((k17.out hj).2.2.2.1) (by simp)), k18.out, k19.out⟩
  · obtain rfl := Option.some.inj ho
    simp [Region.binds] at hu hd
    have d5 : j5 = true := by simp [hd]
    have e5 := h5.out d5
    subst e5
    subst d5
    subst hu
    clear hd
    clear la lb cl11 cl17
    refine wpOp_ofw rfl rfl ?_
    go_simp
    unfold rO1I
    exact ⟨j0, j1, j2, j3, j4, true, j6, j7, j8, j9, j10, j11, j12, j13, j14, true, j16, j17, j18, j19, x0, x1, x2, x3, x4, _, x6, x7, x8, x9, x10, x11, x12, x13, x14, _, x16, x17, x18, x19, rfl, rfl, hW, h0.out, h1.out, h2.out, h3.out, h4.out, h5.out, h6.out, h7.out, h8.out, h9.out, h10.out, h11.out, h12.out, h13.out, h14.out, fun _ => rfl, h16.out, h17.out, h18.out, h19.out, k1.out, k3.out, k4.out, k5.out, k6.out, k7.out, k8.out, k9.out, k10.out, k11.out, k12.out, k13.out, k14.out, fun _ => rfl, (fun hj => absurd ((k16.out hj).2) (by simp)), k17.out, k18.out, k19.out⟩
  · obtain rfl := Option.some.inj ho
    simp [Region.binds] at hu hd
    have d5 : j5 = true := by simp [hd]
    have d15 : j15 = true := by simp [hd]
    have e5 := h5.out d5
    subst e5
    have e15 := h15.out d15
    subst e15
    subst d5
    subst d15
    subst hu
    clear hd
    clear la cl11 cl17
    have lc := lb _ _ _ hW
    refine wpOp_ofw rfl rfl ?_
    go_simp
    unfold rO1I
    exact ⟨j0, j1, j2, j3, j4, true, j6, j7, j8, j9, j10, j11, j12, j13, j14, true, true, j17, j18, j19, x0, x1, x2, x3, x4, _, x6, x7, x8, x9, x10, x11, x12, x13, x14, _, _, x17, x18, x19, rfl, rfl, hW, h0.out, h1.out, h2.out, h3.out, h4.out, h5.out, h6.out, h7.out, h8.out, h9.out, h10.out, h11.out, h12.out, h13.out, h14.out, h15.out, fun _ => rfl, h17.out, h18.out, h19.out, k1.out, k3.out, k4.out, k5.out, k6.out, k7.out, k8.out, k9.out, k10.out, k11.out, k12.out, k13.out, k14.out, k15.out, fun _ => ⟨rfl, rfl⟩, (fun hj => absurd ((k17.out hj).2.2.2.2) (by simp)), k18.out, k19.out⟩
  · obtain rfl := Option.some.inj ho
    simp [Region.binds] at hu hd
    have d5 : j5 = true := by simp [hd]
    have d11 : j11 = true := by simp [hd]
    have d12 : j12 = true := by simp [hd]
    have d14 : j14 = true := by simp [hd]
    have d16 : j16 = true := by simp [hd]
    have d15 : j15 = true := (k16.out d16).2
    have d13 : j13 = true := (k14.out d14).2
    have d6 : j6 = true := (k11.out d11).2.1
    have d8 : j8 = true := (k11.out d11).2.2.1
    have d10 : j10 = true := (k11.out d11).2.2.2
    have d9 : j9 = true := (k10.out d10).2
    have d7 : j7 = true := (k8.out d8).2
    have d4 : j4 = true := (k5.out d5)
    have d1 : j1 = true := (k4.out d4).1
    have d3 : j3 = true := (k4.out d4).2
    have d2 : j2 = true := (k3.out d3)
    have d0 : j0 = true := (k1.out d1)
    have e5 := h5.out d5
    subst e5
    have e11 := h11.out d11
    subst e11
    have e12 := h12.out d12
    subst e12
    have e14 := h14.out d14
    subst e14
    have e16 := h16.out d16
    subst e16
    have e15 := h15.out d15
    subst e15
    have e13 := h13.out d13
    subst e13
    have e6 := h6.out d6
    subst e6
    have e8 := h8.out d8
    subst e8
    have e10 := h10.out d10
    subst e10
    have e9 := h9.out d9
    subst e9
    have e7 := h7.out d7
    subst e7
    have e4 := h4.out d4
    subst e4
    have e1 := h1.out d1
    subst e1
    have e3 := h3.out d3
    subst e3
    have e2 := h2.out d2
    subst e2
    have e0 := h0.out d0
    subst e0
    subst d5
    subst d11
    subst d12
    subst d14
    subst d16
    subst d15
    subst d13
    subst d6
    subst d8
    subst d10
    subst d9
    subst d7
    subst d4
    subst d1
    subst d3
    subst d2
    subst d0
    subst hu
    clear hd
    clear la lb cl11
    refine wpOp_ofw rfl rfl ?_
    go_simp
    go_at_call 23
    refine (cl17 _ hW).mono ?_
    rintro e w2 ⟨rfl, hW2⟩
    unfold rO1I
    exact ⟨true, true, true, true, true, true, true, true, true, true, true, true, true, true, true, true, true, true, j18, j19, _, _, _, _, _, _, _, _, _, _, _, _, _, _, _, _, _, _, x18, x19, rfl, rfl, hW2, h0.out, h1.out, h2.out, h3.out, h4.out, h5.out, h6.out, h7.out, h8.out, h9.out, h10.out, h11.out, h12.out, h13.out, h14.out, h15.out, h16.out, fun _ => rfl, h18.out, h19.out, k1.out, k3.out, k4.out, k5.out, k6.out, k7.out, k8.out, k9.out, k10.out, k11.out, k12.out, k13.out, k14.out, k15.out, k16.out, fun _ => ⟨rfl, rfl, rfl, rfl, rfl⟩, (fun hj => absurd ((k18.out hj).2.2) (by simp)), k19.out⟩
  · obtain rfl := Option.some.inj ho
    simp [Region.binds] at hu hd
    have d5 : j5 = true := by simp [hd]
    have d11 : j11 = true := by simp [hd]
    have d17 : j17 = true := by simp [hd]
    have e5 := h5.out d5
    subst e5
    have e11 := h11.out d11
    subst e11
    have e17 := h17.out d17
    subst e17
    subst d5
    subst d11
    subst d17
    subst hu
    clear hd
    clear la lb cl11 cl17
    refine wpOp_ofw rfl rfl ?_
    go_simp
    unfold rO1I
    exact ⟨j0, j1, j2, j3, j4, true, j6, j7, j8, j9, j10, true, j12, j13, j14, j15, j16, true, true, j19, x0, x1, x2, x3, x4, _, x6, x7, x8, x9, x10, _, x12, x13, x14, x15, x16, _, _, x19, rfl, rfl, hW, h0.out, h1.out, h2.out, h3.out, h4.out, h5.out, h6.out, h7.out, h8.out, h9.out, h10.out, h11.out, h12.out, h13.out, h14.out, h15.out, h16.out, h17.out, fun _ => rfl, h19.out, k1.out, k3.out, k4.out, k5.out, k6.out, k7.out, k8.out, k9.out, k10.out, k11.out, k12.out, k13.out, k14.out, k15.out, k16.out, k17.out, fun _ => ⟨rfl, rfl, rfl⟩, (fun hj => absurd ((k19.out hj).2) (by simp))⟩
  · obtain rfl := Option.some.inj ho
    simp [Region.binds] at hu hd
    have d5 : j5 = true := by simp [hd]
    have d18 : j18 = true := by simp [hd]
    have e5 := h5.out d5
    subst e5
    have e18 := h18.out d18
    subst e18
    subst d5
    subst d18
    subst hu
    clear hd
    clear la lb cl11 cl17
    refine wpOp_of rfl rfl ?_
    go_simp
    unfold rO1I
    exact ⟨j0, j1, j2, j3, j4, true, j6, j7, j8, j9, j10, j11, j12, j13, j14, j15, j16, j17, true, true, x0, x1, x2, x3, x4, _, x6, x7, x8, x9, x10, x11, x12, x13, x14, x15, x16, x17, _, _, rfl, rfl, hW, h0.out, h1.out, h2.out, h3.out, h4.out, h5.out, h6.out, h7.out, h8.out, h9.out, h10.out, h11.out, h12.out, h13.out, h14.out, h15.out, h16.out, h17.out, h18.out, fun _ => rfl, k1.out, k3.out, k4.out, k5.out, k6.out, k7.out, k8.out, k9.out, k10.out, k11.out, k12.out, k13.out, k14.out, k15.out, k16.out, k17.out, k18.out, fun _ => ⟨rfl, rfl⟩⟩
set_option maxHeartbeats 16000000 in
theorem rO1 (PW : Bool → Bool → World → Prop) (d r q n1 n2 : Nat) (na nb cd : Int) (w : World) (w0 : PW false false w.drew)  (la : ∀ (b0 b1 : Bool) (w : World), PW b0 b1 w → w.cell? ⟨q, 2, none⟩ = some (.int .i64 na)) (lb : ∀ (b0 b1 : Bool) (w : World), PW b0 b1 w → w.cell? ⟨q, 3, none⟩ = some (.int .i64 nb)) (cl11 : ∀ (w : World), PW false false w → Calls Tryd.prog 22 #[.pointer (some ⟨d, 0, none⟩), .int .i64 na, .int .i64 nb] w fun e w1 => e = .returned (.int .i64 cd) ∧ PW true false w1) (cl17 : ∀ (w : World), PW true false w → Calls Tryd.prog 23 #[.pointer (some ⟨r, 0, none⟩), .int .i64 na, .int .i64 nb] w fun e w1 => e = .returned (.int .i64 cd) ∧ PW true true w1) {t0 t1 t2 t4 t6 t8 t10 t12 t13 t14 t15 t16 t17 t18 t19 t20 t21 t22 t23 t24 t25 t26 t27 t28 t29 t30 t31 t32 t33 t34 t35 t36 t37 t38 t39 t40 t41 t42 t43 t44 t45 t46 t47 t48 t49 t50 t51 t52 t53 t54 t55 t56 t57 t58 t59 t60 t61 t62 t63 t64 t65 t66 t67 t68 t69 t70 t71 t72 t73 t74 t75 t76 t77 t78 t79 t80 t81 t82 t83 t84 t85 t86 t87 t88 t89 t90 t91 t92 t93 t94 t95 t96 t97 t98 t99 t100 t101 t102 t103 t104 t105 t106 : Value} {ds : List Deferred} {Q : Exit → Act → World → Prop}
    (h : ∀ (w1 : World), PW true true w1 → Q .normal { tmps := #[t0, t1, t2, .pointer (some ⟨q, 0, none⟩), t4, .pointer (some ⟨d, 0, none⟩), t6, .pointer (some ⟨r, 0, none⟩), t8, .pointer (some ⟨n1, 0, none⟩), t10, .pointer (some ⟨n2, 0, none⟩), t12, t13, t14, t15, t16, t17, t18, t19, t20, t21, t22, t23, t24, t25, t26, t27, t28, t29, t30, t31, t32, t33, t34, t35, t36, t37, t38, t39, t40, t41, t42, t43, t44, t45, t46, t47, t48, t49, t50, t51, .pointer (some ⟨n1, 0, none⟩), .bool false, .pointer (some ⟨n2, 0, none⟩), .bool false, .bool false, .bool false, .pointer (some ⟨d, 0, none⟩), .pointer (some ⟨q, 2, none⟩), .int .i64 na, .pointer (some ⟨q, 3, none⟩), .int .i64 nb, .int .i64 cd, .pointer (some ⟨r, 0, none⟩), .pointer (some ⟨q, 2, none⟩), .int .i64 na, .pointer (some ⟨q, 3, none⟩), .int .i64 nb, .int .i64 cd, .bool false, .bool false, t72, t73, t74, t75, t76, t77, t78, t79, t80, t81, t82, t83, t84, t85, t86, t87, t88, t89, t90, t91, t92, t93, t94, t95, t96, t97, t98, t99, t100, t101, t102, t103, t104, t105, t106], defers := ds } w1) :
    (Code.region 9 rO1O true).wp Tryd.prog Q { tmps := #[t0, t1, t2, .pointer (some ⟨q, 0, none⟩), t4, .pointer (some ⟨d, 0, none⟩), t6, .pointer (some ⟨r, 0, none⟩), t8, .pointer (some ⟨n1, 0, none⟩), t10, .pointer (some ⟨n2, 0, none⟩), t12, t13, t14, t15, t16, t17, t18, t19, t20, t21, t22, t23, t24, t25, t26, t27, t28, t29, t30, t31, t32, t33, t34, t35, t36, t37, t38, t39, t40, t41, t42, t43, t44, t45, t46, t47, t48, t49, t50, t51, t52, t53, t54, t55, t56, t57, t58, t59, t60, t61, t62, t63, t64, t65, t66, t67, t68, t69, t70, t71, t72, t73, t74, t75, t76, t77, t78, t79, t80, t81, t82, t83, t84, t85, t86, t87, t88, t89, t90, t91, t92, t93, t94, t95, t96, t97, t98, t99, t100, t101, t102, t103, t104, t105, t106], defers := ds } w := by
  have hsz : rO1O.size = 20 := by kernel_rfl
  refine wp_region_any (show Tryd.prog.follows .mixedOrders = true from by kernel_rfl) ?_
  rw [hsz]
  refine wpAny_inv2 (I := rO1I PW d r q n1 n2 na nb cd t0 t1 t2 t4 t6 t8 t10 t12 t13 t14 t15 t16 t17 t18 t19 t20 t21 t22 t23 t24 t25 t26 t27 t28 t29 t30 t31 t32 t33 t34 t35 t36 t37 t38 t39 t40 t41 t42 t43 t44 t45 t46 t47 t48 t49 t50 t51 t72 t73 t74 t75 t76 t77 t78 t79 t80 t81 t82 t83 t84 t85 t86 t87 t88 t89 t90 t91 t92 t93 t94 t95 t96 t97 t98 t99 t100 t101 t102 t103 t104 t105 t106 ds) (g := 0) (rO1_none PW d r q n1 n2 na nb cd) (rO1_steps PW d r q n1 n2 na nb cd  la lb cl11 cl17) (fun l a w' hI hl => ?_) 20 _ _ _ (by decide) (by decide) ?_
  · obtain ⟨j0, j1, j2, j3, j4, j5, j6, j7, j8, j9, j10, j11, j12, j13, j14, j15, j16, j17, j18, j19, x0, x1, x2, x3, x4, x5, x6, x7, x8, x9, x10, x11, x12, x13, x14, x15, x16, x17, x18, x19, rfl, rfl, hW, h0, h1, h2, h3, h4, h5, h6, h7, h8, h9, h10, h11, h12, h13, h14, h15, h16, h17, h18, h19, k1, k3, k4, k5, k6, k7, k8, k9, k10, k11, k12, k13, k14, k15, k16, k17, k18, k19⟩ := hI
    have ha := left_zero hl
    simp only [List.mem_toArray, List.mem_cons, List.not_mem_nil, or_false, forall_eq_or_imp, forall_eq] at ha
    obtain ⟨d0, d1, d2, d3, d4, d5, d6, d7, d8, d9, d10, d11, d12, d13, d14, d15, d16, d17, d18, d19⟩ := ha
    subst d0
    subst d1
    subst d2
    subst d3
    subst d4
    subst d5
    subst d6
    subst d7
    subst d8
    subst d9
    subst d10
    subst d11
    subst d12
    subst d13
    subst d14
    subst d15
    subst d16
    subst d17
    subst d18
    subst d19
    obtain rfl := h0 rfl
    obtain rfl := h1 rfl
    obtain rfl := h2 rfl
    obtain rfl := h3 rfl
    obtain rfl := h4 rfl
    obtain rfl := h5 rfl
    obtain rfl := h6 rfl
    obtain rfl := h7 rfl
    obtain rfl := h8 rfl
    obtain rfl := h9 rfl
    obtain rfl := h10 rfl
    obtain rfl := h11 rfl
    obtain rfl := h12 rfl
    obtain rfl := h13 rfl
    obtain rfl := h14 rfl
    obtain rfl := h15 rfl
    obtain rfl := h16 rfl
    obtain rfl := h17 rfl
    obtain rfl := h18 rfl
    obtain rfl := h19 rfl
    exact ⟨by kernel_rfl, h _ hW⟩
  · exact ⟨false, false, false, false, false, false, false, false, false, false, false, false, false, false, false, false, false, false, false, false, t52, t53, t54, t55, t56, t57, t58, t59, t60, t61, t62, t63, t64, t65, t66, t67, t68, t69, t70, t71, rfl, rfl, w0, (fun h => by cases h), (fun h => by cases h), (fun h => by cases h), (fun h => by cases h), (fun h => by cases h), (fun h => by cases h), (fun h => by cases h), (fun h => by cases h), (fun h => by cases h), (fun h => by cases h), (fun h => by cases h), (fun h => by cases h), (fun h => by cases h), (fun h => by cases h), (fun h => by cases h), (fun h => by cases h), (fun h => by cases h), (fun h => by cases h), (fun h => by cases h), (fun h => by cases h), (fun h => by cases h), (fun h => by cases h), (fun h => by cases h), (fun h => by cases h), (fun h => by cases h), (fun h => by cases h), (fun h => by cases h), (fun h => by cases h), (fun h => by cases h), (fun h => by cases h), (fun h => by cases h), (fun h => by cases h), (fun h => by cases h), (fun h => by cases h), (fun h => by cases h), (fun h => by cases h), (fun h => by cases h), (fun h => by cases h)⟩
noncomputable def rO0O : Array Oper := (Tryd.f5.body.bind fun c => findR c 9).getD #[]
def rO0I (PW : Bool → Bool → World → Prop) (d r q : Nat) (na nb cd : Int) (t0 t1 t2 t4 t6 t8 t10 t12 t13 t14 t15 t16 t17 t18 t19 t20 t21 t22 t23 t24 t25 t26 t27 t28 t29 t30 t31 t32 t33 t34 t35 t36 t37 t38 t39 t40 t41 t42 t43 t44 t45 t46 t47 t48 t49 t50 t51 t72 t73 t74 t75 t76 t77 t78 t79 t80 t81 t82 t83 t84 t85 t86 t87 t88 t89 t90 t91 t92 t93 t94 t95 t96 t97 t98 t99 t100 t101 t102 t103 t104 t105 t106 : Value) (ds : List Deferred) (l : Array Bool) (a : Act) (w : World) : Prop :=
  ∃ j0 j1 j2 j3 j4 j5 j6 j7 j8 j9 j10 j11 j12 j13 j14 j15 j16 j17 j18 j19 : Bool, ∃ x0 x1 x2 x3 x4 x5 x6 x7 x8 x9 x10 x11 x12 x13 x14 x15 x16 x17 x18 x19 : Value, l = #[j0, j1, j2, j3, j4, j5, j6, j7, j8, j9, j10, j11, j12, j13, j14, j15, j16, j17, j18, j19] ∧ a = { tmps := #[t0, t1, t2, .pointer (some ⟨q, 0, none⟩), t4, .pointer (some ⟨d, 0, none⟩), t6, .pointer (some ⟨r, 0, none⟩), t8, .pointer none, t10, .pointer none, t12, t13, t14, t15, t16, t17, t18, t19, t20, t21, t22, t23, t24, t25, t26, t27, t28, t29, t30, t31, t32, t33, t34, t35, t36, t37, t38, t39, t40, t41, t42, t43, t44, t45, t46, t47, t48, t49, t50, t51, x0, x1, x2, x3, x4, x5, x6, x7, x8, x9, x10, x11, x12, x13, x14, x15, x16, x17, x18, x19, t72, t73, t74, t75, t76, t77, t78, t79, t80, t81, t82, t83, t84, t85, t86, t87, t88, t89, t90, t91, t92, t93, t94, t95, t96, t97, t98, t99, t100, t101, t102, t103, t104, t105, t106], defers := ds } ∧ PW j11 j17 w ∧
  (j0 = true → x0 = .pointer none) ∧ (j1 = true → x1 = .bool true) ∧ (j2 = true → x2 = .pointer none) ∧ (j3 = true → x3 = .bool true) ∧ (j4 = true → x4 = .bool false) ∧ (j5 = true → x5 = .bool false) ∧ (j6 = true → x6 = .pointer (some ⟨d, 0, none⟩)) ∧ (j7 = true → x7 = .pointer (some ⟨q, 2, none⟩)) ∧ (j8 = true → x8 = .int .i64 na) ∧ (j9 = true → x9 = .pointer (some ⟨q, 3, none⟩)) ∧ (j10 = true → x10 = .int .i64 nb) ∧ (j11 = true → x11 = .int .i64 cd) ∧ (j12 = true → x12 = .pointer (some ⟨r, 0, none⟩)) ∧ (j13 = true → x13 = .pointer (some ⟨q, 2, none⟩)) ∧ (j14 = true → x14 = .int .i64 na) ∧ (j15 = true → x15 = .pointer (some ⟨q, 3, none⟩)) ∧ (j16 = true → x16 = .int .i64 nb) ∧ (j17 = true → x17 = .int .i64 cd) ∧ (j18 = true → x18 = .bool false) ∧ (j19 = true → x19 = .bool false) ∧
  (j1 = true → j0 = true) ∧ (j3 = true → j2 = true) ∧ (j4 = true → j1 = true ∧ j3 = true) ∧ (j5 = true → j4 = true) ∧ (j6 = true → j5 = true) ∧ (j7 = true → j5 = true) ∧ (j8 = true → j5 = true ∧ j7 = true) ∧ (j9 = true → j5 = true) ∧ (j10 = true → j5 = true ∧ j9 = true) ∧ (j11 = true → j5 = true ∧ j6 = true ∧ j8 = true ∧ j10 = true) ∧ (j12 = true → j5 = true) ∧ (j13 = true → j5 = true) ∧ (j14 = true → j5 = true ∧ j13 = true) ∧ (j15 = true → j5 = true) ∧ (j16 = true → j5 = true ∧ j15 = true) ∧ (j17 = true → j5 = true ∧ j11 = true ∧ j12 = true ∧ j14 = true ∧ j16 = true) ∧ (j18 = true → j5 = true ∧ j11 = true ∧ j17 = true) ∧ (j19 = true → j5 = true ∧ j18 = true)
set_option maxHeartbeats 16000000 in
theorem rO0_none (PW : Bool → Bool → World → Prop) (d r q : Nat) (na nb cd : Int) {t0 t1 t2 t4 t6 t8 t10 t12 t13 t14 t15 t16 t17 t18 t19 t20 t21 t22 t23 t24 t25 t26 t27 t28 t29 t30 t31 t32 t33 t34 t35 t36 t37 t38 t39 t40 t41 t42 t43 t44 t45 t46 t47 t48 t49 t50 t51 t72 t73 t74 t75 t76 t77 t78 t79 t80 t81 t82 t83 t84 t85 t86 t87 t88 t89 t90 t91 t92 t93 t94 t95 t96 t97 t98 t99 t100 t101 t102 t103 t104 t105 t106 : Value} {ds : List Deferred} : ∀ l a w1, rO0I PW d r q na nb cd t0 t1 t2 t4 t6 t8 t10 t12 t13 t14 t15 t16 t17 t18 t19 t20 t21 t22 t23 t24 t25 t26 t27 t28 t29 t30 t31 t32 t33 t34 t35 t36 t37 t38 t39 t40 t41 t42 t43 t44 t45 t46 t47 t48 t49 t50 t51 t72 t73 t74 t75 t76 t77 t78 t79 t80 t81 t82 t83 t84 t85 t86 t87 t88 t89 t90 t91 t92 t93 t94 t95 t96 t97 t98 t99 t100 t101 t102 t103 t104 t105 t106 ds l a w1 → Region.ready .any rO0O l = [] → left l = 0 := by
  simp only [rO0O, findR, Tryd.f5, Option.bind_some, Option.or, Option.getD, Nat.reduceEqDiff, if_true, if_false, reduceIte]
  rintro l a w1 hI hr
  obtain ⟨j0, j1, j2, j3, j4, j5, j6, j7, j8, j9, j10, j11, j12, j13, j14, j15, j16, j17, j18, j19, x0, x1, x2, x3, x4, x5, x6, x7, x8, x9, x10, x11, x12, x13, x14, x15, x16, x17, x18, x19, rfl, rfl, hW, h0, h1, h2, h3, h4, h5, h6, h7, h8, h9, h10, h11, h12, h13, h14, h15, h16, h17, h18, h19, k1, k3, k4, k5, k6, k7, k8, k9, k10, k11, k12, k13, k14, k15, k16, k17, k18, k19⟩ := hI
  have hn := fun i => List.eq_nil_iff_forall_not_mem.1 hr i
  clear hr
  have d0 : j0 = true := by
    cases hj : j0
    · exact absurd (mem_ready.2 ⟨by simp [hj], _, rfl, by simp [Region.binds, hj]⟩) (hn 0)
    · rfl
  subst d0
  have d1 : j1 = true := by
    cases hj : j1
    · exact absurd (mem_ready.2 ⟨by simp [hj], _, rfl, by simp [Region.binds, hj]⟩) (hn 1)
    · rfl
  subst d1
  have d2 : j2 = true := by
    cases hj : j2
    · exact absurd (mem_ready.2 ⟨by simp [hj], _, rfl, by simp [Region.binds, hj]⟩) (hn 2)
    · rfl
  subst d2
  have d3 : j3 = true := by
    cases hj : j3
    · exact absurd (mem_ready.2 ⟨by simp [hj], _, rfl, by simp [Region.binds, hj]⟩) (hn 3)
    · rfl
  subst d3
  have d4 : j4 = true := by
    cases hj : j4
    · exact absurd (mem_ready.2 ⟨by simp [hj], _, rfl, by simp [Region.binds, hj]⟩) (hn 4)
    · rfl
  subst d4
  have d5 : j5 = true := by
    cases hj : j5
    · exact absurd (mem_ready.2 ⟨by simp [hj], _, rfl, by simp [Region.binds, hj]⟩) (hn 5)
    · rfl
  subst d5
  have d6 : j6 = true := by
    cases hj : j6
    · exact absurd (mem_ready.2 ⟨by simp [hj], _, rfl, by simp [Region.binds, hj]⟩) (hn 6)
    · rfl
  subst d6
  have d7 : j7 = true := by
    cases hj : j7
    · exact absurd (mem_ready.2 ⟨by simp [hj], _, rfl, by simp [Region.binds, hj]⟩) (hn 7)
    · rfl
  subst d7
  have d8 : j8 = true := by
    cases hj : j8
    · exact absurd (mem_ready.2 ⟨by simp [hj], _, rfl, by simp [Region.binds, hj]⟩) (hn 8)
    · rfl
  subst d8
  have d9 : j9 = true := by
    cases hj : j9
    · exact absurd (mem_ready.2 ⟨by simp [hj], _, rfl, by simp [Region.binds, hj]⟩) (hn 9)
    · rfl
  subst d9
  have d10 : j10 = true := by
    cases hj : j10
    · exact absurd (mem_ready.2 ⟨by simp [hj], _, rfl, by simp [Region.binds, hj]⟩) (hn 10)
    · rfl
  subst d10
  have d11 : j11 = true := by
    cases hj : j11
    · exact absurd (mem_ready.2 ⟨by simp [hj], _, rfl, by simp [Region.binds, hj]⟩) (hn 11)
    · rfl
  subst d11
  have d12 : j12 = true := by
    cases hj : j12
    · exact absurd (mem_ready.2 ⟨by simp [hj], _, rfl, by simp [Region.binds, hj]⟩) (hn 12)
    · rfl
  subst d12
  have d13 : j13 = true := by
    cases hj : j13
    · exact absurd (mem_ready.2 ⟨by simp [hj], _, rfl, by simp [Region.binds, hj]⟩) (hn 13)
    · rfl
  subst d13
  have d14 : j14 = true := by
    cases hj : j14
    · exact absurd (mem_ready.2 ⟨by simp [hj], _, rfl, by simp [Region.binds, hj]⟩) (hn 14)
    · rfl
  subst d14
  have d15 : j15 = true := by
    cases hj : j15
    · exact absurd (mem_ready.2 ⟨by simp [hj], _, rfl, by simp [Region.binds, hj]⟩) (hn 15)
    · rfl
  subst d15
  have d16 : j16 = true := by
    cases hj : j16
    · exact absurd (mem_ready.2 ⟨by simp [hj], _, rfl, by simp [Region.binds, hj]⟩) (hn 16)
    · rfl
  subst d16
  have d17 : j17 = true := by
    cases hj : j17
    · exact absurd (mem_ready.2 ⟨by simp [hj], _, rfl, by simp [Region.binds, hj]⟩) (hn 17)
    · rfl
  subst d17
  have d18 : j18 = true := by
    cases hj : j18
    · exact absurd (mem_ready.2 ⟨by simp [hj], _, rfl, by simp [Region.binds, hj]⟩) (hn 18)
    · rfl
  subst d18
  have d19 : j19 = true := by
    cases hj : j19
    · exact absurd (mem_ready.2 ⟨by simp [hj], _, rfl, by simp [Region.binds, hj]⟩) (hn 19)
    · rfl
  subst d19
  rfl
set_option maxHeartbeats 16000000 in
theorem rO0_steps (PW : Bool → Bool → World → Prop) (d r q : Nat) (na nb cd : Int)  (la : ∀ (b0 b1 : Bool) (w : World), PW b0 b1 w → w.cell? ⟨q, 2, none⟩ = some (.int .i64 na)) (lb : ∀ (b0 b1 : Bool) (w : World), PW b0 b1 w → w.cell? ⟨q, 3, none⟩ = some (.int .i64 nb)) (cl11 : ∀ (w : World), PW false false w → Calls Tryd.prog 22 #[.pointer (some ⟨d, 0, none⟩), .int .i64 na, .int .i64 nb] w fun e w1 => e = .returned (.int .i64 cd) ∧ PW true false w1) (cl17 : ∀ (w : World), PW true false w → Calls Tryd.prog 23 #[.pointer (some ⟨r, 0, none⟩), .int .i64 na, .int .i64 nb] w fun e w1 => e = .returned (.int .i64 cd) ∧ PW true true w1)
    {t0 t1 t2 t4 t6 t8 t10 t12 t13 t14 t15 t16 t17 t18 t19 t20 t21 t22 t23 t24 t25 t26 t27 t28 t29 t30 t31 t32 t33 t34 t35 t36 t37 t38 t39 t40 t41 t42 t43 t44 t45 t46 t47 t48 t49 t50 t51 t72 t73 t74 t75 t76 t77 t78 t79 t80 t81 t82 t83 t84 t85 t86 t87 t88 t89 t90 t91 t92 t93 t94 t95 t96 t97 t98 t99 t100 t101 t102 t103 t104 t105 t106 : Value} {ds : List Deferred} {Q : Exit → Act → World → Prop} :
    ∀ l a w', rO0I PW d r q na nb cd t0 t1 t2 t4 t6 t8 t10 t12 t13 t14 t15 t16 t17 t18 t19 t20 t21 t22 t23 t24 t25 t26 t27 t28 t29 t30 t31 t32 t33 t34 t35 t36 t37 t38 t39 t40 t41 t42 t43 t44 t45 t46 t47 t48 t49 t50 t51 t72 t73 t74 t75 t76 t77 t78 t79 t80 t81 t82 t83 t84 t85 t86 t87 t88 t89 t90 t91 t92 t93 t94 t95 t96 t97 t98 t99 t100 t101 t102 t103 t104 t105 t106 ds l a w' → left l ≠ 0 → ∀ i ∈ Region.ready .any rO0O l, wpOp Tryd.prog rO0O Q i (fun a' w'' => rO0I PW d r q na nb cd t0 t1 t2 t4 t6 t8 t10 t12 t13 t14 t15 t16 t17 t18 t19 t20 t21 t22 t23 t24 t25 t26 t27 t28 t29 t30 t31 t32 t33 t34 t35 t36 t37 t38 t39 t40 t41 t42 t43 t44 t45 t46 t47 t48 t49 t50 t51 t72 t73 t74 t75 t76 t77 t78 t79 t80 t81 t82 t83 t84 t85 t86 t87 t88 t89 t90 t91 t92 t93 t94 t95 t96 t97 t98 t99 t100 t101 t102 t103 t104 t105 t106 ds (l.setIfInBounds i true) a' w'') a w' := by
  simp only [rO0O, findR, Tryd.f5, Option.bind_some, Option.or, Option.getD, Nat.reduceEqDiff, if_true, if_false, reduceIte]
  rintro l a w' hI hlt i hi
  clear hlt
  rw [mem_ready] at hi
  obtain ⟨hu, oo, ho, hd⟩ := hi
  have hin : i < 20 := by
    have := (Array.getElem?_eq_some_iff.1 ho).1
    simpa using this
  have hcase : i = 0 ∨ i = 1 ∨ i = 2 ∨ i = 3 ∨ i = 4 ∨ i = 5 ∨ i = 6 ∨ i = 7 ∨ i = 8 ∨ i = 9 ∨ i = 10 ∨ i = 11 ∨ i = 12 ∨ i = 13 ∨ i = 14 ∨ i = 15 ∨ i = 16 ∨ i = 17 ∨ i = 18 ∨ i = 19 := by omega
  obtain ⟨j0, j1, j2, j3, j4, j5, j6, j7, j8, j9, j10, j11, j12, j13, j14, j15, j16, j17, j18, j19, x0, x1, x2, x3, x4, x5, x6, x7, x8, x9, x10, x11, x12, x13, x14, x15, x16, x17, x18, x19, rfl, rfl, hW, h0, h1, h2, h3, h4, h5, h6, h7, h8, h9, h10, h11, h12, h13, h14, h15, h16, h17, h18, h19, k1, k3, k4, k5, k6, k7, k8, k9, k10, k11, k12, k13, k14, k15, k16, k17, k18, k19⟩ := hI
  replace h0 := Lib.hid h0
  replace h1 := Lib.hid h1
  replace h2 := Lib.hid h2
  replace h3 := Lib.hid h3
  replace h4 := Lib.hid h4
  replace h5 := Lib.hid h5
  replace h6 := Lib.hid h6
  replace h7 := Lib.hid h7
  replace h8 := Lib.hid h8
  replace h9 := Lib.hid h9
  replace h10 := Lib.hid h10
  replace h11 := Lib.hid h11
  replace h12 := Lib.hid h12
  replace h13 := Lib.hid h13
  replace h14 := Lib.hid h14
  replace h15 := Lib.hid h15
  replace h16 := Lib.hid h16
  replace h17 := Lib.hid h17
  replace h18 := Lib.hid h18
  replace h19 := Lib.hid h19
  replace k1 := Lib.hid k1
  replace k3 := Lib.hid k3
  replace k4 := Lib.hid k4
  replace k5 := Lib.hid k5
  replace k6 := Lib.hid k6
  replace k7 := Lib.hid k7
  replace k8 := Lib.hid k8
  replace k9 := Lib.hid k9
  replace k10 := Lib.hid k10
  replace k11 := Lib.hid k11
  replace k12 := Lib.hid k12
  replace k13 := Lib.hid k13
  replace k14 := Lib.hid k14
  replace k15 := Lib.hid k15
  replace k16 := Lib.hid k16
  replace k17 := Lib.hid k17
  replace k18 := Lib.hid k18
  replace k19 := Lib.hid k19
  rcases hcase with rfl | rfl | rfl | rfl | rfl | rfl | rfl | rfl | rfl | rfl | rfl | rfl | rfl | rfl | rfl | rfl | rfl | rfl | rfl | rfl
  · obtain rfl := Option.some.inj ho
    simp [Region.binds] at hu hd
    subst hu
    clear hd
    clear la lb cl11 cl17
    refine wpOp_of rfl rfl ?_
    go_simp
    unfold rO0I
    exact ⟨true, j1, j2, j3, j4, j5, j6, j7, j8, j9, j10, j11, j12, j13, j14, j15, j16, j17, j18, j19, _, x1, x2, x3, x4, x5, x6, x7, x8, x9, x10, x11, x12, x13, x14, x15, x16, x17, x18, x19, rfl, rfl, hW, fun _ => rfl, h1.out, h2.out, h3.out, h4.out, h5.out, h6.out, h7.out, h8.out, h9.out, h10.out, h11.out, h12.out, h13.out, h14.out, h15.out, h16.out, h17.out, h18.out, h19.out, (fun hj => absurd ((k1.out hj)) (by simp)), k3.out, k4.out, k5.out, k6.out, k7.out, k8.out, k9.out, k10.out, k11.out, k12.out, k13.out, k14.out, k15.out, k16.out, k17.out, k18.out, k19.out⟩
  · obtain rfl := Option.some.inj ho
    simp [Region.binds] at hu hd
    have d0 : j0 = true := by simp [hd]
    have e0 := h0.out d0
    subst e0
    subst d0
    subst hu
    clear hd
    clear la lb cl11 cl17
    refine wpOp_of rfl rfl ?_
    go_simp
    unfold rO0I
    exact ⟨true, true, j2, j3, j4, j5, j6, j7, j8, j9, j10, j11, j12, j13, j14, j15, j16, j17, j18, j19, _, _, x2, x3, x4, x5, x6, x7, x8, x9, x10, x11, x12, x13, x14, x15, x16, x17, x18, x19, rfl, rfl, hW, h0.out, fun _ => rfl, h2.out, h3.out, h4.out, h5.out, h6.out, h7.out, h8.out, h9.out, h10.out, h11.out, h12.out, h13.out, h14.out, h15.out, h16.out, h17.out, h18.out, h19.out, fun _ => rfl, k3.out, (fun hj => absurd ((k4.out hj).1) (by simp)), k5.out, k6.out, k7.out, k8.out, k9.out, k10.out, k11.out, k12.out, k13.out, k14.out, k15.out, k16.out, k17.out, k18.out, k19.out⟩
  · obtain rfl := Option.some.inj ho
    simp [Region.binds] at hu hd
    subst hu
    clear hd
    clear la lb cl11 cl17
    refine wpOp_of rfl rfl ?_
    go_simp
    unfold rO0I
    exact ⟨j0, j1, true, j3, j4, j5, j6, j7, j8, j9, j10, j11, j12, j13, j14, j15, j16, j17, j18, j19, x0, x1, _, x3, x4, x5, x6, x7, x8, x9, x10, x11, x12, x13, x14, x15, x16, x17, x18, x19, rfl, rfl, hW, h0.out, h1.out, fun _ => rfl, h3.out, h4.out, h5.out, h6.out, h7.out, h8.out, h9.out, h10.out, h11.out, h12.out, h13.out, h14.out, h15.out, h16.out, h17.out, h18.out, h19.out, k1.out, (fun hj => absurd ((k3.out hj)) (by simp)), k4.out, k5.out, k6.out, k7.out, k8.out, k9.out, k10.out, k11.out, k12.out, k13.out, k14.out, k15.out, k16.out, k17.out, k18.out, k19.out⟩
  · obtain rfl := Option.some.inj ho
    simp [Region.binds] at hu hd
    have d2 : j2 = true := by simp [hd]
    have e2 := h2.out d2
    subst e2
    subst d2
    subst hu
    clear hd
    clear la lb cl11 cl17
    refine wpOp_of rfl rfl ?_
    go_simp
    unfold rO0I
    exact ⟨j0, j1, true, true, j4, j5, j6, j7, j8, j9, j10, j11, j12, j13, j14, j15, j16, j17, j18, j19, x0, x1, _, _, x4, x5, x6, x7, x8, x9, x10, x11, x12, x13, x14, x15, x16, x17, x18, x19, rfl, rfl, hW, h0.out, h1.out, h2.out, fun _ => rfl, h4.out, h5.out, h6.out, h7.out, h8.out, h9.out, h10.out, h11.out, h12.out, h13.out, h14.out, h15.out, h16.out, h17.out, h18.out, h19.out, k1.out, fun _ => rfl, (fun hj => absurd ((k4.out hj).2) (by simp)), k5.out, k6.out, k7.out, k8.out, k9.out, k10.out, k11.out, k12.out, k13.out, k14.out, k15.out, k16.out, k17.out, k18.out, k19.out⟩
  · obtain rfl := Option.some.inj ho
    simp [Region.binds] at hu hd
    have d1 : j1 = true := by simp [hd]
    have d3 : j3 = true := by simp [hd]
    have e1 := h1.out d1
    subst e1
    have e3 := h3.out d3
    subst e3
    subst d1
    subst d3
    subst hu
    clear hd
    clear la lb cl11 cl17
    refine wpOp_of rfl rfl ?_
    go_simp
    unfold rO0I
    exact ⟨j0, true, j2, true, true, j5, j6, j7, j8, j9, j10, j11, j12, j13, j14, j15, j16, j17, j18, j19, x0, _, x2, _, _, x5, x6, x7, x8, x9, x10, x11, x12, x13, x14, x15, x16, x17, x18, x19, rfl, rfl, hW, h0.out, h1.out, h2.out, h3.out, fun _ => rfl, h5.out, h6.out, h7.out, h8.out, h9.out, h10.out, h11.out, h12.out, h13.out, h14.out, h15.out, h16.out, h17.out, h18.out, h19.out, k1.out, k3.out, fun _ => ⟨rfl, rfl⟩, (fun hj => absurd ((k5.out hj)) (by simp)), k6.out, k7.out, k8.out, k9.out, k10.out, k11.out, k12.out, k13.out, k14.out, k15.out, k16.out, k17.out, k18.out, k19.out⟩
  · obtain rfl := Option.some.inj ho
    simp [Region.binds] at hu hd
    have d4 : j4 = true := by simp [hd]
    have e4 := h4.out d4
    subst e4
    subst d4
    subst hu
    clear hd
    clear la lb cl11 cl17
    refine wpOp_of rfl rfl ?_
    go_simp
    unfold rO0I
    exact ⟨j0, j1, j2, j3, true, true, j6, j7, j8, j9, j10, j11, j12, j13, j14, j15, j16, j17, j18, j19, x0, x1, x2, x3, _, _, x6, x7, x8, x9, x10, x11, x12, x13, x14, x15, x16, x17, x18, x19, rfl, rfl, hW, h0.out, h1.out, h2.out, h3.out, h4.out, fun _ => rfl, h6.out, h7.out, h8.out, h9.out, h10.out, h11.out, h12.out, h13.out, h14.out, h15.out, h16.out, h17.out, h18.out, h19.out, k1.out, k3.out, k4.out, fun _ => rfl, (fun hj => absurd ((k6.out hj)) (by simp)), (fun hj => absurd ((k7.out hj)) (by simp)), (fun hj => absurd ((k8.out hj).1) (by simp)), (fun hj => absurd ((k9.out hj)) (by simp)), (fun hj => absurd ((k10.out hj).1) (by simp)), (fun hj => absurd ((k11.out hj).1) (by simp)), (fun hj => absurd ((k12.out hj)) (by simp)), (fun hj => absurd ((k13.out hj)) (by simp)), (fun hj => absurd ((k14.out hj).1) (by simp)), (fun hj => absurd ((k15.out hj)) (by simp)), (fun hj => absurd ((k16.out hj).1) (by simp)), (fun hj => absurd ((k17.out hj).1) (by simp)), (fun hj => absurd ((k18.out hj).1) (by simp)), (fun hj => absurd ((k19.out hj).1) (by simp))⟩
  · obtain rfl := Option.some.inj ho
    simp [Region.binds] at hu hd
    have d5 : j5 = true := by simp [hd]
    have e5 := h5.out d5
    subst e5
    subst d5
    subst hu
    clear hd
    clear la lb cl11 cl17
    refine wpOp_ofw rfl rfl ?_
    go_simp
    unfold rO0I
    exact ⟨j0, j1, j2, j3, j4, true, true, j7, j8, j9, j10, j11, j12, j13, j14, j15, j16, j17, j18, j19, x0, x1, x2, x3, x4, _, _, x7, x8, x9, x10, x11, x12, x13, x14, x15, x16, x17, x18, x19, rfl, rfl, hW, h0.out, h1.out, h2.out, h3.out, h4.out, h5.out, fun _ => rfl, h7.out, h8.out, h9.out, h10.out, h11.out, h12.out, h13.out, h14.out, h15.out, h16.out, h17.out, h18.out, h19.out, k1.out, k3.out, k4.out, k5.out, fun _ => rfl, k7.out, k8.out, k9.out, k10.out, (fun hj => absurd ((k11.out hj).2.1) (by simp)), k12.out, k13.out, k14.out, k15.out, k16.out, k17.out, k18.out, k19.out⟩
  · obtain rfl := Option.some.inj ho
    simp [Region.binds] at hu hd
    have d5 : j5 = true := by simp [hd]
    have e5 := h5.out d5
    subst e5
    subst d5
    subst hu
    clear hd
    clear la lb cl11 cl17
    refine wpOp_ofw rfl rfl ?_
    go_simp
    unfold rO0I
    exact ⟨j0, j1, j2, j3, j4, true, j6, true, j8, j9, j10, j11, j12, j13, j14, j15, j16, j17, j18, j19, x0, x1, x2, x3, x4, _, x6, _, x8, x9, x10, x11, x12, x13, x14, x15, x16, x17, x18, x19, rfl, rfl, hW, h0.out, h1.out, h2.out, h3.out, h4.out, h5.out, h6.out, fun _ => rfl, h8.out, h9.out, h10.out, h11.out, h12.out, h13.out, h14.out, h15.out, h16.out, h17.out, h18.out, h19.out, k1.out, k3.out, k4.out, k5.out, k6.out, fun _ => rfl, (fun hj => absurd ((k8.out hj).2) (by simp)), k9.out, k10.out, k11.out, k12.out, k13.out, k14.out, k15.out, k16.out, k17.out, k18.out, k19.out⟩
  · obtain rfl := Option.some.inj ho
    simp [Region.binds] at hu hd
    have d5 : j5 = true := by simp [hd]
    have d7 : j7 = true := by simp [hd]
    have e5 := h5.out d5
    subst e5
    have e7 := h7.out d7
    subst e7
    subst d5
    subst d7
    subst hu
    clear hd
    clear lb cl11 cl17
    have lc := la _ _ _ hW
    refine wpOp_ofw rfl rfl ?_
    go_simp
    unfold rO0I
    exact ⟨j0, j1, j2, j3, j4, true, j6, true, true, j9, j10, j11, j12, j13, j14, j15, j16, j17, j18, j19, x0, x1, x2, x3, x4, _, x6, _, _, x9, x10, x11, x12, x13, x14, x15, x16, x17, x18, x19, rfl, rfl, hW, h0.out, h1.out, h2.out, h3.out, h4.out, h5.out, h6.out, h7.out, fun _ => rfl, h9.out, h10.out, h11.out, h12.out, h13.out, h14.out, h15.out, h16.out, h17.out, h18.out, h19.out, k1.out, k3.out, k4.out, k5.out, k6.out, k7.out, fun _ => ⟨rfl, rfl⟩, k9.out, k10.out, (fun hj => absurd ((k11.out hj).2.2.1) (by simp)), k12.out, k13.out, k14.out, k15.out, k16.out, k17.out, k18.out, k19.out⟩
  · obtain rfl := Option.some.inj ho
    simp [Region.binds] at hu hd
    have d5 : j5 = true := by simp [hd]
    have e5 := h5.out d5
    subst e5
    subst d5
    subst hu
    clear hd
    clear la lb cl11 cl17
    refine wpOp_ofw rfl rfl ?_
    go_simp
    unfold rO0I
    exact ⟨j0, j1, j2, j3, j4, true, j6, j7, j8, true, j10, j11, j12, j13, j14, j15, j16, j17, j18, j19, x0, x1, x2, x3, x4, _, x6, x7, x8, _, x10, x11, x12, x13, x14, x15, x16, x17, x18, x19, rfl, rfl, hW, h0.out, h1.out, h2.out, h3.out, h4.out, h5.out, h6.out, h7.out, h8.out, fun _ => rfl, h10.out, h11.out, h12.out, h13.out, h14.out, h15.out, h16.out, h17.out, h18.out, h19.out, k1.out, k3.out, k4.out, k5.out, k6.out, k7.out, k8.out, fun _ => rfl, (fun hj => absurd ((k10.out hj).2) (by simp)), k11.out, k12.out, k13.out, k14.out, k15.out, k16.out, k17.out, k18.out, k19.out⟩
  · obtain rfl := Option.some.inj ho
    simp [Region.binds] at hu hd
    have d5 : j5 = true := by simp [hd]
    have d9 : j9 = true := by simp [hd]
    have e5 := h5.out d5
    subst e5
    have e9 := h9.out d9
    subst e9
    subst d5
    subst d9
    subst hu
    clear hd
    clear la cl11 cl17
    have lc := lb _ _ _ hW
    refine wpOp_ofw rfl rfl ?_
    go_simp
    unfold rO0I
    exact ⟨j0, j1, j2, j3, j4, true, j6, j7, j8, true, true, j11, j12, j13, j14, j15, j16, j17, j18, j19, x0, x1, x2, x3, x4, _, x6, x7, x8, _, _, x11, x12, x13, x14, x15, x16, x17, x18, x19, rfl, rfl, hW, h0.out, h1.out, h2.out, h3.out, h4.out, h5.out, h6.out, h7.out, h8.out, h9.out, fun _ => rfl, h11.out, h12.out, h13.out, h14.out, h15.out, h16.out, h17.out, h18.out, h19.out, k1.out, k3.out, k4.out, k5.out, k6.out, k7.out, k8.out, k9.out, fun _ => ⟨rfl, rfl⟩, (fun hj => absurd ((k11.out hj).2.2.2) (by simp)), k12.out, k13.out, k14.out, k15.out, k16.out, k17.out, k18.out, k19.out⟩
  · obtain rfl := Option.some.inj ho
    simp [Region.binds] at hu hd
    have d5 : j5 = true := by simp [hd]
    have d6 : j6 = true := by simp [hd]
    have d8 : j8 = true := by simp [hd]
    have d10 : j10 = true := by simp [hd]
    have d9 : j9 = true := (k10.out d10).2
    have d7 : j7 = true := (k8.out d8).2
    have d4 : j4 = true := (k5.out d5)
    have d1 : j1 = true := (k4.out d4).1
    have d3 : j3 = true := (k4.out d4).2
    have d2 : j2 = true := (k3.out d3)
    have d0 : j0 = true := (k1.out d1)
    have z17 : j17 = false := by
      cases hj : j17
      · rfl
      · exact absurd ((k17.out hj).2.1) (by simp [hu])
    have e5 := h5.out d5
    subst e5
    have e6 := h6.out d6
    subst e6
    have e8 := h8.out d8
    subst e8
    have e10 := h10.out d10
    subst e10
    have e9 := h9.out d9
    subst e9
    have e7 := h7.out d7
    subst e7
    have e4 := h4.out d4
    subst e4
    have e1 := h1.out d1
    subst e1
    have e3 := h3.out d3
    subst e3
    have e2 := h2.out d2
    subst e2
    have e0 := h0.out d0
    subst e0
    subst d5
    subst d6
    subst d8
    subst d10
    subst d9
    subst d7
    subst d4
    subst d1
    subst d3
    subst d2
    subst d0
    subst z17
    subst hu
    clear hd
    clear la lb cl17
    refine wpOp_ofw rfl rfl ?_
    go_simp
    go_at_call 22
    refine (cl11 _ hW).mono ?_
    rintro e w2 ⟨rfl, hW2⟩
    unfold rO0I
    exact ⟨true, true, true, true, true, true, true, true, true, true, true, true, j12, j13, j14, j15, j16, false, j18, j19, _, _, _, _, _, _, _, _, _, _, _, _, x12, x13, x14, x15, x16, x17, x18, x19, rfl, rfl, hW2, h0.out, h1.out, h2.out, h3.out, h4.out, h5.out, h6.out, h7.out, h8.out, h9.out, h10.out, fun _ => rfl, h12.out, h13.out, h14.out, h15.out, h16.out, h17.out, h18.out, h19.out, k1.out, k3.out, k4.out, k5.out, k6.out, k7.out, k8.out, k9.out, k10.out, fun _ => ⟨rfl, rfl, rfl, rfl⟩, k12.out, k13.out, k14.out, k15.out, k16.out, (fun hj => absurd ((k17.out hj).2.1) (by simp)), (fun hj => absurd ((k18.out hj).2.1) (by simp)), k19.out⟩
  · obtain rfl := Option.some.inj ho
    simp [Region.binds] at hu hd
    have d5 : j5 = true := by simp [hd]
    have e5 := h5.out d5
    subst e5
    subst d5
    subst hu
    clear hd
    clear la lb cl11 cl17
    refine wpOp_ofw rfl rfl ?_
    go_simp
    unfold rO0I
    exact ⟨j0, j1, j2, j3, j4, true, j6, j7, j8, j9, j10, j11, true, j13, j14, j15, j16, j17, j18, j19, x0, x1, x2, x3, x4, _, x6, x7, x8, x9, x10, x11, _, x13, x14, x15, x16, x17, x18, x19, rfl, rfl, hW, h0.out, h1.out, h2.out, h3.out, h4.out, h5.out, h6.out, h7.out, h8.out, h9.out, h10.out, h11.out, fun _ => rfl, h13.out, h14.out, h15.out, h16.out, h17.out, h18.out, h19.out, k1.out, k3.out, k4.out, k5.out, k6.out, k7.out, k8.out, k9.out, k10.out, k11.out, fun _ => rfl, k13.out, k14.out, k15.out, k16.out, (fun hj => absurd ((k17.out hj).2.2.1) (by simp)), k18.out, k19.out⟩
  · obtain rfl := Option.some.inj ho
    simp [Region.binds] at hu hd
    have d5 : j5 = true := by simp [hd]
    have e5 := h5.out d5
    subst e5
    subst d5
    subst hu
    clear hd
    clear la lb cl11 cl17
    refine wpOp_ofw rfl rfl ?_
    go_simp
    unfold rO0I
    exact ⟨j0, j1, j2, j3, j4, true, j6, j7, j8, j9, j10, j11, j12, true, j14, j15, j16, j17, j18, j19, x0, x1, x2, x3, x4, _, x6, x7, x8, x9, x10, x11, x12, _, x14, x15, x16, x17, x18, x19, rfl, rfl, hW, h0.out, h1.out, h2.out, h3.out, h4.out, h5.out, h6.out, h7.out, h8.out, h9.out, h10.out, h11.out, h12.out, fun _ => rfl, h14.out, h15.out, h16.out, h17.out, h18.out, h19.out, k1.out, k3.out, k4.out, k5.out, k6.out, k7.out, k8.out, k9.out, k10.out, k11.out, k12.out, fun _ => rfl, (fun hj => absurd ((k14.out hj).2) (by simp)), k15.out, k16.out, k17.out, k18.out, k19.out⟩
  · obtain rfl := Option.some.inj ho
    simp [Region.binds] at hu hd
    have d5 : j5 = true := by simp [hd]
    have d13 : j13 = true := by simp [hd]
    have e5 := h5.out d5
    subst e5
    have e13 := h13.out d13
    subst e13
    subst d5
    subst d13
    subst hu
    clear hd
    clear lb cl11 cl17
    have lc := la _ _ _ hW
    refine wpOp_ofw rfl rfl ?_
    go_simp
    unfold rO0I
    exact ⟨j0, j1, j2, j3, j4, true, j6, j7, j8, j9, j10, j11, j12, true, true, j15, j16, j17, j18, j19, x0, x1, x2, x3, x4, _, x6, x7, x8, x9, x10, x11, x12, _, _, x15, x16, x17, x18, x19, rfl, rfl, hW, h0.out, h1.out, h2.out, h3.out, h4.out, h5.out, h6.out, h7.out, h8.out, h9.out, h10.out, h11.out, h12.out, h13.out, fun _ => rfl, h15.out, h16.out, h17.out, h18.out, h19.out, k1.out, k3.out, k4.out, k5.out, k6.out, k7.out, k8.out, k9.out, k10.out, k11.out, k12.out, k13.out, fun _ => ⟨rfl, rfl⟩, k15.out, k16.out, (fun hj => absurd ((k17.out hj).2.2.2.1) (by simp)), k18.out, k19.out⟩
  · obtain rfl := Option.some.inj ho
    simp [Region.binds] at hu hd
    have d5 : j5 = true := by simp [hd]
    have e5 := h5.out d5
    subst e5
    subst d5
    subst hu
    clear hd
    clear la lb cl11 cl17
    refine wpOp_ofw rfl rfl ?_
    go_simp
    unfold rO0I
    exact ⟨j0, j1, j2, j3, j4, true, j6, j7, j8, j9, j10, j11, j12, j13, j14, true, j16, j17, j18, j19, x0, x1, x2, x3, x4, _, x6, x7, x8, x9, x10, x11, x12, x13, x14, _, x16, x17, x18, x19, rfl, rfl, hW, h0.out, h1.out, h2.out, h3.out, h4.out, h5.out, h6.out, h7.out, h8.out, h9.out, h10.out, h11.out, h12.out, h13.out, h14.out, fun _ => rfl, h16.out, h17.out, h18.out, h19.out, k1.out, k3.out, k4.out, k5.out, k6.out, k7.out, k8.out, k9.out, k10.out, k11.out, k12.out, k13.out, k14.out, fun _ => rfl, (fun hj => absurd ((k16.out hj).2) (by simp)), k17.out, k18.out, k19.out⟩
  · obtain rfl := Option.some.inj ho
    simp [Region.binds] at hu hd
    have d5 : j5 = true := by simp [hd]
    have d15 : j15 = true := by simp [hd]
    have e5 := h5.out d5
    subst e5
    have e15 := h15.out d15
    subst e15
    subst d5
    subst d15
    subst hu
    clear hd
    clear la cl11 cl17
    have lc := lb _ _ _ hW
    refine wpOp_ofw rfl rfl ?_
    go_simp
    unfold rO0I
    exact ⟨j0, j1, j2, j3, j4, true, j6, j7, j8, j9, j10, j11, j12, j13, j14, true, true, j17, j18, j19, x0, x1, x2, x3, x4, _, x6, x7, x8, x9, x10, x11, x12, x13, x14, _, _, x17, x18, x19, rfl, rfl, hW, h0.out, h1.out, h2.out, h3.out, h4.out, h5.out, h6.out, h7.out, h8.out, h9.out, h10.out, h11.out, h12.out, h13.out, h14.out, h15.out, fun _ => rfl, h17.out, h18.out, h19.out, k1.out, k3.out, k4.out, k5.out, k6.out, k7.out, k8.out, k9.out, k10.out, k11.out, k12.out, k13.out, k14.out, k15.out, fun _ => ⟨rfl, rfl⟩, (fun hj => absurd ((k17.out hj).2.2.2.2) (by simp)), k18.out, k19.out⟩
  · obtain rfl := Option.some.inj ho
    simp [Region.binds] at hu hd
    have d5 : j5 = true := by simp [hd]
    have d11 : j11 = true := by simp [hd]
    have d12 : j12 = true := by simp [hd]
    have d14 : j14 = true := by simp [hd]
    have d16 : j16 = true := by simp [hd]
    have d15 : j15 = true := (k16.out d16).2
    have d13 : j13 = true := (k14.out d14).2
    have d6 : j6 = true := (k11.out d11).2.1
    have d8 : j8 = true := (k11.out d11).2.2.1
    have d10 : j10 = true := (k11.out d11).2.2.2
    have d9 : j9 = true := (k10.out d10).2
    have d7 : j7 = true := (k8.out d8).2
    have d4 : j4 = true := (k5.out d5)
    have d1 : j1 = true := (k4.out d4).1
    have d3 : j3 = true := (k4.out d4).2
    have d2 : j2 = true := (k3.out d3)
    have d0 : j0 = true := (k1.out d1)
    have e5 := h5.out d5
    subst e5
    have e11 := h11.out d11
    subst e11
    have e12 := h12.out d12
    subst e12
    have e14 := h14.out d14
    subst e14
    have e16 := h16.out d16
    subst e16
    have e15 := h15.out d15
    subst e15
    have e13 := h13.out d13
    subst e13
    have e6 := h6.out d6
    subst e6
    have e8 := h8.out d8
    subst e8
    have e10 := h10.out d10
    subst e10
    have e9 := h9.out d9
    subst e9
    have e7 := h7.out d7
    subst e7
    have e4 := h4.out d4
    subst e4
    have e1 := h1.out d1
    subst e1
    have e3 := h3.out d3
    subst e3
    have e2 := h2.out d2
    subst e2
    have e0 := h0.out d0
    subst e0
    subst d5
    subst d11
    subst d12
    subst d14
    subst d16
    subst d15
    subst d13
    subst d6
    subst d8
    subst d10
    subst d9
    subst d7
    subst d4
    subst d1
    subst d3
    subst d2
    subst d0
    subst hu
    clear hd
    clear la lb cl11
    refine wpOp_ofw rfl rfl ?_
    go_simp
    go_at_call 23
    refine (cl17 _ hW).mono ?_
    rintro e w2 ⟨rfl, hW2⟩
    unfold rO0I
    exact ⟨true, true, true, true, true, true, true, true, true, true, true, true, true, true, true, true, true, true, j18, j19, _, _, _, _, _, _, _, _, _, _, _, _, _, _, _, _, _, _, x18, x19, rfl, rfl, hW2, h0.out, h1.out, h2.out, h3.out, h4.out, h5.out, h6.out, h7.out, h8.out, h9.out, h10.out, h11.out, h12.out, h13.out, h14.out, h15.out, h16.out, fun _ => rfl, h18.out, h19.out, k1.out, k3.out, k4.out, k5.out, k6.out, k7.out, k8.out, k9.out, k10.out, k11.out, k12.out, k13.out, k14.out, k15.out, k16.out, fun _ => ⟨rfl, rfl, rfl, rfl, rfl⟩, (fun hj => absurd ((k18.out hj).2.2) (by simp)), k19.out⟩
  · obtain rfl := Option.some.inj ho
    simp [Region.binds] at hu hd
    have d5 : j5 = true := by simp [hd]
    have d11 : j11 = true := by simp [hd]
    have d17 : j17 = true := by simp [hd]
    have e5 := h5.out d5
    subst e5
    have e11 := h11.out d11
    subst e11
    have e17 := h17.out d17
    subst e17
    subst d5
    subst d11
    subst d17
    subst hu
    clear hd
    clear la lb cl11 cl17
    refine wpOp_ofw rfl rfl ?_
    go_simp
    unfold rO0I
    exact ⟨j0, j1, j2, j3, j4, true, j6, j7, j8, j9, j10, true, j12, j13, j14, j15, j16, true, true, j19, x0, x1, x2, x3, x4, _, x6, x7, x8, x9, x10, _, x12, x13, x14, x15, x16, _, _, x19, rfl, rfl, hW, h0.out, h1.out, h2.out, h3.out, h4.out, h5.out, h6.out, h7.out, h8.out, h9.out, h10.out, h11.out, h12.out, h13.out, h14.out, h15.out, h16.out, h17.out, fun _ => rfl, h19.out, k1.out, k3.out, k4.out, k5.out, k6.out, k7.out, k8.out, k9.out, k10.out, k11.out, k12.out, k13.out, k14.out, k15.out, k16.out, k17.out, fun _ => ⟨rfl, rfl, rfl⟩, (fun hj => absurd ((k19.out hj).2) (by simp))⟩
  · obtain rfl := Option.some.inj ho
    simp [Region.binds] at hu hd
    have d5 : j5 = true := by simp [hd]
    have d18 : j18 = true := by simp [hd]
    have e5 := h5.out d5
    subst e5
    have e18 := h18.out d18
    subst e18
    subst d5
    subst d18
    subst hu
    clear hd
    clear la lb cl11 cl17
    refine wpOp_of rfl rfl ?_
    go_simp
    unfold rO0I
    exact ⟨j0, j1, j2, j3, j4, true, j6, j7, j8, j9, j10, j11, j12, j13, j14, j15, j16, j17, true, true, x0, x1, x2, x3, x4, _, x6, x7, x8, x9, x10, x11, x12, x13, x14, x15, x16, x17, _, _, rfl, rfl, hW, h0.out, h1.out, h2.out, h3.out, h4.out, h5.out, h6.out, h7.out, h8.out, h9.out, h10.out, h11.out, h12.out, h13.out, h14.out, h15.out, h16.out, h17.out, h18.out, fun _ => rfl, k1.out, k3.out, k4.out, k5.out, k6.out, k7.out, k8.out, k9.out, k10.out, k11.out, k12.out, k13.out, k14.out, k15.out, k16.out, k17.out, k18.out, fun _ => ⟨rfl, rfl⟩⟩
set_option maxHeartbeats 16000000 in
theorem rO0 (PW : Bool → Bool → World → Prop) (d r q : Nat) (na nb cd : Int) (w : World) (w0 : PW false false w.drew)  (la : ∀ (b0 b1 : Bool) (w : World), PW b0 b1 w → w.cell? ⟨q, 2, none⟩ = some (.int .i64 na)) (lb : ∀ (b0 b1 : Bool) (w : World), PW b0 b1 w → w.cell? ⟨q, 3, none⟩ = some (.int .i64 nb)) (cl11 : ∀ (w : World), PW false false w → Calls Tryd.prog 22 #[.pointer (some ⟨d, 0, none⟩), .int .i64 na, .int .i64 nb] w fun e w1 => e = .returned (.int .i64 cd) ∧ PW true false w1) (cl17 : ∀ (w : World), PW true false w → Calls Tryd.prog 23 #[.pointer (some ⟨r, 0, none⟩), .int .i64 na, .int .i64 nb] w fun e w1 => e = .returned (.int .i64 cd) ∧ PW true true w1) {t0 t1 t2 t4 t6 t8 t10 t12 t13 t14 t15 t16 t17 t18 t19 t20 t21 t22 t23 t24 t25 t26 t27 t28 t29 t30 t31 t32 t33 t34 t35 t36 t37 t38 t39 t40 t41 t42 t43 t44 t45 t46 t47 t48 t49 t50 t51 t52 t53 t54 t55 t56 t57 t58 t59 t60 t61 t62 t63 t64 t65 t66 t67 t68 t69 t70 t71 t72 t73 t74 t75 t76 t77 t78 t79 t80 t81 t82 t83 t84 t85 t86 t87 t88 t89 t90 t91 t92 t93 t94 t95 t96 t97 t98 t99 t100 t101 t102 t103 t104 t105 t106 : Value} {ds : List Deferred} {Q : Exit → Act → World → Prop}
    (h : ∀ (w1 : World), PW true true w1 → Q .normal { tmps := #[t0, t1, t2, .pointer (some ⟨q, 0, none⟩), t4, .pointer (some ⟨d, 0, none⟩), t6, .pointer (some ⟨r, 0, none⟩), t8, .pointer none, t10, .pointer none, t12, t13, t14, t15, t16, t17, t18, t19, t20, t21, t22, t23, t24, t25, t26, t27, t28, t29, t30, t31, t32, t33, t34, t35, t36, t37, t38, t39, t40, t41, t42, t43, t44, t45, t46, t47, t48, t49, t50, t51, .pointer none, .bool true, .pointer none, .bool true, .bool false, .bool false, .pointer (some ⟨d, 0, none⟩), .pointer (some ⟨q, 2, none⟩), .int .i64 na, .pointer (some ⟨q, 3, none⟩), .int .i64 nb, .int .i64 cd, .pointer (some ⟨r, 0, none⟩), .pointer (some ⟨q, 2, none⟩), .int .i64 na, .pointer (some ⟨q, 3, none⟩), .int .i64 nb, .int .i64 cd, .bool false, .bool false, t72, t73, t74, t75, t76, t77, t78, t79, t80, t81, t82, t83, t84, t85, t86, t87, t88, t89, t90, t91, t92, t93, t94, t95, t96, t97, t98, t99, t100, t101, t102, t103, t104, t105, t106], defers := ds } w1) :
    (Code.region 9 rO0O true).wp Tryd.prog Q { tmps := #[t0, t1, t2, .pointer (some ⟨q, 0, none⟩), t4, .pointer (some ⟨d, 0, none⟩), t6, .pointer (some ⟨r, 0, none⟩), t8, .pointer none, t10, .pointer none, t12, t13, t14, t15, t16, t17, t18, t19, t20, t21, t22, t23, t24, t25, t26, t27, t28, t29, t30, t31, t32, t33, t34, t35, t36, t37, t38, t39, t40, t41, t42, t43, t44, t45, t46, t47, t48, t49, t50, t51, t52, t53, t54, t55, t56, t57, t58, t59, t60, t61, t62, t63, t64, t65, t66, t67, t68, t69, t70, t71, t72, t73, t74, t75, t76, t77, t78, t79, t80, t81, t82, t83, t84, t85, t86, t87, t88, t89, t90, t91, t92, t93, t94, t95, t96, t97, t98, t99, t100, t101, t102, t103, t104, t105, t106], defers := ds } w := by
  have hsz : rO0O.size = 20 := by kernel_rfl
  refine wp_region_any (show Tryd.prog.follows .mixedOrders = true from by kernel_rfl) ?_
  rw [hsz]
  refine wpAny_inv2 (I := rO0I PW d r q na nb cd t0 t1 t2 t4 t6 t8 t10 t12 t13 t14 t15 t16 t17 t18 t19 t20 t21 t22 t23 t24 t25 t26 t27 t28 t29 t30 t31 t32 t33 t34 t35 t36 t37 t38 t39 t40 t41 t42 t43 t44 t45 t46 t47 t48 t49 t50 t51 t72 t73 t74 t75 t76 t77 t78 t79 t80 t81 t82 t83 t84 t85 t86 t87 t88 t89 t90 t91 t92 t93 t94 t95 t96 t97 t98 t99 t100 t101 t102 t103 t104 t105 t106 ds) (g := 0) (rO0_none PW d r q na nb cd) (rO0_steps PW d r q na nb cd  la lb cl11 cl17) (fun l a w' hI hl => ?_) 20 _ _ _ (by decide) (by decide) ?_
  · obtain ⟨j0, j1, j2, j3, j4, j5, j6, j7, j8, j9, j10, j11, j12, j13, j14, j15, j16, j17, j18, j19, x0, x1, x2, x3, x4, x5, x6, x7, x8, x9, x10, x11, x12, x13, x14, x15, x16, x17, x18, x19, rfl, rfl, hW, h0, h1, h2, h3, h4, h5, h6, h7, h8, h9, h10, h11, h12, h13, h14, h15, h16, h17, h18, h19, k1, k3, k4, k5, k6, k7, k8, k9, k10, k11, k12, k13, k14, k15, k16, k17, k18, k19⟩ := hI
    have ha := left_zero hl
    simp only [List.mem_toArray, List.mem_cons, List.not_mem_nil, or_false, forall_eq_or_imp, forall_eq] at ha
    obtain ⟨d0, d1, d2, d3, d4, d5, d6, d7, d8, d9, d10, d11, d12, d13, d14, d15, d16, d17, d18, d19⟩ := ha
    subst d0
    subst d1
    subst d2
    subst d3
    subst d4
    subst d5
    subst d6
    subst d7
    subst d8
    subst d9
    subst d10
    subst d11
    subst d12
    subst d13
    subst d14
    subst d15
    subst d16
    subst d17
    subst d18
    subst d19
    obtain rfl := h0 rfl
    obtain rfl := h1 rfl
    obtain rfl := h2 rfl
    obtain rfl := h3 rfl
    obtain rfl := h4 rfl
    obtain rfl := h5 rfl
    obtain rfl := h6 rfl
    obtain rfl := h7 rfl
    obtain rfl := h8 rfl
    obtain rfl := h9 rfl
    obtain rfl := h10 rfl
    obtain rfl := h11 rfl
    obtain rfl := h12 rfl
    obtain rfl := h13 rfl
    obtain rfl := h14 rfl
    obtain rfl := h15 rfl
    obtain rfl := h16 rfl
    obtain rfl := h17 rfl
    obtain rfl := h18 rfl
    obtain rfl := h19 rfl
    exact ⟨by kernel_rfl, h _ hW⟩
  · exact ⟨false, false, false, false, false, false, false, false, false, false, false, false, false, false, false, false, false, false, false, false, t52, t53, t54, t55, t56, t57, t58, t59, t60, t61, t62, t63, t64, t65, t66, t67, t68, t69, t70, t71, rfl, rfl, w0, (fun h => by cases h), (fun h => by cases h), (fun h => by cases h), (fun h => by cases h), (fun h => by cases h), (fun h => by cases h), (fun h => by cases h), (fun h => by cases h), (fun h => by cases h), (fun h => by cases h), (fun h => by cases h), (fun h => by cases h), (fun h => by cases h), (fun h => by cases h), (fun h => by cases h), (fun h => by cases h), (fun h => by cases h), (fun h => by cases h), (fun h => by cases h), (fun h => by cases h), (fun h => by cases h), (fun h => by cases h), (fun h => by cases h), (fun h => by cases h), (fun h => by cases h), (fun h => by cases h), (fun h => by cases h), (fun h => by cases h), (fun h => by cases h), (fun h => by cases h), (fun h => by cases h), (fun h => by cases h), (fun h => by cases h), (fun h => by cases h), (fun h => by cases h), (fun h => by cases h), (fun h => by cases h), (fun h => by cases h)⟩
end Go.Proofs.YtmoihgniglomiaaDoor
