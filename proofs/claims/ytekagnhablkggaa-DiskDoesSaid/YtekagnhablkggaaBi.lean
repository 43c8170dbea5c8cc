/- DiskDoes: drawn regions of a call on both disks, and of what both show. No condition. -/
import Derived.Test.YtekagnhablkggaaBh
import Derived.Test.YtekagnhablkggaaAa
set_option linter.unusedVariables false
set_option linter.unusedSimpArgs false
set_option maxRecDepth 100000
namespace Go.Proofs.Ytekagnhablkggaa
open Go.RowKit Go.Sort

section
variable {P : Program} {ops : Array Oper} {md : Region.Mode} {Q : Exit → Act → World → Prop}
theorem ready_left {l : Array Bool} {i : Nat} (h : i ∈ Region.ready md ops l) : left (l.setIfInBounds i true) + 1 = left l := left_set (mem_ready.1 h).1
theorem wpAny_inv {I : Array Bool → Act → World → Prop} (step : ∀ l a w, I l a w → ∀ i ∈ Region.ready md ops l, wpOp P ops Q i (fun a' w' => I (l.setIfInBounds i true) a' w') a w)
    (fin : ∀ l a w, I l a w → Region.ready md ops l = [] → Q .normal a w) : ∀ (fuel : Nat) (l : Array Bool) (a : Act) (w : World), left l ≤ fuel → I l a w → wpAny P md ops Q fuel l a w
  | 0, l, a, w, hf, h => by
    have h0 : Region.ready md ops l = [] := by
      rw [List.eq_nil_iff_forall_not_mem]
      intro i hi
      have := ready_left hi
      omega
    exact ⟨h0, fin l a w h h0⟩
  | fuel + 1, l, a, w, hf, h => by
    refine ⟨fun h0 => fin l a w h h0, fun i hi => ?_⟩
    have hl := ready_left hi
    exact wpOp_mono (fun a' w' h' => wpAny_inv step fin fuel _ a' w' (by omega) h') (step l a w h i hi)
end
theorem wpOp_want {P : Program} {ops : Array Oper} {Q : Exit → Act → World → Prop} {i : Nat} {o : Oper} {K : Act → World → Prop} {a : Act} {w : World} (hi : ops[i]? = some o) (hw : Region.wanted o (yielded ops a.tmps) = true) (h : o.wp P a w K Q) : wpOp P ops Q i K a w := by
  unfold wpOp
  simp only [hi]
  rw [if_pos hw]
  exact .inl h
/-- a row of two texts -/
def RP (w : World) (v : Value) (p : List UInt8 × List UInt8) : Prop := Two 0 w v p.1 p.2
theorem RP.below {w w' : World} {v : Value} {p : List UInt8 × List UInt8} (h : RP w v p) (hb : Below w.heap.size w w') : RP w' v p := Two.below h hb
theorem qk {f : FuncId} {args : Array Value} {W : World} {p : List UInt8 × List UInt8} (B : Nat) (w : World) (h : Calls Try.prog f args W fun e w' => ∃ v', e = .returned v' ∧ RP w' v' p ∧ Below W.heap.size W w') (hb : Below B w W) (hB : B ≤ w.heap.size) :
    Calls Try.prog f args W fun e w' => ∃ v', e = .returned v' ∧ RP w' v' p ∧ Below B w w' ∧ Below W.heap.size W w' :=
  h.mono fun _ _ ⟨v', h1, h2, h3⟩ => ⟨v', h1, h2, hb.trans (h3.mono (Nat.le_trans hB hb.size)), h3⟩
theorem same_rp (w : World) (v v' : Value) (p : List UInt8 × List UInt8) (h : RP w v p) (h' : RP w v' p) :
    Calls Try.prog 19 #[v, v'] w fun e w' => e = .returned (.bool true) ∧ Below w.heap.size w w' := same_two w v v' p.1 p.2 0 0 h h'
theorem eq9 (s : ByteArray) (w : World) : (binOp .eql 9 (.string s) (.string s)).run Try.prog w = .ok (.bool true) w := by
  go_simp
noncomputable def p7O : Array Oper := (Try.f13.body.bind fun c => findR c 7).getD #[]
def p7I (w0 : World) (b r g : Nat) (av bv : Int) (s : ByteArray) (R : World → Value → Prop) (t2 t3 t4 t6 t7 t8 t9 t10 t11 t12 t13 t14 t15 t16 t17 t18 t19 t20 t21 t22 t23 t24 t25 t26 t27 t28 t29 t30 t31 t32 t33 t34 t35 t36 t37 t38 t39 t40 t41 t42 t43 t44 t45 t46 t47 t48 t49 t50 t51 t52 t64 t65 t66 t67 t68 t69 t70 t71 t72 t73 t74 t75 t76 t77 t78 t79 t80 t81 t82 t83 t84 t85 t86 t87 t88 t89 t90 t91 t92 t93 t94 t95 t96 t97 t98 t99 t100 t101 t102 t103 t104 t105 t106 t107 t108 t109 t110 t111 t112 t113 t114 t115 t116 t117 t118 t119 t120 t121 t122 t123 t124 t125 t126 t127 t128 t129 t130 t131 t132 t133 t134 t135 t136 t137 t138 t139 t140 t141 t142 t143 t144 t145 t146 t147 t148 t149 t150 t151 t152 t153 t154 t155 t156 t157 t158 t159 t160 : Value) (ds : List Deferred) (l : Array Bool) (a : Act) (w : World) : Prop :=
  ∃ j0 j1 j2 j3 j4 j5 j6 j7 j8 j9 j10 : Bool, ∃ x0 x1 x2 x3 x4 x5 x6 x7 x8 x9 x10 : Value, l = #[j0, j1, j2, j3, j4, j5, j6, j7, j8, j9, j10, false, false, false] ∧ a = { tmps := #[.pointer (some ⟨b, 0, none⟩), .pointer (some ⟨r, 0, none⟩), t2, t3, t4, .pointer (some ⟨g, 0, none⟩), t6, t7, t8, t9, t10, t11, t12, t13, t14, t15, t16, t17, t18, t19, t20, t21, t22, t23, t24, t25, t26, t27, t28, t29, t30, t31, t32, t33, t34, t35, t36, t37, t38, t39, t40, t41, t42, t43, t44, t45, t46, t47, t48, t49, t50, t51, t52, x0, x1, x2, x3, x4, x5, x6, x7, x8, x9, x10, t64, t65, t66, t67, t68, t69, t70, t71, t72, t73, t74, t75, t76, t77, t78, t79, t80, t81, t82, t83, t84, t85, t86, t87, t88, t89, t90, t91, t92, t93, t94, t95, t96, t97, t98, t99, t100, t101, t102, t103, t104, t105, t106, t107, t108, t109, t110, t111, t112, t113, t114, t115, t116, t117, t118, t119, t120, t121, t122, t123, t124, t125, t126, t127, t128, t129, t130, t131, t132, t133, t134, t135, t136, t137, t138, t139, t140, t141, t142, t143, t144, t145, t146, t147, t148, t149, t150, t151, t152, t153, t154, t155, t156, t157, t158, t159, t160], defers := ds } ∧ (j5 = false → w = w0.drew) ∧
  (j0 = true → x0 = .pointer (some ⟨b, 0, none⟩)) ∧ (j1 = true → x1 = .pointer (some ⟨g, 2, none⟩)) ∧ (j2 = true → x2 = .int .i64 av) ∧ (j3 = true → x3 = .pointer (some ⟨g, 4, none⟩)) ∧ (j4 = true → x4 = .string s) ∧ (j5 = true → R w x5) ∧ (j6 = true → x6 = .pointer (some ⟨r, 0, none⟩)) ∧ (j7 = true → x7 = .pointer (some ⟨g, 2, none⟩)) ∧ (j8 = true → x8 = .int .i64 av) ∧ (j9 = true → x9 = .pointer (some ⟨g, 4, none⟩)) ∧ (j10 = true → x10 = .string s) ∧
  (j2 = true → j1 = true) ∧ (j4 = true → j3 = true) ∧ (j5 = true → j0 = true ∧ j2 = true ∧ j4 = true) ∧ (j8 = true → j7 = true) ∧ (j10 = true → j9 = true)
set_option maxHeartbeats 16000000 in
theorem p7_none (b r g : Nat) (av bv : Int) (s : ByteArray) (R : World → Value → Prop) (w : World) {t2 t3 t4 t6 t7 t8 t9 t10 t11 t12 t13 t14 t15 t16 t17 t18 t19 t20 t21 t22 t23 t24 t25 t26 t27 t28 t29 t30 t31 t32 t33 t34 t35 t36 t37 t38 t39 t40 t41 t42 t43 t44 t45 t46 t47 t48 t49 t50 t51 t52 t64 t65 t66 t67 t68 t69 t70 t71 t72 t73 t74 t75 t76 t77 t78 t79 t80 t81 t82 t83 t84 t85 t86 t87 t88 t89 t90 t91 t92 t93 t94 t95 t96 t97 t98 t99 t100 t101 t102 t103 t104 t105 t106 t107 t108 t109 t110 t111 t112 t113 t114 t115 t116 t117 t118 t119 t120 t121 t122 t123 t124 t125 t126 t127 t128 t129 t130 t131 t132 t133 t134 t135 t136 t137 t138 t139 t140 t141 t142 t143 t144 t145 t146 t147 t148 t149 t150 t151 t152 t153 t154 t155 t156 t157 t158 t159 t160 : Value} {ds : List Deferred} : ∀ l a w1, p7I w b r g av bv s R t2 t3 t4 t6 t7 t8 t9 t10 t11 t12 t13 t14 t15 t16 t17 t18 t19 t20 t21 t22 t23 t24 t25 t26 t27 t28 t29 t30 t31 t32 t33 t34 t35 t36 t37 t38 t39 t40 t41 t42 t43 t44 t45 t46 t47 t48 t49 t50 t51 t52 t64 t65 t66 t67 t68 t69 t70 t71 t72 t73 t74 t75 t76 t77 t78 t79 t80 t81 t82 t83 t84 t85 t86 t87 t88 t89 t90 t91 t92 t93 t94 t95 t96 t97 t98 t99 t100 t101 t102 t103 t104 t105 t106 t107 t108 t109 t110 t111 t112 t113 t114 t115 t116 t117 t118 t119 t120 t121 t122 t123 t124 t125 t126 t127 t128 t129 t130 t131 t132 t133 t134 t135 t136 t137 t138 t139 t140 t141 t142 t143 t144 t145 t146 t147 t148 t149 t150 t151 t152 t153 t154 t155 t156 t157 t158 t159 t160 ds l a w1 → Region.ready .any p7O l = [] → left l = 3 := by
  simp only [p7O, findR, Try.f13, Option.bind_some, Option.or, Option.getD, Nat.reduceEqDiff, if_true, if_false, reduceIte]
  rintro l a w1 hI hr
  obtain ⟨j0, j1, j2, j3, j4, j5, j6, j7, j8, j9, j10, x0, x1, x2, x3, x4, x5, x6, x7, x8, x9, x10, rfl, rfl, hW, h0, h1, h2, h3, h4, h5, h6, h7, h8, h9, h10, k2, k4, k5, k8, k10⟩ := hI
  have hn := fun i => List.eq_nil_iff_forall_not_mem.1 hr i
  clear hr
  have d0 : j0 = true := by
    cases hj : j0
    · exact absurd (mem_ready.2 ⟨by simp [hj], _, rfl, by simp [Region.binds, hj]⟩) (hn 0)
    · rfl
  subst d0
  have d1 : j1 = true := by
    cases hj : j1
    · exact absurd (mem_ready.2 ⟨by simp [hj], _, rfl, by simp [Region.binds, hj]⟩) (hn 1)
    · rfl
  subst d1
  have d2 : j2 = true := by
    cases hj : j2
    · exact absurd (mem_ready.2 ⟨by simp [hj], _, rfl, by simp [Region.binds, hj]⟩) (hn 2)
    · rfl
  subst d2
  have d3 : j3 = true := by
    cases hj : j3
    · exact absurd (mem_ready.2 ⟨by simp [hj], _, rfl, by simp [Region.binds, hj]⟩) (hn 3)
    · rfl
  subst d3
  have d4 : j4 = true := by
    cases hj : j4
    · exact absurd (mem_ready.2 ⟨by simp [hj], _, rfl, by simp [Region.binds, hj]⟩) (hn 4)
    · rfl
  subst d4
  have d5 : j5 = true := by
    cases hj : j5
    · exact absurd (mem_ready.2 ⟨by simp [hj], _, rfl, by simp [Region.binds, hj]⟩) (hn 5)
    · rfl
  subst d5
  have d6 : j6 = true := by
    cases hj : j6
    · exact absurd (mem_ready.2 ⟨by simp [hj], _, rfl, by simp [Region.binds, hj]⟩) (hn 6)
    · rfl
  subst d6
  have d7 : j7 = true := by
    cases hj : j7
    · exact absurd (mem_ready.2 ⟨by simp [hj], _, rfl, by simp [Region.binds, hj]⟩) (hn 7)
    · rfl
  subst d7
  have d8 : j8 = true := by
    cases hj : j8
    · exact absurd (mem_ready.2 ⟨by simp [hj], _, rfl, by simp [Region.binds, hj]⟩) (hn 8)
    · rfl
  subst d8
  have d9 : j9 = true := by
    cases hj : j9
    · exact absurd (mem_ready.2 ⟨by simp [hj], _, rfl, by simp [Region.binds, hj]⟩) (hn 9)
    · rfl
  subst d9
  have d10 : j10 = true := by
    cases hj : j10
    · exact absurd (mem_ready.2 ⟨by simp [hj], _, rfl, by simp [Region.binds, hj]⟩) (hn 10)
    · rfl
  subst d10
  rfl
set_option maxHeartbeats 16000000 in
theorem p7_steps (b r g : Nat) (av bv : Int) (s : ByteArray) (R : World → Value → Prop) (w : World)  (c0 : w.cell? ⟨g, 2, none⟩ = some (.int .i64 av)) (rc0 : Hid (∀ w1 v, R w1 v → w1.cell? ⟨g, 2, none⟩ = some (.int .i64 av))) (c1 : w.cell? ⟨g, 4, none⟩ = some (.string s)) (rc1 : Hid (∀ w1 v, R w1 v → w1.cell? ⟨g, 4, none⟩ = some (.string s))) (hE : Hid (Calls Try.prog 26 #[.pointer (some ⟨b, 0, none⟩), .int .i64 av, .string s] w.drew fun e w1 => ∃ v, e = .returned v ∧ R w1 v))
    {t2 t3 t4 t6 t7 t8 t9 t10 t11 t12 t13 t14 t15 t16 t17 t18 t19 t20 t21 t22 t23 t24 t25 t26 t27 t28 t29 t30 t31 t32 t33 t34 t35 t36 t37 t38 t39 t40 t41 t42 t43 t44 t45 t46 t47 t48 t49 t50 t51 t52 t64 t65 t66 t67 t68 t69 t70 t71 t72 t73 t74 t75 t76 t77 t78 t79 t80 t81 t82 t83 t84 t85 t86 t87 t88 t89 t90 t91 t92 t93 t94 t95 t96 t97 t98 t99 t100 t101 t102 t103 t104 t105 t106 t107 t108 t109 t110 t111 t112 t113 t114 t115 t116 t117 t118 t119 t120 t121 t122 t123 t124 t125 t126 t127 t128 t129 t130 t131 t132 t133 t134 t135 t136 t137 t138 t139 t140 t141 t142 t143 t144 t145 t146 t147 t148 t149 t150 t151 t152 t153 t154 t155 t156 t157 t158 t159 t160 : Value} {ds : List Deferred} {Q : Exit → Act → World → Prop} :
    ∀ l a w', p7I w b r g av bv s R t2 t3 t4 t6 t7 t8 t9 t10 t11 t12 t13 t14 t15 t16 t17 t18 t19 t20 t21 t22 t23 t24 t25 t26 t27 t28 t29 t30 t31 t32 t33 t34 t35 t36 t37 t38 t39 t40 t41 t42 t43 t44 t45 t46 t47 t48 t49 t50 t51 t52 t64 t65 t66 t67 t68 t69 t70 t71 t72 t73 t74 t75 t76 t77 t78 t79 t80 t81 t82 t83 t84 t85 t86 t87 t88 t89 t90 t91 t92 t93 t94 t95 t96 t97 t98 t99 t100 t101 t102 t103 t104 t105 t106 t107 t108 t109 t110 t111 t112 t113 t114 t115 t116 t117 t118 t119 t120 t121 t122 t123 t124 t125 t126 t127 t128 t129 t130 t131 t132 t133 t134 t135 t136 t137 t138 t139 t140 t141 t142 t143 t144 t145 t146 t147 t148 t149 t150 t151 t152 t153 t154 t155 t156 t157 t158 t159 t160 ds l a w' → left l ≠ 3 → ∀ i ∈ Region.ready .any p7O l, wpOp Try.prog p7O Q i (fun a' w'' => p7I w b r g av bv s R t2 t3 t4 t6 t7 t8 t9 t10 t11 t12 t13 t14 t15 t16 t17 t18 t19 t20 t21 t22 t23 t24 t25 t26 t27 t28 t29 t30 t31 t32 t33 t34 t35 t36 t37 t38 t39 t40 t41 t42 t43 t44 t45 t46 t47 t48 t49 t50 t51 t52 t64 t65 t66 t67 t68 t69 t70 t71 t72 t73 t74 t75 t76 t77 t78 t79 t80 t81 t82 t83 t84 t85 t86 t87 t88 t89 t90 t91 t92 t93 t94 t95 t96 t97 t98 t99 t100 t101 t102 t103 t104 t105 t106 t107 t108 t109 t110 t111 t112 t113 t114 t115 t116 t117 t118 t119 t120 t121 t122 t123 t124 t125 t126 t127 t128 t129 t130 t131 t132 t133 t134 t135 t136 t137 t138 t139 t140 t141 t142 t143 t144 t145 t146 t147 t148 t149 t150 t151 t152 t153 t154 t155 t156 t157 t158 t159 t160 ds (l.setIfInBounds i true) a' w'') a w' := by
  simp only [p7O, findR, Try.f13, Option.bind_some, Option.or, Option.getD, Nat.reduceEqDiff, if_true, if_false, reduceIte]
  rintro l a w' hI hlt i hi
  rw [mem_ready] at hi
  obtain ⟨hu, oo, ho, hd⟩ := hi
  have hin : i < 14 := by
    have := (Array.getElem?_eq_some_iff.1 ho).1
    simpa using this
  have hcase : i = 0 ∨ i = 1 ∨ i = 2 ∨ i = 3 ∨ i = 4 ∨ i = 5 ∨ i = 6 ∨ i = 7 ∨ i = 8 ∨ i = 9 ∨ i = 10 ∨ i = 11 ∨ i = 12 ∨ i = 13 := by omega
  obtain ⟨j0, j1, j2, j3, j4, j5, j6, j7, j8, j9, j10, x0, x1, x2, x3, x4, x5, x6, x7, x8, x9, x10, rfl, rfl, hW, h0, h1, h2, h3, h4, h5, h6, h7, h8, h9, h10, k2, k4, k5, k8, k10⟩ := hI
  replace hW := Lib.hid hW
  replace h0 := Lib.hid h0
  replace h1 := Lib.hid h1
  replace h2 := Lib.hid h2
  replace h3 := Lib.hid h3
  replace h4 := Lib.hid h4
  replace h5 := Lib.hid h5
  replace h6 := Lib.hid h6
  replace h7 := Lib.hid h7
  replace h8 := Lib.hid h8
  replace h9 := Lib.hid h9
  replace h10 := Lib.hid h10
  replace k2 := Lib.hid k2
  replace k4 := Lib.hid k4
  replace k5 := Lib.hid k5
  replace k8 := Lib.hid k8
  replace k10 := Lib.hid k10
  have gc0 : w'.cell? ⟨g, 2, none⟩ = some (.int .i64 av) := by
    cases hj : j5
    · rw [hW.out hj]; exact c0
    · exact rc0.out _ _ (h5.out hj)
  have gc1 : w'.cell? ⟨g, 4, none⟩ = some (.string s) := by
    cases hj : j5
    · rw [hW.out hj]; exact c1
    · exact rc1.out _ _ (h5.out hj)
  clear c0 c1
  rcases hcase with rfl | rfl | rfl | rfl | rfl | rfl | rfl | rfl | rfl | rfl | rfl | rfl | rfl | rfl
  · obtain rfl := Option.some.inj ho
    simp [Region.binds] at hu hd
    clear hd hlt
    refine wpOp_of rfl rfl ?_
    go_simp
    unfold p7I
    exact ⟨true, j1, j2, j3, j4, j5, j6, j7, j8, j9, j10, _, x1, x2, x3, x4, x5, x6, x7, x8, x9, x10, rfl, rfl, hW.out, fun _ => rfl, h1.out, h2.out, h3.out, h4.out, h5.out, h6.out, h7.out, h8.out, h9.out, h10.out, k2.out, k4.out, fun hj => absurd ((k5.out hj).1) (by simp [hu]), k8.out, k10.out⟩
  · obtain rfl := Option.some.inj ho
    simp [Region.binds] at hu hd
    clear hd hlt
    refine wpOp_of rfl rfl ?_
    go_simp
    unfold p7I
    exact ⟨j0, true, j2, j3, j4, j5, j6, j7, j8, j9, j10, x0, _, x2, x3, x4, x5, x6, x7, x8, x9, x10, rfl, rfl, hW.out, h0.out, fun _ => rfl, h2.out, h3.out, h4.out, h5.out, h6.out, h7.out, h8.out, h9.out, h10.out, fun hj => absurd ((k2.out hj)) (by simp [hu]), k4.out, k5.out, k8.out, k10.out⟩
  · obtain rfl := Option.some.inj ho
    simp [Region.binds] at hu hd
    have d1 : j1 = true := by simp [hd]
    have e1 := h1.out d1
    subst e1
    subst d1
    clear hd hlt
    refine wpOp_of rfl rfl ?_
    go_simp
    unfold p7I
    exact ⟨j0, true, true, j3, j4, j5, j6, j7, j8, j9, j10, x0, _, _, x3, x4, x5, x6, x7, x8, x9, x10, rfl, rfl, hW.out, h0.out, h1.out, fun _ => rfl, h3.out, h4.out, h5.out, h6.out, h7.out, h8.out, h9.out, h10.out, fun _ => rfl, k4.out, fun hj => absurd ((k5.out hj).2.1) (by simp [hu]), k8.out, k10.out⟩
  · obtain rfl := Option.some.inj ho
    simp [Region.binds] at hu hd
    clear hd hlt
    refine wpOp_of rfl rfl ?_
    go_simp
    unfold p7I
    exact ⟨j0, j1, j2, true, j4, j5, j6, j7, j8, j9, j10, x0, x1, x2, _, x4, x5, x6, x7, x8, x9, x10, rfl, rfl, hW.out, h0.out, h1.out, h2.out, fun _ => rfl, h4.out, h5.out, h6.out, h7.out, h8.out, h9.out, h10.out, k2.out, fun hj => absurd ((k4.out hj)) (by simp [hu]), k5.out, k8.out, k10.out⟩
  · obtain rfl := Option.some.inj ho
    simp [Region.binds] at hu hd
    have d3 : j3 = true := by simp [hd]
    have e3 := h3.out d3
    subst e3
    subst d3
    clear hd hlt
    refine wpOp_of rfl rfl ?_
    go_simp
    unfold p7I
    exact ⟨j0, j1, j2, true, true, j5, j6, j7, j8, j9, j10, x0, x1, x2, _, _, x5, x6, x7, x8, x9, x10, rfl, rfl, hW.out, h0.out, h1.out, h2.out, h3.out, fun _ => rfl, h5.out, h6.out, h7.out, h8.out, h9.out, h10.out, k2.out, fun _ => rfl, fun hj => absurd ((k5.out hj).2.2) (by simp [hu]), k8.out, k10.out⟩
  · obtain rfl := Option.some.inj ho
    simp [Region.binds] at hu hd
    have d0 : j0 = true := by simp [hd]
    have d2 : j2 = true := by simp [hd]
    have d4 : j4 = true := by simp [hd]
    have e0 := h0.out d0
    subst e0
    have e2 := h2.out d2
    subst e2
    have e4 := h4.out d4
    subst e4
    subst d0
    subst d2
    subst d4
    clear hd hlt
    have hWW := hW.out hu
    clear hW gc0 gc1
    subst hWW
    refine wpOp_of rfl rfl ?_
    go_simp
    go_at_call 26
    refine hE.out.mono ?_
    rintro e w2 ⟨v, rfl, hR⟩
    unfold p7I
    exact ⟨true, j1, true, j3, true, true, j6, j7, j8, j9, j10, _, x1, _, x3, _, _, x6, x7, x8, x9, x10, rfl, rfl, (fun h => by cases h), h0.out, h1.out, h2.out, h3.out, h4.out, fun _ => hR, h6.out, h7.out, h8.out, h9.out, h10.out, k2.out, k4.out, fun _ => ⟨rfl, rfl, rfl⟩, k8.out, k10.out⟩
  · obtain rfl := Option.some.inj ho
    simp [Region.binds] at hu hd
    clear hd hlt
    refine wpOp_of rfl rfl ?_
    go_simp
    unfold p7I
    exact ⟨j0, j1, j2, j3, j4, j5, true, j7, j8, j9, j10, x0, x1, x2, x3, x4, x5, _, x7, x8, x9, x10, rfl, rfl, hW.out, h0.out, h1.out, h2.out, h3.out, h4.out, h5.out, fun _ => rfl, h7.out, h8.out, h9.out, h10.out, k2.out, k4.out, k5.out, k8.out, k10.out⟩
  · obtain rfl := Option.some.inj ho
    simp [Region.binds] at hu hd
    clear hd hlt
    refine wpOp_of rfl rfl ?_
    go_simp
    unfold p7I
    exact ⟨j0, j1, j2, j3, j4, j5, j6, true, j8, j9, j10, x0, x1, x2, x3, x4, x5, x6, _, x8, x9, x10, rfl, rfl, hW.out, h0.out, h1.out, h2.out, h3.out, h4.out, h5.out, h6.out, fun _ => rfl, h8.out, h9.out, h10.out, k2.out, k4.out, k5.out, fun hj => absurd ((k8.out hj)) (by simp [hu]), k10.out⟩
  · obtain rfl := Option.some.inj ho
    simp [Region.binds] at hu hd
    have d7 : j7 = true := by simp [hd]
    have e7 := h7.out d7
    subst e7
    subst d7
    clear hd hlt
    refine wpOp_of rfl rfl ?_
    go_simp
    unfold p7I
    exact ⟨j0, j1, j2, j3, j4, j5, j6, true, true, j9, j10, x0, x1, x2, x3, x4, x5, x6, _, _, x9, x10, rfl, rfl, hW.out, h0.out, h1.out, h2.out, h3.out, h4.out, h5.out, h6.out, h7.out, fun _ => rfl, h9.out, h10.out, k2.out, k4.out, k5.out, fun _ => rfl, k10.out⟩
  · obtain rfl := Option.some.inj ho
    simp [Region.binds] at hu hd
    clear hd hlt
    refine wpOp_of rfl rfl ?_
    go_simp
    unfold p7I
    exact ⟨j0, j1, j2, j3, j4, j5, j6, j7, j8, true, j10, x0, x1, x2, x3, x4, x5, x6, x7, x8, _, x10, rfl, rfl, hW.out, h0.out, h1.out, h2.out, h3.out, h4.out, h5.out, h6.out, h7.out, h8.out, fun _ => rfl, h10.out, k2.out, k4.out, k5.out, k8.out, fun hj => absurd ((k10.out hj)) (by simp [hu])⟩
  · obtain rfl := Option.some.inj ho
    simp [Region.binds] at hu hd
    have d9 : j9 = true := by simp [hd]
    have e9 := h9.out d9
    subst e9
    subst d9
    clear hd hlt
    refine wpOp_of rfl rfl ?_
    go_simp
    unfold p7I
    exact ⟨j0, j1, j2, j3, j4, j5, j6, j7, j8, true, true, x0, x1, x2, x3, x4, x5, x6, x7, x8, _, _, rfl, rfl, hW.out, h0.out, h1.out, h2.out, h3.out, h4.out, h5.out, h6.out, h7.out, h8.out, h9.out, fun _ => rfl, k2.out, k4.out, k5.out, k8.out, fun _ => rfl⟩
  · obtain rfl := Option.some.inj ho
    simp [Region.binds] at hu hd
    exfalso
    have d5 : j5 = true := by simp [hd]
    have d6 : j6 = true := by simp [hd]
    have d8 : j8 = true := by simp [hd]
    have d10 : j10 = true := by simp [hd]
    have d9 : j9 = true := (k10.out d10)
    have d7 : j7 = true := (k8.out d8)
    have d0 : j0 = true := (k5.out d5).1
    have d2 : j2 = true := (k5.out d5).2.1
    have d4 : j4 = true := (k5.out d5).2.2
    have d3 : j3 = true := (k4.out d4)
    have d1 : j1 = true := (k2.out d2)
    subst d5
    subst d6
    subst d8
    subst d10
    subst d9
    subst d7
    subst d0
    subst d2
    subst d4
    subst d3
    subst d1
    exact hlt rfl
  · obtain rfl := Option.some.inj ho
    exfalso
    simp [Region.binds] at hd
  · obtain rfl := Option.some.inj ho
    exfalso
    simp [Region.binds] at hd
set_option maxHeartbeats 16000000 in
theorem p7 (b r g : Nat) (av bv : Int) (s : ByteArray) (R : World → Value → Prop) (w : World)  (c0 : w.cell? ⟨g, 2, none⟩ = some (.int .i64 av)) (rc0 : Hid (∀ w1 v, R w1 v → w1.cell? ⟨g, 2, none⟩ = some (.int .i64 av))) (c1 : w.cell? ⟨g, 4, none⟩ = some (.string s)) (rc1 : Hid (∀ w1 v, R w1 v → w1.cell? ⟨g, 4, none⟩ = some (.string s))) (hE : Hid (Calls Try.prog 26 #[.pointer (some ⟨b, 0, none⟩), .int .i64 av, .string s] w.drew fun e w1 => ∃ v, e = .returned v ∧ R w1 v)) {t2 t3 t4 t6 t7 t8 t9 t10 t11 t12 t13 t14 t15 t16 t17 t18 t19 t20 t21 t22 t23 t24 t25 t26 t27 t28 t29 t30 t31 t32 t33 t34 t35 t36 t37 t38 t39 t40 t41 t42 t43 t44 t45 t46 t47 t48 t49 t50 t51 t52 t53 t54 t55 t56 t57 t58 t59 t60 t61 t62 t63 t64 t65 t66 t67 t68 t69 t70 t71 t72 t73 t74 t75 t76 t77 t78 t79 t80 t81 t82 t83 t84 t85 t86 t87 t88 t89 t90 t91 t92 t93 t94 t95 t96 t97 t98 t99 t100 t101 t102 t103 t104 t105 t106 t107 t108 t109 t110 t111 t112 t113 t114 t115 t116 t117 t118 t119 t120 t121 t122 t123 t124 t125 t126 t127 t128 t129 t130 t131 t132 t133 t134 t135 t136 t137 t138 t139 t140 t141 t142 t143 t144 t145 t146 t147 t148 t149 t150 t151 t152 t153 t154 t155 t156 t157 t158 t159 t160 : Value} {ds : List Deferred} {Q : Exit → Act → World → Prop}
    (h : ∀ (yE : Value) (w1 : World), R w1 yE → wpList Try.prog p7O Q (p7O.toList.drop 11) { tmps := #[.pointer (some ⟨b, 0, none⟩), .pointer (some ⟨r, 0, none⟩), t2, t3, t4, .pointer (some ⟨g, 0, none⟩), t6, t7, t8, t9, t10, t11, t12, t13, t14, t15, t16, t17, t18, t19, t20, t21, t22, t23, t24, t25, t26, t27, t28, t29, t30, t31, t32, t33, t34, t35, t36, t37, t38, t39, t40, t41, t42, t43, t44, t45, t46, t47, t48, t49, t50, t51, t52, .pointer (some ⟨b, 0, none⟩), .pointer (some ⟨g, 2, none⟩), .int .i64 av, .pointer (some ⟨g, 4, none⟩), .string s, yE, .pointer (some ⟨r, 0, none⟩), .pointer (some ⟨g, 2, none⟩), .int .i64 av, .pointer (some ⟨g, 4, none⟩), .string s, t64, t65, t66, t67, t68, t69, t70, t71, t72, t73, t74, t75, t76, t77, t78, t79, t80, t81, t82, t83, t84, t85, t86, t87, t88, t89, t90, t91, t92, t93, t94, t95, t96, t97, t98, t99, t100, t101, t102, t103, t104, t105, t106, t107, t108, t109, t110, t111, t112, t113, t114, t115, t116, t117, t118, t119, t120, t121, t122, t123, t124, t125, t126, t127, t128, t129, t130, t131, t132, t133, t134, t135, t136, t137, t138, t139, t140, t141, t142, t143, t144, t145, t146, t147, t148, t149, t150, t151, t152, t153, t154, t155, t156, t157, t158, t159, t160], defers := ds } w1) :
    (Code.region 7 p7O true).wp Try.prog Q { tmps := #[.pointer (some ⟨b, 0, none⟩), .pointer (some ⟨r, 0, none⟩), t2, t3, t4, .pointer (some ⟨g, 0, none⟩), t6, t7, t8, t9, t10, t11, t12, t13, t14, t15, t16, t17, t18, t19, t20, t21, t22, t23, t24, t25, t26, t27, t28, t29, t30, t31, t32, t33, t34, t35, t36, t37, t38, t39, t40, t41, t42, t43, t44, t45, t46, t47, t48, t49, t50, t51, t52, t53, t54, t55, t56, t57, t58, t59, t60, t61, t62, t63, t64, t65, t66, t67, t68, t69, t70, t71, t72, t73, t74, t75, t76, t77, t78, t79, t80, t81, t82, t83, t84, t85, t86, t87, t88, t89, t90, t91, t92, t93, t94, t95, t96, t97, t98, t99, t100, t101, t102, t103, t104, t105, t106, t107, t108, t109, t110, t111, t112, t113, t114, t115, t116, t117, t118, t119, t120, t121, t122, t123, t124, t125, t126, t127, t128, t129, t130, t131, t132, t133, t134, t135, t136, t137, t138, t139, t140, t141, t142, t143, t144, t145, t146, t147, t148, t149, t150, t151, t152, t153, t154, t155, t156, t157, t158, t159, t160], defers := ds } w := by
  have hsz : p7O.size = 14 := by kernel_rfl
  refine wp_region_any (show Try.prog.follows .mixedOrders = true from by kernel_rfl) ?_
  rw [hsz]
  refine wpAny_inv2 (I := p7I w b r g av bv s R t2 t3 t4 t6 t7 t8 t9 t10 t11 t12 t13 t14 t15 t16 t17 t18 t19 t20 t21 t22 t23 t24 t25 t26 t27 t28 t29 t30 t31 t32 t33 t34 t35 t36 t37 t38 t39 t40 t41 t42 t43 t44 t45 t46 t47 t48 t49 t50 t51 t52 t64 t65 t66 t67 t68 t69 t70 t71 t72 t73 t74 t75 t76 t77 t78 t79 t80 t81 t82 t83 t84 t85 t86 t87 t88 t89 t90 t91 t92 t93 t94 t95 t96 t97 t98 t99 t100 t101 t102 t103 t104 t105 t106 t107 t108 t109 t110 t111 t112 t113 t114 t115 t116 t117 t118 t119 t120 t121 t122 t123 t124 t125 t126 t127 t128 t129 t130 t131 t132 t133 t134 t135 t136 t137 t138 t139 t140 t141 t142 t143 t144 t145 t146 t147 t148 t149 t150 t151 t152 t153 t154 t155 t156 t157 t158 t159 t160 ds) (g := 3) (p7_none b r g av bv s R w) (p7_steps b r g av bv s R w  c0 rc0 c1 rc1 hE) (fun l a w' hI hl => ?_) 14 _ _ _ (by decide) (by decide) ?_
  · have hI' := hI
    obtain ⟨j0, j1, j2, j3, j4, j5, j6, j7, j8, j9, j10, x0, x1, x2, x3, x4, x5, x6, x7, x8, x9, x10, rfl, rfl, hW, h0, h1, h2, h3, h4, h5, h6, h7, h8, h9, h10, k2, k4, k5, k8, k10⟩ := hI
    obtain ⟨d0, d1, d2, d3, d4, d5, d6, d7, d8, d9, d10⟩ := left_all11_3 hl
    subst d0
    subst d1
    subst d2
    subst d3
    subst d4
    subst d5
    subst d6
    subst d7
    subst d8
    subst d9
    subst d10
    obtain rfl := h0 rfl
    obtain rfl := h1 rfl
    obtain rfl := h2 rfl
    obtain rfl := h3 rfl
    obtain rfl := h4 rfl
    obtain rfl := h6 rfl
    obtain rfl := h7 rfl
    obtain rfl := h8 rfl
    obtain rfl := h9 rfl
    obtain rfl := h10 rfl
    have hw := h _ _ (h5 rfl)
    have hB : Region.seqB .any p7O (p7O.toList.drop 11).length 11 #[true, true, true, true, true, true, true, true, true, true, true, false, false, false] = true := by kernel_rfl
    have hlen : (p7O.toList.drop 11).length = 3 := by kernel_rfl
    have := wpAny_of_seq (md := .any) (p7O.toList.drop 11) 11 _ _ _ (fun j => by simp [List.getElem?_drop]) hB hw
    rw [hlen] at this
    exact this
  · exact ⟨false, false, false, false, false, false, false, false, false, false, false, t53, t54, t55, t56, t57, t58, t59, t60, t61, t62, t63, rfl, rfl, fun _ => rfl, (fun h => by cases h), (fun h => by cases h), (fun h => by cases h), (fun h => by cases h), (fun h => by cases h), (fun h => by cases h), (fun h => by cases h), (fun h => by cases h), (fun h => by cases h), (fun h => by cases h), (fun h => by cases h), (fun h => by cases h), (fun h => by cases h), (fun h => by cases h), (fun h => by cases h), (fun h => by cases h)⟩
noncomputable def p11O : Array Oper := (Try.f13.body.bind fun c => findR c 11).getD #[]
def p11I (w0 : World) (b r g : Nat) (av bv : Int) (s : ByteArray) (R : World → Value → Prop) (t2 t3 t4 t6 t7 t8 t9 t10 t11 t12 t13 t14 t15 t16 t17 t18 t19 t20 t21 t22 t23 t24 t25 t26 t27 t28 t29 t30 t31 t32 t33 t34 t35 t36 t37 t38 t39 t40 t41 t42 t43 t44 t45 t46 t47 t48 t49 t50 t51 t52 t53 t54 t55 t56 t57 t58 t59 t60 t61 t62 t63 t64 t65 t66 t67 t68 t69 t70 t71 t72 t73 t74 t86 t87 t88 t89 t90 t91 t92 t93 t94 t95 t96 t97 t98 t99 t100 t101 t102 t103 t104 t105 t106 t107 t108 t109 t110 t111 t112 t113 t114 t115 t116 t117 t118 t119 t120 t121 t122 t123 t124 t125 t126 t127 t128 t129 t130 t131 t132 t133 t134 t135 t136 t137 t138 t139 t140 t141 t142 t143 t144 t145 t146 t147 t148 t149 t150 t151 t152 t153 t154 t155 t156 t157 t158 t159 t160 : Value) (ds : List Deferred) (l : Array Bool) (a : Act) (w : World) : Prop :=
  ∃ j0 j1 j2 j3 j4 j5 j6 j7 j8 j9 j10 : Bool, ∃ x0 x1 x2 x3 x4 x5 x6 x7 x8 x9 x10 : Value, l = #[j0, j1, j2, j3, j4, j5, j6, j7, j8, j9, j10, false, false, false] ∧ a = { tmps := #[.pointer (some ⟨b, 0, none⟩), .pointer (some ⟨r, 0, none⟩), t2, t3, t4, .pointer (some ⟨g, 0, none⟩), t6, t7, t8, t9, t10, t11, t12, t13, t14, t15, t16, t17, t18, t19, t20, t21, t22, t23, t24, t25, t26, t27, t28, t29, t30, t31, t32, t33, t34, t35, t36, t37, t38, t39, t40, t41, t42, t43, t44, t45, t46, t47, t48, t49, t50, t51, t52, t53, t54, t55, t56, t57, t58, t59, t60, t61, t62, t63, t64, t65, t66, t67, t68, t69, t70, t71, t72, t73, t74, x0, x1, x2, x3, x4, x5, x6, x7, x8, x9, x10, t86, t87, t88, t89, t90, t91, t92, t93, t94, t95, t96, t97, t98, t99, t100, t101, t102, t103, t104, t105, t106, t107, t108, t109, t110, t111, t112, t113, t114, t115, t116, t117, t118, t119, t120, t121, t122, t123, t124, t125, t126, t127, t128, t129, t130, t131, t132, t133, t134, t135, t136, t137, t138, t139, t140, t141, t142, t143, t144, t145, t146, t147, t148, t149, t150, t151, t152, t153, t154, t155, t156, t157, t158, t159, t160], defers := ds } ∧ (j5 = false → w = w0.drew) ∧
  (j0 = true → x0 = .pointer (some ⟨b, 0, none⟩)) ∧ (j1 = true → x1 = .pointer (some ⟨g, 2, none⟩)) ∧ (j2 = true → x2 = .int .i64 av) ∧ (j3 = true → x3 = .pointer (some ⟨g, 3, none⟩)) ∧ (j4 = true → x4 = .int .i64 bv) ∧ (j5 = true → R w x5) ∧ (j6 = true → x6 = .pointer (some ⟨r, 0, none⟩)) ∧ (j7 = true → x7 = .pointer (some ⟨g, 2, none⟩)) ∧ (j8 = true → x8 = .int .i64 av) ∧ (j9 = true → x9 = .pointer (some ⟨g, 3, none⟩)) ∧ (j10 = true → x10 = .int .i64 bv) ∧
  (j2 = true → j1 = true) ∧ (j4 = true → j3 = true) ∧ (j5 = true → j0 = true ∧ j2 = true ∧ j4 = true) ∧ (j8 = true → j7 = true) ∧ (j10 = true → j9 = true)
set_option maxHeartbeats 16000000 in
theorem p11_none (b r g : Nat) (av bv : Int) (s : ByteArray) (R : World → Value → Prop) (w : World) {t2 t3 t4 t6 t7 t8 t9 t10 t11 t12 t13 t14 t15 t16 t17 t18 t19 t20 t21 t22 t23 t24 t25 t26 t27 t28 t29 t30 t31 t32 t33 t34 t35 t36 t37 t38 t39 t40 t41 t42 t43 t44 t45 t46 t47 t48 t49 t50 t51 t52 t53 t54 t55 t56 t57 t58 t59 t60 t61 t62 t63 t64 t65 t66 t67 t68 t69 t70 t71 t72 t73 t74 t86 t87 t88 t89 t90 t91 t92 t93 t94 t95 t96 t97 t98 t99 t100 t101 t102 t103 t104 t105 t106 t107 t108 t109 t110 t111 t112 t113 t114 t115 t116 t117 t118 t119 t120 t121 t122 t123 t124 t125 t126 t127 t128 t129 t130 t131 t132 t133 t134 t135 t136 t137 t138 t139 t140 t141 t142 t143 t144 t145 t146 t147 t148 t149 t150 t151 t152 t153 t154 t155 t156 t157 t158 t159 t160 : Value} {ds : List Deferred} : ∀ l a w1, p11I w b r g av bv s R t2 t3 t4 t6 t7 t8 t9 t10 t11 t12 t13 t14 t15 t16 t17 t18 t19 t20 t21 t22 t23 t24 t25 t26 t27 t28 t29 t30 t31 t32 t33 t34 t35 t36 t37 t38 t39 t40 t41 t42 t43 t44 t45 t46 t47 t48 t49 t50 t51 t52 t53 t54 t55 t56 t57 t58 t59 t60 t61 t62 t63 t64 t65 t66 t67 t68 t69 t70 t71 t72 t73 t74 t86 t87 t88 t89 t90 t91 t92 t93 t94 t95 t96 t97 t98 t99 t100 t101 t102 t103 t104 t105 t106 t107 t108 t109 t110 t111 t112 t113 t114 t115 t116 t117 t118 t119 t120 t121 t122 t123 t124 t125 t126 t127 t128 t129 t130 t131 t132 t133 t134 t135 t136 t137 t138 t139 t140 t141 t142 t143 t144 t145 t146 t147 t148 t149 t150 t151 t152 t153 t154 t155 t156 t157 t158 t159 t160 ds l a w1 → Region.ready .any p11O l = [] → left l = 3 := by
  simp only [p11O, findR, Try.f13, Option.bind_some, Option.or, Option.getD, Nat.reduceEqDiff, if_true, if_false, reduceIte]
  rintro l a w1 hI hr
  obtain ⟨j0, j1, j2, j3, j4, j5, j6, j7, j8, j9, j10, x0, x1, x2, x3, x4, x5, x6, x7, x8, x9, x10, rfl, rfl, hW, h0, h1, h2, h3, h4, h5, h6, h7, h8, h9, h10, k2, k4, k5, k8, k10⟩ := hI
  have hn := fun i => List.eq_nil_iff_forall_not_mem.1 hr i
  clear hr
  have d0 : j0 = true := by
    cases hj : j0
    · exact absurd (mem_ready.2 ⟨by simp [hj], _, rfl, by simp [Region.binds, hj]⟩) (hn 0)
    · rfl
  subst d0
  have d1 : j1 = true := by
    cases hj : j1
    · exact absurd (mem_ready.2 ⟨by simp [hj], _, rfl, by simp [Region.binds, hj]⟩) (hn 1)
    · rfl
  subst d1
  have d2 : j2 = true := by
    cases hj : j2
    · exact absurd (mem_ready.2 ⟨by simp [hj], _, rfl, by simp [Region.binds, hj]⟩) (hn 2)
    · rfl
  subst d2
  have d3 : j3 = true := by
    cases hj : j3
    · exact absurd (mem_ready.2 ⟨by simp [hj], _, rfl, by simp [Region.binds, hj]⟩) (hn 3)
    · rfl
  subst d3
  have d4 : j4 = true := by
    cases hj : j4
    · exact absurd (mem_ready.2 ⟨by simp [hj], _, rfl, by simp [Region.binds, hj]⟩) (hn 4)
    · rfl
  subst d4
  have d5 : j5 = true := by
    cases hj : j5
    · exact absurd (mem_ready.2 ⟨by simp [hj], _, rfl, by simp [Region.binds, hj]⟩) (hn 5)
    · rfl
  subst d5
  have d6 : j6 = true := by
    cases hj : j6
    · exact absurd (mem_ready.2 ⟨by simp [hj], _, rfl, by simp [Region.binds, hj]⟩) (hn 6)
    · rfl
  subst d6
  have d7 : j7 = true := by
    cases hj : j7
    · exact absurd (mem_ready.2 ⟨by simp [hj], _, rfl, by simp [Region.binds, hj]⟩) (hn 7)
    · rfl
  subst d7
  have d8 : j8 = true := by
    cases hj : j8
    · exact absurd (mem_ready.2 ⟨by simp [hj], _, rfl, by simp [Region.binds, hj]⟩) (hn 8)
    · rfl
  subst d8
  have d9 : j9 = true := by
    cases hj : j9
    · exact absurd (mem_ready.2 ⟨by simp [hj], _, rfl, by simp [Region.binds, hj]⟩) (hn 9)
    · rfl
  subst d9
  have d10 : j10 = true := by
    cases hj : j10
    · exact absurd (mem_ready.2 ⟨by simp [hj], _, rfl, by simp [Region.binds, hj]⟩) (hn 10)
    · rfl
  subst d10
  rfl
set_option maxHeartbeats 16000000 in
theorem p11_steps (b r g : Nat) (av bv : Int) (s : ByteArray) (R : World → Value → Prop) (w : World)  (c0 : w.cell? ⟨g, 2, none⟩ = some (.int .i64 av)) (rc0 : Hid (∀ w1 v, R w1 v → w1.cell? ⟨g, 2, none⟩ = some (.int .i64 av))) (c1 : w.cell? ⟨g, 3, none⟩ = some (.int .i64 bv)) (rc1 : Hid (∀ w1 v, R w1 v → w1.cell? ⟨g, 3, none⟩ = some (.int .i64 bv))) (hE : Hid (Calls Try.prog 22 #[.pointer (some ⟨b, 0, none⟩), .int .i64 av, .int .i64 bv] w.drew fun e w1 => ∃ v, e = .returned v ∧ R w1 v))
    {t2 t3 t4 t6 t7 t8 t9 t10 t11 t12 t13 t14 t15 t16 t17 t18 t19 t20 t21 t22 t23 t24 t25 t26 t27 t28 t29 t30 t31 t32 t33 t34 t35 t36 t37 t38 t39 t40 t41 t42 t43 t44 t45 t46 t47 t48 t49 t50 t51 t52 t53 t54 t55 t56 t57 t58 t59 t60 t61 t62 t63 t64 t65 t66 t67 t68 t69 t70 t71 t72 t73 t74 t86 t87 t88 t89 t90 t91 t92 t93 t94 t95 t96 t97 t98 t99 t100 t101 t102 t103 t104 t105 t106 t107 t108 t109 t110 t111 t112 t113 t114 t115 t116 t117 t118 t119 t120 t121 t122 t123 t124 t125 t126 t127 t128 t129 t130 t131 t132 t133 t134 t135 t136 t137 t138 t139 t140 t141 t142 t143 t144 t145 t146 t147 t148 t149 t150 t151 t152 t153 t154 t155 t156 t157 t158 t159 t160 : Value} {ds : List Deferred} {Q : Exit → Act → World → Prop} :
    ∀ l a w', p11I w b r g av bv s R t2 t3 t4 t6 t7 t8 t9 t10 t11 t12 t13 t14 t15 t16 t17 t18 t19 t20 t21 t22 t23 t24 t25 t26 t27 t28 t29 t30 t31 t32 t33 t34 t35 t36 t37 t38 t39 t40 t41 t42 t43 t44 t45 t46 t47 t48 t49 t50 t51 t52 t53 t54 t55 t56 t57 t58 t59 t60 t61 t62 t63 t64 t65 t66 t67 t68 t69 t70 t71 t72 t73 t74 t86 t87 t88 t89 t90 t91 t92 t93 t94 t95 t96 t97 t98 t99 t100 t101 t102 t103 t104 t105 t106 t107 t108 t109 t110 t111 t112 t113 t114 t115 t116 t117 t118 t119 t120 t121 t122 t123 t124 t125 t126 t127 t128 t129 t130 t131 t132 t133 t134 t135 t136 t137 t138 t139 t140 t141 t142 t143 t144 t145 t146 t147 t148 t149 t150 t151 t152 t153 t154 t155 t156 t157 t158 t159 t160 ds l a w' → left l ≠ 3 → ∀ i ∈ Region.ready .any p11O l, wpOp Try.prog p11O Q i (fun a' w'' => p11I w b r g av bv s R t2 t3 t4 t6 t7 t8 t9 t10 t11 t12 t13 t14 t15 t16 t17 t18 t19 t20 t21 t22 t23 t24 t25 t26 t27 t28 t29 t30 t31 t32 t33 t34 t35 t36 t37 t38 t39 t40 t41 t42 t43 t44 t45 t46 t47 t48 t49 t50 t51 t52 t53 t54 t55 t56 t57 t58 t59 t60 t61 t62 t63 t64 t65 t66 t67 t68 t69 t70 t71 t72 t73 t74 t86 t87 t88 t89 t90 t91 t92 t93 t94 t95 t96 t97 t98 t99 t100 t101 t102 t103 t104 t105 t106 t107 t108 t109 t110 t111 t112 t113 t114 t115 t116 t117 t118 t119 t120 t121 t122 t123 t124 t125 t126 t127 t128 t129 t130 t131 t132 t133 t134 t135 t136 t137 t138 t139 t140 t141 t142 t143 t144 t145 t146 t147 t148 t149 t150 t151 t152 t153 t154 t155 t156 t157 t158 t159 t160 ds (l.setIfInBounds i true) a' w'') a w' := by
  simp only [p11O, findR, Try.f13, Option.bind_some, Option.or, Option.getD, Nat.reduceEqDiff, if_true, if_false, reduceIte]
  rintro l a w' hI hlt i hi
  rw [mem_ready] at hi
  obtain ⟨hu, oo, ho, hd⟩ := hi
  have hin : i < 14 := by
    have := (Array.getElem?_eq_some_iff.1 ho).1
    simpa using this
  have hcase : i = 0 ∨ i = 1 ∨ i = 2 ∨ i = 3 ∨ i = 4 ∨ i = 5 ∨ i = 6 ∨ i = 7 ∨ i = 8 ∨ i = 9 ∨ i = 10 ∨ i = 11 ∨ i = 12 ∨ i = 13 := by omega
  obtain ⟨j0, j1, j2, j3, j4, j5, j6, j7, j8, j9, j10, x0, x1, x2, x3, x4, x5, x6, x7, x8, x9, x10, rfl, rfl, hW, h0, h1, h2, h3, h4, h5, h6, h7, h8, h9, h10, k2, k4, k5, k8, k10⟩ := hI
  replace hW := Lib.hid hW
  replace h0 := Lib.hid h0
  replace h1 := Lib.hid h1
  replace h2 := Lib.hid h2
  replace h3 := Lib.hid h3
  replace h4 := Lib.hid h4
  replace h5 := Lib.hid h5
  replace h6 := Lib.hid h6
  replace h7 := Lib.hid h7
  replace h8 := Lib.hid h8
  replace h9 := Lib.hid h9
  replace h10 := Lib.hid h10
  replace k2 := Lib.hid k2
  replace k4 := Lib.hid k4
  replace k5 := Lib.hid k5
  replace k8 := Lib.hid k8
  replace k10 := Lib.hid k10
  have gc0 : w'.cell? ⟨g, 2, none⟩ = some (.int .i64 av) := by
    cases hj : j5
    · rw [hW.out hj]; exact c0
    · exact rc0.out _ _ (h5.out hj)
  have gc1 : w'.cell? ⟨g, 3, none⟩ = some (.int .i64 bv) := by
    cases hj : j5
    · rw [hW.out hj]; exact c1
    · exact rc1.out _ _ (h5.out hj)
  clear c0 c1
  rcases hcase with rfl | rfl | rfl | rfl | rfl | rfl | rfl | rfl | rfl | rfl | rfl | rfl | rfl | rfl
  · obtain rfl := Option.some.inj ho
    simp [Region.binds] at hu hd
    clear hd hlt
    refine wpOp_of rfl rfl ?_
    go_simp
    unfold p11I
    exact ⟨true, j1, j2, j3, j4, j5, j6, j7, j8, j9, j10, _, x1, x2, x3, x4, x5, x6, x7, x8, x9, x10, rfl, rfl, hW.out, fun _ => rfl, h1.out, h2.out, h3.out, h4.out, h5.out, h6.out, h7.out, h8.out, h9.out, h10.out, k2.out, k4.out, fun hj => absurd ((k5.out hj).1) (by simp [hu]), k8.out, k10.out⟩
  · obtain rfl := Option.some.inj ho
    simp [Region.binds] at hu hd
    clear hd hlt
    refine wpOp_of rfl rfl ?_
    go_simp
    unfold p11I
    exact ⟨j0, true, j2, j3, j4, j5, j6, j7, j8, j9, j10, x0, _, x2, x3, x4, x5, x6, x7, x8, x9, x10, rfl, rfl, hW.out, h0.out, fun _ => rfl, h2.out, h3.out, h4.out, h5.out, h6.out, h7.out, h8.out, h9.out, h10.out, fun hj => absurd ((k2.out hj)) (by simp [hu]), k4.out, k5.out, k8.out, k10.out⟩
  · obtain rfl := Option.some.inj ho
    simp [Region.binds] at hu hd
    have d1 : j1 = true := by simp [hd]
    have e1 := h1.out d1
    subst e1
    subst d1
    clear hd hlt
    refine wpOp_of rfl rfl ?_
    go_simp
    unfold p11I
    exact ⟨j0, true, true, j3, j4, j5, j6, j7, j8, j9, j10, x0, _, _, x3, x4, x5, x6, x7, x8, x9, x10, rfl, rfl, hW.out, h0.out, h1.out, fun _ => rfl, h3.out, h4.out, h5.out, h6.out, h7.out, h8.out, h9.out, h10.out, fun _ => rfl, k4.out, fun hj => absurd ((k5.out hj).2.1) (by simp [hu]), k8.out, k10.out⟩
  · obtain rfl := Option.some.inj ho
    simp [Region.binds] at hu hd
    clear hd hlt
    refine wpOp_of rfl rfl ?_
    go_simp
    unfold p11I
    exact ⟨j0, j1, j2, true, j4, j5, j6, j7, j8, j9, j10, x0, x1, x2, _, x4, x5, x6, x7, x8, x9, x10, rfl, rfl, hW.out, h0.out, h1.out, h2.out, fun _ => rfl, h4.out, h5.out, h6.out, h7.out, h8.out, h9.out, h10.out, k2.out, fun hj => absurd ((k4.out hj)) (by simp [hu]), k5.out, k8.out, k10.out⟩
  · obtain rfl := Option.some.inj ho
    simp [Region.binds] at hu hd
    have d3 : j3 = true := by simp [hd]
    have e3 := h3.out d3
    subst e3
    subst d3
    clear hd hlt
    refine wpOp_of rfl rfl ?_
    go_simp
    unfold p11I
    exact ⟨j0, j1, j2, true, true, j5, j6, j7, j8, j9, j10, x0, x1, x2, _, _, x5, x6, x7, x8, x9, x10, rfl, rfl, hW.out, h0.out, h1.out, h2.out, h3.out, fun _ => rfl, h5.out, h6.out, h7.out, h8.out, h9.out, h10.out, k2.out, fun _ => rfl, fun hj => absurd ((k5.out hj).2.2) (by simp [hu]), k8.out, k10.out⟩
  · obtain rfl := Option.some.inj ho
    simp [Region.binds] at hu hd
    have d0 : j0 = true := by simp [hd]
    have d2 : j2 = true := by simp [hd]
    have d4 : j4 = true := by simp [hd]
    have e0 := h0.out d0
    subst e0
    have e2 := h2.out d2
    subst e2
    have e4 := h4.out d4
    subst e4
    subst d0
    subst d2
    subst d4
    clear hd hlt
    have hWW := hW.out hu
    clear hW gc0 gc1
    subst hWW
    refine wpOp_of rfl rfl ?_
    go_simp
    go_at_call 22
    refine hE.out.mono ?_
    rintro e w2 ⟨v, rfl, hR⟩
    unfold p11I
    exact ⟨true, j1, true, j3, true, true, j6, j7, j8, j9, j10, _, x1, _, x3, _, _, x6, x7, x8, x9, x10, rfl, rfl, (fun h => by cases h), h0.out, h1.out, h2.out, h3.out, h4.out, fun _ => hR, h6.out, h7.out, h8.out, h9.out, h10.out, k2.out, k4.out, fun _ => ⟨rfl, rfl, rfl⟩, k8.out, k10.out⟩
  · obtain rfl := Option.some.inj ho
    simp [Region.binds] at hu hd
    clear hd hlt
    refine wpOp_of rfl rfl ?_
    go_simp
    unfold p11I
    exact ⟨j0, j1, j2, j3, j4, j5, true, j7, j8, j9, j10, x0, x1, x2, x3, x4, x5, _, x7, x8, x9, x10, rfl, rfl, hW.out, h0.out, h1.out, h2.out, h3.out, h4.out, h5.out, fun _ => rfl, h7.out, h8.out, h9.out, h10.out, k2.out, k4.out, k5.out, k8.out, k10.out⟩
  · obtain rfl := Option.some.inj ho
    simp [Region.binds] at hu hd
    clear hd hlt
    refine wpOp_of rfl rfl ?_
    go_simp
    unfold p11I
    exact ⟨j0, j1, j2, j3, j4, j5, j6, true, j8, j9, j10, x0, x1, x2, x3, x4, x5, x6, _, x8, x9, x10, rfl, rfl, hW.out, h0.out, h1.out, h2.out, h3.out, h4.out, h5.out, h6.out, fun _ => rfl, h8.out, h9.out, h10.out, k2.out, k4.out, k5.out, fun hj => absurd ((k8.out hj)) (by simp [hu]), k10.out⟩
  · obtain rfl := Option.some.inj ho
    simp [Region.binds] at hu hd
    have d7 : j7 = true := by simp [hd]
    have e7 := h7.out d7
    subst e7
    subst d7
    clear hd hlt
    refine wpOp_of rfl rfl ?_
    go_simp
    unfold p11I
    exact ⟨j0, j1, j2, j3, j4, j5, j6, true, true, j9, j10, x0, x1, x2, x3, x4, x5, x6, _, _, x9, x10, rfl, rfl, hW.out, h0.out, h1.out, h2.out, h3.out, h4.out, h5.out, h6.out, h7.out, fun _ => rfl, h9.out, h10.out, k2.out, k4.out, k5.out, fun _ => rfl, k10.out⟩
  · obtain rfl := Option.some.inj ho
    simp [Region.binds] at hu hd
    clear hd hlt
    refine wpOp_of rfl rfl ?_
    go_simp
    unfold p11I
    exact ⟨j0, j1, j2, j3, j4, j5, j6, j7, j8, true, j10, x0, x1, x2, x3, x4, x5, x6, x7, x8, _, x10, rfl, rfl, hW.out, h0.out, h1.out, h2.out, h3.out, h4.out, h5.out, h6.out, h7.out, h8.out, fun _ => rfl, h10.out, k2.out, k4.out, k5.out, k8.out, fun hj => absurd ((k10.out hj)) (by simp [hu])⟩
  · obtain rfl := Option.some.inj ho
    simp [Region.binds] at hu hd
    have d9 : j9 = true := by simp [hd]
    have e9 := h9.out d9
    subst e9
    subst d9
    clear hd hlt
    refine wpOp_of rfl rfl ?_
    go_simp
    unfold p11I
    exact ⟨j0, j1, j2, j3, j4, j5, j6, j7, j8, true, true, x0, x1, x2, x3, x4, x5, x6, x7, x8, _, _, rfl, rfl, hW.out, h0.out, h1.out, h2.out, h3.out, h4.out, h5.out, h6.out, h7.out, h8.out, h9.out, fun _ => rfl, k2.out, k4.out, k5.out, k8.out, fun _ => rfl⟩
  · obtain rfl := Option.some.inj ho
    simp [Region.binds] at hu hd
    exfalso
    have d5 : j5 = true := by simp [hd]
    have d6 : j6 = true := by simp [hd]
    have d8 : j8 = true := by simp [hd]
    have d10 : j10 = true := by simp [hd]
    have d9 : j9 = true := (k10.out d10)
    have d7 : j7 = true := (k8.out d8)
    have d0 : j0 = true := (k5.out d5).1
    have d2 : j2 = true := (k5.out d5).2.1
    have d4 : j4 = true := (k5.out d5).2.2
    have d3 : j3 = true := (k4.out d4)
    have d1 : j1 = true := (k2.out d2)
    subst d5
    subst d6
    subst d8
    subst d10
    subst d9
    subst d7
    subst d0
    subst d2
    subst d4
    subst d3
    subst d1
    exact hlt rfl
  · obtain rfl := Option.some.inj ho
    exfalso
    simp [Region.binds] at hd
  · obtain rfl := Option.some.inj ho
    exfalso
    simp [Region.binds] at hd
set_option maxHeartbeats 16000000 in
theorem p11 (b r g : Nat) (av bv : Int) (s : ByteArray) (R : World → Value → Prop) (w : World)  (c0 : w.cell? ⟨g, 2, none⟩ = some (.int .i64 av)) (rc0 : Hid (∀ w1 v, R w1 v → w1.cell? ⟨g, 2, none⟩ = some (.int .i64 av))) (c1 : w.cell? ⟨g, 3, none⟩ = some (.int .i64 bv)) (rc1 : Hid (∀ w1 v, R w1 v → w1.cell? ⟨g, 3, none⟩ = some (.int .i64 bv))) (hE : Hid (Calls Try.prog 22 #[.pointer (some ⟨b, 0, none⟩), .int .i64 av, .int .i64 bv] w.drew fun e w1 => ∃ v, e = .returned v ∧ R w1 v)) {t2 t3 t4 t6 t7 t8 t9 t10 t11 t12 t13 t14 t15 t16 t17 t18 t19 t20 t21 t22 t23 t24 t25 t26 t27 t28 t29 t30 t31 t32 t33 t34 t35 t36 t37 t38 t39 t40 t41 t42 t43 t44 t45 t46 t47 t48 t49 t50 t51 t52 t53 t54 t55 t56 t57 t58 t59 t60 t61 t62 t63 t64 t65 t66 t67 t68 t69 t70 t71 t72 t73 t74 t75 t76 t77 t78 t79 t80 t81 t82 t83 t84 t85 t86 t87 t88 t89 t90 t91 t92 t93 t94 t95 t96 t97 t98 t99 t100 t101 t102 t103 t104 t105 t106 t107 t108 t109 t110 t111 t112 t113 t114 t115 t116 t117 t118 t119 t120 t121 t122 t123 t124 t125 t126 t127 t128 t129 t130 t131 t132 t133 t134 t135 t136 t137 t138 t139 t140 t141 t142 t143 t144 t145 t146 t147 t148 t149 t150 t151 t152 t153 t154 t155 t156 t157 t158 t159 t160 : Value} {ds : List Deferred} {Q : Exit → Act → World → Prop}
    (h : ∀ (yE : Value) (w1 : World), R w1 yE → wpList Try.prog p11O Q (p11O.toList.drop 11) { tmps := #[.pointer (some ⟨b, 0, none⟩), .pointer (some ⟨r, 0, none⟩), t2, t3, t4, .pointer (some ⟨g, 0, none⟩), t6, t7, t8, t9, t10, t11, t12, t13, t14, t15, t16, t17, t18, t19, t20, t21, t22, t23, t24, t25, t26, t27, t28, t29, t30, t31, t32, t33, t34, t35, t36, t37, t38, t39, t40, t41, t42, t43, t44, t45, t46, t47, t48, t49, t50, t51, t52, t53, t54, t55, t56, t57, t58, t59, t60, t61, t62, t63, t64, t65, t66, t67, t68, t69, t70, t71, t72, t73, t74, .pointer (some ⟨b, 0, none⟩), .pointer (some ⟨g, 2, none⟩), .int .i64 av, .pointer (some ⟨g, 3, none⟩), .int .i64 bv, yE, .pointer (some ⟨r, 0, none⟩), .pointer (some ⟨g, 2, none⟩), .int .i64 av, .pointer (some ⟨g, 3, none⟩), .int .i64 bv, t86, t87, t88, t89, t90, t91, t92, t93, t94, t95, t96, t97, t98, t99, t100, t101, t102, t103, t104, t105, t106, t107, t108, t109, t110, t111, t112, t113, t114, t115, t116, t117, t118, t119, t120, t121, t122, t123, t124, t125, t126, t127, t128, t129, t130, t131, t132, t133, t134, t135, t136, t137, t138, t139, t140, t141, t142, t143, t144, t145, t146, t147, t148, t149, t150, t151, t152, t153, t154, t155, t156, t157, t158, t159, t160], defers := ds } w1) :
    (Code.region 11 p11O true).wp Try.prog Q { tmps := #[.pointer (some ⟨b, 0, none⟩), .pointer (some ⟨r, 0, none⟩), t2, t3, t4, .pointer (some ⟨g, 0, none⟩), t6, t7, t8, t9, t10, t11, t12, t13, t14, t15, t16, t17, t18, t19, t20, t21, t22, t23, t24, t25, t26, t27, t28, t29, t30, t31, t32, t33, t34, t35, t36, t37, t38, t39, t40, t41, t42, t43, t44, t45, t46, t47, t48, t49, t50, t51, t52, t53, t54, t55, t56, t57, t58, t59, t60, t61, t62, t63, t64, t65, t66, t67, t68, t69, t70, t71, t72, t73, t74, t75, t76, t77, t78, t79, t80, t81, t82, t83, t84, t85, t86, t87, t88, t89, t90, t91, t92, t93, t94, t95, t96, t97, t98, t99, t100, t101, t102, t103, t104, t105, t106, t107, t108, t109, t110, t111, t112, t113, t114, t115, t116, t117, t118, t119, t120, t121, t122, t123, t124, t125, t126, t127, t128, t129, t130, t131, t132, t133, t134, t135, t136, t137, t138, t139, t140, t141, t142, t143, t144, t145, t146, t147, t148, t149, t150, t151, t152, t153, t154, t155, t156, t157, t158, t159, t160], defers := ds } w := by
  have hsz : p11O.size = 14 := by kernel_rfl
  refine wp_region_any (show Try.prog.follows .mixedOrders = true from by kernel_rfl) ?_
  rw [hsz]
  refine wpAny_inv2 (I := p11I w b r g av bv s R t2 t3 t4 t6 t7 t8 t9 t10 t11 t12 t13 t14 t15 t16 t17 t18 t19 t20 t21 t22 t23 t24 t25 t26 t27 t28 t29 t30 t31 t32 t33 t34 t35 t36 t37 t38 t39 t40 t41 t42 t43 t44 t45 t46 t47 t48 t49 t50 t51 t52 t53 t54 t55 t56 t57 t58 t59 t60 t61 t62 t63 t64 t65 t66 t67 t68 t69 t70 t71 t72 t73 t74 t86 t87 t88 t89 t90 t91 t92 t93 t94 t95 t96 t97 t98 t99 t100 t101 t102 t103 t104 t105 t106 t107 t108 t109 t110 t111 t112 t113 t114 t115 t116 t117 t118 t119 t120 t121 t122 t123 t124 t125 t126 t127 t128 t129 t130 t131 t132 t133 t134 t135 t136 t137 t138 t139 t140 t141 t142 t143 t144 t145 t146 t147 t148 t149 t150 t151 t152 t153 t154 t155 t156 t157 t158 t159 t160 ds) (g := 3) (p11_none b r g av bv s R w) (p11_steps b r g av bv s R w  c0 rc0 c1 rc1 hE) (fun l a w' hI hl => ?_) 14 _ _ _ (by decide) (by decide) ?_
  · have hI' := hI
    obtain ⟨j0, j1, j2, j3, j4, j5, j6, j7, j8, j9, j10, x0, x1, x2, x3, x4, x5, x6, x7, x8, x9, x10, rfl, rfl, hW, h0, h1, h2, h3, h4, h5, h6, h7, h8, h9, h10, k2, k4, k5, k8, k10⟩ := hI
    obtain ⟨d0, d1, d2, d3, d4, d5, d6, d7, d8, d9, d10⟩ := left_all11_3 hl
    subst d0
    subst d1
    subst d2
    subst d3
    subst d4
    subst d5
    subst d6
    subst d7
    subst d8
    subst d9
    subst d10
    obtain rfl := h0 rfl
    obtain rfl := h1 rfl
    obtain rfl := h2 rfl
    obtain rfl := h3 rfl
    obtain rfl := h4 rfl
    obtain rfl := h6 rfl
    obtain rfl := h7 rfl
    obtain rfl := h8 rfl
    obtain rfl := h9 rfl
    obtain rfl := h10 rfl
    have hw := h _ _ (h5 rfl)
    have hB : Region.seqB .any p11O (p11O.toList.drop 11).length 11 #[true, true, true, true, true, true, true, true, true, true, true, false, false, false] = true := by kernel_rfl
    have hlen : (p11O.toList.drop 11).length = 3 := by kernel_rfl
    have := wpAny_of_seq (md := .any) (p11O.toList.drop 11) 11 _ _ _ (fun j => by simp [List.getElem?_drop]) hB hw
    rw [hlen] at this
    exact this
  · exact ⟨false, false, false, false, false, false, false, false, false, false, false, t75, t76, t77, t78, t79, t80, t81, t82, t83, t84, t85, rfl, rfl, fun _ => rfl, (fun h => by cases h), (fun h => by cases h), (fun h => by cases h), (fun h => by cases h), (fun h => by cases h), (fun h => by cases h), (fun h => by cases h), (fun h => by cases h), (fun h => by cases h), (fun h => by cases h), (fun h => by cases h), (fun h => by cases h), (fun h => by cases h), (fun h => by cases h), (fun h => by cases h), (fun h => by cases h)⟩
noncomputable def p13O : Array Oper := (Try.f13.body.bind fun c => findR c 13).getD #[]
def p13I (w0 : World) (b r g : Nat) (av bv : Int) (s : ByteArray) (R : World → Value → Prop) (t2 t3 t4 t6 t7 t8 t9 t10 t11 t12 t13 t14 t15 t16 t17 t18 t19 t20 t21 t22 t23 t24 t25 t26 t27 t28 t29 t30 t31 t32 t33 t34 t35 t36 t37 t38 t39 t40 t41 t42 t43 t44 t45 t46 t47 t48 t49 t50 t51 t52 t53 t54 t55 t56 t57 t58 t59 t60 t61 t62 t63 t64 t65 t66 t67 t68 t69 t70 t71 t72 t73 t74 t75 t76 t77 t78 t79 t80 t81 t82 t83 t84 t85 t86 t87 t88 t89 t101 t102 t103 t104 t105 t106 t107 t108 t109 t110 t111 t112 t113 t114 t115 t116 t117 t118 t119 t120 t121 t122 t123 t124 t125 t126 t127 t128 t129 t130 t131 t132 t133 t134 t135 t136 t137 t138 t139 t140 t141 t142 t143 t144 t145 t146 t147 t148 t149 t150 t151 t152 t153 t154 t155 t156 t157 t158 t159 t160 : Value) (ds : List Deferred) (l : Array Bool) (a : Act) (w : World) : Prop :=
  ∃ j0 j1 j2 j3 j4 j5 j6 j7 j8 j9 j10 : Bool, ∃ x0 x1 x2 x3 x4 x5 x6 x7 x8 x9 x10 : Value, l = #[j0, j1, j2, j3, j4, j5, j6, j7, j8, j9, j10, false, false, false] ∧ a = { tmps := #[.pointer (some ⟨b, 0, none⟩), .pointer (some ⟨r, 0, none⟩), t2, t3, t4, .pointer (some ⟨g, 0, none⟩), t6, t7, t8, t9, t10, t11, t12, t13, t14, t15, t16, t17, t18, t19, t20, t21, t22, t23, t24, t25, t26, t27, t28, t29, t30, t31, t32, t33, t34, t35, t36, t37, t38, t39, t40, t41, t42, t43, t44, t45, t46, t47, t48, t49, t50, t51, t52, t53, t54, t55, t56, t57, t58, t59, t60, t61, t62, t63, t64, t65, t66, t67, t68, t69, t70, t71, t72, t73, t74, t75, t76, t77, t78, t79, t80, t81, t82, t83, t84, t85, t86, t87, t88, t89, x0, x1, x2, x3, x4, x5, x6, x7, x8, x9, x10, t101, t102, t103, t104, t105, t106, t107, t108, t109, t110, t111, t112, t113, t114, t115, t116, t117, t118, t119, t120, t121, t122, t123, t124, t125, t126, t127, t128, t129, t130, t131, t132, t133, t134, t135, t136, t137, t138, t139, t140, t141, t142, t143, t144, t145, t146, t147, t148, t149, t150, t151, t152, t153, t154, t155, t156, t157, t158, t159, t160], defers := ds } ∧ (j5 = false → w = w0.drew) ∧
  (j0 = true → x0 = .pointer (some ⟨b, 0, none⟩)) ∧ (j1 = true → x1 = .pointer (some ⟨g, 2, none⟩)) ∧ (j2 = true → x2 = .int .i64 av) ∧ (j3 = true → x3 = .pointer (some ⟨g, 3, none⟩)) ∧ (j4 = true → x4 = .int .i64 bv) ∧ (j5 = true → R w x5) ∧ (j6 = true → x6 = .pointer (some ⟨r, 0, none⟩)) ∧ (j7 = true → x7 = .pointer (some ⟨g, 2, none⟩)) ∧ (j8 = true → x8 = .int .i64 av) ∧ (j9 = true → x9 = .pointer (some ⟨g, 3, none⟩)) ∧ (j10 = true → x10 = .int .i64 bv) ∧
  (j2 = true → j1 = true) ∧ (j4 = true → j3 = true) ∧ (j5 = true → j0 = true ∧ j2 = true ∧ j4 = true) ∧ (j8 = true → j7 = true) ∧ (j10 = true → j9 = true)
set_option maxHeartbeats 16000000 in
theorem p13_none (b r g : Nat) (av bv : Int) (s : ByteArray) (R : World → Value → Prop) (w : World) {t2 t3 t4 t6 t7 t8 t9 t10 t11 t12 t13 t14 t15 t16 t17 t18 t19 t20 t21 t22 t23 t24 t25 t26 t27 t28 t29 t30 t31 t32 t33 t34 t35 t36 t37 t38 t39 t40 t41 t42 t43 t44 t45 t46 t47 t48 t49 t50 t51 t52 t53 t54 t55 t56 t57 t58 t59 t60 t61 t62 t63 t64 t65 t66 t67 t68 t69 t70 t71 t72 t73 t74 t75 t76 t77 t78 t79 t80 t81 t82 t83 t84 t85 t86 t87 t88 t89 t101 t102 t103 t104 t105 t106 t107 t108 t109 t110 t111 t112 t113 t114 t115 t116 t117 t118 t119 t120 t121 t122 t123 t124 t125 t126 t127 t128 t129 t130 t131 t132 t133 t134 t135 t136 t137 t138 t139 t140 t141 t142 t143 t144 t145 t146 t147 t148 t149 t150 t151 t152 t153 t154 t155 t156 t157 t158 t159 t160 : Value} {ds : List Deferred} : ∀ l a w1, p13I w b r g av bv s R t2 t3 t4 t6 t7 t8 t9 t10 t11 t12 t13 t14 t15 t16 t17 t18 t19 t20 t21 t22 t23 t24 t25 t26 t27 t28 t29 t30 t31 t32 t33 t34 t35 t36 t37 t38 t39 t40 t41 t42 t43 t44 t45 t46 t47 t48 t49 t50 t51 t52 t53 t54 t55 t56 t57 t58 t59 t60 t61 t62 t63 t64 t65 t66 t67 t68 t69 t70 t71 t72 t73 t74 t75 t76 t77 t78 t79 t80 t81 t82 t83 t84 t85 t86 t87 t88 t89 t101 t102 t103 t104 t105 t106 t107 t108 t109 t110 t111 t112 t113 t114 t115 t116 t117 t118 t119 t120 t121 t122 t123 t124 t125 t126 t127 t128 t129 t130 t131 t132 t133 t134 t135 t136 t137 t138 t139 t140 t141 t142 t143 t144 t145 t146 t147 t148 t149 t150 t151 t152 t153 t154 t155 t156 t157 t158 t159 t160 ds l a w1 → Region.ready .any p13O l = [] → left l = 3 := by
  simp only [p13O, findR, Try.f13, Option.bind_some, Option.or, Option.getD, Nat.reduceEqDiff, if_true, if_false, reduceIte]
  rintro l a w1 hI hr
  obtain ⟨j0, j1, j2, j3, j4, j5, j6, j7, j8, j9, j10, x0, x1, x2, x3, x4, x5, x6, x7, x8, x9, x10, rfl, rfl, hW, h0, h1, h2, h3, h4, h5, h6, h7, h8, h9, h10, k2, k4, k5, k8, k10⟩ := hI
  have hn := fun i => List.eq_nil_iff_forall_not_mem.1 hr i
  clear hr
  have d0 : j0 = true := by
    cases hj : j0
    · exact absurd (mem_ready.2 ⟨by simp [hj], _, rfl, by simp [Region.binds, hj]⟩) (hn 0)
    · rfl
  subst d0
  have d1 : j1 = true := by
    cases hj : j1
    · exact absurd (mem_ready.2 ⟨by simp [hj], _, rfl, by simp [Region.binds, hj]⟩) (hn 1)
    · rfl
  subst d1
  have d2 : j2 = true := by
    cases hj : j2
    · exact absurd (mem_ready.2 ⟨by simp [hj], _, rfl, by simp [Region.binds, hj]⟩) (hn 2)
    · rfl
  subst d2
  have d3 : j3 = true := by
    cases hj : j3
    · exact absurd (mem_ready.2 ⟨by simp [hj], _, rfl, by simp [Region.binds, hj]⟩) (hn 3)
    · rfl
  subst d3
  have d4 : j4 = true := by
    cases hj : j4
    · exact absurd (mem_ready.2 ⟨by simp [hj], _, rfl, by simp [Region.binds, hj]⟩) (hn 4)
    · rfl
  subst d4
  have d5 : j5 = true := by
    cases hj : j5
    · exact absurd (mem_ready.2 ⟨by simp [hj], _, rfl, by simp [Region.binds, hj]⟩) (hn 5)
    · rfl
  subst d5
  have d6 : j6 = true := by
    cases hj : j6
    · exact absurd (mem_ready.2 ⟨by simp [hj], _, rfl, by simp [Region.binds, hj]⟩) (hn 6)
    · rfl
  subst d6
  have d7 : j7 = true := by
    cases hj : j7
    · exact absurd (mem_ready.2 ⟨by simp [hj], _, rfl, by simp [Region.binds, hj]⟩) (hn 7)
    · rfl
  subst d7
  have d8 : j8 = true := by
    cases hj : j8
    · exact absurd (mem_ready.2 ⟨by simp [hj], _, rfl, by simp [Region.binds, hj]⟩) (hn 8)
    · rfl
  subst d8
  have d9 : j9 = true := by
    cases hj : j9
    · exact absurd (mem_ready.2 ⟨by simp [hj], _, rfl, by simp [Region.binds, hj]⟩) (hn 9)
    · rfl
  subst d9
  have d10 : j10 = true := by
    cases hj : j10
    · exact absurd (mem_ready.2 ⟨by simp [hj], _, rfl, by simp [Region.binds, hj]⟩) (hn 10)
    · rfl
  subst d10
  rfl
set_option maxHeartbeats 16000000 in
theorem p13_steps (b r g : Nat) (av bv : Int) (s : ByteArray) (R : World → Value → Prop) (w : World)  (c0 : w.cell? ⟨g, 2, none⟩ = some (.int .i64 av)) (rc0 : Hid (∀ w1 v, R w1 v → w1.cell? ⟨g, 2, none⟩ = some (.int .i64 av))) (c1 : w.cell? ⟨g, 3, none⟩ = some (.int .i64 bv)) (rc1 : Hid (∀ w1 v, R w1 v → w1.cell? ⟨g, 3, none⟩ = some (.int .i64 bv))) (hE : Hid (Calls Try.prog 25 #[.pointer (some ⟨b, 0, none⟩), .int .i64 av, .int .i64 bv] w.drew fun e w1 => ∃ v, e = .returned v ∧ R w1 v))
    {t2 t3 t4 t6 t7 t8 t9 t10 t11 t12 t13 t14 t15 t16 t17 t18 t19 t20 t21 t22 t23 t24 t25 t26 t27 t28 t29 t30 t31 t32 t33 t34 t35 t36 t37 t38 t39 t40 t41 t42 t43 t44 t45 t46 t47 t48 t49 t50 t51 t52 t53 t54 t55 t56 t57 t58 t59 t60 t61 t62 t63 t64 t65 t66 t67 t68 t69 t70 t71 t72 t73 t74 t75 t76 t77 t78 t79 t80 t81 t82 t83 t84 t85 t86 t87 t88 t89 t101 t102 t103 t104 t105 t106 t107 t108 t109 t110 t111 t112 t113 t114 t115 t116 t117 t118 t119 t120 t121 t122 t123 t124 t125 t126 t127 t128 t129 t130 t131 t132 t133 t134 t135 t136 t137 t138 t139 t140 t141 t142 t143 t144 t145 t146 t147 t148 t149 t150 t151 t152 t153 t154 t155 t156 t157 t158 t159 t160 : Value} {ds : List Deferred} {Q : Exit → Act → World → Prop} :
    ∀ l a w', p13I w b r g av bv s R t2 t3 t4 t6 t7 t8 t9 t10 t11 t12 t13 t14 t15 t16 t17 t18 t19 t20 t21 t22 t23 t24 t25 t26 t27 t28 t29 t30 t31 t32 t33 t34 t35 t36 t37 t38 t39 t40 t41 t42 t43 t44 t45 t46 t47 t48 t49 t50 t51 t52 t53 t54 t55 t56 t57 t58 t59 t60 t61 t62 t63 t64 t65 t66 t67 t68 t69 t70 t71 t72 t73 t74 t75 t76 t77 t78 t79 t80 t81 t82 t83 t84 t85 t86 t87 t88 t89 t101 t102 t103 t104 t105 t106 t107 t108 t109 t110 t111 t112 t113 t114 t115 t116 t117 t118 t119 t120 t121 t122 t123 t124 t125 t126 t127 t128 t129 t130 t131 t132 t133 t134 t135 t136 t137 t138 t139 t140 t141 t142 t143 t144 t145 t146 t147 t148 t149 t150 t151 t152 t153 t154 t155 t156 t157 t158 t159 t160 ds l a w' → left l ≠ 3 → ∀ i ∈ Region.ready .any p13O l, wpOp Try.prog p13O Q i (fun a' w'' => p13I w b r g av bv s R t2 t3 t4 t6 t7 t8 t9 t10 t11 t12 t13 t14 t15 t16 t17 t18 t19 t20 t21 t22 t23 t24 t25 t26 t27 t28 t29 t30 t31 t32 t33 t34 t35 t36 t37 t38 t39 t40 t41 t42 t43 t44 t45 t46 t47 t48 t49 t50 t51 t52 t53 t54 t55 t56 t57 t58 t59 t60 t61 t62 t63 t64 t65 t66 t67 t68 t69 t70 t71 t72 t73 t74 t75 t76 t77 t78 t79 t80 t81 t82 t83 t84 t85 t86 t87 t88 t89 t101 t102 t103 t104 t105 t106 t107 t108 t109 t110 t111 t112 t113 t114 t115 t116 t117 t118 t119 t120 t121 t122 t123 t124 t125 t126 t127 t128 t129 t130 t131 t132 t133 t134 t135 t136 t137 t138 t139 t140 t141 t142 t143 t144 t145 t146 t147 t148 t149 t150 t151 t152 t153 t154 t155 t156 t157 t158 t159 t160 ds (l.setIfInBounds i true) a' w'') a w' := by
  simp only [p13O, findR, Try.f13, Option.bind_some, Option.or, Option.getD, Nat.reduceEqDiff, if_true, if_false, reduceIte]
  rintro l a w' hI hlt i hi
  rw [mem_ready] at hi
  obtain ⟨hu, oo, ho, hd⟩ := hi
  have hin : i < 14 := by
    have := (Array.getElem?_eq_some_iff.1 ho).1
    simpa using this
  have hcase : i = 0 ∨ i = 1 ∨ i = 2 ∨ i = 3 ∨ i = 4 ∨ i = 5 ∨ i = 6 ∨ i = 7 ∨ i = 8 ∨ i = 9 ∨ i = 10 ∨ i = 11 ∨ i = 12 ∨ i = 13 := by omega
  obtain ⟨j0, j1, j2, j3, j4, j5, j6, j7, j8, j9, j10, x0, x1, x2, x3, x4, x5, x6, x7, x8, x9, x10, rfl, rfl, hW, h0, h1, h2, h3, h4, h5, h6, h7, h8, h9, h10, k2, k4, k5, k8, k10⟩ := hI
  replace hW := Lib.hid hW
  replace h0 := Lib.hid h0
  replace h1 := Lib.hid h1
  replace h2 := Lib.hid h2
  replace h3 := Lib.hid h3
  replace h4 := Lib.hid h4
  replace h5 := Lib.hid h5
  replace h6 := Lib.hid h6
  replace h7 := Lib.hid h7
  replace h8 := Lib.hid h8
  replace h9 := Lib.hid h9
  replace h10 := Lib.hid h10
  replace k2 := Lib.hid k2
  replace k4 := Lib.hid k4
  replace k5 := Lib.hid k5
  replace k8 := Lib.hid k8
  replace k10 := Lib.hid k10
  have gc0 : w'.cell? ⟨g, 2, none⟩ = some (.int .i64 av) := by
    cases hj : j5
    · rw [hW.out hj]; exact c0
    · exact rc0.out _ _ (h5.out hj)
  have gc1 : w'.cell? ⟨g, 3, none⟩ = some (.int .i64 bv) := by
    cases hj : j5
    · rw [hW.out hj]; exact c1
    · exact rc1.out _ _ (h5.out hj)
  clear c0 c1
  rcases hcase with rfl | rfl | rfl | rfl | rfl | rfl | rfl | rfl | rfl | rfl | rfl | rfl | rfl | rfl
  · obtain rfl := Option.some.inj ho
    simp [Region.binds] at hu hd
    clear hd hlt
    refine wpOp_of rfl rfl ?_
    go_simp
    unfold p13I
    exact ⟨true, j1, j2, j3, j4, j5, j6, j7, j8, j9, j10, _, x1, x2, x3, x4, x5, x6, x7, x8, x9, x10, rfl, rfl, hW.out, fun _ => rfl, h1.out, h2.out, h3.out, h4.out, h5.out, h6.out, h7.out, h8.out, h9.out, h10.out, k2.out, k4.out, fun hj => absurd ((k5.out hj).1) (by simp [hu]), k8.out, k10.out⟩
  · obtain rfl := Option.some.inj ho
    simp [Region.binds] at hu hd
    clear hd hlt
    refine wpOp_of rfl rfl ?_
    go_simp
    unfold p13I
    exact ⟨j0, true, j2, j3, j4, j5, j6, j7, j8, j9, j10, x0, _, x2, x3, x4, x5, x6, x7, x8, x9, x10, rfl, rfl, hW.out, h0.out, fun _ => rfl, h2.out, h3.out, h4.out, h5.out, h6.out, h7.out, h8.out, h9.out, h10.out, fun hj => absurd ((k2.out hj)) (by simp [hu]), k4.out, k5.out, k8.out, k10.out⟩
  · obtain rfl := Option.some.inj ho
    simp [Region.binds] at hu hd
    have d1 : j1 = true := by simp [hd]
    have e1 := h1.out d1
    subst e1
    subst d1
    clear hd hlt
    refine wpOp_of rfl rfl ?_
    go_simp
    unfold p13I
    exact ⟨j0, true, true, j3, j4, j5, j6, j7, j8, j9, j10, x0, _, _, x3, x4, x5, x6, x7, x8, x9, x10, rfl, rfl, hW.out, h0.out, h1.out, fun _ => rfl, h3.out, h4.out, h5.out, h6.out, h7.out, h8.out, h9.out, h10.out, fun _ => rfl, k4.out, fun hj => absurd ((k5.out hj).2.1) (by simp [hu]), k8.out, k10.out⟩
  · obtain rfl := Option.some.inj ho
    simp [Region.binds] at hu hd
    clear hd hlt
    refine wpOp_of rfl rfl ?_
    go_simp
    unfold p13I
    exact ⟨j0, j1, j2, true, j4, j5, j6, j7, j8, j9, j10, x0, x1, x2, _, x4, x5, x6, x7, x8, x9, x10, rfl, rfl, hW.out, h0.out, h1.out, h2.out, fun _ => rfl, h4.out, h5.out, h6.out, h7.out, h8.out, h9.out, h10.out, k2.out, fun hj => absurd ((k4.out hj)) (by simp [hu]), k5.out, k8.out, k10.out⟩
  · obtain rfl := Option.some.inj ho
    simp [Region.binds] at hu hd
    have d3 : j3 = true := by simp [hd]
    have e3 := h3.out d3
    subst e3
    subst d3
    clear hd hlt
    refine wpOp_of rfl rfl ?_
    go_simp
    unfold p13I
    exact ⟨j0, j1, j2, true, true, j5, j6, j7, j8, j9, j10, x0, x1, x2, _, _, x5, x6, x7, x8, x9, x10, rfl, rfl, hW.out, h0.out, h1.out, h2.out, h3.out, fun _ => rfl, h5.out, h6.out, h7.out, h8.out, h9.out, h10.out, k2.out, fun _ => rfl, fun hj => absurd ((k5.out hj).2.2) (by simp [hu]), k8.out, k10.out⟩
  · obtain rfl := Option.some.inj ho
    simp [Region.binds] at hu hd
    have d0 : j0 = true := by simp [hd]
    have d2 : j2 = true := by simp [hd]
    have d4 : j4 = true := by simp [hd]
    have e0 := h0.out d0
    subst e0
    have e2 := h2.out d2
    subst e2
    have e4 := h4.out d4
    subst e4
    subst d0
    subst d2
    subst d4
    clear hd hlt
    have hWW := hW.out hu
    clear hW gc0 gc1
    subst hWW
    refine wpOp_of rfl rfl ?_
    go_simp
    go_at_call 25
    refine hE.out.mono ?_
    rintro e w2 ⟨v, rfl, hR⟩
    unfold p13I
    exact ⟨true, j1, true, j3, true, true, j6, j7, j8, j9, j10, _, x1, _, x3, _, _, x6, x7, x8, x9, x10, rfl, rfl, (fun h => by cases h), h0.out, h1.out, h2.out, h3.out, h4.out, fun _ => hR, h6.out, h7.out, h8.out, h9.out, h10.out, k2.out, k4.out, fun _ => ⟨rfl, rfl, rfl⟩, k8.out, k10.out⟩
  · obtain rfl := Option.some.inj ho
    simp [Region.binds] at hu hd
    clear hd hlt
    refine wpOp_of rfl rfl ?_
    go_simp
    unfold p13I
    exact ⟨j0, j1, j2, j3, j4, j5, true, j7, j8, j9, j10, x0, x1, x2, x3, x4, x5, _, x7, x8, x9, x10, rfl, rfl, hW.out, h0.out, h1.out, h2.out, h3.out, h4.out, h5.out, fun _ => rfl, h7.out, h8.out, h9.out, h10.out, k2.out, k4.out, k5.out, k8.out, k10.out⟩
  · obtain rfl := Option.some.inj ho
    simp [Region.binds] at hu hd
    clear hd hlt
    refine wpOp_of rfl rfl ?_
    go_simp
    unfold p13I
    exact ⟨j0, j1, j2, j3, j4, j5, j6, true, j8, j9, j10, x0, x1, x2, x3, x4, x5, x6, _, x8, x9, x10, rfl, rfl, hW.out, h0.out, h1.out, h2.out, h3.out, h4.out, h5.out, h6.out, fun _ => rfl, h8.out, h9.out, h10.out, k2.out, k4.out, k5.out, fun hj => absurd ((k8.out hj)) (by simp [hu]), k10.out⟩
  · obtain rfl := Option.some.inj ho
    simp [Region.binds] at hu hd
    have d7 : j7 = true := by simp [hd]
    have e7 := h7.out d7
    subst e7
    subst d7
    clear hd hlt
    refine wpOp_of rfl rfl ?_
    go_simp
    unfold p13I
    exact ⟨j0, j1, j2, j3, j4, j5, j6, true, true, j9, j10, x0, x1, x2, x3, x4, x5, x6, _, _, x9, x10, rfl, rfl, hW.out, h0.out, h1.out, h2.out, h3.out, h4.out, h5.out, h6.out, h7.out, fun _ => rfl, h9.out, h10.out, k2.out, k4.out, k5.out, fun _ => rfl, k10.out⟩
  · obtain rfl := Option.some.inj ho
    simp [Region.binds] at hu hd
    clear hd hlt
    refine wpOp_of rfl rfl ?_
    go_simp
    unfold p13I
    exact ⟨j0, j1, j2, j3, j4, j5, j6, j7, j8, true, j10, x0, x1, x2, x3, x4, x5, x6, x7, x8, _, x10, rfl, rfl, hW.out, h0.out, h1.out, h2.out, h3.out, h4.out, h5.out, h6.out, h7.out, h8.out, fun _ => rfl, h10.out, k2.out, k4.out, k5.out, k8.out, fun hj => absurd ((k10.out hj)) (by simp [hu])⟩
  · obtain rfl := Option.some.inj ho
    simp [Region.binds] at hu hd
    have d9 : j9 = true := by simp [hd]
    have e9 := h9.out d9
    subst e9
    subst d9
    clear hd hlt
    refine wpOp_of rfl rfl ?_
    go_simp
    unfold p13I
    exact ⟨j0, j1, j2, j3, j4, j5, j6, j7, j8, true, true, x0, x1, x2, x3, x4, x5, x6, x7, x8, _, _, rfl, rfl, hW.out, h0.out, h1.out, h2.out, h3.out, h4.out, h5.out, h6.out, h7.out, h8.out, h9.out, fun _ => rfl, k2.out, k4.out, k5.out, k8.out, fun _ => rfl⟩
  · obtain rfl := Option.some.inj ho
    simp [Region.binds] at hu hd
    exfalso
    have d5 : j5 = true := by simp [hd]
    have d6 : j6 = true := by simp [hd]
    have d8 : j8 = true := by simp [hd]
    have d10 : j10 = true := by simp [hd]
    have d9 : j9 = true := (k10.out d10)
    have d7 : j7 = true := (k8.out d8)
    have d0 : j0 = true := (k5.out d5).1
    have d2 : j2 = true := (k5.out d5).2.1
    have d4 : j4 = true := (k5.out d5).2.2
    have d3 : j3 = true := (k4.out d4)
    have d1 : j1 = true := (k2.out d2)
    subst d5
    subst d6
    subst d8
    subst d10
    subst d9
    subst d7
    subst d0
    subst d2
    subst d4
    subst d3
    subst d1
    exact hlt rfl
  · obtain rfl := Option.some.inj ho
    exfalso
    simp [Region.binds] at hd
  · obtain rfl := Option.some.inj ho
    exfalso
    simp [Region.binds] at hd
set_option maxHeartbeats 16000000 in
theorem p13 (b r g : Nat) (av bv : Int) (s : ByteArray) (R : World → Value → Prop) (w : World)  (c0 : w.cell? ⟨g, 2, none⟩ = some (.int .i64 av)) (rc0 : Hid (∀ w1 v, R w1 v → w1.cell? ⟨g, 2, none⟩ = some (.int .i64 av))) (c1 : w.cell? ⟨g, 3, none⟩ = some (.int .i64 bv)) (rc1 : Hid (∀ w1 v, R w1 v → w1.cell? ⟨g, 3, none⟩ = some (.int .i64 bv))) (hE : Hid (Calls Try.prog 25 #[.pointer (some ⟨b, 0, none⟩), .int .i64 av, .int .i64 bv] w.drew fun e w1 => ∃ v, e = .returned v ∧ R w1 v)) {t2 t3 t4 t6 t7 t8 t9 t10 t11 t12 t13 t14 t15 t16 t17 t18 t19 t20 t21 t22 t23 t24 t25 t26 t27 t28 t29 t30 t31 t32 t33 t34 t35 t36 t37 t38 t39 t40 t41 t42 t43 t44 t45 t46 t47 t48 t49 t50 t51 t52 t53 t54 t55 t56 t57 t58 t59 t60 t61 t62 t63 t64 t65 t66 t67 t68 t69 t70 t71 t72 t73 t74 t75 t76 t77 t78 t79 t80 t81 t82 t83 t84 t85 t86 t87 t88 t89 t90 t91 t92 t93 t94 t95 t96 t97 t98 t99 t100 t101 t102 t103 t104 t105 t106 t107 t108 t109 t110 t111 t112 t113 t114 t115 t116 t117 t118 t119 t120 t121 t122 t123 t124 t125 t126 t127 t128 t129 t130 t131 t132 t133 t134 t135 t136 t137 t138 t139 t140 t141 t142 t143 t144 t145 t146 t147 t148 t149 t150 t151 t152 t153 t154 t155 t156 t157 t158 t159 t160 : Value} {ds : List Deferred} {Q : Exit → Act → World → Prop}
    (h : ∀ (yE : Value) (w1 : World), R w1 yE → wpList Try.prog p13O Q (p13O.toList.drop 11) { tmps := #[.pointer (some ⟨b, 0, none⟩), .pointer (some ⟨r, 0, none⟩), t2, t3, t4, .pointer (some ⟨g, 0, none⟩), t6, t7, t8, t9, t10, t11, t12, t13, t14, t15, t16, t17, t18, t19, t20, t21, t22, t23, t24, t25, t26, t27, t28, t29, t30, t31, t32, t33, t34, t35, t36, t37, t38, t39, t40, t41, t42, t43, t44, t45, t46, t47, t48, t49, t50, t51, t52, t53, t54, t55, t56, t57, t58, t59, t60, t61, t62, t63, t64, t65, t66, t67, t68, t69, t70, t71, t72, t73, t74, t75, t76, t77, t78, t79, t80, t81, t82, t83, t84, t85, t86, t87, t88, t89, .pointer (some ⟨b, 0, none⟩), .pointer (some ⟨g, 2, none⟩), .int .i64 av, .pointer (some ⟨g, 3, none⟩), .int .i64 bv, yE, .pointer (some ⟨r, 0, none⟩), .pointer (some ⟨g, 2, none⟩), .int .i64 av, .pointer (some ⟨g, 3, none⟩), .int .i64 bv, t101, t102, t103, t104, t105, t106, t107, t108, t109, t110, t111, t112, t113, t114, t115, t116, t117, t118, t119, t120, t121, t122, t123, t124, t125, t126, t127, t128, t129, t130, t131, t132, t133, t134, t135, t136, t137, t138, t139, t140, t141, t142, t143, t144, t145, t146, t147, t148, t149, t150, t151, t152, t153, t154, t155, t156, t157, t158, t159, t160], defers := ds } w1) :
    (Code.region 13 p13O true).wp Try.prog Q { tmps := #[.pointer (some ⟨b, 0, none⟩), .pointer (some ⟨r, 0, none⟩), t2, t3, t4, .pointer (some ⟨g, 0, none⟩), t6, t7, t8, t9, t10, t11, t12, t13, t14, t15, t16, t17, t18, t19, t20, t21, t22, t23, t24, t25, t26, t27, t28, t29, t30, t31, t32, t33, t34, t35, t36, t37, t38, t39, t40, t41, t42, t43, t44, t45, t46, t47, t48, t49, t50, t51, t52, t53, t54, t55, t56, t57, t58, t59, t60, t61, t62, t63, t64, t65, t66, t67, t68, t69, t70, t71, t72, t73, t74, t75, t76, t77, t78, t79, t80, t81, t82, t83, t84, t85, t86, t87, t88, t89, t90, t91, t92, t93, t94, t95, t96, t97, t98, t99, t100, t101, t102, t103, t104, t105, t106, t107, t108, t109, t110, t111, t112, t113, t114, t115, t116, t117, t118, t119, t120, t121, t122, t123, t124, t125, t126, t127, t128, t129, t130, t131, t132, t133, t134, t135, t136, t137, t138, t139, t140, t141, t142, t143, t144, t145, t146, t147, t148, t149, t150, t151, t152, t153, t154, t155, t156, t157, t158, t159, t160], defers := ds } w := by
  have hsz : p13O.size = 14 := by kernel_rfl
  refine wp_region_any (show Try.prog.follows .mixedOrders = true from by kernel_rfl) ?_
  rw [hsz]
  refine wpAny_inv2 (I := p13I w b r g av bv s R t2 t3 t4 t6 t7 t8 t9 t10 t11 t12 t13 t14 t15 t16 t17 t18 t19 t20 t21 t22 t23 t24 t25 t26 t27 t28 t29 t30 t31 t32 t33 t34 t35 t36 t37 t38 t39 t40 t41 t42 t43 t44 t45 t46 t47 t48 t49 t50 t51 t52 t53 t54 t55 t56 t57 t58 t59 t60 t61 t62 t63 t64 t65 t66 t67 t68 t69 t70 t71 t72 t73 t74 t75 t76 t77 t78 t79 t80 t81 t82 t83 t84 t85 t86 t87 t88 t89 t101 t102 t103 t104 t105 t106 t107 t108 t109 t110 t111 t112 t113 t114 t115 t116 t117 t118 t119 t120 t121 t122 t123 t124 t125 t126 t127 t128 t129 t130 t131 t132 t133 t134 t135 t136 t137 t138 t139 t140 t141 t142 t143 t144 t145 t146 t147 t148 t149 t150 t151 t152 t153 t154 t155 t156 t157 t158 t159 t160 ds) (g := 3) (p13_none b r g av bv s R w) (p13_steps b r g av bv s R w  c0 rc0 c1 rc1 hE) (fun l a w' hI hl => ?_) 14 _ _ _ (by decide) (by decide) ?_
  · have hI' := hI
    obtain ⟨j0, j1, j2, j3, j4, j5, j6, j7, j8, j9, j10, x0, x1, x2, x3, x4, x5, x6, x7, x8, x9, x10, rfl, rfl, hW, h0, h1, h2, h3, h4, h5, h6, h7, h8, h9, h10, k2, k4, k5, k8, k10⟩ := hI
    obtain ⟨d0, d1, d2, d3, d4, d5, d6, d7, d8, d9, d10⟩ := left_all11_3 hl
    subst d0
    subst d1
    subst d2
    subst d3
    subst d4
    subst d5
    subst d6
    subst d7
    subst d8
    subst d9
    subst d10
    obtain rfl := h0 rfl
    obtain rfl := h1 rfl
    obtain rfl := h2 rfl
    obtain rfl := h3 rfl
    obtain rfl := h4 rfl
    obtain rfl := h6 rfl
    obtain rfl := h7 rfl
    obtain rfl := h8 rfl
    obtain rfl := h9 rfl
    obtain rfl := h10 rfl
    have hw := h _ _ (h5 rfl)
    have hB : Region.seqB .any p13O (p13O.toList.drop 11).length 11 #[true, true, true, true, true, true, true, true, true, true, true, false, false, false] = true := by kernel_rfl
    have hlen : (p13O.toList.drop 11).length = 3 := by kernel_rfl
    have := wpAny_of_seq (md := .any) (p13O.toList.drop 11) 11 _ _ _ (fun j => by simp [List.getElem?_drop]) hB hw
    rw [hlen] at this
    exact this
  · exact ⟨false, false, false, false, false, false, false, false, false, false, false, t90, t91, t92, t93, t94, t95, t96, t97, t98, t99, t100, rfl, rfl, fun _ => rfl, (fun h => by cases h), (fun h => by cases h), (fun h => by cases h), (fun h => by cases h), (fun h => by cases h), (fun h => by cases h), (fun h => by cases h), (fun h => by cases h), (fun h => by cases h), (fun h => by cases h), (fun h => by cases h), (fun h => by cases h), (fun h => by cases h), (fun h => by cases h), (fun h => by cases h), (fun h => by cases h)⟩
theorem left_all7_3 {j0 j1 j2 j3 j4 j5 j6 : Bool} (h : left #[j0, j1, j2, j3, j4, j5, j6, false, false, false] = 3) : j0 = true ∧ j1 = true ∧ j2 = true ∧ j3 = true ∧ j4 = true ∧ j5 = true ∧ j6 = true := by
  have e := left_count #[j0, j1, j2, j3, j4, j5, j6] 3
  have e2 : (#[j0, j1, j2, j3, j4, j5, j6] ++ Array.replicate 3 false) = #[j0, j1, j2, j3, j4, j5, j6, false, false, false] := rfl
  rw [e2, h] at e
  have hz := left_zero (l := #[j0, j1, j2, j3, j4, j5, j6]) (by omega)
  simpa using hz
noncomputable def p15O : Array Oper := (Try.f13.body.bind fun c => findR c 15).getD #[]
def p15I (w0 : World) (b r g : Nat) (av bv : Int) (s : ByteArray) (R : World → Value → Prop) (t2 t3 t4 t6 t7 t8 t9 t10 t11 t12 t13 t14 t15 t16 t17 t18 t19 t20 t21 t22 t23 t24 t25 t26 t27 t28 t29 t30 t31 t32 t33 t34 t35 t36 t37 t38 t39 t40 t41 t42 t43 t44 t45 t46 t47 t48 t49 t50 t51 t52 t53 t54 t55 t56 t57 t58 t59 t60 t61 t62 t63 t64 t65 t66 t67 t68 t69 t70 t71 t72 t73 t74 t75 t76 t77 t78 t79 t80 t81 t82 t83 t84 t85 t86 t87 t88 t89 t90 t91 t92 t93 t94 t95 t96 t97 t98 t99 t100 t101 t102 t103 t104 t112 t113 t114 t115 t116 t117 t118 t119 t120 t121 t122 t123 t124 t125 t126 t127 t128 t129 t130 t131 t132 t133 t134 t135 t136 t137 t138 t139 t140 t141 t142 t143 t144 t145 t146 t147 t148 t149 t150 t151 t152 t153 t154 t155 t156 t157 t158 t159 t160 : Value) (ds : List Deferred) (l : Array Bool) (a : Act) (w : World) : Prop :=
  ∃ j0 j1 j2 j3 j4 j5 j6 : Bool, ∃ x0 x1 x2 x3 x4 x5 x6 : Value, l = #[j0, j1, j2, j3, j4, j5, j6, false, false, false] ∧ a = { tmps := #[.pointer (some ⟨b, 0, none⟩), .pointer (some ⟨r, 0, none⟩), t2, t3, t4, .pointer (some ⟨g, 0, none⟩), t6, t7, t8, t9, t10, t11, t12, t13, t14, t15, t16, t17, t18, t19, t20, t21, t22, t23, t24, t25, t26, t27, t28, t29, t30, t31, t32, t33, t34, t35, t36, t37, t38, t39, t40, t41, t42, t43, t44, t45, t46, t47, t48, t49, t50, t51, t52, t53, t54, t55, t56, t57, t58, t59, t60, t61, t62, t63, t64, t65, t66, t67, t68, t69, t70, t71, t72, t73, t74, t75, t76, t77, t78, t79, t80, t81, t82, t83, t84, t85, t86, t87, t88, t89, t90, t91, t92, t93, t94, t95, t96, t97, t98, t99, t100, t101, t102, t103, t104, x0, x1, x2, x3, x4, x5, x6, t112, t113, t114, t115, t116, t117, t118, t119, t120, t121, t122, t123, t124, t125, t126, t127, t128, t129, t130, t131, t132, t133, t134, t135, t136, t137, t138, t139, t140, t141, t142, t143, t144, t145, t146, t147, t148, t149, t150, t151, t152, t153, t154, t155, t156, t157, t158, t159, t160], defers := ds } ∧ (j3 = false → w = w0.drew) ∧
  (j0 = true → x0 = .pointer (some ⟨b, 0, none⟩)) ∧ (j1 = true → x1 = .pointer (some ⟨g, 2, none⟩)) ∧ (j2 = true → x2 = .int .i64 av) ∧ (j3 = true → R w x3) ∧ (j4 = true → x4 = .pointer (some ⟨r, 0, none⟩)) ∧ (j5 = true → x5 = .pointer (some ⟨g, 2, none⟩)) ∧ (j6 = true → x6 = .int .i64 av) ∧
  (j2 = true → j1 = true) ∧ (j3 = true → j0 = true ∧ j2 = true) ∧ (j6 = true → j5 = true)
set_option maxHeartbeats 16000000 in
theorem p15_none (b r g : Nat) (av bv : Int) (s : ByteArray) (R : World → Value → Prop) (w : World) {t2 t3 t4 t6 t7 t8 t9 t10 t11 t12 t13 t14 t15 t16 t17 t18 t19 t20 t21 t22 t23 t24 t25 t26 t27 t28 t29 t30 t31 t32 t33 t34 t35 t36 t37 t38 t39 t40 t41 t42 t43 t44 t45 t46 t47 t48 t49 t50 t51 t52 t53 t54 t55 t56 t57 t58 t59 t60 t61 t62 t63 t64 t65 t66 t67 t68 t69 t70 t71 t72 t73 t74 t75 t76 t77 t78 t79 t80 t81 t82 t83 t84 t85 t86 t87 t88 t89 t90 t91 t92 t93 t94 t95 t96 t97 t98 t99 t100 t101 t102 t103 t104 t112 t113 t114 t115 t116 t117 t118 t119 t120 t121 t122 t123 t124 t125 t126 t127 t128 t129 t130 t131 t132 t133 t134 t135 t136 t137 t138 t139 t140 t141 t142 t143 t144 t145 t146 t147 t148 t149 t150 t151 t152 t153 t154 t155 t156 t157 t158 t159 t160 : Value} {ds : List Deferred} : ∀ l a w1, p15I w b r g av bv s R t2 t3 t4 t6 t7 t8 t9 t10 t11 t12 t13 t14 t15 t16 t17 t18 t19 t20 t21 t22 t23 t24 t25 t26 t27 t28 t29 t30 t31 t32 t33 t34 t35 t36 t37 t38 t39 t40 t41 t42 t43 t44 t45 t46 t47 t48 t49 t50 t51 t52 t53 t54 t55 t56 t57 t58 t59 t60 t61 t62 t63 t64 t65 t66 t67 t68 t69 t70 t71 t72 t73 t74 t75 t76 t77 t78 t79 t80 t81 t82 t83 t84 t85 t86 t87 t88 t89 t90 t91 t92 t93 t94 t95 t96 t97 t98 t99 t100 t101 t102 t103 t104 t112 t113 t114 t115 t116 t117 t118 t119 t120 t121 t122 t123 t124 t125 t126 t127 t128 t129 t130 t131 t132 t133 t134 t135 t136 t137 t138 t139 t140 t141 t142 t143 t144 t145 t146 t147 t148 t149 t150 t151 t152 t153 t154 t155 t156 t157 t158 t159 t160 ds l a w1 → Region.ready .any p15O l = [] → left l = 3 := by
  simp only [p15O, findR, Try.f13, Option.bind_some, Option.or, Option.getD, Nat.reduceEqDiff, if_true, if_false, reduceIte]
  rintro l a w1 hI hr
  obtain ⟨j0, j1, j2, j3, j4, j5, j6, x0, x1, x2, x3, x4, x5, x6, rfl, rfl, hW, h0, h1, h2, h3, h4, h5, h6, k2, k3, k6⟩ := hI
  have hn := fun i => List.eq_nil_iff_forall_not_mem.1 hr i
  clear hr
  have d0 : j0 = true := by
    cases hj : j0
    · exact absurd (mem_ready.2 ⟨by simp [hj], _, rfl, by simp [Region.binds, hj]⟩) (hn 0)
    · rfl
  subst d0
  have d1 : j1 = true := by
    cases hj : j1
    · exact absurd (mem_ready.2 ⟨by simp [hj], _, rfl, by simp [Region.binds, hj]⟩) (hn 1)
    · rfl
  subst d1
  have d2 : j2 = true := by
    cases hj : j2
    · exact absurd (mem_ready.2 ⟨by simp [hj], _, rfl, by simp [Region.binds, hj]⟩) (hn 2)
    · rfl
  subst d2
  have d3 : j3 = true := by
    cases hj : j3
    · exact absurd (mem_ready.2 ⟨by simp [hj], _, rfl, by simp [Region.binds, hj]⟩) (hn 3)
    · rfl
  subst d3
  have d4 : j4 = true := by
    cases hj : j4
    · exact absurd (mem_ready.2 ⟨by simp [hj], _, rfl, by simp [Region.binds, hj]⟩) (hn 4)
    · rfl
  subst d4
  have d5 : j5 = true := by
    cases hj : j5
    · exact absurd (mem_ready.2 ⟨by simp [hj], _, rfl, by simp [Region.binds, hj]⟩) (hn 5)
    · rfl
  subst d5
  have d6 : j6 = true := by
    cases hj : j6
    · exact absurd (mem_ready.2 ⟨by simp [hj], _, rfl, by simp [Region.binds, hj]⟩) (hn 6)
    · rfl
  subst d6
  rfl
set_option maxHeartbeats 16000000 in
theorem p15_steps (b r g : Nat) (av bv : Int) (s : ByteArray) (R : World → Value → Prop) (w : World)  (c0 : w.cell? ⟨g, 2, none⟩ = some (.int .i64 av)) (rc0 : Hid (∀ w1 v, R w1 v → w1.cell? ⟨g, 2, none⟩ = some (.int .i64 av))) (hE : Hid (Calls Try.prog 16 #[.pointer (some ⟨b, 0, none⟩), .int .i64 av] w.drew fun e w1 => ∃ v, e = .returned v ∧ R w1 v))
    {t2 t3 t4 t6 t7 t8 t9 t10 t11 t12 t13 t14 t15 t16 t17 t18 t19 t20 t21 t22 t23 t24 t25 t26 t27 t28 t29 t30 t31 t32 t33 t34 t35 t36 t37 t38 t39 t40 t41 t42 t43 t44 t45 t46 t47 t48 t49 t50 t51 t52 t53 t54 t55 t56 t57 t58 t59 t60 t61 t62 t63 t64 t65 t66 t67 t68 t69 t70 t71 t72 t73 t74 t75 t76 t77 t78 t79 t80 t81 t82 t83 t84 t85 t86 t87 t88 t89 t90 t91 t92 t93 t94 t95 t96 t97 t98 t99 t100 t101 t102 t103 t104 t112 t113 t114 t115 t116 t117 t118 t119 t120 t121 t122 t123 t124 t125 t126 t127 t128 t129 t130 t131 t132 t133 t134 t135 t136 t137 t138 t139 t140 t141 t142 t143 t144 t145 t146 t147 t148 t149 t150 t151 t152 t153 t154 t155 t156 t157 t158 t159 t160 : Value} {ds : List Deferred} {Q : Exit → Act → World → Prop} :
    ∀ l a w', p15I w b r g av bv s R t2 t3 t4 t6 t7 t8 t9 t10 t11 t12 t13 t14 t15 t16 t17 t18 t19 t20 t21 t22 t23 t24 t25 t26 t27 t28 t29 t30 t31 t32 t33 t34 t35 t36 t37 t38 t39 t40 t41 t42 t43 t44 t45 t46 t47 t48 t49 t50 t51 t52 t53 t54 t55 t56 t57 t58 t59 t60 t61 t62 t63 t64 t65 t66 t67 t68 t69 t70 t71 t72 t73 t74 t75 t76 t77 t78 t79 t80 t81 t82 t83 t84 t85 t86 t87 t88 t89 t90 t91 t92 t93 t94 t95 t96 t97 t98 t99 t100 t101 t102 t103 t104 t112 t113 t114 t115 t116 t117 t118 t119 t120 t121 t122 t123 t124 t125 t126 t127 t128 t129 t130 t131 t132 t133 t134 t135 t136 t137 t138 t139 t140 t141 t142 t143 t144 t145 t146 t147 t148 t149 t150 t151 t152 t153 t154 t155 t156 t157 t158 t159 t160 ds l a w' → left l ≠ 3 → ∀ i ∈ Region.ready .any p15O l, wpOp Try.prog p15O Q i (fun a' w'' => p15I w b r g av bv s R t2 t3 t4 t6 t7 t8 t9 t10 t11 t12 t13 t14 t15 t16 t17 t18 t19 t20 t21 t22 t23 t24 t25 t26 t27 t28 t29 t30 t31 t32 t33 t34 t35 t36 t37 t38 t39 t40 t41 t42 t43 t44 t45 t46 t47 t48 t49 t50 t51 t52 t53 t54 t55 t56 t57 t58 t59 t60 t61 t62 t63 t64 t65 t66 t67 t68 t69 t70 t71 t72 t73 t74 t75 t76 t77 t78 t79 t80 t81 t82 t83 t84 t85 t86 t87 t88 t89 t90 t91 t92 t93 t94 t95 t96 t97 t98 t99 t100 t101 t102 t103 t104 t112 t113 t114 t115 t116 t117 t118 t119 t120 t121 t122 t123 t124 t125 t126 t127 t128 t129 t130 t131 t132 t133 t134 t135 t136 t137 t138 t139 t140 t141 t142 t143 t144 t145 t146 t147 t148 t149 t150 t151 t152 t153 t154 t155 t156 t157 t158 t159 t160 ds (l.setIfInBounds i true) a' w'') a w' := by
  simp only [p15O, findR, Try.f13, Option.bind_some, Option.or, Option.getD, Nat.reduceEqDiff, if_true, if_false, reduceIte]
  rintro l a w' hI hlt i hi
  rw [mem_ready] at hi
  obtain ⟨hu, oo, ho, hd⟩ := hi
  have hin : i < 10 := by
    have := (Array.getElem?_eq_some_iff.1 ho).1
    simpa using this
  have hcase : i = 0 ∨ i = 1 ∨ i = 2 ∨ i = 3 ∨ i = 4 ∨ i = 5 ∨ i = 6 ∨ i = 7 ∨ i = 8 ∨ i = 9 := by omega
  obtain ⟨j0, j1, j2, j3, j4, j5, j6, x0, x1, x2, x3, x4, x5, x6, rfl, rfl, hW, h0, h1, h2, h3, h4, h5, h6, k2, k3, k6⟩ := hI
  replace hW := Lib.hid hW
  replace h0 := Lib.hid h0
  replace h1 := Lib.hid h1
  replace h2 := Lib.hid h2
  replace h3 := Lib.hid h3
  replace h4 := Lib.hid h4
  replace h5 := Lib.hid h5
  replace h6 := Lib.hid h6
  replace k2 := Lib.hid k2
  replace k3 := Lib.hid k3
  replace k6 := Lib.hid k6
  have gc0 : w'.cell? ⟨g, 2, none⟩ = some (.int .i64 av) := by
    cases hj : j3
    · rw [hW.out hj]; exact c0
    · exact rc0.out _ _ (h3.out hj)
  clear c0
  rcases hcase with rfl | rfl | rfl | rfl | rfl | rfl | rfl | rfl | rfl | rfl
  · obtain rfl := Option.some.inj ho
    simp [Region.binds] at hu hd
    clear hd hlt
    refine wpOp_of rfl rfl ?_
    go_simp
    unfold p15I
    exact ⟨true, j1, j2, j3, j4, j5, j6, _, x1, x2, x3, x4, x5, x6, rfl, rfl, hW.out, fun _ => rfl, h1.out, h2.out, h3.out, h4.out, h5.out, h6.out, k2.out, fun hj => absurd ((k3.out hj).1) (by simp [hu]), k6.out⟩
  · obtain rfl := Option.some.inj ho
    simp [Region.binds] at hu hd
    clear hd hlt
    refine wpOp_of rfl rfl ?_
    go_simp
    unfold p15I
    exact ⟨j0, true, j2, j3, j4, j5, j6, x0, _, x2, x3, x4, x5, x6, rfl, rfl, hW.out, h0.out, fun _ => rfl, h2.out, h3.out, h4.out, h5.out, h6.out, fun hj => absurd ((k2.out hj)) (by simp [hu]), k3.out, k6.out⟩
  · obtain rfl := Option.some.inj ho
    simp [Region.binds] at hu hd
    have d1 : j1 = true := by simp [hd]
    have e1 := h1.out d1
    subst e1
    subst d1
    clear hd hlt
    refine wpOp_of rfl rfl ?_
    go_simp
    unfold p15I
    exact ⟨j0, true, true, j3, j4, j5, j6, x0, _, _, x3, x4, x5, x6, rfl, rfl, hW.out, h0.out, h1.out, fun _ => rfl, h3.out, h4.out, h5.out, h6.out, fun _ => rfl, fun hj => absurd ((k3.out hj).2) (by simp [hu]), k6.out⟩
  · obtain rfl := Option.some.inj ho
    simp [Region.binds] at hu hd
    have d0 : j0 = true := by simp [hd]
    have d2 : j2 = true := by simp [hd]
    have e0 := h0.out d0
    subst e0
    have e2 := h2.out d2
    subst e2
    subst d0
    subst d2
    clear hd hlt
    have hWW := hW.out hu
    clear hW gc0
    subst hWW
    refine wpOp_of rfl rfl ?_
    go_simp
    go_at_call 16
    refine hE.out.mono ?_
    rintro e w2 ⟨v, rfl, hR⟩
    unfold p15I
    exact ⟨true, j1, true, true, j4, j5, j6, _, x1, _, _, x4, x5, x6, rfl, rfl, (fun h => by cases h), h0.out, h1.out, h2.out, fun _ => hR, h4.out, h5.out, h6.out, k2.out, fun _ => ⟨rfl, rfl⟩, k6.out⟩
  · obtain rfl := Option.some.inj ho
    simp [Region.binds] at hu hd
    clear hd hlt
    refine wpOp_of rfl rfl ?_
    go_simp
    unfold p15I
    exact ⟨j0, j1, j2, j3, true, j5, j6, x0, x1, x2, x3, _, x5, x6, rfl, rfl, hW.out, h0.out, h1.out, h2.out, h3.out, fun _ => rfl, h5.out, h6.out, k2.out, k3.out, k6.out⟩
  · obtain rfl := Option.some.inj ho
    simp [Region.binds] at hu hd
    clear hd hlt
    refine wpOp_of rfl rfl ?_
    go_simp
    unfold p15I
    exact ⟨j0, j1, j2, j3, j4, true, j6, x0, x1, x2, x3, x4, _, x6, rfl, rfl, hW.out, h0.out, h1.out, h2.out, h3.out, h4.out, fun _ => rfl, h6.out, k2.out, k3.out, fun hj => absurd ((k6.out hj)) (by simp [hu])⟩
  · obtain rfl := Option.some.inj ho
    simp [Region.binds] at hu hd
    have d5 : j5 = true := by simp [hd]
    have e5 := h5.out d5
    subst e5
    subst d5
    clear hd hlt
    refine wpOp_of rfl rfl ?_
    go_simp
    unfold p15I
    exact ⟨j0, j1, j2, j3, j4, true, true, x0, x1, x2, x3, x4, _, _, rfl, rfl, hW.out, h0.out, h1.out, h2.out, h3.out, h4.out, h5.out, fun _ => rfl, k2.out, k3.out, fun _ => rfl⟩
  · obtain rfl := Option.some.inj ho
    simp [Region.binds] at hu hd
    exfalso
    have d3 : j3 = true := by simp [hd]
    have d4 : j4 = true := by simp [hd]
    have d6 : j6 = true := by simp [hd]
    have d5 : j5 = true := (k6.out d6)
    have d0 : j0 = true := (k3.out d3).1
    have d2 : j2 = true := (k3.out d3).2
    have d1 : j1 = true := (k2.out d2)
    subst d3
    subst d4
    subst d6
    subst d5
    subst d0
    subst d2
    subst d1
    exact hlt rfl
  · obtain rfl := Option.some.inj ho
    exfalso
    simp [Region.binds] at hd
  · obtain rfl := Option.some.inj ho
    exfalso
    simp [Region.binds] at hd
set_option maxHeartbeats 16000000 in
theorem p15 (b r g : Nat) (av bv : Int) (s : ByteArray) (R : World → Value → Prop) (w : World)  (c0 : w.cell? ⟨g, 2, none⟩ = some (.int .i64 av)) (rc0 : Hid (∀ w1 v, R w1 v → w1.cell? ⟨g, 2, none⟩ = some (.int .i64 av))) (hE : Hid (Calls Try.prog 16 #[.pointer (some ⟨b, 0, none⟩), .int .i64 av] w.drew fun e w1 => ∃ v, e = .returned v ∧ R w1 v)) {t2 t3 t4 t6 t7 t8 t9 t10 t11 t12 t13 t14 t15 t16 t17 t18 t19 t20 t21 t22 t23 t24 t25 t26 t27 t28 t29 t30 t31 t32 t33 t34 t35 t36 t37 t38 t39 t40 t41 t42 t43 t44 t45 t46 t47 t48 t49 t50 t51 t52 t53 t54 t55 t56 t57 t58 t59 t60 t61 t62 t63 t64 t65 t66 t67 t68 t69 t70 t71 t72 t73 t74 t75 t76 t77 t78 t79 t80 t81 t82 t83 t84 t85 t86 t87 t88 t89 t90 t91 t92 t93 t94 t95 t96 t97 t98 t99 t100 t101 t102 t103 t104 t105 t106 t107 t108 t109 t110 t111 t112 t113 t114 t115 t116 t117 t118 t119 t120 t121 t122 t123 t124 t125 t126 t127 t128 t129 t130 t131 t132 t133 t134 t135 t136 t137 t138 t139 t140 t141 t142 t143 t144 t145 t146 t147 t148 t149 t150 t151 t152 t153 t154 t155 t156 t157 t158 t159 t160 : Value} {ds : List Deferred} {Q : Exit → Act → World → Prop}
    (h : ∀ (yE : Value) (w1 : World), R w1 yE → wpList Try.prog p15O Q (p15O.toList.drop 7) { tmps := #[.pointer (some ⟨b, 0, none⟩), .pointer (some ⟨r, 0, none⟩), t2, t3, t4, .pointer (some ⟨g, 0, none⟩), t6, t7, t8, t9, t10, t11, t12, t13, t14, t15, t16, t17, t18, t19, t20, t21, t22, t23, t24, t25, t26, t27, t28, t29, t30, t31, t32, t33, t34, t35, t36, t37, t38, t39, t40, t41, t42, t43, t44, t45, t46, t47, t48, t49, t50, t51, t52, t53, t54, t55, t56, t57, t58, t59, t60, t61, t62, t63, t64, t65, t66, t67, t68, t69, t70, t71, t72, t73, t74, t75, t76, t77, t78, t79, t80, t81, t82, t83, t84, t85, t86, t87, t88, t89, t90, t91, t92, t93, t94, t95, t96, t97, t98, t99, t100, t101, t102, t103, t104, .pointer (some ⟨b, 0, none⟩), .pointer (some ⟨g, 2, none⟩), .int .i64 av, yE, .pointer (some ⟨r, 0, none⟩), .pointer (some ⟨g, 2, none⟩), .int .i64 av, t112, t113, t114, t115, t116, t117, t118, t119, t120, t121, t122, t123, t124, t125, t126, t127, t128, t129, t130, t131, t132, t133, t134, t135, t136, t137, t138, t139, t140, t141, t142, t143, t144, t145, t146, t147, t148, t149, t150, t151, t152, t153, t154, t155, t156, t157, t158, t159, t160], defers := ds } w1) :
    (Code.region 15 p15O true).wp Try.prog Q { tmps := #[.pointer (some ⟨b, 0, none⟩), .pointer (some ⟨r, 0, none⟩), t2, t3, t4, .pointer (some ⟨g, 0, none⟩), t6, t7, t8, t9, t10, t11, t12, t13, t14, t15, t16, t17, t18, t19, t20, t21, t22, t23, t24, t25, t26, t27, t28, t29, t30, t31, t32, t33, t34, t35, t36, t37, t38, t39, t40, t41, t42, t43, t44, t45, t46, t47, t48, t49, t50, t51, t52, t53, t54, t55, t56, t57, t58, t59, t60, t61, t62, t63, t64, t65, t66, t67, t68, t69, t70, t71, t72, t73, t74, t75, t76, t77, t78, t79, t80, t81, t82, t83, t84, t85, t86, t87, t88, t89, t90, t91, t92, t93, t94, t95, t96, t97, t98, t99, t100, t101, t102, t103, t104, t105, t106, t107, t108, t109, t110, t111, t112, t113, t114, t115, t116, t117, t118, t119, t120, t121, t122, t123, t124, t125, t126, t127, t128, t129, t130, t131, t132, t133, t134, t135, t136, t137, t138, t139, t140, t141, t142, t143, t144, t145, t146, t147, t148, t149, t150, t151, t152, t153, t154, t155, t156, t157, t158, t159, t160], defers := ds } w := by
  have hsz : p15O.size = 10 := by kernel_rfl
  refine wp_region_any (show Try.prog.follows .mixedOrders = true from by kernel_rfl) ?_
  rw [hsz]
  refine wpAny_inv2 (I := p15I w b r g av bv s R t2 t3 t4 t6 t7 t8 t9 t10 t11 t12 t13 t14 t15 t16 t17 t18 t19 t20 t21 t22 t23 t24 t25 t26 t27 t28 t29 t30 t31 t32 t33 t34 t35 t36 t37 t38 t39 t40 t41 t42 t43 t44 t45 t46 t47 t48 t49 t50 t51 t52 t53 t54 t55 t56 t57 t58 t59 t60 t61 t62 t63 t64 t65 t66 t67 t68 t69 t70 t71 t72 t73 t74 t75 t76 t77 t78 t79 t80 t81 t82 t83 t84 t85 t86 t87 t88 t89 t90 t91 t92 t93 t94 t95 t96 t97 t98 t99 t100 t101 t102 t103 t104 t112 t113 t114 t115 t116 t117 t118 t119 t120 t121 t122 t123 t124 t125 t126 t127 t128 t129 t130 t131 t132 t133 t134 t135 t136 t137 t138 t139 t140 t141 t142 t143 t144 t145 t146 t147 t148 t149 t150 t151 t152 t153 t154 t155 t156 t157 t158 t159 t160 ds) (g := 3) (p15_none b r g av bv s R w) (p15_steps b r g av bv s R w  c0 rc0 hE) (fun l a w' hI hl => ?_) 10 _ _ _ (by decide) (by decide) ?_
  · have hI' := hI
    obtain ⟨j0, j1, j2, j3, j4, j5, j6, x0, x1, x2, x3, x4, x5, x6, rfl, rfl, hW, h0, h1, h2, h3, h4, h5, h6, k2, k3, k6⟩ := hI
    obtain ⟨d0, d1, d2, d3, d4, d5, d6⟩ := left_all7_3 hl
    subst d0
    subst d1
    subst d2
    subst d3
    subst d4
    subst d5
    subst d6
    obtain rfl := h0 rfl
    obtain rfl := h1 rfl
    obtain rfl := h2 rfl
    obtain rfl := h4 rfl
    obtain rfl := h5 rfl
    obtain rfl := h6 rfl
    have hw := h _ _ (h3 rfl)
    have hB : Region.seqB .any p15O (p15O.toList.drop 7).length 7 #[true, true, true, true, true, true, true, false, false, false] = true := by kernel_rfl
    have hlen : (p15O.toList.drop 7).length = 3 := by kernel_rfl
    have := wpAny_of_seq (md := .any) (p15O.toList.drop 7) 7 _ _ _ (fun j => by simp [List.getElem?_drop]) hB hw
    rw [hlen] at this
    exact this
  · exact ⟨false, false, false, false, false, false, false, t105, t106, t107, t108, t109, t110, t111, rfl, rfl, fun _ => rfl, (fun h => by cases h), (fun h => by cases h), (fun h => by cases h), (fun h => by cases h), (fun h => by cases h), (fun h => by cases h), (fun h => by cases h), (fun h => by cases h), (fun h => by cases h), (fun h => by cases h)⟩
def p5F (w0 : World) (b r g : Nat) (ov kv av bv e z : Int) (s t : ByteArray) (t2 t3 t4 t11 t12 t13 t14 t15 t16 t17 t18 t19 t20 t21 t22 t23 t24 t25 t26 t27 t28 t29 t30 t31 t51 t52 t53 t54 t55 t56 t57 t58 t59 t60 t61 t62 t63 t64 t65 t66 t67 t68 t69 t70 t71 t72 t73 t74 t75 t76 t77 t78 t79 t80 t81 t82 t83 t84 t85 t86 t87 t88 t89 t90 t91 t92 t93 t94 t95 t96 t97 t98 t99 t100 t101 t102 t103 t104 t105 t106 t107 t108 t109 t110 t111 t112 t113 t114 t115 t116 t117 t118 t119 t120 t121 t122 t123 t124 t125 t126 t127 t128 t129 t130 t131 t132 t133 t134 t135 t136 t137 t138 t139 t140 t141 t142 t143 t144 t145 t146 t147 t148 t149 t150 t151 t152 t153 t154 t155 t156 t157 t158 t159 t160 : Value) (ds : List Deferred) (a : Act) (w : World) : Prop :=
  ∃ y0 y1 y2 y3 y4 y5 y6 y7 y8 y9 y10 y11 y12 y13 y14 y15 y16 y17 y18 : Value, ∃ wm : World, a = { tmps := #[.pointer (some ⟨b, 0, none⟩), .pointer (some ⟨r, 0, none⟩), t2, t3, t4, .pointer (some ⟨g, 0, none⟩), .bool true, .string t, .int .i64 e, .string t, .int .i64 e, t11, t12, t13, t14, t15, t16, t17, t18, t19, t20, t21, t22, t23, t24, t25, t26, t27, t28, t29, t30, t31, y0, y1, y2, y3, y4, y5, y6, y7, y8, y9, y10, y11, y12, y13, y14, y15, y16, y17, y18, t51, t52, t53, t54, t55, t56, t57, t58, t59, t60, t61, t62, t63, t64, t65, t66, t67, t68, t69, t70, t71, t72, t73, t74, t75, t76, t77, t78, t79, t80, t81, t82, t83, t84, t85, t86, t87, t88, t89, t90, t91, t92, t93, t94, t95, t96, t97, t98, t99, t100, t101, t102, t103, t104, t105, t106, t107, t108, t109, t110, t111, t112, t113, t114, t115, t116, t117, t118, t119, t120, t121, t122, t123, t124, t125, t126, t127, t128, t129, t130, t131, t132, t133, t134, t135, t136, t137, t138, t139, t140, t141, t142, t143, t144, t145, t146, t147, t148, t149, t150, t151, t152, t153, t154, t155, t156, t157, t158, t159, t160], defers := ds } ∧ Below w0.heap.size w0 wm ∧ w = wm
def p5I (w0 : World) (b r g : Nat) (ov kv av bv e z : Int) (s t : ByteArray) (t2 t3 t4 t11 t12 t13 t14 t15 t16 t17 t18 t19 t20 t21 t22 t23 t24 t25 t26 t27 t28 t29 t30 t31 t51 t52 t53 t54 t55 t56 t57 t58 t59 t60 t61 t62 t63 t64 t65 t66 t67 t68 t69 t70 t71 t72 t73 t74 t75 t76 t77 t78 t79 t80 t81 t82 t83 t84 t85 t86 t87 t88 t89 t90 t91 t92 t93 t94 t95 t96 t97 t98 t99 t100 t101 t102 t103 t104 t105 t106 t107 t108 t109 t110 t111 t112 t113 t114 t115 t116 t117 t118 t119 t120 t121 t122 t123 t124 t125 t126 t127 t128 t129 t130 t131 t132 t133 t134 t135 t136 t137 t138 t139 t140 t141 t142 t143 t144 t145 t146 t147 t148 t149 t150 t151 t152 t153 t154 t155 t156 t157 t158 t159 t160 : Value) (ds : List Deferred) (l : Array Bool) (a : Act) (w : World) : Prop :=
  ∃ j0 j1 j2 j3 j4 j5 j6 j7 j8 j9 j10 j11 j12 j13 j14 j15 j16 j17 j18 j19 : Bool, ∃ x0 x1 x2 x3 x4 x5 x6 x7 x8 x9 x10 x11 x12 x13 x14 x15 x16 x17 x18 x19 : Value, l = #[j0, j1, j2, j3, j4, j5, j6, j7, j8, j9, j10, j11, j12, j13, j14, j15, j16, j17, j18, j19] ∧ a = { tmps := #[.pointer (some ⟨b, 0, none⟩), .pointer (some ⟨r, 0, none⟩), t2, t3, t4, .pointer (some ⟨g, 0, none⟩), x19, .string t, .int .i64 e, .string t, .int .i64 e, t11, t12, t13, t14, t15, t16, t17, t18, t19, t20, t21, t22, t23, t24, t25, t26, t27, t28, t29, t30, t31, x0, x1, x2, x3, x4, x5, x6, x7, x8, x9, x10, x11, x12, x13, x14, x15, x16, x17, x18, t51, t52, t53, t54, t55, t56, t57, t58, t59, t60, t61, t62, t63, t64, t65, t66, t67, t68, t69, t70, t71, t72, t73, t74, t75, t76, t77, t78, t79, t80, t81, t82, t83, t84, t85, t86, t87, t88, t89, t90, t91, t92, t93, t94, t95, t96, t97, t98, t99, t100, t101, t102, t103, t104, t105, t106, t107, t108, t109, t110, t111, t112, t113, t114, t115, t116, t117, t118, t119, t120, t121, t122, t123, t124, t125, t126, t127, t128, t129, t130, t131, t132, t133, t134, t135, t136, t137, t138, t139, t140, t141, t142, t143, t144, t145, t146, t147, t148, t149, t150, t151, t152, t153, t154, t155, t156, t157, t158, t159, t160], defers := ds } ∧ Below w0.heap.size w0 w ∧
  (j0 = true → x0 = .string t) ∧ (j1 = true → x1 = .string t) ∧ (j2 = true → x2 = .bool true) ∧ (j3 = true → x3 = .bool true) ∧ (j4 = true → x4 = .int .i64 e) ∧ (j5 = true → x5 = .int .i64 e) ∧ (j6 = true → x6 = .bool true) ∧ (j7 = true → x7 = .bool true) ∧ (j8 = true → x8 = .bool true) ∧ (j9 = true → x9 = .pointer (some ⟨b, 0, none⟩)) ∧ (j10 = true → x10 = .pointer (some ⟨g, 2, none⟩)) ∧ (j11 = true → x11 = .int .i64 av) ∧ (j12 = true → x12 = .int .i64 z) ∧ (j13 = true → x13 = .pointer (some ⟨r, 0, none⟩)) ∧ (j14 = true → x14 = .pointer (some ⟨g, 2, none⟩)) ∧ (j15 = true → x15 = .int .i64 av) ∧ (j16 = true → x16 = .int .i64 z) ∧ (j17 = true → x17 = .bool true) ∧ (j18 = true → x18 = .bool true) ∧ (j19 = true → x19 = .bool true)
noncomputable def p5O : Array Oper := (Try.f13.body.bind fun c => findR c 5).getD #[]
set_option maxHeartbeats 16000000 in
theorem p5_steps (b r g : Nat) (ov kv av bv e z : Int) (s t : ByteArray) (w : World) (KG : Bk 35 w g #[.int .i64 ov, .int .i64 kv, .int .i64 av, .int .i64 bv, .string s]) (HX : Hid (∀ w', Below w.heap.size w w' → Calls Try.prog 23 #[.pointer (some ⟨b, 0, none⟩), .int .i64 av] w' fun e w'' => e = .returned (.int .i64 z) ∧ Below w'.heap.size w' w'')) (HY : Hid (∀ w', Below w.heap.size w w' → Calls Try.prog 32 #[.pointer (some ⟨r, 0, none⟩), .int .i64 av] w' fun e w'' => e = .returned (.int .i64 z) ∧ Below w'.heap.size w' w''))
    {t2 t3 t4 t11 t12 t13 t14 t15 t16 t17 t18 t19 t20 t21 t22 t23 t24 t25 t26 t27 t28 t29 t30 t31 t51 t52 t53 t54 t55 t56 t57 t58 t59 t60 t61 t62 t63 t64 t65 t66 t67 t68 t69 t70 t71 t72 t73 t74 t75 t76 t77 t78 t79 t80 t81 t82 t83 t84 t85 t86 t87 t88 t89 t90 t91 t92 t93 t94 t95 t96 t97 t98 t99 t100 t101 t102 t103 t104 t105 t106 t107 t108 t109 t110 t111 t112 t113 t114 t115 t116 t117 t118 t119 t120 t121 t122 t123 t124 t125 t126 t127 t128 t129 t130 t131 t132 t133 t134 t135 t136 t137 t138 t139 t140 t141 t142 t143 t144 t145 t146 t147 t148 t149 t150 t151 t152 t153 t154 t155 t156 t157 t158 t159 t160 : Value} {ds : List Deferred} {Q : Exit → Act → World → Prop} :
    ∀ l a w', p5I w b r g ov kv av bv e z s t t2 t3 t4 t11 t12 t13 t14 t15 t16 t17 t18 t19 t20 t21 t22 t23 t24 t25 t26 t27 t28 t29 t30 t31 t51 t52 t53 t54 t55 t56 t57 t58 t59 t60 t61 t62 t63 t64 t65 t66 t67 t68 t69 t70 t71 t72 t73 t74 t75 t76 t77 t78 t79 t80 t81 t82 t83 t84 t85 t86 t87 t88 t89 t90 t91 t92 t93 t94 t95 t96 t97 t98 t99 t100 t101 t102 t103 t104 t105 t106 t107 t108 t109 t110 t111 t112 t113 t114 t115 t116 t117 t118 t119 t120 t121 t122 t123 t124 t125 t126 t127 t128 t129 t130 t131 t132 t133 t134 t135 t136 t137 t138 t139 t140 t141 t142 t143 t144 t145 t146 t147 t148 t149 t150 t151 t152 t153 t154 t155 t156 t157 t158 t159 t160 ds l a w' → ∀ i ∈ Region.ready .any p5O l, wpOp Try.prog p5O Q i (fun a' w'' => p5I w b r g ov kv av bv e z s t t2 t3 t4 t11 t12 t13 t14 t15 t16 t17 t18 t19 t20 t21 t22 t23 t24 t25 t26 t27 t28 t29 t30 t31 t51 t52 t53 t54 t55 t56 t57 t58 t59 t60 t61 t62 t63 t64 t65 t66 t67 t68 t69 t70 t71 t72 t73 t74 t75 t76 t77 t78 t79 t80 t81 t82 t83 t84 t85 t86 t87 t88 t89 t90 t91 t92 t93 t94 t95 t96 t97 t98 t99 t100 t101 t102 t103 t104 t105 t106 t107 t108 t109 t110 t111 t112 t113 t114 t115 t116 t117 t118 t119 t120 t121 t122 t123 t124 t125 t126 t127 t128 t129 t130 t131 t132 t133 t134 t135 t136 t137 t138 t139 t140 t141 t142 t143 t144 t145 t146 t147 t148 t149 t150 t151 t152 t153 t154 t155 t156 t157 t158 t159 t160 ds (l.setIfInBounds i true) a' w'') a w' := by
  simp only [p5O, findR, Try.f13, Option.bind_some, Option.or, Option.getD, Nat.reduceEqDiff, if_true, if_false, reduceIte]
  rintro l a w' hI i hi
  rw [mem_ready] at hi
  obtain ⟨hu, oo, ho, hd⟩ := hi
  have hin : i < 20 := by
    have := (Array.getElem?_eq_some_iff.1 ho).1
    simpa using this
  have hcase : i = 0 ∨ i = 1 ∨ i = 2 ∨ i = 3 ∨ i = 4 ∨ i = 5 ∨ i = 6 ∨ i = 7 ∨ i = 8 ∨ i = 9 ∨ i = 10 ∨ i = 11 ∨ i = 12 ∨ i = 13 ∨ i = 14 ∨ i = 15 ∨ i = 16 ∨ i = 17 ∨ i = 18 ∨ i = 19 := by omega
  obtain ⟨j0, j1, j2, j3, j4, j5, j6, j7, j8, j9, j10, j11, j12, j13, j14, j15, j16, j17, j18, j19, x0, x1, x2, x3, x4, x5, x6, x7, x8, x9, x10, x11, x12, x13, x14, x15, x16, x17, x18, x19, rfl, rfl, hB, h0, h1, h2, h3, h4, h5, h6, h7, h8, h9, h10, h11, h12, h13, h14, h15, h16, h17, h18, h19⟩ := hI
  replace h0 := Lib.hid h0
  replace h1 := Lib.hid h1
  replace h2 := Lib.hid h2
  replace h3 := Lib.hid h3
  replace h4 := Lib.hid h4
  replace h5 := Lib.hid h5
  replace h6 := Lib.hid h6
  replace h7 := Lib.hid h7
  replace h8 := Lib.hid h8
  replace h9 := Lib.hid h9
  replace h10 := Lib.hid h10
  replace h11 := Lib.hid h11
  replace h12 := Lib.hid h12
  replace h13 := Lib.hid h13
  replace h14 := Lib.hid h14
  replace h15 := Lib.hid h15
  replace h16 := Lib.hid h16
  replace h17 := Lib.hid h17
  replace h18 := Lib.hid h18
  replace h19 := Lib.hid h19
  rcases hcase with rfl | rfl | rfl | rfl | rfl | rfl | rfl | rfl | rfl | rfl | rfl | rfl | rfl | rfl | rfl | rfl | rfl | rfl | rfl | rfl
  · obtain rfl := Option.some.inj ho
    simp [Region.binds] at hu hd
    clear hd
    refine wpOp_of rfl rfl ?_
    go_simp
    unfold p5I
    exact ⟨true, j1, j2, j3, j4, j5, j6, j7, j8, j9, j10, j11, j12, j13, j14, j15, j16, j17, j18, j19, _, x1, x2, x3, x4, x5, x6, x7, x8, x9, x10, x11, x12, x13, x14, x15, x16, x17, x18, x19, rfl, rfl, hB, fun _ => rfl, h1.out, h2.out, h3.out, h4.out, h5.out, h6.out, h7.out, h8.out, h9.out, h10.out, h11.out, h12.out, h13.out, h14.out, h15.out, h16.out, h17.out, h18.out, h19.out⟩
  · obtain rfl := Option.some.inj ho
    simp [Region.binds] at hu hd
    clear hd
    refine wpOp_of rfl rfl ?_
    go_simp
    unfold p5I
    exact ⟨j0, true, j2, j3, j4, j5, j6, j7, j8, j9, j10, j11, j12, j13, j14, j15, j16, j17, j18, j19, x0, _, x2, x3, x4, x5, x6, x7, x8, x9, x10, x11, x12, x13, x14, x15, x16, x17, x18, x19, rfl, rfl, hB, h0.out, fun _ => rfl, h2.out, h3.out, h4.out, h5.out, h6.out, h7.out, h8.out, h9.out, h10.out, h11.out, h12.out, h13.out, h14.out, h15.out, h16.out, h17.out, h18.out, h19.out⟩
  · obtain rfl := Option.some.inj ho
    simp [Region.binds] at hu hd
    have d0 : j0 = true := by simp [hd]
    have d1 : j1 = true := by simp [hd]
    have e0 := h0.out d0
    subst e0
    have e1 := h1.out d1
    subst e1
    subst d0
    subst d1
    clear hd
    refine wpOp_of rfl rfl ?_
    have hq := eq9 t
    go_simp
    unfold p5I
    exact ⟨true, true, true, j3, j4, j5, j6, j7, j8, j9, j10, j11, j12, j13, j14, j15, j16, j17, j18, j19, _, _, _, x3, x4, x5, x6, x7, x8, x9, x10, x11, x12, x13, x14, x15, x16, x17, x18, x19, rfl, rfl, hB, h0.out, h1.out, fun _ => rfl, h3.out, h4.out, h5.out, h6.out, h7.out, h8.out, h9.out, h10.out, h11.out, h12.out, h13.out, h14.out, h15.out, h16.out, h17.out, h18.out, h19.out⟩
  · obtain rfl := Option.some.inj ho
    simp [Region.binds] at hu hd
    have d2 : j2 = true := by simp [hd]
    have e2 := h2.out d2
    subst e2
    subst d2
    clear hd
    refine wpOp_of rfl rfl ?_
    go_simp
    unfold p5I
    exact ⟨j0, j1, true, true, j4, j5, j6, j7, j8, j9, j10, j11, j12, j13, j14, j15, j16, j17, j18, j19, x0, x1, _, _, x4, x5, x6, x7, x8, x9, x10, x11, x12, x13, x14, x15, x16, x17, x18, x19, rfl, rfl, hB, h0.out, h1.out, h2.out, fun _ => rfl, h4.out, h5.out, h6.out, h7.out, h8.out, h9.out, h10.out, h11.out, h12.out, h13.out, h14.out, h15.out, h16.out, h17.out, h18.out, h19.out⟩
  · obtain rfl := Option.some.inj ho
    simp [Region.binds] at hu hd
    have d3 : j3 = true := by simp [hd]
    have e3 := h3.out d3
    subst e3
    subst d3
    clear hd
    refine wpOp_want rfl rfl ?_
    go_simp
    unfold p5I
    exact ⟨j0, j1, j2, true, true, j5, j6, j7, j8, j9, j10, j11, j12, j13, j14, j15, j16, j17, j18, j19, x0, x1, x2, _, _, x5, x6, x7, x8, x9, x10, x11, x12, x13, x14, x15, x16, x17, x18, x19, rfl, rfl, hB, h0.out, h1.out, h2.out, h3.out, fun _ => rfl, h5.out, h6.out, h7.out, h8.out, h9.out, h10.out, h11.out, h12.out, h13.out, h14.out, h15.out, h16.out, h17.out, h18.out, h19.out⟩
  · obtain rfl := Option.some.inj ho
    simp [Region.binds] at hu hd
    have d3 : j3 = true := by simp [hd]
    have e3 := h3.out d3
    subst e3
    subst d3
    clear hd
    refine wpOp_want rfl rfl ?_
    go_simp
    unfold p5I
    exact ⟨j0, j1, j2, true, j4, true, j6, j7, j8, j9, j10, j11, j12, j13, j14, j15, j16, j17, j18, j19, x0, x1, x2, _, x4, _, x6, x7, x8, x9, x10, x11, x12, x13, x14, x15, x16, x17, x18, x19, rfl, rfl, hB, h0.out, h1.out, h2.out, h3.out, h4.out, fun _ => rfl, h6.out, h7.out, h8.out, h9.out, h10.out, h11.out, h12.out, h13.out, h14.out, h15.out, h16.out, h17.out, h18.out, h19.out⟩
  · obtain rfl := Option.some.inj ho
    simp [Region.binds] at hu hd
    have d3 : j3 = true := by simp [hd]
    have d4 : j4 = true := by simp [hd]
    have d5 : j5 = true := by simp [hd]
    have e3 := h3.out d3
    subst e3
    have e4 := h4.out d4
    subst e4
    have e5 := h5.out d5
    subst e5
    subst d3
    subst d4
    subst d5
    clear hd
    refine wpOp_want rfl rfl ?_
    go_simp
    unfold p5I
    exact ⟨j0, j1, j2, true, true, true, true, j7, j8, j9, j10, j11, j12, j13, j14, j15, j16, j17, j18, j19, x0, x1, x2, _, _, _, _, x7, x8, x9, x10, x11, x12, x13, x14, x15, x16, x17, x18, x19, rfl, rfl, hB, h0.out, h1.out, h2.out, h3.out, h4.out, h5.out, fun _ => rfl, h7.out, h8.out, h9.out, h10.out, h11.out, h12.out, h13.out, h14.out, h15.out, h16.out, h17.out, h18.out, h19.out⟩
  · obtain rfl := Option.some.inj ho
    simp [Region.binds] at hu hd
    have d3 : j3 = true := by simp [hd]
    have d6 : j6 = true := by simp [hd]
    have e3 := h3.out d3
    subst e3
    have e6 := h6.out d6
    subst e6
    subst d3
    subst d6
    clear hd
    refine wpOp_of rfl rfl ?_
    go_simp
    unfold p5I
    exact ⟨j0, j1, j2, true, j4, j5, true, true, j8, j9, j10, j11, j12, j13, j14, j15, j16, j17, j18, j19, x0, x1, x2, _, x4, x5, _, _, x8, x9, x10, x11, x12, x13, x14, x15, x16, x17, x18, x19, rfl, rfl, hB, h0.out, h1.out, h2.out, h3.out, h4.out, h5.out, h6.out, fun _ => rfl, h8.out, h9.out, h10.out, h11.out, h12.out, h13.out, h14.out, h15.out, h16.out, h17.out, h18.out, h19.out⟩
  · obtain rfl := Option.some.inj ho
    simp [Region.binds] at hu hd
    have d3 : j3 = true := by simp [hd]
    have d7 : j7 = true := by simp [hd]
    have e3 := h3.out d3
    subst e3
    have e7 := h7.out d7
    subst e7
    subst d3
    subst d7
    clear hd
    refine wpOp_of rfl rfl ?_
    go_simp
    unfold p5I
    exact ⟨j0, j1, j2, true, j4, j5, j6, true, true, j9, j10, j11, j12, j13, j14, j15, j16, j17, j18, j19, x0, x1, x2, _, x4, x5, x6, _, _, x9, x10, x11, x12, x13, x14, x15, x16, x17, x18, x19, rfl, rfl, hB, h0.out, h1.out, h2.out, h3.out, h4.out, h5.out, h6.out, h7.out, fun _ => rfl, h9.out, h10.out, h11.out, h12.out, h13.out, h14.out, h15.out, h16.out, h17.out, h18.out, h19.out⟩
  · obtain rfl := Option.some.inj ho
    simp [Region.binds] at hu hd
    have d8 : j8 = true := by simp [hd]
    have e8 := h8.out d8
    subst e8
    subst d8
    clear hd
    refine wpOp_want rfl rfl ?_
    go_simp
    unfold p5I
    exact ⟨j0, j1, j2, j3, j4, j5, j6, j7, true, true, j10, j11, j12, j13, j14, j15, j16, j17, j18, j19, x0, x1, x2, x3, x4, x5, x6, x7, _, _, x10, x11, x12, x13, x14, x15, x16, x17, x18, x19, rfl, rfl, hB, h0.out, h1.out, h2.out, h3.out, h4.out, h5.out, h6.out, h7.out, h8.out, fun _ => rfl, h10.out, h11.out, h12.out, h13.out, h14.out, h15.out, h16.out, h17.out, h18.out, h19.out⟩
  · obtain rfl := Option.some.inj ho
    simp [Region.binds] at hu hd
    have d8 : j8 = true := by simp [hd]
    have e8 := h8.out d8
    subst e8
    subst d8
    clear hd
    refine wpOp_want rfl rfl ?_
    go_simp
    unfold p5I
    exact ⟨j0, j1, j2, j3, j4, j5, j6, j7, true, j9, true, j11, j12, j13, j14, j15, j16, j17, j18, j19, x0, x1, x2, x3, x4, x5, x6, x7, _, x9, _, x11, x12, x13, x14, x15, x16, x17, x18, x19, rfl, rfl, hB, h0.out, h1.out, h2.out, h3.out, h4.out, h5.out, h6.out, h7.out, h8.out, h9.out, fun _ => rfl, h11.out, h12.out, h13.out, h14.out, h15.out, h16.out, h17.out, h18.out, h19.out⟩
  · obtain rfl := Option.some.inj ho
    simp [Region.binds] at hu hd
    have d8 : j8 = true := by simp [hd]
    have d10 : j10 = true := by simp [hd]
    have e8 := h8.out d8
    subst e8
    have e10 := h10.out d10
    subst e10
    subst d8
    subst d10
    clear hd
    refine wpOp_want rfl rfl ?_
    have i2 : w'.cell? ⟨g, 2, none⟩ = some (.int .i64 av) := (KG.below hB).cell 2
    go_simp
    unfold p5I
    exact ⟨j0, j1, j2, j3, j4, j5, j6, j7, true, j9, true, true, j12, j13, j14, j15, j16, j17, j18, j19, x0, x1, x2, x3, x4, x5, x6, x7, _, x9, _, _, x12, x13, x14, x15, x16, x17, x18, x19, rfl, rfl, hB, h0.out, h1.out, h2.out, h3.out, h4.out, h5.out, h6.out, h7.out, h8.out, h9.out, h10.out, fun _ => rfl, h12.out, h13.out, h14.out, h15.out, h16.out, h17.out, h18.out, h19.out⟩
  · obtain rfl := Option.some.inj ho
    simp [Region.binds] at hu hd
    have d8 : j8 = true := by simp [hd]
    have d9 : j9 = true := by simp [hd]
    have d11 : j11 = true := by simp [hd]
    have e8 := h8.out d8
    subst e8
    have e9 := h9.out d9
    subst e9
    have e11 := h11.out d11
    subst e11
    subst d8
    subst d9
    subst d11
    clear hd
    refine wpOp_want rfl rfl ?_
    go_simp
    go_at_call 23
    refine (keep w.heap.size w (HX.out _ hB) hB (Nat.le_refl _)).mono ?_
    rintro e w2 ⟨rfl, hB2, hb2⟩
    unfold p5I
    exact ⟨j0, j1, j2, j3, j4, j5, j6, j7, true, true, j10, true, true, j13, j14, j15, j16, j17, j18, j19, x0, x1, x2, x3, x4, x5, x6, x7, _, _, x10, _, _, x13, x14, x15, x16, x17, x18, x19, rfl, rfl, hB2, h0.out, h1.out, h2.out, h3.out, h4.out, h5.out, h6.out, h7.out, h8.out, h9.out, h10.out, h11.out, fun _ => rfl, h13.out, h14.out, h15.out, h16.out, h17.out, h18.out, h19.out⟩
  · obtain rfl := Option.some.inj ho
    simp [Region.binds] at hu hd
    have d8 : j8 = true := by simp [hd]
    have e8 := h8.out d8
    subst e8
    subst d8
    clear hd
    refine wpOp_want rfl rfl ?_
    go_simp
    unfold p5I
    exact ⟨j0, j1, j2, j3, j4, j5, j6, j7, true, j9, j10, j11, j12, true, j14, j15, j16, j17, j18, j19, x0, x1, x2, x3, x4, x5, x6, x7, _, x9, x10, x11, x12, _, x14, x15, x16, x17, x18, x19, rfl, rfl, hB, h0.out, h1.out, h2.out, h3.out, h4.out, h5.out, h6.out, h7.out, h8.out, h9.out, h10.out, h11.out, h12.out, fun _ => rfl, h14.out, h15.out, h16.out, h17.out, h18.out, h19.out⟩
  · obtain rfl := Option.some.inj ho
    simp [Region.binds] at hu hd
    have d8 : j8 = true := by simp [hd]
    have e8 := h8.out d8
    subst e8
    subst d8
    clear hd
    refine wpOp_want rfl rfl ?_
    go_simp
    unfold p5I
    exact ⟨j0, j1, j2, j3, j4, j5, j6, j7, true, j9, j10, j11, j12, j13, true, j15, j16, j17, j18, j19, x0, x1, x2, x3, x4, x5, x6, x7, _, x9, x10, x11, x12, x13, _, x15, x16, x17, x18, x19, rfl, rfl, hB, h0.out, h1.out, h2.out, h3.out, h4.out, h5.out, h6.out, h7.out, h8.out, h9.out, h10.out, h11.out, h12.out, h13.out, fun _ => rfl, h15.out, h16.out, h17.out, h18.out, h19.out⟩
  · obtain rfl := Option.some.inj ho
    simp [Region.binds] at hu hd
    have d8 : j8 = true := by simp [hd]
    have d14 : j14 = true := by simp [hd]
    have e8 := h8.out d8
    subst e8
    have e14 := h14.out d14
    subst e14
    subst d8
    subst d14
    clear hd
    refine wpOp_want rfl rfl ?_
    have i2 : w'.cell? ⟨g, 2, none⟩ = some (.int .i64 av) := (KG.below hB).cell 2
    go_simp
    unfold p5I
    exact ⟨j0, j1, j2, j3, j4, j5, j6, j7, true, j9, j10, j11, j12, j13, true, true, j16, j17, j18, j19, x0, x1, x2, x3, x4, x5, x6, x7, _, x9, x10, x11, x12, x13, _, _, x16, x17, x18, x19, rfl, rfl, hB, h0.out, h1.out, h2.out, h3.out, h4.out, h5.out, h6.out, h7.out, h8.out, h9.out, h10.out, h11.out, h12.out, h13.out, h14.out, fun _ => rfl, h16.out, h17.out, h18.out, h19.out⟩
  · obtain rfl := Option.some.inj ho
    simp [Region.binds] at hu hd
    have d8 : j8 = true := by simp [hd]
    have d12 : j12 = true := by simp [hd]
    have d13 : j13 = true := by simp [hd]
    have d15 : j15 = true := by simp [hd]
    have e8 := h8.out d8
    subst e8
    have e12 := h12.out d12
    subst e12
    have e13 := h13.out d13
    subst e13
    have e15 := h15.out d15
    subst e15
    subst d8
    subst d12
    subst d13
    subst d15
    clear hd
    refine wpOp_want rfl rfl ?_
    go_simp
    go_at_call 32
    refine (keep w.heap.size w (HY.out _ hB) hB (Nat.le_refl _)).mono ?_
    rintro e w2 ⟨rfl, hB2, hb2⟩
    unfold p5I
    exact ⟨j0, j1, j2, j3, j4, j5, j6, j7, true, j9, j10, j11, true, true, j14, true, true, j17, j18, j19, x0, x1, x2, x3, x4, x5, x6, x7, _, x9, x10, x11, _, _, x14, _, _, x17, x18, x19, rfl, rfl, hB2, h0.out, h1.out, h2.out, h3.out, h4.out, h5.out, h6.out, h7.out, h8.out, h9.out, h10.out, h11.out, h12.out, h13.out, h14.out, h15.out, fun _ => rfl, h17.out, h18.out, h19.out⟩
  · obtain rfl := Option.some.inj ho
    simp [Region.binds] at hu hd
    have d8 : j8 = true := by simp [hd]
    have d12 : j12 = true := by simp [hd]
    have d16 : j16 = true := by simp [hd]
    have e8 := h8.out d8
    subst e8
    have e12 := h12.out d12
    subst e12
    have e16 := h16.out d16
    subst e16
    subst d8
    subst d12
    subst d16
    clear hd
    refine wpOp_want rfl rfl ?_
    go_simp
    unfold p5I
    exact ⟨j0, j1, j2, j3, j4, j5, j6, j7, true, j9, j10, j11, true, j13, j14, j15, true, true, j18, j19, x0, x1, x2, x3, x4, x5, x6, x7, _, x9, x10, x11, _, x13, x14, x15, _, _, x18, x19, rfl, rfl, hB, h0.out, h1.out, h2.out, h3.out, h4.out, h5.out, h6.out, h7.out, h8.out, h9.out, h10.out, h11.out, h12.out, h13.out, h14.out, h15.out, h16.out, fun _ => rfl, h18.out, h19.out⟩
  · obtain rfl := Option.some.inj ho
    simp [Region.binds] at hu hd
    have d8 : j8 = true := by simp [hd]
    have d17 : j17 = true := by simp [hd]
    have e8 := h8.out d8
    subst e8
    have e17 := h17.out d17
    subst e17
    subst d8
    subst d17
    clear hd
    refine wpOp_of rfl rfl ?_
    go_simp
    unfold p5I
    exact ⟨j0, j1, j2, j3, j4, j5, j6, j7, true, j9, j10, j11, j12, j13, j14, j15, j16, true, true, j19, x0, x1, x2, x3, x4, x5, x6, x7, _, x9, x10, x11, x12, x13, x14, x15, x16, _, _, x19, rfl, rfl, hB, h0.out, h1.out, h2.out, h3.out, h4.out, h5.out, h6.out, h7.out, h8.out, h9.out, h10.out, h11.out, h12.out, h13.out, h14.out, h15.out, h16.out, h17.out, fun _ => rfl, h19.out⟩
  · obtain rfl := Option.some.inj ho
    simp [Region.binds] at hu hd
    have d0 : j0 = true := by simp [hd]
    have d1 : j1 = true := by simp [hd]
    have d2 : j2 = true := by simp [hd]
    have d3 : j3 = true := by simp [hd]
    have d4 : j4 = true := by simp [hd]
    have d5 : j5 = true := by simp [hd]
    have d6 : j6 = true := by simp [hd]
    have d7 : j7 = true := by simp [hd]
    have d8 : j8 = true := by simp [hd]
    have d9 : j9 = true := by simp [hd]
    have d10 : j10 = true := by simp [hd]
    have d11 : j11 = true := by simp [hd]
    have d12 : j12 = true := by simp [hd]
    have d13 : j13 = true := by simp [hd]
    have d14 : j14 = true := by simp [hd]
    have d15 : j15 = true := by simp [hd]
    have d16 : j16 = true := by simp [hd]
    have d17 : j17 = true := by simp [hd]
    have d18 : j18 = true := by simp [hd]
    have e0 := h0.out d0
    subst e0
    have e1 := h1.out d1
    subst e1
    have e2 := h2.out d2
    subst e2
    have e3 := h3.out d3
    subst e3
    have e4 := h4.out d4
    subst e4
    have e5 := h5.out d5
    subst e5
    have e6 := h6.out d6
    subst e6
    have e7 := h7.out d7
    subst e7
    have e8 := h8.out d8
    subst e8
    have e9 := h9.out d9
    subst e9
    have e10 := h10.out d10
    subst e10
    have e11 := h11.out d11
    subst e11
    have e12 := h12.out d12
    subst e12
    have e13 := h13.out d13
    subst e13
    have e14 := h14.out d14
    subst e14
    have e15 := h15.out d15
    subst e15
    have e16 := h16.out d16
    subst e16
    have e17 := h17.out d17
    subst e17
    have e18 := h18.out d18
    subst e18
    subst d0
    subst d1
    subst d2
    subst d3
    subst d4
    subst d5
    subst d6
    subst d7
    subst d8
    subst d9
    subst d10
    subst d11
    subst d12
    subst d13
    subst d14
    subst d15
    subst d16
    subst d17
    subst d18
    clear hd
    refine wpOp_of rfl rfl ?_
    go_simp
    unfold p5I
    exact ⟨true, true, true, true, true, true, true, true, true, true, true, true, true, true, true, true, true, true, true, true, _, _, _, _, _, _, _, _, _, _, _, _, _, _, _, _, _, _, _, _, rfl, rfl, hB, h0.out, h1.out, h2.out, h3.out, h4.out, h5.out, h6.out, h7.out, h8.out, h9.out, h10.out, h11.out, h12.out, h13.out, h14.out, h15.out, h16.out, h17.out, h18.out, fun _ => rfl⟩
set_option maxHeartbeats 16000000 in
theorem p5_fin (b r g : Nat) (ov kv av bv e z : Int) (s t : ByteArray) (w : World) {t2 t3 t4 t11 t12 t13 t14 t15 t16 t17 t18 t19 t20 t21 t22 t23 t24 t25 t26 t27 t28 t29 t30 t31 t51 t52 t53 t54 t55 t56 t57 t58 t59 t60 t61 t62 t63 t64 t65 t66 t67 t68 t69 t70 t71 t72 t73 t74 t75 t76 t77 t78 t79 t80 t81 t82 t83 t84 t85 t86 t87 t88 t89 t90 t91 t92 t93 t94 t95 t96 t97 t98 t99 t100 t101 t102 t103 t104 t105 t106 t107 t108 t109 t110 t111 t112 t113 t114 t115 t116 t117 t118 t119 t120 t121 t122 t123 t124 t125 t126 t127 t128 t129 t130 t131 t132 t133 t134 t135 t136 t137 t138 t139 t140 t141 t142 t143 t144 t145 t146 t147 t148 t149 t150 t151 t152 t153 t154 t155 t156 t157 t158 t159 t160 : Value} {ds : List Deferred} : ∀ l a w1, p5I w b r g ov kv av bv e z s t t2 t3 t4 t11 t12 t13 t14 t15 t16 t17 t18 t19 t20 t21 t22 t23 t24 t25 t26 t27 t28 t29 t30 t31 t51 t52 t53 t54 t55 t56 t57 t58 t59 t60 t61 t62 t63 t64 t65 t66 t67 t68 t69 t70 t71 t72 t73 t74 t75 t76 t77 t78 t79 t80 t81 t82 t83 t84 t85 t86 t87 t88 t89 t90 t91 t92 t93 t94 t95 t96 t97 t98 t99 t100 t101 t102 t103 t104 t105 t106 t107 t108 t109 t110 t111 t112 t113 t114 t115 t116 t117 t118 t119 t120 t121 t122 t123 t124 t125 t126 t127 t128 t129 t130 t131 t132 t133 t134 t135 t136 t137 t138 t139 t140 t141 t142 t143 t144 t145 t146 t147 t148 t149 t150 t151 t152 t153 t154 t155 t156 t157 t158 t159 t160 ds l a w1 → Region.ready .any p5O l = [] → p5F w b r g ov kv av bv e z s t t2 t3 t4 t11 t12 t13 t14 t15 t16 t17 t18 t19 t20 t21 t22 t23 t24 t25 t26 t27 t28 t29 t30 t31 t51 t52 t53 t54 t55 t56 t57 t58 t59 t60 t61 t62 t63 t64 t65 t66 t67 t68 t69 t70 t71 t72 t73 t74 t75 t76 t77 t78 t79 t80 t81 t82 t83 t84 t85 t86 t87 t88 t89 t90 t91 t92 t93 t94 t95 t96 t97 t98 t99 t100 t101 t102 t103 t104 t105 t106 t107 t108 t109 t110 t111 t112 t113 t114 t115 t116 t117 t118 t119 t120 t121 t122 t123 t124 t125 t126 t127 t128 t129 t130 t131 t132 t133 t134 t135 t136 t137 t138 t139 t140 t141 t142 t143 t144 t145 t146 t147 t148 t149 t150 t151 t152 t153 t154 t155 t156 t157 t158 t159 t160 ds a w1 := by
  simp only [p5O, findR, Try.f13, Option.bind_some, Option.or, Option.getD, Nat.reduceEqDiff, if_true, if_false, reduceIte]
  rintro l a w1 hI hr
  obtain ⟨j0, j1, j2, j3, j4, j5, j6, j7, j8, j9, j10, j11, j12, j13, j14, j15, j16, j17, j18, j19, x0, x1, x2, x3, x4, x5, x6, x7, x8, x9, x10, x11, x12, x13, x14, x15, x16, x17, x18, x19, rfl, rfl, hB, h0, h1, h2, h3, h4, h5, h6, h7, h8, h9, h10, h11, h12, h13, h14, h15, h16, h17, h18, h19⟩ := hI
  have hn := fun i => List.eq_nil_iff_forall_not_mem.1 hr i
  clear hr
  have d0 : j0 = true := by
    cases hj : j0
    · exact absurd (mem_ready.2 ⟨by simp [hj], _, rfl, by simp [Region.binds, hj]⟩) (hn 0)
    · rfl
  subst d0
  have d1 : j1 = true := by
    cases hj : j1
    · exact absurd (mem_ready.2 ⟨by simp [hj], _, rfl, by simp [Region.binds, hj]⟩) (hn 1)
    · rfl
  subst d1
  have d2 : j2 = true := by
    cases hj : j2
    · exact absurd (mem_ready.2 ⟨by simp [hj], _, rfl, by simp [Region.binds, hj]⟩) (hn 2)
    · rfl
  subst d2
  have d3 : j3 = true := by
    cases hj : j3
    · exact absurd (mem_ready.2 ⟨by simp [hj], _, rfl, by simp [Region.binds, hj]⟩) (hn 3)
    · rfl
  subst d3
  have d4 : j4 = true := by
    cases hj : j4
    · exact absurd (mem_ready.2 ⟨by simp [hj], _, rfl, by simp [Region.binds, hj]⟩) (hn 4)
    · rfl
  subst d4
  have d5 : j5 = true := by
    cases hj : j5
    · exact absurd (mem_ready.2 ⟨by simp [hj], _, rfl, by simp [Region.binds, hj]⟩) (hn 5)
    · rfl
  subst d5
  have d6 : j6 = true := by
    cases hj : j6
    · exact absurd (mem_ready.2 ⟨by simp [hj], _, rfl, by simp [Region.binds, hj]⟩) (hn 6)
    · rfl
  subst d6
  have d7 : j7 = true := by
    cases hj : j7
    · exact absurd (mem_ready.2 ⟨by simp [hj], _, rfl, by simp [Region.binds, hj]⟩) (hn 7)
    · rfl
  subst d7
  have d8 : j8 = true := by
    cases hj : j8
    · exact absurd (mem_ready.2 ⟨by simp [hj], _, rfl, by simp [Region.binds, hj]⟩) (hn 8)
    · rfl
  subst d8
  have d9 : j9 = true := by
    cases hj : j9
    · exact absurd (mem_ready.2 ⟨by simp [hj], _, rfl, by simp [Region.binds, hj]⟩) (hn 9)
    · rfl
  subst d9
  have d10 : j10 = true := by
    cases hj : j10
    · exact absurd (mem_ready.2 ⟨by simp [hj], _, rfl, by simp [Region.binds, hj]⟩) (hn 10)
    · rfl
  subst d10
  have d11 : j11 = true := by
    cases hj : j11
    · exact absurd (mem_ready.2 ⟨by simp [hj], _, rfl, by simp [Region.binds, hj]⟩) (hn 11)
    · rfl
  subst d11
  have d12 : j12 = true := by
    cases hj : j12
    · exact absurd (mem_ready.2 ⟨by simp [hj], _, rfl, by simp [Region.binds, hj]⟩) (hn 12)
    · rfl
  subst d12
  have d13 : j13 = true := by
    cases hj : j13
    · exact absurd (mem_ready.2 ⟨by simp [hj], _, rfl, by simp [Region.binds, hj]⟩) (hn 13)
    · rfl
  subst d13
  have d14 : j14 = true := by
    cases hj : j14
    · exact absurd (mem_ready.2 ⟨by simp [hj], _, rfl, by simp [Region.binds, hj]⟩) (hn 14)
    · rfl
  subst d14
  have d15 : j15 = true := by
    cases hj : j15
    · exact absurd (mem_ready.2 ⟨by simp [hj], _, rfl, by simp [Region.binds, hj]⟩) (hn 15)
    · rfl
  subst d15
  have d16 : j16 = true := by
    cases hj : j16
    · exact absurd (mem_ready.2 ⟨by simp [hj], _, rfl, by simp [Region.binds, hj]⟩) (hn 16)
    · rfl
  subst d16
  have d17 : j17 = true := by
    cases hj : j17
    · exact absurd (mem_ready.2 ⟨by simp [hj], _, rfl, by simp [Region.binds, hj]⟩) (hn 17)
    · rfl
  subst d17
  have d18 : j18 = true := by
    cases hj : j18
    · exact absurd (mem_ready.2 ⟨by simp [hj], _, rfl, by simp [Region.binds, hj]⟩) (hn 18)
    · rfl
  subst d18
  have d19 : j19 = true := by
    cases hj : j19
    · exact absurd (mem_ready.2 ⟨by simp [hj], _, rfl, by simp [Region.binds, hj]⟩) (hn 19)
    · rfl
  subst d19
  obtain rfl := h19 rfl
  exact ⟨_, _, _, _, _, _, _, _, _, _, _, _, _, _, _, _, _, _, _, w1, rfl, hB, rfl⟩
theorem p5 (b r g : Nat) (ov kv av bv e z : Int) (s t : ByteArray) (w : World) (KG : Bk 35 w g #[.int .i64 ov, .int .i64 kv, .int .i64 av, .int .i64 bv, .string s]) (HX : Hid (∀ w', Below w.heap.size w w' → Calls Try.prog 23 #[.pointer (some ⟨b, 0, none⟩), .int .i64 av] w' fun e w'' => e = .returned (.int .i64 z) ∧ Below w'.heap.size w' w'')) (HY : Hid (∀ w', Below w.heap.size w w' → Calls Try.prog 32 #[.pointer (some ⟨r, 0, none⟩), .int .i64 av] w' fun e w'' => e = .returned (.int .i64 z) ∧ Below w'.heap.size w' w'')) {t2 t3 t4 t11 t12 t13 t14 t15 t16 t17 t18 t19 t20 t21 t22 t23 t24 t25 t26 t27 t28 t29 t30 t31 t32 t33 t34 t35 t36 t37 t38 t39 t40 t41 t42 t43 t44 t45 t46 t47 t48 t49 t50 t51 t52 t53 t54 t55 t56 t57 t58 t59 t60 t61 t62 t63 t64 t65 t66 t67 t68 t69 t70 t71 t72 t73 t74 t75 t76 t77 t78 t79 t80 t81 t82 t83 t84 t85 t86 t87 t88 t89 t90 t91 t92 t93 t94 t95 t96 t97 t98 t99 t100 t101 t102 t103 t104 t105 t106 t107 t108 t109 t110 t111 t112 t113 t114 t115 t116 t117 t118 t119 t120 t121 t122 t123 t124 t125 t126 t127 t128 t129 t130 t131 t132 t133 t134 t135 t136 t137 t138 t139 t140 t141 t142 t143 t144 t145 t146 t147 t148 t149 t150 t151 t152 t153 t154 t155 t156 t157 t158 t159 t160 : Value} {ds : List Deferred} {K : Act → World → Prop} {Q : Exit → Act → World → Prop}
    (h : ∀ (y0 y1 y2 y3 y4 y5 y6 y7 y8 y9 y10 y11 y12 y13 y14 y15 y16 y17 y18 : Value) (w1 : World) (hb : Below w.heap.size w w1), K { tmps := #[.pointer (some ⟨b, 0, none⟩), .pointer (some ⟨r, 0, none⟩), t2, t3, t4, .pointer (some ⟨g, 0, none⟩), .bool true, .string t, .int .i64 e, .string t, .int .i64 e, t11, t12, t13, t14, t15, t16, t17, t18, t19, t20, t21, t22, t23, t24, t25, t26, t27, t28, t29, t30, t31, y0, y1, y2, y3, y4, y5, y6, y7, y8, y9, y10, y11, y12, y13, y14, y15, y16, y17, y18, t51, t52, t53, t54, t55, t56, t57, t58, t59, t60, t61, t62, t63, t64, t65, t66, t67, t68, t69, t70, t71, t72, t73, t74, t75, t76, t77, t78, t79, t80, t81, t82, t83, t84, t85, t86, t87, t88, t89, t90, t91, t92, t93, t94, t95, t96, t97, t98, t99, t100, t101, t102, t103, t104, t105, t106, t107, t108, t109, t110, t111, t112, t113, t114, t115, t116, t117, t118, t119, t120, t121, t122, t123, t124, t125, t126, t127, t128, t129, t130, t131, t132, t133, t134, t135, t136, t137, t138, t139, t140, t141, t142, t143, t144, t145, t146, t147, t148, t149, t150, t151, t152, t153, t154, t155, t156, t157, t158, t159, t160], defers := ds } w1) :
    (Code.region 5 p5O true).wp Try.prog (Exit.then K Q) { tmps := #[.pointer (some ⟨b, 0, none⟩), .pointer (some ⟨r, 0, none⟩), t2, t3, t4, .pointer (some ⟨g, 0, none⟩), .bool false, .string t, .int .i64 e, .string t, .int .i64 e, t11, t12, t13, t14, t15, t16, t17, t18, t19, t20, t21, t22, t23, t24, t25, t26, t27, t28, t29, t30, t31, t32, t33, t34, t35, t36, t37, t38, t39, t40, t41, t42, t43, t44, t45, t46, t47, t48, t49, t50, t51, t52, t53, t54, t55, t56, t57, t58, t59, t60, t61, t62, t63, t64, t65, t66, t67, t68, t69, t70, t71, t72, t73, t74, t75, t76, t77, t78, t79, t80, t81, t82, t83, t84, t85, t86, t87, t88, t89, t90, t91, t92, t93, t94, t95, t96, t97, t98, t99, t100, t101, t102, t103, t104, t105, t106, t107, t108, t109, t110, t111, t112, t113, t114, t115, t116, t117, t118, t119, t120, t121, t122, t123, t124, t125, t126, t127, t128, t129, t130, t131, t132, t133, t134, t135, t136, t137, t138, t139, t140, t141, t142, t143, t144, t145, t146, t147, t148, t149, t150, t151, t152, t153, t154, t155, t156, t157, t158, t159, t160], defers := ds } w := by
  have hsz : p5O.size = 20 := by kernel_rfl
  refine wp_region_any (show Try.prog.follows .mixedOrders = true from by kernel_rfl) ?_
  rw [hsz]
  refine wpAny_inv (I := p5I w b r g ov kv av bv e z s t t2 t3 t4 t11 t12 t13 t14 t15 t16 t17 t18 t19 t20 t21 t22 t23 t24 t25 t26 t27 t28 t29 t30 t31 t51 t52 t53 t54 t55 t56 t57 t58 t59 t60 t61 t62 t63 t64 t65 t66 t67 t68 t69 t70 t71 t72 t73 t74 t75 t76 t77 t78 t79 t80 t81 t82 t83 t84 t85 t86 t87 t88 t89 t90 t91 t92 t93 t94 t95 t96 t97 t98 t99 t100 t101 t102 t103 t104 t105 t106 t107 t108 t109 t110 t111 t112 t113 t114 t115 t116 t117 t118 t119 t120 t121 t122 t123 t124 t125 t126 t127 t128 t129 t130 t131 t132 t133 t134 t135 t136 t137 t138 t139 t140 t141 t142 t143 t144 t145 t146 t147 t148 t149 t150 t151 t152 t153 t154 t155 t156 t157 t158 t159 t160 ds) (p5_steps b r g ov kv av bv e z s t w KG HX HY) (fun l a w' hI hr => ?_) 20 _ _ _ (by decide) ?_
  · obtain ⟨y0, y1, y2, y3, y4, y5, y6, y7, y8, y9, y10, y11, y12, y13, y14, y15, y16, y17, y18, wm, rfl, hb, rfl⟩ := p5_fin b r g ov kv av bv e z s t w l a w' hI hr
    exact h _ _ _ _ _ _ _ _ _ _ _ _ _ _ _ _ _ _ _ _ hb
  · exact ⟨false, false, false, false, false, false, false, false, false, false, false, false, false, false, false, false, false, false, false, false, t32, t33, t34, t35, t36, t37, t38, t39, t40, t41, t42, t43, t44, t45, t46, t47, t48, t49, t50, .bool false, rfl, rfl, ⟨rfl, rfl, rfl, Nat.le_refl _, fun _ _ => rfl⟩, (fun h => by cases h), (fun h => by cases h), (fun h => by cases h), (fun h => by cases h), (fun h => by cases h), (fun h => by cases h), (fun h => by cases h), (fun h => by cases h), (fun h => by cases h), (fun h => by cases h), (fun h => by cases h), (fun h => by cases h), (fun h => by cases h), (fun h => by cases h), (fun h => by cases h), (fun h => by cases h), (fun h => by cases h), (fun h => by cases h), (fun h => by cases h), (fun h => by cases h)⟩
def p27F (w0 : World) (b r g : Nat) (ga ca : Nat) (ov kv av bv : Int) (s : ByteArray) (p : List UInt8 × List UInt8) (t2 t3 t4 t7 t8 t9 t10 t13 t14 t15 t16 t17 t18 t19 t20 t21 t22 t23 t24 t25 t26 t27 t28 t29 t30 t31 t32 t33 t34 t35 t36 t37 t38 t39 t40 t41 t42 t43 t44 t45 t46 t47 t48 t49 t50 t51 t52 t53 t54 t55 t56 t57 t58 t59 t60 t61 t62 t63 t64 t65 t66 t67 t68 t69 t70 t71 t72 t73 t74 t75 t76 t77 t78 t79 t80 t81 t82 t83 t84 t85 t86 t87 t88 t89 t90 t91 t92 t93 t94 t95 t96 t97 t98 t99 t100 t101 t102 t103 t104 t105 t106 t107 t108 t109 t110 t111 t112 t113 t114 t115 t116 t117 t118 t119 t120 t121 t122 t123 t124 t125 t126 t127 t128 t129 t130 t131 t132 t133 t134 t135 t136 t137 t138 t139 t140 t141 t142 t143 : Value) (ds : List Deferred) (a : Act) (w : World) : Prop :=
  ∃ y0 y1 y2 y3 y4 y5 y6 y7 y8 y9 y10 y11 y12 y13 y14 y15 y16 : Value, ∃ wm : World, a = { tmps := #[.pointer (some ⟨b, 0, none⟩), .pointer (some ⟨r, 0, none⟩), t2, t3, t4, .pointer (some ⟨g, 0, none⟩), .bool true, t7, t8, t9, t10, .slice (some ⟨ga, 0, none⟩) 3 ca, .bool true, t13, t14, t15, t16, t17, t18, t19, t20, t21, t22, t23, t24, t25, t26, t27, t28, t29, t30, t31, t32, t33, t34, t35, t36, t37, t38, t39, t40, t41, t42, t43, t44, t45, t46, t47, t48, t49, t50, t51, t52, t53, t54, t55, t56, t57, t58, t59, t60, t61, t62, t63, t64, t65, t66, t67, t68, t69, t70, t71, t72, t73, t74, t75, t76, t77, t78, t79, t80, t81, t82, t83, t84, t85, t86, t87, t88, t89, t90, t91, t92, t93, t94, t95, t96, t97, t98, t99, t100, t101, t102, t103, t104, t105, t106, t107, t108, t109, t110, t111, t112, t113, t114, t115, t116, t117, t118, t119, t120, t121, t122, t123, t124, t125, t126, t127, t128, t129, t130, t131, t132, t133, t134, t135, t136, t137, t138, t139, t140, t141, t142, t143, y0, y1, y2, y3, y4, y5, y6, y7, y8, y9, y10, y11, y12, y13, y14, y15, y16], defers := ds } ∧ Below w0.heap.size w0 wm ∧ w = wm
def p27I (w0 : World) (b r g : Nat) (ga ca : Nat) (ov kv av bv : Int) (s : ByteArray) (p : List UInt8 × List UInt8) (t2 t3 t4 t7 t8 t9 t10 t13 t14 t15 t16 t17 t18 t19 t20 t21 t22 t23 t24 t25 t26 t27 t28 t29 t30 t31 t32 t33 t34 t35 t36 t37 t38 t39 t40 t41 t42 t43 t44 t45 t46 t47 t48 t49 t50 t51 t52 t53 t54 t55 t56 t57 t58 t59 t60 t61 t62 t63 t64 t65 t66 t67 t68 t69 t70 t71 t72 t73 t74 t75 t76 t77 t78 t79 t80 t81 t82 t83 t84 t85 t86 t87 t88 t89 t90 t91 t92 t93 t94 t95 t96 t97 t98 t99 t100 t101 t102 t103 t104 t105 t106 t107 t108 t109 t110 t111 t112 t113 t114 t115 t116 t117 t118 t119 t120 t121 t122 t123 t124 t125 t126 t127 t128 t129 t130 t131 t132 t133 t134 t135 t136 t137 t138 t139 t140 t141 t142 t143 : Value) (ds : List Deferred) (l : Array Bool) (a : Act) (w : World) : Prop :=
  ∃ j0 j1 j2 j3 j4 j5 j6 j7 j8 j9 j10 j11 j12 j13 j14 j15 j16 j17 : Bool, ∃ x0 x1 x2 x3 x4 x5 x6 x7 x8 x9 x10 x11 x12 x13 x14 x15 x16 x17 : Value, l = #[j0, j1, j2, j3, j4, j5, j6, j7, j8, j9, j10, j11, j12, j13, j14, j15, j16, j17] ∧ a = { tmps := #[.pointer (some ⟨b, 0, none⟩), .pointer (some ⟨r, 0, none⟩), t2, t3, t4, .pointer (some ⟨g, 0, none⟩), x17, t7, t8, t9, t10, .slice (some ⟨ga, 0, none⟩) 3 ca, .bool true, t13, t14, t15, t16, t17, t18, t19, t20, t21, t22, t23, t24, t25, t26, t27, t28, t29, t30, t31, t32, t33, t34, t35, t36, t37, t38, t39, t40, t41, t42, t43, t44, t45, t46, t47, t48, t49, t50, t51, t52, t53, t54, t55, t56, t57, t58, t59, t60, t61, t62, t63, t64, t65, t66, t67, t68, t69, t70, t71, t72, t73, t74, t75, t76, t77, t78, t79, t80, t81, t82, t83, t84, t85, t86, t87, t88, t89, t90, t91, t92, t93, t94, t95, t96, t97, t98, t99, t100, t101, t102, t103, t104, t105, t106, t107, t108, t109, t110, t111, t112, t113, t114, t115, t116, t117, t118, t119, t120, t121, t122, t123, t124, t125, t126, t127, t128, t129, t130, t131, t132, t133, t134, t135, t136, t137, t138, t139, t140, t141, t142, t143, x0, x1, x2, x3, x4, x5, x6, x7, x8, x9, x10, x11, x12, x13, x14, x15, x16], defers := ds } ∧ Below w0.heap.size w0 w ∧
  (j0 = true → x0 = .bool true) ∧ (j1 = true → x1 = .bool true) ∧ (j2 = true → x2 = .pointer (some ⟨b, 0, none⟩)) ∧ (j3 = true → x3 = .pointer (some ⟨g, 2, none⟩)) ∧ (j4 = true → x4 = .int .i64 av) ∧ (j5 = true → RP w x5 (p)) ∧ (j6 = true → x6 = .pointer (some ⟨r, 0, none⟩)) ∧ (j7 = true → x7 = .pointer (some ⟨g, 2, none⟩)) ∧ (j8 = true → x8 = .int .i64 av) ∧ (j9 = true → RP w x9 (p)) ∧ (j10 = true → x10 = .bool true) ∧ (j11 = true → x11 = .bool true) ∧ (j12 = true → x12 = .bool true) ∧ (j13 = true → x13 = .slice (some ⟨ga, 0, none⟩) 3 ca) ∧ (j14 = true → x14 = .int .i64 3) ∧ (j15 = true → x15 = .bool true) ∧ (j16 = true → x16 = .bool true) ∧ (j17 = true → x17 = .bool true)
noncomputable def p27O : Array Oper := (Try.f13.body.bind fun c => findR c 27).getD #[]
set_option maxHeartbeats 16000000 in
theorem p27_steps (b r g : Nat) (ga ca : Nat) (ov kv av bv : Int) (s : ByteArray) (p : List UInt8 × List UInt8) (w : World) (KG : Bk 35 w g #[.int .i64 ov, .int .i64 kv, .int .i64 av, .int .i64 bv, .string s]) (HX : Hid (∀ w', Below w.heap.size w w' → Calls Try.prog 18 #[.pointer (some ⟨b, 0, none⟩), .int .i64 av] w' fun e w'' => ∃ v', e = .returned v' ∧ RP w'' v' p ∧ Below w'.heap.size w' w'')) (HY : Hid (∀ w', Below w.heap.size w w' → Calls Try.prog 39 #[.pointer (some ⟨r, 0, none⟩), .int .i64 av] w' fun e w'' => ∃ v', e = .returned v' ∧ RP w'' v' p ∧ Below w'.heap.size w' w''))
    {t2 t3 t4 t7 t8 t9 t10 t13 t14 t15 t16 t17 t18 t19 t20 t21 t22 t23 t24 t25 t26 t27 t28 t29 t30 t31 t32 t33 t34 t35 t36 t37 t38 t39 t40 t41 t42 t43 t44 t45 t46 t47 t48 t49 t50 t51 t52 t53 t54 t55 t56 t57 t58 t59 t60 t61 t62 t63 t64 t65 t66 t67 t68 t69 t70 t71 t72 t73 t74 t75 t76 t77 t78 t79 t80 t81 t82 t83 t84 t85 t86 t87 t88 t89 t90 t91 t92 t93 t94 t95 t96 t97 t98 t99 t100 t101 t102 t103 t104 t105 t106 t107 t108 t109 t110 t111 t112 t113 t114 t115 t116 t117 t118 t119 t120 t121 t122 t123 t124 t125 t126 t127 t128 t129 t130 t131 t132 t133 t134 t135 t136 t137 t138 t139 t140 t141 t142 t143 : Value} {ds : List Deferred} {Q : Exit → Act → World → Prop} :
    ∀ l a w', p27I w b r g ga ca ov kv av bv s p t2 t3 t4 t7 t8 t9 t10 t13 t14 t15 t16 t17 t18 t19 t20 t21 t22 t23 t24 t25 t26 t27 t28 t29 t30 t31 t32 t33 t34 t35 t36 t37 t38 t39 t40 t41 t42 t43 t44 t45 t46 t47 t48 t49 t50 t51 t52 t53 t54 t55 t56 t57 t58 t59 t60 t61 t62 t63 t64 t65 t66 t67 t68 t69 t70 t71 t72 t73 t74 t75 t76 t77 t78 t79 t80 t81 t82 t83 t84 t85 t86 t87 t88 t89 t90 t91 t92 t93 t94 t95 t96 t97 t98 t99 t100 t101 t102 t103 t104 t105 t106 t107 t108 t109 t110 t111 t112 t113 t114 t115 t116 t117 t118 t119 t120 t121 t122 t123 t124 t125 t126 t127 t128 t129 t130 t131 t132 t133 t134 t135 t136 t137 t138 t139 t140 t141 t142 t143 ds l a w' → ∀ i ∈ Region.ready .any p27O l, wpOp Try.prog p27O Q i (fun a' w'' => p27I w b r g ga ca ov kv av bv s p t2 t3 t4 t7 t8 t9 t10 t13 t14 t15 t16 t17 t18 t19 t20 t21 t22 t23 t24 t25 t26 t27 t28 t29 t30 t31 t32 t33 t34 t35 t36 t37 t38 t39 t40 t41 t42 t43 t44 t45 t46 t47 t48 t49 t50 t51 t52 t53 t54 t55 t56 t57 t58 t59 t60 t61 t62 t63 t64 t65 t66 t67 t68 t69 t70 t71 t72 t73 t74 t75 t76 t77 t78 t79 t80 t81 t82 t83 t84 t85 t86 t87 t88 t89 t90 t91 t92 t93 t94 t95 t96 t97 t98 t99 t100 t101 t102 t103 t104 t105 t106 t107 t108 t109 t110 t111 t112 t113 t114 t115 t116 t117 t118 t119 t120 t121 t122 t123 t124 t125 t126 t127 t128 t129 t130 t131 t132 t133 t134 t135 t136 t137 t138 t139 t140 t141 t142 t143 ds (l.setIfInBounds i true) a' w'') a w' := by
  simp only [p27O, findR, Try.f13, Option.bind_some, Option.or, Option.getD, Nat.reduceEqDiff, if_true, if_false, reduceIte]
  rintro l a w' hI i hi
  rw [mem_ready] at hi
  obtain ⟨hu, oo, ho, hd⟩ := hi
  have hin : i < 18 := by
    have := (Array.getElem?_eq_some_iff.1 ho).1
    simpa using this
  have hcase : i = 0 ∨ i = 1 ∨ i = 2 ∨ i = 3 ∨ i = 4 ∨ i = 5 ∨ i = 6 ∨ i = 7 ∨ i = 8 ∨ i = 9 ∨ i = 10 ∨ i = 11 ∨ i = 12 ∨ i = 13 ∨ i = 14 ∨ i = 15 ∨ i = 16 ∨ i = 17 := by omega
  obtain ⟨j0, j1, j2, j3, j4, j5, j6, j7, j8, j9, j10, j11, j12, j13, j14, j15, j16, j17, x0, x1, x2, x3, x4, x5, x6, x7, x8, x9, x10, x11, x12, x13, x14, x15, x16, x17, rfl, rfl, hB, h0, h1, h2, h3, h4, h5, h6, h7, h8, h9, h10, h11, h12, h13, h14, h15, h16, h17⟩ := hI
  replace h0 := Lib.hid h0
  replace h1 := Lib.hid h1
  replace h2 := Lib.hid h2
  replace h3 := Lib.hid h3
  replace h4 := Lib.hid h4
  replace h5 := Lib.hid h5
  replace h6 := Lib.hid h6
  replace h7 := Lib.hid h7
  replace h8 := Lib.hid h8
  replace h9 := Lib.hid h9
  replace h10 := Lib.hid h10
  replace h11 := Lib.hid h11
  replace h12 := Lib.hid h12
  replace h13 := Lib.hid h13
  replace h14 := Lib.hid h14
  replace h15 := Lib.hid h15
  replace h16 := Lib.hid h16
  replace h17 := Lib.hid h17
  rcases hcase with rfl | rfl | rfl | rfl | rfl | rfl | rfl | rfl | rfl | rfl | rfl | rfl | rfl | rfl | rfl | rfl | rfl | rfl
  · obtain rfl := Option.some.inj ho
    simp [Region.binds] at hu hd
    clear hd
    refine wpOp_of rfl rfl ?_
    go_simp
    unfold p27I
    exact ⟨true, j1, j2, j3, j4, j5, j6, j7, j8, j9, j10, j11, j12, j13, j14, j15, j16, j17, _, x1, x2, x3, x4, x5, x6, x7, x8, x9, x10, x11, x12, x13, x14, x15, x16, x17, rfl, rfl, hB, fun _ => rfl, h1.out, h2.out, h3.out, h4.out, h5.out, h6.out, h7.out, h8.out, h9.out, h10.out, h11.out, h12.out, h13.out, h14.out, h15.out, h16.out, h17.out⟩
  · obtain rfl := Option.some.inj ho
    simp [Region.binds] at hu hd
    have d0 : j0 = true := by simp [hd]
    have e0 := h0.out d0
    subst e0
    subst d0
    clear hd
    refine wpOp_of rfl rfl ?_
    go_simp
    unfold p27I
    exact ⟨true, true, j2, j3, j4, j5, j6, j7, j8, j9, j10, j11, j12, j13, j14, j15, j16, j17, _, _, x2, x3, x4, x5, x6, x7, x8, x9, x10, x11, x12, x13, x14, x15, x16, x17, rfl, rfl, hB, h0.out, fun _ => rfl, h2.out, h3.out, h4.out, h5.out, h6.out, h7.out, h8.out, h9.out, h10.out, h11.out, h12.out, h13.out, h14.out, h15.out, h16.out, h17.out⟩
  · obtain rfl := Option.some.inj ho
    simp [Region.binds] at hu hd
    have d1 : j1 = true := by simp [hd]
    have e1 := h1.out d1
    subst e1
    subst d1
    clear hd
    refine wpOp_want rfl rfl ?_
    go_simp
    unfold p27I
    exact ⟨j0, true, true, j3, j4, j5, j6, j7, j8, j9, j10, j11, j12, j13, j14, j15, j16, j17, x0, _, _, x3, x4, x5, x6, x7, x8, x9, x10, x11, x12, x13, x14, x15, x16, x17, rfl, rfl, hB, h0.out, h1.out, fun _ => rfl, h3.out, h4.out, h5.out, h6.out, h7.out, h8.out, h9.out, h10.out, h11.out, h12.out, h13.out, h14.out, h15.out, h16.out, h17.out⟩
  · obtain rfl := Option.some.inj ho
    simp [Region.binds] at hu hd
    have d1 : j1 = true := by simp [hd]
    have e1 := h1.out d1
    subst e1
    subst d1
    clear hd
    refine wpOp_want rfl rfl ?_
    go_simp
    unfold p27I
    exact ⟨j0, true, j2, true, j4, j5, j6, j7, j8, j9, j10, j11, j12, j13, j14, j15, j16, j17, x0, _, x2, _, x4, x5, x6, x7, x8, x9, x10, x11, x12, x13, x14, x15, x16, x17, rfl, rfl, hB, h0.out, h1.out, h2.out, fun _ => rfl, h4.out, h5.out, h6.out, h7.out, h8.out, h9.out, h10.out, h11.out, h12.out, h13.out, h14.out, h15.out, h16.out, h17.out⟩
  · obtain rfl := Option.some.inj ho
    simp [Region.binds] at hu hd
    have d1 : j1 = true := by simp [hd]
    have d3 : j3 = true := by simp [hd]
    have e1 := h1.out d1
    subst e1
    have e3 := h3.out d3
    subst e3
    subst d1
    subst d3
    clear hd
    refine wpOp_want rfl rfl ?_
    have i2 : w'.cell? ⟨g, 2, none⟩ = some (.int .i64 av) := (KG.below hB).cell 2
    go_simp
    unfold p27I
    exact ⟨j0, true, j2, true, true, j5, j6, j7, j8, j9, j10, j11, j12, j13, j14, j15, j16, j17, x0, _, x2, _, _, x5, x6, x7, x8, x9, x10, x11, x12, x13, x14, x15, x16, x17, rfl, rfl, hB, h0.out, h1.out, h2.out, h3.out, fun _ => rfl, h5.out, h6.out, h7.out, h8.out, h9.out, h10.out, h11.out, h12.out, h13.out, h14.out, h15.out, h16.out, h17.out⟩
  · obtain rfl := Option.some.inj ho
    simp [Region.binds] at hu hd
    have d1 : j1 = true := by simp [hd]
    have d2 : j2 = true := by simp [hd]
    have d4 : j4 = true := by simp [hd]
    have e1 := h1.out d1
    subst e1
    have e2 := h2.out d2
    subst e2
    have e4 := h4.out d4
    subst e4
    subst d1
    subst d2
    subst d4
    clear hd
    refine wpOp_want rfl rfl ?_
    go_simp
    go_at_call 18
    refine (qk w.heap.size w (HX.out _ hB) hB (Nat.le_refl _)).mono ?_
    rintro e w2 ⟨v', rfl, hn', hB2, hb2⟩
    unfold p27I
    exact ⟨j0, true, true, j3, true, true, j6, j7, j8, j9, j10, j11, j12, j13, j14, j15, j16, j17, x0, _, _, x3, _, _, x6, x7, x8, x9, x10, x11, x12, x13, x14, x15, x16, x17, rfl, rfl, hB2, h0.out, h1.out, h2.out, h3.out, h4.out, fun _ => hn', h6.out, h7.out, h8.out, fun hj => (h9.out hj).below hb2, h10.out, h11.out, h12.out, h13.out, h14.out, h15.out, h16.out, h17.out⟩
  · obtain rfl := Option.some.inj ho
    simp [Region.binds] at hu hd
    have d1 : j1 = true := by simp [hd]
    have e1 := h1.out d1
    subst e1
    subst d1
    clear hd
    refine wpOp_want rfl rfl ?_
    go_simp
    unfold p27I
    exact ⟨j0, true, j2, j3, j4, j5, true, j7, j8, j9, j10, j11, j12, j13, j14, j15, j16, j17, x0, _, x2, x3, x4, x5, _, x7, x8, x9, x10, x11, x12, x13, x14, x15, x16, x17, rfl, rfl, hB, h0.out, h1.out, h2.out, h3.out, h4.out, h5.out, fun _ => rfl, h7.out, h8.out, h9.out, h10.out, h11.out, h12.out, h13.out, h14.out, h15.out, h16.out, h17.out⟩
  · obtain rfl := Option.some.inj ho
    simp [Region.binds] at hu hd
    have d1 : j1 = true := by simp [hd]
    have e1 := h1.out d1
    subst e1
    subst d1
    clear hd
    refine wpOp_want rfl rfl ?_
    go_simp
    unfold p27I
    exact ⟨j0, true, j2, j3, j4, j5, j6, true, j8, j9, j10, j11, j12, j13, j14, j15, j16, j17, x0, _, x2, x3, x4, x5, x6, _, x8, x9, x10, x11, x12, x13, x14, x15, x16, x17, rfl, rfl, hB, h0.out, h1.out, h2.out, h3.out, h4.out, h5.out, h6.out, fun _ => rfl, h8.out, h9.out, h10.out, h11.out, h12.out, h13.out, h14.out, h15.out, h16.out, h17.out⟩
  · obtain rfl := Option.some.inj ho
    simp [Region.binds] at hu hd
    have d1 : j1 = true := by simp [hd]
    have d7 : j7 = true := by simp [hd]
    have e1 := h1.out d1
    subst e1
    have e7 := h7.out d7
    subst e7
    subst d1
    subst d7
    clear hd
    refine wpOp_want rfl rfl ?_
    have i2 : w'.cell? ⟨g, 2, none⟩ = some (.int .i64 av) := (KG.below hB).cell 2
    go_simp
    unfold p27I
    exact ⟨j0, true, j2, j3, j4, j5, j6, true, true, j9, j10, j11, j12, j13, j14, j15, j16, j17, x0, _, x2, x3, x4, x5, x6, _, _, x9, x10, x11, x12, x13, x14, x15, x16, x17, rfl, rfl, hB, h0.out, h1.out, h2.out, h3.out, h4.out, h5.out, h6.out, h7.out, fun _ => rfl, h9.out, h10.out, h11.out, h12.out, h13.out, h14.out, h15.out, h16.out, h17.out⟩
  · obtain rfl := Option.some.inj ho
    simp [Region.binds] at hu hd
    have d1 : j1 = true := by simp [hd]
    have d5 : j5 = true := by simp [hd]
    have d6 : j6 = true := by simp [hd]
    have d8 : j8 = true := by simp [hd]
    have e1 := h1.out d1
    subst e1
    have e6 := h6.out d6
    subst e6
    have e8 := h8.out d8
    subst e8
    subst d1
    subst d5
    subst d6
    subst d8
    clear hd
    refine wpOp_want rfl rfl ?_
    go_simp
    go_at_call 39
    refine (qk w.heap.size w (HY.out _ hB) hB (Nat.le_refl _)).mono ?_
    rintro e w2 ⟨v', rfl, hn', hB2, hb2⟩
    unfold p27I
    exact ⟨j0, true, j2, j3, j4, true, true, j7, true, true, j10, j11, j12, j13, j14, j15, j16, j17, x0, _, x2, x3, x4, x5, _, x7, _, _, x10, x11, x12, x13, x14, x15, x16, x17, rfl, rfl, hB2, h0.out, h1.out, h2.out, h3.out, h4.out, fun hj => (h5.out hj).below hb2, h6.out, h7.out, h8.out, fun _ => hn', h10.out, h11.out, h12.out, h13.out, h14.out, h15.out, h16.out, h17.out⟩
  · obtain rfl := Option.some.inj ho
    simp [Region.binds] at hu hd
    have d1 : j1 = true := by simp [hd]
    have d5 : j5 = true := by simp [hd]
    have d9 : j9 = true := by simp [hd]
    have e1 := h1.out d1
    subst e1
    subst d1
    subst d5
    subst d9
    clear hd
    refine wpOp_want rfl rfl ?_
    go_simp
    go_at_call 19
    refine (keep w.heap.size w (same_rp _ _ _ _ (h5.out rfl) (h9.out rfl)) hB (Nat.le_refl _)).mono ?_
    rintro e w2 ⟨rfl, hB2, hb2⟩
    unfold p27I
    exact ⟨j0, true, j2, j3, j4, true, j6, j7, j8, true, true, j11, j12, j13, j14, j15, j16, j17, x0, _, x2, x3, x4, x5, x6, x7, x8, x9, _, x11, x12, x13, x14, x15, x16, x17, rfl, rfl, hB2, h0.out, h1.out, h2.out, h3.out, h4.out, fun hj => (h5.out hj).below hb2, h6.out, h7.out, h8.out, fun hj => (h9.out hj).below hb2, fun _ => rfl, h11.out, h12.out, h13.out, h14.out, h15.out, h16.out, h17.out⟩
  · obtain rfl := Option.some.inj ho
    simp [Region.binds] at hu hd
    have d1 : j1 = true := by simp [hd]
    have d10 : j10 = true := by simp [hd]
    have e1 := h1.out d1
    subst e1
    have e10 := h10.out d10
    subst e10
    subst d1
    subst d10
    clear hd
    refine wpOp_of rfl rfl ?_
    go_simp
    unfold p27I
    exact ⟨j0, true, j2, j3, j4, j5, j6, j7, j8, j9, true, true, j12, j13, j14, j15, j16, j17, x0, _, x2, x3, x4, x5, x6, x7, x8, x9, _, _, x12, x13, x14, x15, x16, x17, rfl, rfl, hB, h0.out, h1.out, h2.out, h3.out, h4.out, h5.out, h6.out, h7.out, h8.out, h9.out, h10.out, fun _ => rfl, h12.out, h13.out, h14.out, h15.out, h16.out, h17.out⟩
  · obtain rfl := Option.some.inj ho
    simp [Region.binds] at hu hd
    have d10 : j10 = true := by simp [hd]
    have d11 : j11 = true := by simp [hd]
    have e10 := h10.out d10
    subst e10
    have e11 := h11.out d11
    subst e11
    subst d10
    subst d11
    clear hd
    refine wpOp_of rfl rfl ?_
    go_simp
    unfold p27I
    exact ⟨j0, j1, j2, j3, j4, j5, j6, j7, j8, j9, true, true, true, j13, j14, j15, j16, j17, x0, x1, x2, x3, x4, x5, x6, x7, x8, x9, _, _, _, x13, x14, x15, x16, x17, rfl, rfl, hB, h0.out, h1.out, h2.out, h3.out, h4.out, h5.out, h6.out, h7.out, h8.out, h9.out, h10.out, h11.out, fun _ => rfl, h13.out, h14.out, h15.out, h16.out, h17.out⟩
  · obtain rfl := Option.some.inj ho
    simp [Region.binds] at hu hd
    have d12 : j12 = true := by simp [hd]
    have e12 := h12.out d12
    subst e12
    subst d12
    clear hd
    refine wpOp_want rfl rfl ?_
    go_simp
    unfold p27I
    exact ⟨j0, j1, j2, j3, j4, j5, j6, j7, j8, j9, j10, j11, true, true, j14, j15, j16, j17, x0, x1, x2, x3, x4, x5, x6, x7, x8, x9, x10, x11, _, _, x14, x15, x16, x17, rfl, rfl, hB, h0.out, h1.out, h2.out, h3.out, h4.out, h5.out, h6.out, h7.out, h8.out, h9.out, h10.out, h11.out, h12.out, fun _ => rfl, h14.out, h15.out, h16.out, h17.out⟩
  · obtain rfl := Option.some.inj ho
    simp [Region.binds] at hu hd
    have d12 : j12 = true := by simp [hd]
    have d13 : j13 = true := by simp [hd]
    have e12 := h12.out d12
    subst e12
    have e13 := h13.out d13
    subst e13
    subst d12
    subst d13
    clear hd
    refine wpOp_want rfl rfl ?_
    go_simp
    unfold p27I
    exact ⟨j0, j1, j2, j3, j4, j5, j6, j7, j8, j9, j10, j11, true, true, true, j15, j16, j17, x0, x1, x2, x3, x4, x5, x6, x7, x8, x9, x10, x11, _, _, _, x15, x16, x17, rfl, rfl, hB, h0.out, h1.out, h2.out, h3.out, h4.out, h5.out, h6.out, h7.out, h8.out, h9.out, h10.out, h11.out, h12.out, h13.out, fun _ => rfl, h15.out, h16.out, h17.out⟩
  · obtain rfl := Option.some.inj ho
    simp [Region.binds] at hu hd
    have d12 : j12 = true := by simp [hd]
    have d14 : j14 = true := by simp [hd]
    have e12 := h12.out d12
    subst e12
    have e14 := h14.out d14
    subst e14
    subst d12
    subst d14
    clear hd
    refine wpOp_want rfl rfl ?_
    go_simp
    unfold p27I
    exact ⟨j0, j1, j2, j3, j4, j5, j6, j7, j8, j9, j10, j11, true, j13, true, true, j16, j17, x0, x1, x2, x3, x4, x5, x6, x7, x8, x9, x10, x11, _, x13, _, _, x16, x17, rfl, rfl, hB, h0.out, h1.out, h2.out, h3.out, h4.out, h5.out, h6.out, h7.out, h8.out, h9.out, h10.out, h11.out, h12.out, h13.out, h14.out, fun _ => rfl, h16.out, h17.out⟩
  · obtain rfl := Option.some.inj ho
    simp [Region.binds] at hu hd
    have d12 : j12 = true := by simp [hd]
    have d15 : j15 = true := by simp [hd]
    have e12 := h12.out d12
    subst e12
    have e15 := h15.out d15
    subst e15
    subst d12
    subst d15
    clear hd
    refine wpOp_of rfl rfl ?_
    go_simp
    unfold p27I
    exact ⟨j0, j1, j2, j3, j4, j5, j6, j7, j8, j9, j10, j11, true, j13, j14, true, true, j17, x0, x1, x2, x3, x4, x5, x6, x7, x8, x9, x10, x11, _, x13, x14, _, _, x17, rfl, rfl, hB, h0.out, h1.out, h2.out, h3.out, h4.out, h5.out, h6.out, h7.out, h8.out, h9.out, h10.out, h11.out, h12.out, h13.out, h14.out, h15.out, fun _ => rfl, h17.out⟩
  · obtain rfl := Option.some.inj ho
    simp [Region.binds] at hu hd
    have d0 : j0 = true := by simp [hd]
    have d1 : j1 = true := by simp [hd]
    have d2 : j2 = true := by simp [hd]
    have d3 : j3 = true := by simp [hd]
    have d4 : j4 = true := by simp [hd]
    have d5 : j5 = true := by simp [hd]
    have d6 : j6 = true := by simp [hd]
    have d7 : j7 = true := by simp [hd]
    have d8 : j8 = true := by simp [hd]
    have d9 : j9 = true := by simp [hd]
    have d10 : j10 = true := by simp [hd]
    have d11 : j11 = true := by simp [hd]
    have d12 : j12 = true := by simp [hd]
    have d13 : j13 = true := by simp [hd]
    have d14 : j14 = true := by simp [hd]
    have d15 : j15 = true := by simp [hd]
    have d16 : j16 = true := by simp [hd]
    have e0 := h0.out d0
    subst e0
    have e1 := h1.out d1
    subst e1
    have e2 := h2.out d2
    subst e2
    have e3 := h3.out d3
    subst e3
    have e4 := h4.out d4
    subst e4
    have e6 := h6.out d6
    subst e6
    have e7 := h7.out d7
    subst e7
    have e8 := h8.out d8
    subst e8
    have e10 := h10.out d10
    subst e10
    have e11 := h11.out d11
    subst e11
    have e12 := h12.out d12
    subst e12
    have e13 := h13.out d13
    subst e13
    have e14 := h14.out d14
    subst e14
    have e15 := h15.out d15
    subst e15
    have e16 := h16.out d16
    subst e16
    subst d0
    subst d1
    subst d2
    subst d3
    subst d4
    subst d5
    subst d6
    subst d7
    subst d8
    subst d9
    subst d10
    subst d11
    subst d12
    subst d13
    subst d14
    subst d15
    subst d16
    clear hd
    refine wpOp_of rfl rfl ?_
    go_simp
    unfold p27I
    exact ⟨true, true, true, true, true, true, true, true, true, true, true, true, true, true, true, true, true, true, _, _, _, _, _, x5, _, _, _, x9, _, _, _, _, _, _, _, _, rfl, rfl, hB, h0.out, h1.out, h2.out, h3.out, h4.out, h5.out, h6.out, h7.out, h8.out, h9.out, h10.out, h11.out, h12.out, h13.out, h14.out, h15.out, h16.out, fun _ => rfl⟩
set_option maxHeartbeats 16000000 in
theorem p27_fin (b r g : Nat) (ga ca : Nat) (ov kv av bv : Int) (s : ByteArray) (p : List UInt8 × List UInt8) (w : World) {t2 t3 t4 t7 t8 t9 t10 t13 t14 t15 t16 t17 t18 t19 t20 t21 t22 t23 t24 t25 t26 t27 t28 t29 t30 t31 t32 t33 t34 t35 t36 t37 t38 t39 t40 t41 t42 t43 t44 t45 t46 t47 t48 t49 t50 t51 t52 t53 t54 t55 t56 t57 t58 t59 t60 t61 t62 t63 t64 t65 t66 t67 t68 t69 t70 t71 t72 t73 t74 t75 t76 t77 t78 t79 t80 t81 t82 t83 t84 t85 t86 t87 t88 t89 t90 t91 t92 t93 t94 t95 t96 t97 t98 t99 t100 t101 t102 t103 t104 t105 t106 t107 t108 t109 t110 t111 t112 t113 t114 t115 t116 t117 t118 t119 t120 t121 t122 t123 t124 t125 t126 t127 t128 t129 t130 t131 t132 t133 t134 t135 t136 t137 t138 t139 t140 t141 t142 t143 : Value} {ds : List Deferred} : ∀ l a w1, p27I w b r g ga ca ov kv av bv s p t2 t3 t4 t7 t8 t9 t10 t13 t14 t15 t16 t17 t18 t19 t20 t21 t22 t23 t24 t25 t26 t27 t28 t29 t30 t31 t32 t33 t34 t35 t36 t37 t38 t39 t40 t41 t42 t43 t44 t45 t46 t47 t48 t49 t50 t51 t52 t53 t54 t55 t56 t57 t58 t59 t60 t61 t62 t63 t64 t65 t66 t67 t68 t69 t70 t71 t72 t73 t74 t75 t76 t77 t78 t79 t80 t81 t82 t83 t84 t85 t86 t87 t88 t89 t90 t91 t92 t93 t94 t95 t96 t97 t98 t99 t100 t101 t102 t103 t104 t105 t106 t107 t108 t109 t110 t111 t112 t113 t114 t115 t116 t117 t118 t119 t120 t121 t122 t123 t124 t125 t126 t127 t128 t129 t130 t131 t132 t133 t134 t135 t136 t137 t138 t139 t140 t141 t142 t143 ds l a w1 → Region.ready .any p27O l = [] → p27F w b r g ga ca ov kv av bv s p t2 t3 t4 t7 t8 t9 t10 t13 t14 t15 t16 t17 t18 t19 t20 t21 t22 t23 t24 t25 t26 t27 t28 t29 t30 t31 t32 t33 t34 t35 t36 t37 t38 t39 t40 t41 t42 t43 t44 t45 t46 t47 t48 t49 t50 t51 t52 t53 t54 t55 t56 t57 t58 t59 t60 t61 t62 t63 t64 t65 t66 t67 t68 t69 t70 t71 t72 t73 t74 t75 t76 t77 t78 t79 t80 t81 t82 t83 t84 t85 t86 t87 t88 t89 t90 t91 t92 t93 t94 t95 t96 t97 t98 t99 t100 t101 t102 t103 t104 t105 t106 t107 t108 t109 t110 t111 t112 t113 t114 t115 t116 t117 t118 t119 t120 t121 t122 t123 t124 t125 t126 t127 t128 t129 t130 t131 t132 t133 t134 t135 t136 t137 t138 t139 t140 t141 t142 t143 ds a w1 := by
  simp only [p27O, findR, Try.f13, Option.bind_some, Option.or, Option.getD, Nat.reduceEqDiff, if_true, if_false, reduceIte]
  rintro l a w1 hI hr
  obtain ⟨j0, j1, j2, j3, j4, j5, j6, j7, j8, j9, j10, j11, j12, j13, j14, j15, j16, j17, x0, x1, x2, x3, x4, x5, x6, x7, x8, x9, x10, x11, x12, x13, x14, x15, x16, x17, rfl, rfl, hB, h0, h1, h2, h3, h4, h5, h6, h7, h8, h9, h10, h11, h12, h13, h14, h15, h16, h17⟩ := hI
  have hn := fun i => List.eq_nil_iff_forall_not_mem.1 hr i
  clear hr
  have d0 : j0 = true := by
    cases hj : j0
    · exact absurd (mem_ready.2 ⟨by simp [hj], _, rfl, by simp [Region.binds, hj]⟩) (hn 0)
    · rfl
  subst d0
  have d1 : j1 = true := by
    cases hj : j1
    · exact absurd (mem_ready.2 ⟨by simp [hj], _, rfl, by simp [Region.binds, hj]⟩) (hn 1)
    · rfl
  subst d1
  have d2 : j2 = true := by
    cases hj : j2
    · exact absurd (mem_ready.2 ⟨by simp [hj], _, rfl, by simp [Region.binds, hj]⟩) (hn 2)
    · rfl
  subst d2
  have d3 : j3 = true := by
    cases hj : j3
    · exact absurd (mem_ready.2 ⟨by simp [hj], _, rfl, by simp [Region.binds, hj]⟩) (hn 3)
    · rfl
  subst d3
  have d4 : j4 = true := by
    cases hj : j4
    · exact absurd (mem_ready.2 ⟨by simp [hj], _, rfl, by simp [Region.binds, hj]⟩) (hn 4)
    · rfl
  subst d4
  have d5 : j5 = true := by
    cases hj : j5
    · exact absurd (mem_ready.2 ⟨by simp [hj], _, rfl, by simp [Region.binds, hj]⟩) (hn 5)
    · rfl
  subst d5
  have d6 : j6 = true := by
    cases hj : j6
    · exact absurd (mem_ready.2 ⟨by simp [hj], _, rfl, by simp [Region.binds, hj]⟩) (hn 6)
    · rfl
  subst d6
  have d7 : j7 = true := by
    cases hj : j7
    · exact absurd (mem_ready.2 ⟨by simp [hj], _, rfl, by simp [Region.binds, hj]⟩) (hn 7)
    · rfl
  subst d7
  have d8 : j8 = true := by
    cases hj : j8
    · exact absurd (mem_ready.2 ⟨by simp [hj], _, rfl, by simp [Region.binds, hj]⟩) (hn 8)
    · rfl
  subst d8
  have d9 : j9 = true := by
    cases hj : j9
    · exact absurd (mem_ready.2 ⟨by simp [hj], _, rfl, by simp [Region.binds, hj]⟩) (hn 9)
    · rfl
  subst d9
  have d10 : j10 = true := by
    cases hj : j10
    · exact absurd (mem_ready.2 ⟨by simp [hj], _, rfl, by simp [Region.binds, hj]⟩) (hn 10)
    · rfl
  subst d10
  have d11 : j11 = true := by
    cases hj : j11
    · exact absurd (mem_ready.2 ⟨by simp [hj], _, rfl, by simp [Region.binds, hj]⟩) (hn 11)
    · rfl
  subst d11
  have d12 : j12 = true := by
    cases hj : j12
    · exact absurd (mem_ready.2 ⟨by simp [hj], _, rfl, by simp [Region.binds, hj]⟩) (hn 12)
    · rfl
  subst d12
  have d13 : j13 = true := by
    cases hj : j13
    · exact absurd (mem_ready.2 ⟨by simp [hj], _, rfl, by simp [Region.binds, hj]⟩) (hn 13)
    · rfl
  subst d13
  have d14 : j14 = true := by
    cases hj : j14
    · exact absurd (mem_ready.2 ⟨by simp [hj], _, rfl, by simp [Region.binds, hj]⟩) (hn 14)
    · rfl
  subst d14
  have d15 : j15 = true := by
    cases hj : j15
    · exact absurd (mem_ready.2 ⟨by simp [hj], _, rfl, by simp [Region.binds, hj]⟩) (hn 15)
    · rfl
  subst d15
  have d16 : j16 = true := by
    cases hj : j16
    · exact absurd (mem_ready.2 ⟨by simp [hj], _, rfl, by simp [Region.binds, hj]⟩) (hn 16)
    · rfl
  subst d16
  have d17 : j17 = true := by
    cases hj : j17
    · exact absurd (mem_ready.2 ⟨by simp [hj], _, rfl, by simp [Region.binds, hj]⟩) (hn 17)
    · rfl
  subst d17
  obtain rfl := h17 rfl
  exact ⟨_, _, _, _, _, _, _, _, _, _, _, _, _, _, _, _, _, w1, rfl, hB, rfl⟩
theorem p27 (b r g : Nat) (ga ca : Nat) (ov kv av bv : Int) (s : ByteArray) (p : List UInt8 × List UInt8) (w : World) (KG : Bk 35 w g #[.int .i64 ov, .int .i64 kv, .int .i64 av, .int .i64 bv, .string s]) (HX : Hid (∀ w', Below w.heap.size w w' → Calls Try.prog 18 #[.pointer (some ⟨b, 0, none⟩), .int .i64 av] w' fun e w'' => ∃ v', e = .returned v' ∧ RP w'' v' p ∧ Below w'.heap.size w' w'')) (HY : Hid (∀ w', Below w.heap.size w w' → Calls Try.prog 39 #[.pointer (some ⟨r, 0, none⟩), .int .i64 av] w' fun e w'' => ∃ v', e = .returned v' ∧ RP w'' v' p ∧ Below w'.heap.size w' w'')) {t2 t3 t4 t7 t8 t9 t10 t13 t14 t15 t16 t17 t18 t19 t20 t21 t22 t23 t24 t25 t26 t27 t28 t29 t30 t31 t32 t33 t34 t35 t36 t37 t38 t39 t40 t41 t42 t43 t44 t45 t46 t47 t48 t49 t50 t51 t52 t53 t54 t55 t56 t57 t58 t59 t60 t61 t62 t63 t64 t65 t66 t67 t68 t69 t70 t71 t72 t73 t74 t75 t76 t77 t78 t79 t80 t81 t82 t83 t84 t85 t86 t87 t88 t89 t90 t91 t92 t93 t94 t95 t96 t97 t98 t99 t100 t101 t102 t103 t104 t105 t106 t107 t108 t109 t110 t111 t112 t113 t114 t115 t116 t117 t118 t119 t120 t121 t122 t123 t124 t125 t126 t127 t128 t129 t130 t131 t132 t133 t134 t135 t136 t137 t138 t139 t140 t141 t142 t143 t144 t145 t146 t147 t148 t149 t150 t151 t152 t153 t154 t155 t156 t157 t158 t159 t160 : Value} {ds : List Deferred} {K : Act → World → Prop} {Q : Exit → Act → World → Prop}
    (h : ∀ (y0 y1 y2 y3 y4 y5 y6 y7 y8 y9 y10 y11 y12 y13 y14 y15 y16 : Value) (w1 : World) (hb : Below w.heap.size w w1), K { tmps := #[.pointer (some ⟨b, 0, none⟩), .pointer (some ⟨r, 0, none⟩), t2, t3, t4, .pointer (some ⟨g, 0, none⟩), .bool true, t7, t8, t9, t10, .slice (some ⟨ga, 0, none⟩) 3 ca, .bool true, t13, t14, t15, t16, t17, t18, t19, t20, t21, t22, t23, t24, t25, t26, t27, t28, t29, t30, t31, t32, t33, t34, t35, t36, t37, t38, t39, t40, t41, t42, t43, t44, t45, t46, t47, t48, t49, t50, t51, t52, t53, t54, t55, t56, t57, t58, t59, t60, t61, t62, t63, t64, t65, t66, t67, t68, t69, t70, t71, t72, t73, t74, t75, t76, t77, t78, t79, t80, t81, t82, t83, t84, t85, t86, t87, t88, t89, t90, t91, t92, t93, t94, t95, t96, t97, t98, t99, t100, t101, t102, t103, t104, t105, t106, t107, t108, t109, t110, t111, t112, t113, t114, t115, t116, t117, t118, t119, t120, t121, t122, t123, t124, t125, t126, t127, t128, t129, t130, t131, t132, t133, t134, t135, t136, t137, t138, t139, t140, t141, t142, t143, y0, y1, y2, y3, y4, y5, y6, y7, y8, y9, y10, y11, y12, y13, y14, y15, y16], defers := ds } w1) :
    (Code.region 27 p27O true).wp Try.prog (Exit.then K Q) { tmps := #[.pointer (some ⟨b, 0, none⟩), .pointer (some ⟨r, 0, none⟩), t2, t3, t4, .pointer (some ⟨g, 0, none⟩), .bool false, t7, t8, t9, t10, .slice (some ⟨ga, 0, none⟩) 3 ca, .bool true, t13, t14, t15, t16, t17, t18, t19, t20, t21, t22, t23, t24, t25, t26, t27, t28, t29, t30, t31, t32, t33, t34, t35, t36, t37, t38, t39, t40, t41, t42, t43, t44, t45, t46, t47, t48, t49, t50, t51, t52, t53, t54, t55, t56, t57, t58, t59, t60, t61, t62, t63, t64, t65, t66, t67, t68, t69, t70, t71, t72, t73, t74, t75, t76, t77, t78, t79, t80, t81, t82, t83, t84, t85, t86, t87, t88, t89, t90, t91, t92, t93, t94, t95, t96, t97, t98, t99, t100, t101, t102, t103, t104, t105, t106, t107, t108, t109, t110, t111, t112, t113, t114, t115, t116, t117, t118, t119, t120, t121, t122, t123, t124, t125, t126, t127, t128, t129, t130, t131, t132, t133, t134, t135, t136, t137, t138, t139, t140, t141, t142, t143, t144, t145, t146, t147, t148, t149, t150, t151, t152, t153, t154, t155, t156, t157, t158, t159, t160], defers := ds } w := by
  have hsz : p27O.size = 18 := by kernel_rfl
  refine wp_region_any (show Try.prog.follows .mixedOrders = true from by kernel_rfl) ?_
  rw [hsz]
  refine wpAny_inv (I := p27I w b r g ga ca ov kv av bv s p t2 t3 t4 t7 t8 t9 t10 t13 t14 t15 t16 t17 t18 t19 t20 t21 t22 t23 t24 t25 t26 t27 t28 t29 t30 t31 t32 t33 t34 t35 t36 t37 t38 t39 t40 t41 t42 t43 t44 t45 t46 t47 t48 t49 t50 t51 t52 t53 t54 t55 t56 t57 t58 t59 t60 t61 t62 t63 t64 t65 t66 t67 t68 t69 t70 t71 t72 t73 t74 t75 t76 t77 t78 t79 t80 t81 t82 t83 t84 t85 t86 t87 t88 t89 t90 t91 t92 t93 t94 t95 t96 t97 t98 t99 t100 t101 t102 t103 t104 t105 t106 t107 t108 t109 t110 t111 t112 t113 t114 t115 t116 t117 t118 t119 t120 t121 t122 t123 t124 t125 t126 t127 t128 t129 t130 t131 t132 t133 t134 t135 t136 t137 t138 t139 t140 t141 t142 t143 ds) (p27_steps b r g ga ca ov kv av bv s p w KG HX HY) (fun l a w' hI hr => ?_) 18 _ _ _ (by decide) ?_
  · obtain ⟨y0, y1, y2, y3, y4, y5, y6, y7, y8, y9, y10, y11, y12, y13, y14, y15, y16, wm, rfl, hb, rfl⟩ := p27_fin b r g ga ca ov kv av bv s p w l a w' hI hr
    exact h _ _ _ _ _ _ _ _ _ _ _ _ _ _ _ _ _ _ hb
  · exact ⟨false, false, false, false, false, false, false, false, false, false, false, false, false, false, false, false, false, false, t144, t145, t146, t147, t148, t149, t150, t151, t152, t153, t154, t155, t156, t157, t158, t159, t160, .bool false, rfl, rfl, ⟨rfl, rfl, rfl, Nat.le_refl _, fun _ _ => rfl⟩, (fun h => by cases h), (fun h => by cases h), (fun h => by cases h), (fun h => by cases h), (fun h => by cases h), (fun h => by cases h), (fun h => by cases h), (fun h => by cases h), (fun h => by cases h), (fun h => by cases h), (fun h => by cases h), (fun h => by cases h), (fun h => by cases h), (fun h => by cases h), (fun h => by cases h), (fun h => by cases h), (fun h => by cases h), (fun h => by cases h)⟩
def tl1F (w0 : World) (b r n c : Nat) (ua : Option Addr) (sa sb : ByteArray) (inn kp : Int) (g : Bool) (p : List UInt8 × List UInt8) (t2 t3 : Value) (ds : List Deferred) (a : Act) (w : World) : Prop :=
  ∃ y0 y1 y2 y3 y4 y5 y6 y7 y8 y9 y10 y11 y12 y13 y14 y15 y16 y17 y18 y19 y20 y21 y22 y23 : Value, ∃ wm : World, a = { tmps := #[.pointer (some ⟨b, 0, none⟩), .pointer (some ⟨r, 0, none⟩), t2, t3, .bool true, y0, y1, y2, y3, y4, y5, y6, y7, y8, y9, y10, y11, y12, y13, y14, y15, y16, y17, y18, y19, y20, y21, y22, y23], defers := ds } ∧ Below w0.heap.size w0 wm ∧ w = wm
def tl1I (w0 : World) (b r n c : Nat) (ua : Option Addr) (sa sb : ByteArray) (inn kp : Int) (g : Bool) (p : List UInt8 × List UInt8) (t2 t3 : Value) (ds : List Deferred) (l : Array Bool) (a : Act) (w : World) : Prop :=
  ∃ j0 j1 j2 j3 j4 j5 j6 j7 j8 j9 j10 j11 j12 j13 j14 j15 j16 j17 j18 j19 j20 j21 j22 j23 j24 : Bool, ∃ x0 x1 x2 x3 x4 x5 x6 x7 x8 x9 x10 x11 x12 x13 x14 x15 x16 x17 x18 x19 x20 x21 x22 x23 x24 : Value, l = #[j0, j1, j2, j3, j4, j5, j6, j7, j8, j9, j10, j11, j12, j13, j14, j15, j16, j17, j18, j19, j20, j21, j22, j23, j24] ∧ a = { tmps := #[.pointer (some ⟨b, 0, none⟩), .pointer (some ⟨r, 0, none⟩), t2, t3, x24, x0, x1, x2, x3, x4, x5, x6, x7, x8, x9, x10, x11, x12, x13, x14, x15, x16, x17, x18, x19, x20, x21, x22, x23], defers := ds } ∧ Below w0.heap.size w0 w ∧
  (j0 = true → x0 = .pointer (some ⟨b, 0, none⟩)) ∧ (j1 = true → RP w x1 (p)) ∧ (j2 = true → x2 = .pointer (some ⟨r, 0, none⟩)) ∧ (j3 = true → RP w x3 (p)) ∧ (j4 = true → x4 = .bool true) ∧ (j5 = true → x5 = .bool true) ∧ (j6 = true → x6 = .pointer (some ⟨b, 0, none⟩)) ∧ (j7 = true → x7 = .int .i64 (n : Int)) ∧ (j8 = true → x8 = .pointer (some ⟨r, 0, none⟩)) ∧ (j9 = true → x9 = .pointer (some ⟨r, 0, none⟩)) ∧ (j10 = true → x10 = .pointer (some ⟨r, 2, none⟩)) ∧ (j11 = true → x11 = .slice ua n c) ∧ (j12 = true → x12 = .int .i64 (n : Int)) ∧ (j13 = true → x13 = .bool true) ∧ (j14 = true → x14 = .bool true) ∧ (j15 = true → x15 = .bool true) ∧ (j16 = true → x16 = .pointer (some ⟨b, 0, none⟩)) ∧ (j17 = true → x17 = .bool g) ∧ (j18 = true → x18 = .pointer (some ⟨r, 0, none⟩)) ∧ (j19 = true → x19 = .pointer (some ⟨r, 0, none⟩)) ∧ (j20 = true → x20 = .pointer (some ⟨r, 5, none⟩)) ∧ (j21 = true → x21 = .bool g) ∧ (j22 = true → x22 = .bool true) ∧ (j23 = true → x23 = .bool true) ∧ (j24 = true → x24 = .bool true)
noncomputable def tl1O : Array Oper := (Try.f14.body.bind fun c => findR c 1).getD #[]
set_option maxHeartbeats 16000000 in
theorem tl1_steps (b r n c : Nat) (ua : Option Addr) (sa sb : ByteArray) (inn kp : Int) (g : Bool) (p : List UInt8 × List UInt8) (w : World) (KR : Bk 67 w r #[.string sa, .string sb, .slice ua n c, .int .i64 inn, .int .i64 kp, .bool g]) (HX : Hid (∀ w', Below w.heap.size w w' → Calls Try.prog 17 #[.pointer (some ⟨b, 0, none⟩)] w' fun e w'' => ∃ v', e = .returned v' ∧ RP w'' v' p ∧ Below w'.heap.size w' w'')) (HY : Hid (∀ w', Below w.heap.size w w' → Calls Try.prog 40 #[.pointer (some ⟨r, 0, none⟩)] w' fun e w'' => ∃ v', e = .returned v' ∧ RP w'' v' p ∧ Below w'.heap.size w' w'')) (HW : Hid (∀ w', Below w.heap.size w w' → Calls Try.prog 20 #[.pointer (some ⟨b, 0, none⟩)] w' fun e w'' => e = .returned (.int .i64 (n : Int)) ∧ Below w'.heap.size w' w'')) (HD : Hid (∀ w', Below w.heap.size w w' → Calls Try.prog 27 #[.pointer (some ⟨b, 0, none⟩)] w' fun e w'' => e = .returned (.bool g) ∧ Below w'.heap.size w' w''))
    {t2 t3 : Value} {ds : List Deferred} {Q : Exit → Act → World → Prop} :
    ∀ l a w', tl1I w b r n c ua sa sb inn kp g p t2 t3 ds l a w' → ∀ i ∈ Region.ready .any tl1O l, wpOp Try.prog tl1O Q i (fun a' w'' => tl1I w b r n c ua sa sb inn kp g p t2 t3 ds (l.setIfInBounds i true) a' w'') a w' := by
  simp only [tl1O, findR, Try.f14, Option.bind_some, Option.or, Option.getD, Nat.reduceEqDiff, if_true, if_false, reduceIte]
  rintro l a w' hI i hi
  rw [mem_ready] at hi
  obtain ⟨hu, oo, ho, hd⟩ := hi
  have hin : i < 25 := by
    have := (Array.getElem?_eq_some_iff.1 ho).1
    simpa using this
  have hcase : i = 0 ∨ i = 1 ∨ i = 2 ∨ i = 3 ∨ i = 4 ∨ i = 5 ∨ i = 6 ∨ i = 7 ∨ i = 8 ∨ i = 9 ∨ i = 10 ∨ i = 11 ∨ i = 12 ∨ i = 13 ∨ i = 14 ∨ i = 15 ∨ i = 16 ∨ i = 17 ∨ i = 18 ∨ i = 19 ∨ i = 20 ∨ i = 21 ∨ i = 22 ∨ i = 23 ∨ i = 24 := by omega
  obtain ⟨j0, j1, j2, j3, j4, j5, j6, j7, j8, j9, j10, j11, j12, j13, j14, j15, j16, j17, j18, j19, j20, j21, j22, j23, j24, x0, x1, x2, x3, x4, x5, x6, x7, x8, x9, x10, x11, x12, x13, x14, x15, x16, x17, x18, x19, x20, x21, x22, x23, x24, rfl, rfl, hB, h0, h1, h2, h3, h4, h5, h6, h7, h8, h9, h10, h11, h12, h13, h14, h15, h16, h17, h18, h19, h20, h21, h22, h23, h24⟩ := hI
  replace h0 := Lib.hid h0
  replace h1 := Lib.hid h1
  replace h2 := Lib.hid h2
  replace h3 := Lib.hid h3
  replace h4 := Lib.hid h4
  replace h5 := Lib.hid h5
  replace h6 := Lib.hid h6
  replace h7 := Lib.hid h7
  replace h8 := Lib.hid h8
  replace h9 := Lib.hid h9
  replace h10 := Lib.hid h10
  replace h11 := Lib.hid h11
  replace h12 := Lib.hid h12
  replace h13 := Lib.hid h13
  replace h14 := Lib.hid h14
  replace h15 := Lib.hid h15
  replace h16 := Lib.hid h16
  replace h17 := Lib.hid h17
  replace h18 := Lib.hid h18
  replace h19 := Lib.hid h19
  replace h20 := Lib.hid h20
  replace h21 := Lib.hid h21
  replace h22 := Lib.hid h22
  replace h23 := Lib.hid h23
  replace h24 := Lib.hid h24
  rcases hcase with rfl | rfl | rfl | rfl | rfl | rfl | rfl | rfl | rfl | rfl | rfl | rfl | rfl | rfl | rfl | rfl | rfl | rfl | rfl | rfl | rfl | rfl | rfl | rfl | rfl
  · obtain rfl := Option.some.inj ho
    simp [Region.binds] at hu hd
    clear hd
    refine wpOp_of rfl rfl ?_
    go_simp
    unfold tl1I
    exact ⟨true, j1, j2, j3, j4, j5, j6, j7, j8, j9, j10, j11, j12, j13, j14, j15, j16, j17, j18, j19, j20, j21, j22, j23, j24, _, x1, x2, x3, x4, x5, x6, x7, x8, x9, x10, x11, x12, x13, x14, x15, x16, x17, x18, x19, x20, x21, x22, x23, x24, rfl, rfl, hB, fun _ => rfl, h1.out, h2.out, h3.out, h4.out, h5.out, h6.out, h7.out, h8.out, h9.out, h10.out, h11.out, h12.out, h13.out, h14.out, h15.out, h16.out, h17.out, h18.out, h19.out, h20.out, h21.out, h22.out, h23.out, h24.out⟩
  · obtain rfl := Option.some.inj ho
    simp [Region.binds] at hu hd
    have d0 : j0 = true := by simp [hd]
    have e0 := h0.out d0
    subst e0
    subst d0
    clear hd
    refine wpOp_of rfl rfl ?_
    go_simp
    go_at_call 17
    refine (qk w.heap.size w (HX.out _ hB) hB (Nat.le_refl _)).mono ?_
    rintro e w2 ⟨v', rfl, hn', hB2, hb2⟩
    unfold tl1I
    exact ⟨true, true, j2, j3, j4, j5, j6, j7, j8, j9, j10, j11, j12, j13, j14, j15, j16, j17, j18, j19, j20, j21, j22, j23, j24, _, _, x2, x3, x4, x5, x6, x7, x8, x9, x10, x11, x12, x13, x14, x15, x16, x17, x18, x19, x20, x21, x22, x23, x24, rfl, rfl, hB2, h0.out, fun _ => hn', h2.out, fun hj => (h3.out hj).below hb2, h4.out, h5.out, h6.out, h7.out, h8.out, h9.out, h10.out, h11.out, h12.out, h13.out, h14.out, h15.out, h16.out, h17.out, h18.out, h19.out, h20.out, h21.out, h22.out, h23.out, h24.out⟩
  · obtain rfl := Option.some.inj ho
    simp [Region.binds] at hu hd
    clear hd
    refine wpOp_of rfl rfl ?_
    go_simp
    unfold tl1I
    exact ⟨j0, j1, true, j3, j4, j5, j6, j7, j8, j9, j10, j11, j12, j13, j14, j15, j16, j17, j18, j19, j20, j21, j22, j23, j24, x0, x1, _, x3, x4, x5, x6, x7, x8, x9, x10, x11, x12, x13, x14, x15, x16, x17, x18, x19, x20, x21, x22, x23, x24, rfl, rfl, hB, h0.out, h1.out, fun _ => rfl, h3.out, h4.out, h5.out, h6.out, h7.out, h8.out, h9.out, h10.out, h11.out, h12.out, h13.out, h14.out, h15.out, h16.out, h17.out, h18.out, h19.out, h20.out, h21.out, h22.out, h23.out, h24.out⟩
  · obtain rfl := Option.some.inj ho
    simp [Region.binds] at hu hd
    have d1 : j1 = true := by simp [hd]
    have d2 : j2 = true := by simp [hd]
    have e2 := h2.out d2
    subst e2
    subst d1
    subst d2
    clear hd
    refine wpOp_of rfl rfl ?_
    go_simp
    go_at_call 40
    refine (qk w.heap.size w (HY.out _ hB) hB (Nat.le_refl _)).mono ?_
    rintro e w2 ⟨v', rfl, hn', hB2, hb2⟩
    unfold tl1I
    exact ⟨j0, true, true, true, j4, j5, j6, j7, j8, j9, j10, j11, j12, j13, j14, j15, j16, j17, j18, j19, j20, j21, j22, j23, j24, x0, x1, _, _, x4, x5, x6, x7, x8, x9, x10, x11, x12, x13, x14, x15, x16, x17, x18, x19, x20, x21, x22, x23, x24, rfl, rfl, hB2, h0.out, fun hj => (h1.out hj).below hb2, h2.out, fun _ => hn', h4.out, h5.out, h6.out, h7.out, h8.out, h9.out, h10.out, h11.out, h12.out, h13.out, h14.out, h15.out, h16.out, h17.out, h18.out, h19.out, h20.out, h21.out, h22.out, h23.out, h24.out⟩
  · obtain rfl := Option.some.inj ho
    simp [Region.binds] at hu hd
    have d1 : j1 = true := by simp [hd]
    have d3 : j3 = true := by simp [hd]
    subst d1
    subst d3
    clear hd
    refine wpOp_of rfl rfl ?_
    go_simp
    go_at_call 19
    refine (keep w.heap.size w (same_rp _ _ _ _ (h1.out rfl) (h3.out rfl)) hB (Nat.le_refl _)).mono ?_
    rintro e w2 ⟨rfl, hB2, hb2⟩
    unfold tl1I
    exact ⟨j0, true, j2, true, true, j5, j6, j7, j8, j9, j10, j11, j12, j13, j14, j15, j16, j17, j18, j19, j20, j21, j22, j23, j24, x0, x1, x2, x3, _, x5, x6, x7, x8, x9, x10, x11, x12, x13, x14, x15, x16, x17, x18, x19, x20, x21, x22, x23, x24, rfl, rfl, hB2, h0.out, fun hj => (h1.out hj).below hb2, h2.out, fun hj => (h3.out hj).below hb2, fun _ => rfl, h5.out, h6.out, h7.out, h8.out, h9.out, h10.out, h11.out, h12.out, h13.out, h14.out, h15.out, h16.out, h17.out, h18.out, h19.out, h20.out, h21.out, h22.out, h23.out, h24.out⟩
  · obtain rfl := Option.some.inj ho
    simp [Region.binds] at hu hd
    have d4 : j4 = true := by simp [hd]
    have e4 := h4.out d4
    subst e4
    subst d4
    clear hd
    refine wpOp_of rfl rfl ?_
    go_simp
    unfold tl1I
    exact ⟨j0, j1, j2, j3, true, true, j6, j7, j8, j9, j10, j11, j12, j13, j14, j15, j16, j17, j18, j19, j20, j21, j22, j23, j24, x0, x1, x2, x3, _, _, x6, x7, x8, x9, x10, x11, x12, x13, x14, x15, x16, x17, x18, x19, x20, x21, x22, x23, x24, rfl, rfl, hB, h0.out, h1.out, h2.out, h3.out, h4.out, fun _ => rfl, h6.out, h7.out, h8.out, h9.out, h10.out, h11.out, h12.out, h13.out, h14.out, h15.out, h16.out, h17.out, h18.out, h19.out, h20.out, h21.out, h22.out, h23.out, h24.out⟩
  · obtain rfl := Option.some.inj ho
    simp [Region.binds] at hu hd
    have d5 : j5 = true := by simp [hd]
    have e5 := h5.out d5
    subst e5
    subst d5
    clear hd
    refine wpOp_want rfl rfl ?_
    go_simp
    unfold tl1I
    exact ⟨j0, j1, j2, j3, j4, true, true, j7, j8, j9, j10, j11, j12, j13, j14, j15, j16, j17, j18, j19, j20, j21, j22, j23, j24, x0, x1, x2, x3, x4, _, _, x7, x8, x9, x10, x11, x12, x13, x14, x15, x16, x17, x18, x19, x20, x21, x22, x23, x24, rfl, rfl, hB, h0.out, h1.out, h2.out, h3.out, h4.out, h5.out, fun _ => rfl, h7.out, h8.out, h9.out, h10.out, h11.out, h12.out, h13.out, h14.out, h15.out, h16.out, h17.out, h18.out, h19.out, h20.out, h21.out, h22.out, h23.out, h24.out⟩
  · obtain rfl := Option.some.inj ho
    simp [Region.binds] at hu hd
    have d5 : j5 = true := by simp [hd]
    have d6 : j6 = true := by simp [hd]
    have e5 := h5.out d5
    subst e5
    have e6 := h6.out d6
    subst e6
    subst d5
    subst d6
    clear hd
    refine wpOp_want rfl rfl ?_
    go_simp
    go_at_call 20
    refine (keep w.heap.size w (HW.out _ hB) hB (Nat.le_refl _)).mono ?_
    rintro e w2 ⟨rfl, hB2, hb2⟩
    unfold tl1I
    exact ⟨j0, j1, j2, j3, j4, true, true, true, j8, j9, j10, j11, j12, j13, j14, j15, j16, j17, j18, j19, j20, j21, j22, j23, j24, x0, x1, x2, x3, x4, _, _, _, x8, x9, x10, x11, x12, x13, x14, x15, x16, x17, x18, x19, x20, x21, x22, x23, x24, rfl, rfl, hB2, h0.out, fun hj => (h1.out hj).below hb2, h2.out, fun hj => (h3.out hj).below hb2, h4.out, h5.out, h6.out, fun _ => rfl, h8.out, h9.out, h10.out, h11.out, h12.out, h13.out, h14.out, h15.out, h16.out, h17.out, h18.out, h19.out, h20.out, h21.out, h22.out, h23.out, h24.out⟩
  · obtain rfl := Option.some.inj ho
    simp [Region.binds] at hu hd
    have d5 : j5 = true := by simp [hd]
    have e5 := h5.out d5
    subst e5
    subst d5
    clear hd
    refine wpOp_want rfl rfl ?_
    go_simp
    unfold tl1I
    exact ⟨j0, j1, j2, j3, j4, true, j6, j7, true, j9, j10, j11, j12, j13, j14, j15, j16, j17, j18, j19, j20, j21, j22, j23, j24, x0, x1, x2, x3, x4, _, x6, x7, _, x9, x10, x11, x12, x13, x14, x15, x16, x17, x18, x19, x20, x21, x22, x23, x24, rfl, rfl, hB, h0.out, h1.out, h2.out, h3.out, h4.out, h5.out, h6.out, h7.out, fun _ => rfl, h9.out, h10.out, h11.out, h12.out, h13.out, h14.out, h15.out, h16.out, h17.out, h18.out, h19.out, h20.out, h21.out, h22.out, h23.out, h24.out⟩
  · obtain rfl := Option.some.inj ho
    simp [Region.binds] at hu hd
    have d5 : j5 = true := by simp [hd]
    have d8 : j8 = true := by simp [hd]
    have e5 := h5.out d5
    subst e5
    have e8 := h8.out d8
    subst e8
    subst d5
    subst d8
    clear hd
    refine wpOp_want rfl rfl ?_
    go_simp
    unfold tl1I
    exact ⟨j0, j1, j2, j3, j4, true, j6, j7, true, true, j10, j11, j12, j13, j14, j15, j16, j17, j18, j19, j20, j21, j22, j23, j24, x0, x1, x2, x3, x4, _, x6, x7, _, _, x10, x11, x12, x13, x14, x15, x16, x17, x18, x19, x20, x21, x22, x23, x24, rfl, rfl, hB, h0.out, h1.out, h2.out, h3.out, h4.out, h5.out, h6.out, h7.out, h8.out, fun _ => rfl, h10.out, h11.out, h12.out, h13.out, h14.out, h15.out, h16.out, h17.out, h18.out, h19.out, h20.out, h21.out, h22.out, h23.out, h24.out⟩
  · obtain rfl := Option.some.inj ho
    simp [Region.binds] at hu hd
    have d5 : j5 = true := by simp [hd]
    have d9 : j9 = true := by simp [hd]
    have e5 := h5.out d5
    subst e5
    have e9 := h9.out d9
    subst e9
    subst d5
    subst d9
    clear hd
    refine wpOp_want rfl rfl ?_
    go_simp
    unfold tl1I
    exact ⟨j0, j1, j2, j3, j4, true, j6, j7, j8, true, true, j11, j12, j13, j14, j15, j16, j17, j18, j19, j20, j21, j22, j23, j24, x0, x1, x2, x3, x4, _, x6, x7, x8, _, _, x11, x12, x13, x14, x15, x16, x17, x18, x19, x20, x21, x22, x23, x24, rfl, rfl, hB, h0.out, h1.out, h2.out, h3.out, h4.out, h5.out, h6.out, h7.out, h8.out, h9.out, fun _ => rfl, h11.out, h12.out, h13.out, h14.out, h15.out, h16.out, h17.out, h18.out, h19.out, h20.out, h21.out, h22.out, h23.out, h24.out⟩
  · obtain rfl := Option.some.inj ho
    simp [Region.binds] at hu hd
    have d5 : j5 = true := by simp [hd]
    have d10 : j10 = true := by simp [hd]
    have e5 := h5.out d5
    subst e5
    have e10 := h10.out d10
    subst e10
    subst d5
    subst d10
    clear hd
    refine wpOp_want rfl rfl ?_
    have i2 : w'.cell? ⟨r, 2, none⟩ = some (.slice ua n c) := (KR.below hB).cell 2
    go_simp
    unfold tl1I
    exact ⟨j0, j1, j2, j3, j4, true, j6, j7, j8, j9, true, true, j12, j13, j14, j15, j16, j17, j18, j19, j20, j21, j22, j23, j24, x0, x1, x2, x3, x4, _, x6, x7, x8, x9, _, _, x12, x13, x14, x15, x16, x17, x18, x19, x20, x21, x22, x23, x24, rfl, rfl, hB, h0.out, h1.out, h2.out, h3.out, h4.out, h5.out, h6.out, h7.out, h8.out, h9.out, h10.out, fun _ => rfl, h12.out, h13.out, h14.out, h15.out, h16.out, h17.out, h18.out, h19.out, h20.out, h21.out, h22.out, h23.out, h24.out⟩
  · obtain rfl := Option.some.inj ho
    simp [Region.binds] at hu hd
    have d5 : j5 = true := by simp [hd]
    have d11 : j11 = true := by simp [hd]
    have e5 := h5.out d5
    subst e5
    have e11 := h11.out d11
    subst e11
    subst d5
    subst d11
    clear hd
    refine wpOp_want rfl rfl ?_
    go_simp
    unfold tl1I
    exact ⟨j0, j1, j2, j3, j4, true, j6, j7, j8, j9, j10, true, true, j13, j14, j15, j16, j17, j18, j19, j20, j21, j22, j23, j24, x0, x1, x2, x3, x4, _, x6, x7, x8, x9, x10, _, _, x13, x14, x15, x16, x17, x18, x19, x20, x21, x22, x23, x24, rfl, rfl, hB, h0.out, h1.out, h2.out, h3.out, h4.out, h5.out, h6.out, h7.out, h8.out, h9.out, h10.out, h11.out, fun _ => rfl, h13.out, h14.out, h15.out, h16.out, h17.out, h18.out, h19.out, h20.out, h21.out, h22.out, h23.out, h24.out⟩
  · obtain rfl := Option.some.inj ho
    simp [Region.binds] at hu hd
    have d5 : j5 = true := by simp [hd]
    have d7 : j7 = true := by simp [hd]
    have d12 : j12 = true := by simp [hd]
    have e5 := h5.out d5
    subst e5
    have e7 := h7.out d7
    subst e7
    have e12 := h12.out d12
    subst e12
    subst d5
    subst d7
    subst d12
    clear hd
    refine wpOp_want rfl rfl ?_
    go_simp
    unfold tl1I
    exact ⟨j0, j1, j2, j3, j4, true, j6, true, j8, j9, j10, j11, true, true, j14, j15, j16, j17, j18, j19, j20, j21, j22, j23, j24, x0, x1, x2, x3, x4, _, x6, _, x8, x9, x10, x11, _, _, x14, x15, x16, x17, x18, x19, x20, x21, x22, x23, x24, rfl, rfl, hB, h0.out, h1.out, h2.out, h3.out, h4.out, h5.out, h6.out, h7.out, h8.out, h9.out, h10.out, h11.out, h12.out, fun _ => rfl, h14.out, h15.out, h16.out, h17.out, h18.out, h19.out, h20.out, h21.out, h22.out, h23.out, h24.out⟩
  · obtain rfl := Option.some.inj ho
    simp [Region.binds] at hu hd
    have d5 : j5 = true := by simp [hd]
    have d13 : j13 = true := by simp [hd]
    have e5 := h5.out d5
    subst e5
    have e13 := h13.out d13
    subst e13
    subst d5
    subst d13
    clear hd
    refine wpOp_of rfl rfl ?_
    go_simp
    unfold tl1I
    exact ⟨j0, j1, j2, j3, j4, true, j6, j7, j8, j9, j10, j11, j12, true, true, j15, j16, j17, j18, j19, j20, j21, j22, j23, j24, x0, x1, x2, x3, x4, _, x6, x7, x8, x9, x10, x11, x12, _, _, x15, x16, x17, x18, x19, x20, x21, x22, x23, x24, rfl, rfl, hB, h0.out, h1.out, h2.out, h3.out, h4.out, h5.out, h6.out, h7.out, h8.out, h9.out, h10.out, h11.out, h12.out, h13.out, fun _ => rfl, h15.out, h16.out, h17.out, h18.out, h19.out, h20.out, h21.out, h22.out, h23.out, h24.out⟩
  · obtain rfl := Option.some.inj ho
    simp [Region.binds] at hu hd
    have d7 : j7 = true := by simp [hd]
    have d14 : j14 = true := by simp [hd]
    have e7 := h7.out d7
    subst e7
    have e14 := h14.out d14
    subst e14
    subst d7
    subst d14
    clear hd
    refine wpOp_of rfl rfl ?_
    go_simp
    unfold tl1I
    exact ⟨j0, j1, j2, j3, j4, j5, j6, true, j8, j9, j10, j11, j12, j13, true, true, j16, j17, j18, j19, j20, j21, j22, j23, j24, x0, x1, x2, x3, x4, x5, x6, _, x8, x9, x10, x11, x12, x13, _, _, x16, x17, x18, x19, x20, x21, x22, x23, x24, rfl, rfl, hB, h0.out, h1.out, h2.out, h3.out, h4.out, h5.out, h6.out, h7.out, h8.out, h9.out, h10.out, h11.out, h12.out, h13.out, h14.out, fun _ => rfl, h16.out, h17.out, h18.out, h19.out, h20.out, h21.out, h22.out, h23.out, h24.out⟩
  · obtain rfl := Option.some.inj ho
    simp [Region.binds] at hu hd
    have d15 : j15 = true := by simp [hd]
    have e15 := h15.out d15
    subst e15
    subst d15
    clear hd
    refine wpOp_want rfl rfl ?_
    go_simp
    unfold tl1I
    exact ⟨j0, j1, j2, j3, j4, j5, j6, j7, j8, j9, j10, j11, j12, j13, j14, true, true, j17, j18, j19, j20, j21, j22, j23, j24, x0, x1, x2, x3, x4, x5, x6, x7, x8, x9, x10, x11, x12, x13, x14, _, _, x17, x18, x19, x20, x21, x22, x23, x24, rfl, rfl, hB, h0.out, h1.out, h2.out, h3.out, h4.out, h5.out, h6.out, h7.out, h8.out, h9.out, h10.out, h11.out, h12.out, h13.out, h14.out, h15.out, fun _ => rfl, h17.out, h18.out, h19.out, h20.out, h21.out, h22.out, h23.out, h24.out⟩
  · obtain rfl := Option.some.inj ho
    simp [Region.binds] at hu hd
    have d15 : j15 = true := by simp [hd]
    have d16 : j16 = true := by simp [hd]
    have e15 := h15.out d15
    subst e15
    have e16 := h16.out d16
    subst e16
    subst d15
    subst d16
    clear hd
    refine wpOp_want rfl rfl ?_
    go_simp
    go_at_call 27
    refine (keep w.heap.size w (HD.out _ hB) hB (Nat.le_refl _)).mono ?_
    rintro e w2 ⟨rfl, hB2, hb2⟩
    unfold tl1I
    exact ⟨j0, j1, j2, j3, j4, j5, j6, j7, j8, j9, j10, j11, j12, j13, j14, true, true, true, j18, j19, j20, j21, j22, j23, j24, x0, x1, x2, x3, x4, x5, x6, x7, x8, x9, x10, x11, x12, x13, x14, _, _, _, x18, x19, x20, x21, x22, x23, x24, rfl, rfl, hB2, h0.out, fun hj => (h1.out hj).below hb2, h2.out, fun hj => (h3.out hj).below hb2, h4.out, h5.out, h6.out, h7.out, h8.out, h9.out, h10.out, h11.out, h12.out, h13.out, h14.out, h15.out, h16.out, fun _ => rfl, h18.out, h19.out, h20.out, h21.out, h22.out, h23.out, h24.out⟩
  · obtain rfl := Option.some.inj ho
    simp [Region.binds] at hu hd
    have d15 : j15 = true := by simp [hd]
    have e15 := h15.out d15
    subst e15
    subst d15
    clear hd
    refine wpOp_want rfl rfl ?_
    go_simp
    unfold tl1I
    exact ⟨j0, j1, j2, j3, j4, j5, j6, j7, j8, j9, j10, j11, j12, j13, j14, true, j16, j17, true, j19, j20, j21, j22, j23, j24, x0, x1, x2, x3, x4, x5, x6, x7, x8, x9, x10, x11, x12, x13, x14, _, x16, x17, _, x19, x20, x21, x22, x23, x24, rfl, rfl, hB, h0.out, h1.out, h2.out, h3.out, h4.out, h5.out, h6.out, h7.out, h8.out, h9.out, h10.out, h11.out, h12.out, h13.out, h14.out, h15.out, h16.out, h17.out, fun _ => rfl, h19.out, h20.out, h21.out, h22.out, h23.out, h24.out⟩
  · obtain rfl := Option.some.inj ho
    simp [Region.binds] at hu hd
    have d15 : j15 = true := by simp [hd]
    have d18 : j18 = true := by simp [hd]
    have e15 := h15.out d15
    subst e15
    have e18 := h18.out d18
    subst e18
    subst d15
    subst d18
    clear hd
    refine wpOp_want rfl rfl ?_
    go_simp
    unfold tl1I
    exact ⟨j0, j1, j2, j3, j4, j5, j6, j7, j8, j9, j10, j11, j12, j13, j14, true, j16, j17, true, true, j20, j21, j22, j23, j24, x0, x1, x2, x3, x4, x5, x6, x7, x8, x9, x10, x11, x12, x13, x14, _, x16, x17, _, _, x20, x21, x22, x23, x24, rfl, rfl, hB, h0.out, h1.out, h2.out, h3.out, h4.out, h5.out, h6.out, h7.out, h8.out, h9.out, h10.out, h11.out, h12.out, h13.out, h14.out, h15.out, h16.out, h17.out, h18.out, fun _ => rfl, h20.out, h21.out, h22.out, h23.out, h24.out⟩
  · obtain rfl := Option.some.inj ho
    simp [Region.binds] at hu hd
    have d15 : j15 = true := by simp [hd]
    have d19 : j19 = true := by simp [hd]
    have e15 := h15.out d15
    subst e15
    have e19 := h19.out d19
    subst e19
    subst d15
    subst d19
    clear hd
    refine wpOp_want rfl rfl ?_
    go_simp
    unfold tl1I
    exact ⟨j0, j1, j2, j3, j4, j5, j6, j7, j8, j9, j10, j11, j12, j13, j14, true, j16, j17, j18, true, true, j21, j22, j23, j24, x0, x1, x2, x3, x4, x5, x6, x7, x8, x9, x10, x11, x12, x13, x14, _, x16, x17, x18, _, _, x21, x22, x23, x24, rfl, rfl, hB, h0.out, h1.out, h2.out, h3.out, h4.out, h5.out, h6.out, h7.out, h8.out, h9.out, h10.out, h11.out, h12.out, h13.out, h14.out, h15.out, h16.out, h17.out, h18.out, h19.out, fun _ => rfl, h21.out, h22.out, h23.out, h24.out⟩
  · obtain rfl := Option.some.inj ho
    simp [Region.binds] at hu hd
    have d15 : j15 = true := by simp [hd]
    have d20 : j20 = true := by simp [hd]
    have e15 := h15.out d15
    subst e15
    have e20 := h20.out d20
    subst e20
    subst d15
    subst d20
    clear hd
    refine wpOp_want rfl rfl ?_
    have i5 : w'.cell? ⟨r, 5, none⟩ = some (.bool g) := (KR.below hB).cell 5
    go_simp
    unfold tl1I
    exact ⟨j0, j1, j2, j3, j4, j5, j6, j7, j8, j9, j10, j11, j12, j13, j14, true, j16, j17, j18, j19, true, true, j22, j23, j24, x0, x1, x2, x3, x4, x5, x6, x7, x8, x9, x10, x11, x12, x13, x14, _, x16, x17, x18, x19, _, _, x22, x23, x24, rfl, rfl, hB, h0.out, h1.out, h2.out, h3.out, h4.out, h5.out, h6.out, h7.out, h8.out, h9.out, h10.out, h11.out, h12.out, h13.out, h14.out, h15.out, h16.out, h17.out, h18.out, h19.out, h20.out, fun _ => rfl, h22.out, h23.out, h24.out⟩
  · obtain rfl := Option.some.inj ho
    simp [Region.binds] at hu hd
    have d15 : j15 = true := by simp [hd]
    have d17 : j17 = true := by simp [hd]
    have d21 : j21 = true := by simp [hd]
    have e15 := h15.out d15
    subst e15
    have e17 := h17.out d17
    subst e17
    have e21 := h21.out d21
    subst e21
    subst d15
    subst d17
    subst d21
    clear hd
    refine wpOp_want rfl rfl ?_
    go_simp
    unfold tl1I
    exact ⟨j0, j1, j2, j3, j4, j5, j6, j7, j8, j9, j10, j11, j12, j13, j14, true, j16, true, j18, j19, j20, true, true, j23, j24, x0, x1, x2, x3, x4, x5, x6, x7, x8, x9, x10, x11, x12, x13, x14, _, x16, _, x18, x19, x20, _, _, x23, x24, rfl, rfl, hB, h0.out, h1.out, h2.out, h3.out, h4.out, h5.out, h6.out, h7.out, h8.out, h9.out, h10.out, h11.out, h12.out, h13.out, h14.out, h15.out, h16.out, h17.out, h18.out, h19.out, h20.out, h21.out, fun _ => rfl, h23.out, h24.out⟩
  · obtain rfl := Option.some.inj ho
    simp [Region.binds] at hu hd
    have d15 : j15 = true := by simp [hd]
    have d22 : j22 = true := by simp [hd]
    have e15 := h15.out d15
    subst e15
    have e22 := h22.out d22
    subst e22
    subst d15
    subst d22
    clear hd
    refine wpOp_of rfl rfl ?_
    go_simp
    unfold tl1I
    exact ⟨j0, j1, j2, j3, j4, j5, j6, j7, j8, j9, j10, j11, j12, j13, j14, true, j16, j17, j18, j19, j20, j21, true, true, j24, x0, x1, x2, x3, x4, x5, x6, x7, x8, x9, x10, x11, x12, x13, x14, _, x16, x17, x18, x19, x20, x21, _, _, x24, rfl, rfl, hB, h0.out, h1.out, h2.out, h3.out, h4.out, h5.out, h6.out, h7.out, h8.out, h9.out, h10.out, h11.out, h12.out, h13.out, h14.out, h15.out, h16.out, h17.out, h18.out, h19.out, h20.out, h21.out, h22.out, fun _ => rfl, h24.out⟩
  · obtain rfl := Option.some.inj ho
    simp [Region.binds] at hu hd
    have d0 : j0 = true := by simp [hd]
    have d1 : j1 = true := by simp [hd]
    have d2 : j2 = true := by simp [hd]
    have d3 : j3 = true := by simp [hd]
    have d4 : j4 = true := by simp [hd]
    have d5 : j5 = true := by simp [hd]
    have d6 : j6 = true := by simp [hd]
    have d7 : j7 = true := by simp [hd]
    have d8 : j8 = true := by simp [hd]
    have d9 : j9 = true := by simp [hd]
    have d10 : j10 = true := by simp [hd]
    have d11 : j11 = true := by simp [hd]
    have d12 : j12 = true := by simp [hd]
    have d13 : j13 = true := by simp [hd]
    have d14 : j14 = true := by simp [hd]
    have d15 : j15 = true := by simp [hd]
    have d16 : j16 = true := by simp [hd]
    have d17 : j17 = true := by simp [hd]
    have d18 : j18 = true := by simp [hd]
    have d19 : j19 = true := by simp [hd]
    have d20 : j20 = true := by simp [hd]
    have d21 : j21 = true := by simp [hd]
    have d22 : j22 = true := by simp [hd]
    have d23 : j23 = true := by simp [hd]
    have e0 := h0.out d0
    subst e0
    have e2 := h2.out d2
    subst e2
    have e4 := h4.out d4
    subst e4
    have e5 := h5.out d5
    subst e5
    have e6 := h6.out d6
    subst e6
    have e7 := h7.out d7
    subst e7
    have e8 := h8.out d8
    subst e8
    have e9 := h9.out d9
    subst e9
    have e10 := h10.out d10
    subst e10
    have e11 := h11.out d11
    subst e11
    have e12 := h12.out d12
    subst e12
    have e13 := h13.out d13
    subst e13
    have e14 := h14.out d14
    subst e14
    have e15 := h15.out d15
    subst e15
    have e16 := h16.out d16
    subst e16
    have e17 := h17.out d17
    subst e17
    have e18 := h18.out d18
    subst e18
    have e19 := h19.out d19
    subst e19
    have e20 := h20.out d20
    subst e20
    have e21 := h21.out d21
    subst e21
    have e22 := h22.out d22
    subst e22
    have e23 := h23.out d23
    subst e23
    subst d0
    subst d1
    subst d2
    subst d3
    subst d4
    subst d5
    subst d6
    subst d7
    subst d8
    subst d9
    subst d10
    subst d11
    subst d12
    subst d13
    subst d14
    subst d15
    subst d16
    subst d17
    subst d18
    subst d19
    subst d20
    subst d21
    subst d22
    subst d23
    clear hd
    refine wpOp_of rfl rfl ?_
    go_simp
    unfold tl1I
    exact ⟨true, true, true, true, true, true, true, true, true, true, true, true, true, true, true, true, true, true, true, true, true, true, true, true, true, _, x1, _, x3, _, _, _, _, _, _, _, _, _, _, _, _, _, _, _, _, _, _, _, _, _, rfl, rfl, hB, h0.out, h1.out, h2.out, h3.out, h4.out, h5.out, h6.out, h7.out, h8.out, h9.out, h10.out, h11.out, h12.out, h13.out, h14.out, h15.out, h16.out, h17.out, h18.out, h19.out, h20.out, h21.out, h22.out, h23.out, fun _ => rfl⟩
set_option maxHeartbeats 16000000 in
theorem tl1_fin (b r n c : Nat) (ua : Option Addr) (sa sb : ByteArray) (inn kp : Int) (g : Bool) (p : List UInt8 × List UInt8) (w : World) {t2 t3 : Value} {ds : List Deferred} : ∀ l a w1, tl1I w b r n c ua sa sb inn kp g p t2 t3 ds l a w1 → Region.ready .any tl1O l = [] → tl1F w b r n c ua sa sb inn kp g p t2 t3 ds a w1 := by
  simp only [tl1O, findR, Try.f14, Option.bind_some, Option.or, Option.getD, Nat.reduceEqDiff, if_true, if_false, reduceIte]
  rintro l a w1 hI hr
  obtain ⟨j0, j1, j2, j3, j4, j5, j6, j7, j8, j9, j10, j11, j12, j13, j14, j15, j16, j17, j18, j19, j20, j21, j22, j23, j24, x0, x1, x2, x3, x4, x5, x6, x7, x8, x9, x10, x11, x12, x13, x14, x15, x16, x17, x18, x19, x20, x21, x22, x23, x24, rfl, rfl, hB, h0, h1, h2, h3, h4, h5, h6, h7, h8, h9, h10, h11, h12, h13, h14, h15, h16, h17, h18, h19, h20, h21, h22, h23, h24⟩ := hI
  have hn := fun i => List.eq_nil_iff_forall_not_mem.1 hr i
  clear hr
  have d0 : j0 = true := by
    cases hj : j0
    · exact absurd (mem_ready.2 ⟨by simp [hj], _, rfl, by simp [Region.binds, hj]⟩) (hn 0)
    · rfl
  subst d0
  have d1 : j1 = true := by
    cases hj : j1
    · exact absurd (mem_ready.2 ⟨by simp [hj], _, rfl, by simp [Region.binds, hj]⟩) (hn 1)
    · rfl
  subst d1
  have d2 : j2 = true := by
    cases hj : j2
    · exact absurd (mem_ready.2 ⟨by simp [hj], _, rfl, by simp [Region.binds, hj]⟩) (hn 2)
    · rfl
  subst d2
  have d3 : j3 = true := by
    cases hj : j3
    · exact absurd (mem_ready.2 ⟨by simp [hj], _, rfl, by simp [Region.binds, hj]⟩) (hn 3)
    · rfl
  subst d3
  have d4 : j4 = true := by
    cases hj : j4
    · exact absurd (mem_ready.2 ⟨by simp [hj], _, rfl, by simp [Region.binds, hj]⟩) (hn 4)
    · rfl
  subst d4
  have d5 : j5 = true := by
    cases hj : j5
    · exact absurd (mem_ready.2 ⟨by simp [hj], _, rfl, by simp [Region.binds, hj]⟩) (hn 5)
    · rfl
  subst d5
  have d6 : j6 = true := by
    cases hj : j6
    · exact absurd (mem_ready.2 ⟨by simp [hj], _, rfl, by simp [Region.binds, hj]⟩) (hn 6)
    · rfl
  subst d6
  have d7 : j7 = true := by
    cases hj : j7
    · exact absurd (mem_ready.2 ⟨by simp [hj], _, rfl, by simp [Region.binds, hj]⟩) (hn 7)
    · rfl
  subst d7
  have d8 : j8 = true := by
    cases hj : j8
    · exact absurd (mem_ready.2 ⟨by simp [hj], _, rfl, by simp [Region.binds, hj]⟩) (hn 8)
    · rfl
  subst d8
  have d9 : j9 = true := by
    cases hj : j9
    · exact absurd (mem_ready.2 ⟨by simp [hj], _, rfl, by simp [Region.binds, hj]⟩) (hn 9)
    · rfl
  subst d9
  have d10 : j10 = true := by
    cases hj : j10
    · exact absurd (mem_ready.2 ⟨by simp [hj], _, rfl, by simp [Region.binds, hj]⟩) (hn 10)
    · rfl
  subst d10
  have d11 : j11 = true := by
    cases hj : j11
    · exact absurd (mem_ready.2 ⟨by simp [hj], _, rfl, by simp [Region.binds, hj]⟩) (hn 11)
    · rfl
  subst d11
  have d12 : j12 = true := by
    cases hj : j12
    · exact absurd (mem_ready.2 ⟨by simp [hj], _, rfl, by simp [Region.binds, hj]⟩) (hn 12)
    · rfl
  subst d12
  have d13 : j13 = true := by
    cases hj : j13
    · exact absurd (mem_ready.2 ⟨by simp [hj], _, rfl, by simp [Region.binds, hj]⟩) (hn 13)
    · rfl
  subst d13
  have d14 : j14 = true := by
    cases hj : j14
    · exact absurd (mem_ready.2 ⟨by simp [hj], _, rfl, by simp [Region.binds, hj]⟩) (hn 14)
    · rfl
  subst d14
  have d15 : j15 = true := by
    cases hj : j15
    · exact absurd (mem_ready.2 ⟨by simp [hj], _, rfl, by simp [Region.binds, hj]⟩) (hn 15)
    · rfl
  subst d15
  have d16 : j16 = true := by
    cases hj : j16
    · exact absurd (mem_ready.2 ⟨by simp [hj], _, rfl, by simp [Region.binds, hj]⟩) (hn 16)
    · rfl
  subst d16
  have d17 : j17 = true := by
    cases hj : j17
    · exact absurd (mem_ready.2 ⟨by simp [hj], _, rfl, by simp [Region.binds, hj]⟩) (hn 17)
    · rfl
  subst d17
  have d18 : j18 = true := by
    cases hj : j18
    · exact absurd (mem_ready.2 ⟨by simp [hj], _, rfl, by simp [Region.binds, hj]⟩) (hn 18)
    · rfl
  subst d18
  have d19 : j19 = true := by
    cases hj : j19
    · exact absurd (mem_ready.2 ⟨by simp [hj], _, rfl, by simp [Region.binds, hj]⟩) (hn 19)
    · rfl
  subst d19
  have d20 : j20 = true := by
    cases hj : j20
    · exact absurd (mem_ready.2 ⟨by simp [hj], _, rfl, by simp [Region.binds, hj]⟩) (hn 20)
    · rfl
  subst d20
  have d21 : j21 = true := by
    cases hj : j21
    · exact absurd (mem_ready.2 ⟨by simp [hj], _, rfl, by simp [Region.binds, hj]⟩) (hn 21)
    · rfl
  subst d21
  have d22 : j22 = true := by
    cases hj : j22
    · exact absurd (mem_ready.2 ⟨by simp [hj], _, rfl, by simp [Region.binds, hj]⟩) (hn 22)
    · rfl
  subst d22
  have d23 : j23 = true := by
    cases hj : j23
    · exact absurd (mem_ready.2 ⟨by simp [hj], _, rfl, by simp [Region.binds, hj]⟩) (hn 23)
    · rfl
  subst d23
  have d24 : j24 = true := by
    cases hj : j24
    · exact absurd (mem_ready.2 ⟨by simp [hj], _, rfl, by simp [Region.binds, hj]⟩) (hn 24)
    · rfl
  subst d24
  obtain rfl := h24 rfl
  exact ⟨_, _, _, _, _, _, _, _, _, _, _, _, _, _, _, _, _, _, _, _, _, _, _, _, w1, rfl, hB, rfl⟩
theorem tl1 (b r n c : Nat) (ua : Option Addr) (sa sb : ByteArray) (inn kp : Int) (g : Bool) (p : List UInt8 × List UInt8) (w : World) (KR : Bk 67 w r #[.string sa, .string sb, .slice ua n c, .int .i64 inn, .int .i64 kp, .bool g]) (HX : Hid (∀ w', Below w.heap.size w w' → Calls Try.prog 17 #[.pointer (some ⟨b, 0, none⟩)] w' fun e w'' => ∃ v', e = .returned v' ∧ RP w'' v' p ∧ Below w'.heap.size w' w'')) (HY : Hid (∀ w', Below w.heap.size w w' → Calls Try.prog 40 #[.pointer (some ⟨r, 0, none⟩)] w' fun e w'' => ∃ v', e = .returned v' ∧ RP w'' v' p ∧ Below w'.heap.size w' w'')) (HW : Hid (∀ w', Below w.heap.size w w' → Calls Try.prog 20 #[.pointer (some ⟨b, 0, none⟩)] w' fun e w'' => e = .returned (.int .i64 (n : Int)) ∧ Below w'.heap.size w' w'')) (HD : Hid (∀ w', Below w.heap.size w w' → Calls Try.prog 27 #[.pointer (some ⟨b, 0, none⟩)] w' fun e w'' => e = .returned (.bool g) ∧ Below w'.heap.size w' w'')) {t2 t3 t5 t6 t7 t8 t9 t10 t11 t12 t13 t14 t15 t16 t17 t18 t19 t20 t21 t22 t23 t24 t25 t26 t27 t28 : Value} {ds : List Deferred} {K : Act → World → Prop} {Q : Exit → Act → World → Prop}
    (h : ∀ (y0 y1 y2 y3 y4 y5 y6 y7 y8 y9 y10 y11 y12 y13 y14 y15 y16 y17 y18 y19 y20 y21 y22 y23 : Value) (w1 : World) (hb : Below w.heap.size w w1), K { tmps := #[.pointer (some ⟨b, 0, none⟩), .pointer (some ⟨r, 0, none⟩), t2, t3, .bool true, y0, y1, y2, y3, y4, y5, y6, y7, y8, y9, y10, y11, y12, y13, y14, y15, y16, y17, y18, y19, y20, y21, y22, y23], defers := ds } w1) :
    (Code.region 1 tl1O true).wp Try.prog (Exit.then K Q) { tmps := #[.pointer (some ⟨b, 0, none⟩), .pointer (some ⟨r, 0, none⟩), t2, t3, .bool false, t5, t6, t7, t8, t9, t10, t11, t12, t13, t14, t15, t16, t17, t18, t19, t20, t21, t22, t23, t24, t25, t26, t27, t28], defers := ds } w := by
  have hsz : tl1O.size = 25 := by kernel_rfl
  refine wp_region_any (show Try.prog.follows .mixedOrders = true from by kernel_rfl) ?_
  rw [hsz]
  refine wpAny_inv (I := tl1I w b r n c ua sa sb inn kp g p t2 t3 ds) (tl1_steps b r n c ua sa sb inn kp g p w KR HX HY HW HD) (fun l a w' hI hr => ?_) 25 _ _ _ (by decide) ?_
  · obtain ⟨y0, y1, y2, y3, y4, y5, y6, y7, y8, y9, y10, y11, y12, y13, y14, y15, y16, y17, y18, y19, y20, y21, y22, y23, wm, rfl, hb, rfl⟩ := tl1_fin b r n c ua sa sb inn kp g p w l a w' hI hr
    exact h _ _ _ _ _ _ _ _ _ _ _ _ _ _ _ _ _ _ _ _ _ _ _ _ _ hb
  · exact ⟨false, false, false, false, false, false, false, false, false, false, false, false, false, false, false, false, false, false, false, false, false, false, false, false, false, t5, t6, t7, t8, t9, t10, t11, t12, t13, t14, t15, t16, t17, t18, t19, t20, t21, t22, t23, t24, t25, t26, t27, t28, .bool false, rfl, rfl, ⟨rfl, rfl, rfl, Nat.le_refl _, fun _ _ => rfl⟩, (fun h => by cases h), (fun h => by cases h), (fun h => by cases h), (fun h => by cases h), (fun h => by cases h), (fun h => by cases h), (fun h => by cases h), (fun h => by cases h), (fun h => by cases h), (fun h => by cases h), (fun h => by cases h), (fun h => by cases h), (fun h => by cases h), (fun h => by cases h), (fun h => by cases h), (fun h => by cases h), (fun h => by cases h), (fun h => by cases h), (fun h => by cases h), (fun h => by cases h), (fun h => by cases h), (fun h => by cases h), (fun h => by cases h), (fun h => by cases h), (fun h => by cases h)⟩

end Go.Proofs.Ytekagnhablkggaa
