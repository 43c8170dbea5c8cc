/- The law of rings: the region that lays its three numbers. No condition but what it reads. -/
import Derived.Test.YtglmmodkflkkkaaRb
set_option linter.unusedVariables false
set_option linter.unusedSimpArgs false
set_option maxRecDepth 100000
namespace Go.Proofs.Ytglmmodkflkkkaa
open Go.RowKit Limbs

noncomputable def ops7 (n : Nat) : Array Oper := (Try.f7.body.bind fun c => findR c n).getD #[]
/-- block g is of four cells, and holds cs once it is stored -/
def B4 (w : World) (g : Nat) (st : Bool) (cs : Array Value) : Prop := ∃ z0 z1 z2 z3, Bk 24 w g #[z0, z1, z2, z3] ∧ (st = true → #[z0, z1, z2, z3] = cs)
theorem B4.alloc {w : World} {g : Nat} {st : Bool} {cs : Array Value} {o : Obj} (h : B4 w g st cs) : B4 (w.alloc o) g st cs := by
  obtain ⟨z0, z1, z2, z3, h, k⟩ := h
  exact ⟨z0, z1, z2, z3, h.alloc, k⟩
theorem B4.lt {w : World} {g : Nat} {st : Bool} {cs : Array Value} (h : B4 w g st cs) : g < w.heap.size := by
  obtain ⟨z0, z1, z2, z3, h, k⟩ := h
  exact h.lt
theorem B4.puto {w : World} {g h : Nat} {st : Bool} {cs : Array Value} {a' b' c' d' : Value} (k : B4 w g st cs) (hn : g ≠ h) : B4 ((((w.setCell ⟨h, 0, none⟩ a').setCell ⟨h, 1, none⟩ b').setCell ⟨h, 2, none⟩ c').setCell ⟨h, 3, none⟩ d') g st cs := by
  obtain ⟨z0, z1, z2, z3, h, k⟩ := k
  exact ⟨z0, z1, z2, z3, h.puto hn, k⟩
def r1I (w0 : World) (g3 a0 a1 a2 a3 b0 b1 b2 b3 c0 c1 c2 c3 : Nat) (t0 t1 t2 t4 t8 t9 t10 t11 t12 t19 t20 t21 t22 t23 t24 t25 t26 t27 t28 t29 t30 t31 t32 t33 t34 t35 t36 t37 t38 t39 t40 t41 t42 t43 t44 t45 t46 t47 t48 t49 t50 t51 t52 t53 t54 t55 t56 t57 t58 t59 t60 t61 t62 t63 t64 t65 t66 t67 t68 t69 t70 t71 t72 t73 t74 t75 t76 t77 t78 t79 t80 t81 t82 t83 t84 t85 t86 t87 t88 t89 t90 t91 t92 t93 t94 t95 t96 t97 t98 t99 t100 t101 t102 t103 t104 t105 t106 t107 t108 t109 t110 t111 t112 t113 t114 t115 t116 t117 t118 t119 t120 t121 t122 t123 t124 t125 t126 t127 t128 t129 t130 t131 t132 t133 t134 t135 t136 t137 t138 t139 t140 t141 t142 t143 t144 t145 t146 t147 t148 t149 t150 t151 t152 t153 t154 t155 t156 t157 t158 t159 t160 : Value) (ds : List Deferred) (l : Array Bool) (a : Act) (w : World) : Prop :=
  ∃ j0 j1 j2 j3 j4 j5 j6 j7 j8 j9 j10 j11 : Bool, ∃ x0 x1 x2 x3 x4 x5 x6 x7 x8 : Value, ∃ ga gb gc : Nat, l = #[j0, j1, j2, j3, j4, j5, j6, j7, j8, j9, j10, j11] ∧ a = { tmps := #[t0, t1, t2, .pointer (some ⟨g3, 0, none⟩), t4, x6, x7, x8, t8, t9, t10, t11, t12, x0, x1, x2, x3, x4, x5, t19, t20, t21, t22, t23, t24, t25, t26, t27, t28, t29, t30, t31, t32, t33, t34, t35, t36, t37, t38, t39, t40, t41, t42, t43, t44, t45, t46, t47, t48, t49, t50, t51, t52, t53, t54, t55, t56, t57, t58, t59, t60, t61, t62, t63, t64, t65, t66, t67, t68, t69, t70, t71, t72, t73, t74, t75, t76, t77, t78, t79, t80, t81, t82, t83, t84, t85, t86, t87, t88, t89, t90, t91, t92, t93, t94, t95, t96, t97, t98, t99, t100, t101, t102, t103, t104, t105, t106, t107, t108, t109, t110, t111, t112, t113, t114, t115, t116, t117, t118, t119, t120, t121, t122, t123, t124, t125, t126, t127, t128, t129, t130, t131, t132, t133, t134, t135, t136, t137, t138, t139, t140, t141, t142, t143, t144, t145, t146, t147, t148, t149, t150, t151, t152, t153, t154, t155, t156, t157, t158, t159, t160], defers := ds } ∧ Below w0.heap.size w0 w ∧
  (j0 = true → x0 = .pointer (some ⟨g3, 0, none⟩)) ∧ (j1 = true → x1 = .agg #[.int .u64 (a0 : Int), .int .u64 (a1 : Int), .int .u64 (a2 : Int), .int .u64 (a3 : Int)]) ∧ (j2 = true → x2 = .pointer (some ⟨g3, 4, none⟩)) ∧ (j3 = true → x3 = .agg #[.int .u64 (b0 : Int), .int .u64 (b1 : Int), .int .u64 (b2 : Int), .int .u64 (b3 : Int)]) ∧ (j4 = true → x4 = .pointer (some ⟨g3, 8, none⟩)) ∧ (j5 = true → x5 = .agg #[.int .u64 (c0 : Int), .int .u64 (c1 : Int), .int .u64 (c2 : Int), .int .u64 (c3 : Int)]) ∧
  (j6 = true → x6 = .pointer (some ⟨ga, 0, none⟩) ∧ w0.heap.size ≤ ga ∧ B4 w ga j9 #[.int .u64 (a0 : Int), .int .u64 (a1 : Int), .int .u64 (a2 : Int), .int .u64 (a3 : Int)]) ∧ (j7 = true → x7 = .pointer (some ⟨gb, 0, none⟩) ∧ w0.heap.size ≤ gb ∧ B4 w gb j10 #[.int .u64 (b0 : Int), .int .u64 (b1 : Int), .int .u64 (b2 : Int), .int .u64 (b3 : Int)]) ∧ (j8 = true → x8 = .pointer (some ⟨gc, 0, none⟩) ∧ w0.heap.size ≤ gc ∧ B4 w gc j11 #[.int .u64 (c0 : Int), .int .u64 (c1 : Int), .int .u64 (c2 : Int), .int .u64 (c3 : Int)]) ∧
  (j6 = true → j7 = true → ga ≠ gb) ∧ (j6 = true → j8 = true → ga ≠ gc) ∧ (j7 = true → j8 = true → gb ≠ gc) ∧ (j9 = true → j6 = true) ∧ (j10 = true → j7 = true) ∧ (j11 = true → j8 = true)

set_option maxHeartbeats 16000000 in
theorem r1_steps (g3 a0 a1 a2 a3 b0 b1 b2 b3 c0 c1 c2 c3 : Nat) (w : World) (k0 : ∀ w', Below w.heap.size w w' → w'.cell? ⟨g3, 0, none⟩ = some (.int .u64 (a0 : Int))) (k1 : ∀ w', Below w.heap.size w w' → w'.cell? ⟨g3, 1, none⟩ = some (.int .u64 (a1 : Int))) (k2 : ∀ w', Below w.heap.size w w' → w'.cell? ⟨g3, 2, none⟩ = some (.int .u64 (a2 : Int))) (k3 : ∀ w', Below w.heap.size w w' → w'.cell? ⟨g3, 3, none⟩ = some (.int .u64 (a3 : Int))) (k4 : ∀ w', Below w.heap.size w w' → w'.cell? ⟨g3, 4, none⟩ = some (.int .u64 (b0 : Int))) (k5 : ∀ w', Below w.heap.size w w' → w'.cell? ⟨g3, 5, none⟩ = some (.int .u64 (b1 : Int))) (k6 : ∀ w', Below w.heap.size w w' → w'.cell? ⟨g3, 6, none⟩ = some (.int .u64 (b2 : Int))) (k7 : ∀ w', Below w.heap.size w w' → w'.cell? ⟨g3, 7, none⟩ = some (.int .u64 (b3 : Int))) (k8 : ∀ w', Below w.heap.size w w' → w'.cell? ⟨g3, 8, none⟩ = some (.int .u64 (c0 : Int))) (k9 : ∀ w', Below w.heap.size w w' → w'.cell? ⟨g3, 9, none⟩ = some (.int .u64 (c1 : Int))) (k10 : ∀ w', Below w.heap.size w w' → w'.cell? ⟨g3, 10, none⟩ = some (.int .u64 (c2 : Int))) (k11 : ∀ w', Below w.heap.size w w' → w'.cell? ⟨g3, 11, none⟩ = some (.int .u64 (c3 : Int)))
    {t0 t1 t2 t4 t8 t9 t10 t11 t12 t19 t20 t21 t22 t23 t24 t25 t26 t27 t28 t29 t30 t31 t32 t33 t34 t35 t36 t37 t38 t39 t40 t41 t42 t43 t44 t45 t46 t47 t48 t49 t50 t51 t52 t53 t54 t55 t56 t57 t58 t59 t60 t61 t62 t63 t64 t65 t66 t67 t68 t69 t70 t71 t72 t73 t74 t75 t76 t77 t78 t79 t80 t81 t82 t83 t84 t85 t86 t87 t88 t89 t90 t91 t92 t93 t94 t95 t96 t97 t98 t99 t100 t101 t102 t103 t104 t105 t106 t107 t108 t109 t110 t111 t112 t113 t114 t115 t116 t117 t118 t119 t120 t121 t122 t123 t124 t125 t126 t127 t128 t129 t130 t131 t132 t133 t134 t135 t136 t137 t138 t139 t140 t141 t142 t143 t144 t145 t146 t147 t148 t149 t150 t151 t152 t153 t154 t155 t156 t157 t158 t159 t160 : Value} {ds : List Deferred} {Q : Exit → Act → World → Prop} :
    ∀ l a w', r1I w g3 a0 a1 a2 a3 b0 b1 b2 b3 c0 c1 c2 c3 t0 t1 t2 t4 t8 t9 t10 t11 t12 t19 t20 t21 t22 t23 t24 t25 t26 t27 t28 t29 t30 t31 t32 t33 t34 t35 t36 t37 t38 t39 t40 t41 t42 t43 t44 t45 t46 t47 t48 t49 t50 t51 t52 t53 t54 t55 t56 t57 t58 t59 t60 t61 t62 t63 t64 t65 t66 t67 t68 t69 t70 t71 t72 t73 t74 t75 t76 t77 t78 t79 t80 t81 t82 t83 t84 t85 t86 t87 t88 t89 t90 t91 t92 t93 t94 t95 t96 t97 t98 t99 t100 t101 t102 t103 t104 t105 t106 t107 t108 t109 t110 t111 t112 t113 t114 t115 t116 t117 t118 t119 t120 t121 t122 t123 t124 t125 t126 t127 t128 t129 t130 t131 t132 t133 t134 t135 t136 t137 t138 t139 t140 t141 t142 t143 t144 t145 t146 t147 t148 t149 t150 t151 t152 t153 t154 t155 t156 t157 t158 t159 t160 ds l a w' → ∀ i ∈ Region.ready .any (ops7 1) l, wpOp Try.prog (ops7 1) Q i (fun a' w'' => r1I w g3 a0 a1 a2 a3 b0 b1 b2 b3 c0 c1 c2 c3 t0 t1 t2 t4 t8 t9 t10 t11 t12 t19 t20 t21 t22 t23 t24 t25 t26 t27 t28 t29 t30 t31 t32 t33 t34 t35 t36 t37 t38 t39 t40 t41 t42 t43 t44 t45 t46 t47 t48 t49 t50 t51 t52 t53 t54 t55 t56 t57 t58 t59 t60 t61 t62 t63 t64 t65 t66 t67 t68 t69 t70 t71 t72 t73 t74 t75 t76 t77 t78 t79 t80 t81 t82 t83 t84 t85 t86 t87 t88 t89 t90 t91 t92 t93 t94 t95 t96 t97 t98 t99 t100 t101 t102 t103 t104 t105 t106 t107 t108 t109 t110 t111 t112 t113 t114 t115 t116 t117 t118 t119 t120 t121 t122 t123 t124 t125 t126 t127 t128 t129 t130 t131 t132 t133 t134 t135 t136 t137 t138 t139 t140 t141 t142 t143 t144 t145 t146 t147 t148 t149 t150 t151 t152 t153 t154 t155 t156 t157 t158 t159 t160 ds (l.setIfInBounds i true) a' w'') a w' := by
  simp only [ops7, findR, Try.f7, Option.bind_some, Option.or, Option.getD, Nat.reduceEqDiff, if_true, if_false, reduceIte]
  rintro l a w' ⟨j0, j1, j2, j3, j4, j5, j6, j7, j8, j9, j10, j11, x0, x1, x2, x3, x4, x5, x6, x7, x8, ga, gb, gc, rfl, rfl, hB, h0, h1, h2, h3, h4, h5, hA, hBb, hC, n1, n2, n3, s1, s2, s3⟩ i hi
  rw [mem_ready] at hi
  obtain ⟨hu, oo, ho, hd⟩ := hi
  have hi12 : i < 12 := by
    have := (Array.getElem?_eq_some_iff.1 ho).1
    simpa using this
  have hcase : i = 0 ∨ i = 1 ∨ i = 2 ∨ i = 3 ∨ i = 4 ∨ i = 5 ∨ i = 6 ∨ i = 7 ∨ i = 8 ∨ i = 9 ∨ i = 10 ∨ i = 11 := by omega
  rcases hcase with rfl | rfl | rfl | rfl | rfl | rfl | rfl | rfl | rfl | rfl | rfl | rfl
  · obtain rfl := Option.some.inj ho
    simp [Region.binds] at hu hd
    refine wpOp_of rfl rfl ?_
    go_simp
    unfold r1I
    exact ⟨true, j1, j2, j3, j4, j5, j6, j7, j8, j9, j10, j11, _, x1, x2, x3, x4, x5, x6, x7, x8, ga, gb, gc, rfl, rfl, hB, fun _ => rfl, h1, h2, h3, h4, h5, hA, hBb, hC, n1, n2, n3, s1, s2, s3⟩
  · obtain rfl := Option.some.inj ho
    simp [Region.binds] at hu hd
    have d0 : j0 = true := by simp [hd]
    have e0 := h0 d0
    subst e0
    subst d0
    refine wpOp_of rfl rfl ?_
    go_simp
    unfold r1I
    exact ⟨true, true, j2, j3, j4, j5, j6, j7, j8, j9, j10, j11, _, _, x2, x3, x4, x5, x6, x7, x8, ga, gb, gc, rfl, rfl, hB, h0, fun _ => rfl, h2, h3, h4, h5, hA, hBb, hC, n1, n2, n3, s1, s2, s3⟩
  · obtain rfl := Option.some.inj ho
    simp [Region.binds] at hu hd
    refine wpOp_of rfl rfl ?_
    go_simp
    unfold r1I
    exact ⟨j0, j1, true, j3, j4, j5, j6, j7, j8, j9, j10, j11, x0, x1, _, x3, x4, x5, x6, x7, x8, ga, gb, gc, rfl, rfl, hB, h0, h1, fun _ => rfl, h3, h4, h5, hA, hBb, hC, n1, n2, n3, s1, s2, s3⟩
  · obtain rfl := Option.some.inj ho
    simp [Region.binds] at hu hd
    have d2 : j2 = true := by simp [hd]
    have e2 := h2 d2
    subst e2
    subst d2
    refine wpOp_of rfl rfl ?_
    go_simp
    unfold r1I
    exact ⟨j0, j1, true, true, j4, j5, j6, j7, j8, j9, j10, j11, x0, x1, _, _, x4, x5, x6, x7, x8, ga, gb, gc, rfl, rfl, hB, h0, h1, h2, fun _ => rfl, h4, h5, hA, hBb, hC, n1, n2, n3, s1, s2, s3⟩
  · obtain rfl := Option.some.inj ho
    simp [Region.binds] at hu hd
    refine wpOp_of rfl rfl ?_
    go_simp
    unfold r1I
    exact ⟨j0, j1, j2, j3, true, j5, j6, j7, j8, j9, j10, j11, x0, x1, x2, x3, _, x5, x6, x7, x8, ga, gb, gc, rfl, rfl, hB, h0, h1, h2, h3, fun _ => rfl, h5, hA, hBb, hC, n1, n2, n3, s1, s2, s3⟩
  · obtain rfl := Option.some.inj ho
    simp [Region.binds] at hu hd
    have d4 : j4 = true := by simp [hd]
    have e4 := h4 d4
    subst e4
    subst d4
    refine wpOp_of rfl rfl ?_
    go_simp
    unfold r1I
    exact ⟨j0, j1, j2, j3, true, true, j6, j7, j8, j9, j10, j11, x0, x1, x2, x3, _, _, x6, x7, x8, ga, gb, gc, rfl, rfl, hB, h0, h1, h2, h3, h4, fun _ => rfl, hA, hBb, hC, n1, n2, n3, s1, s2, s3⟩
  · obtain rfl := Option.some.inj ho
    simp [Region.binds] at hu hd
    refine wpOp_of rfl rfl ?_
    have hs := hB.size
    go_simp
    unfold r1I
    exact ⟨j0, j1, j2, j3, j4, j5, true, j7, j8, j9, j10, j11, x0, x1, x2, x3, x4, x5, _, x7, x8, w'.heap.size, gb, gc, rfl, rfl, (by go_grown), h0, h1, h2, h3, h4, h5, (fun _ => ⟨rfl, hs, _, _, _, _, Bk.new rfl, fun hj => absurd (s1 hj) (by simp [hu])⟩), (fun hj => ⟨(hBb hj).1, (hBb hj).2.1, (hBb hj).2.2.alloc⟩), (fun hj => ⟨(hC hj).1, (hC hj).2.1, (hC hj).2.2.alloc⟩), (fun _ hj => Nat.ne_of_gt (hBb hj).2.2.lt), (fun _ hj => Nat.ne_of_gt (hC hj).2.2.lt), n3, fun _ => rfl, s2, s3⟩
  · obtain rfl := Option.some.inj ho
    simp [Region.binds] at hu hd
    refine wpOp_of rfl rfl ?_
    have hs := hB.size
    go_simp
    unfold r1I
    exact ⟨j0, j1, j2, j3, j4, j5, j6, true, j8, j9, j10, j11, x0, x1, x2, x3, x4, x5, x6, _, x8, ga, w'.heap.size, gc, rfl, rfl, (by go_grown), h0, h1, h2, h3, h4, h5, (fun hj => ⟨(hA hj).1, (hA hj).2.1, (hA hj).2.2.alloc⟩), (fun _ => ⟨rfl, hs, _, _, _, _, Bk.new rfl, fun hj => absurd (s2 hj) (by simp [hu])⟩), (fun hj => ⟨(hC hj).1, (hC hj).2.1, (hC hj).2.2.alloc⟩), (fun hj _ => Nat.ne_of_lt (hA hj).2.2.lt), n2, (fun _ hj => Nat.ne_of_gt (hC hj).2.2.lt), s1, fun _ => rfl, s3⟩
  · obtain rfl := Option.some.inj ho
    simp [Region.binds] at hu hd
    refine wpOp_of rfl rfl ?_
    have hs := hB.size
    go_simp
    unfold r1I
    exact ⟨j0, j1, j2, j3, j4, j5, j6, j7, true, j9, j10, j11, x0, x1, x2, x3, x4, x5, x6, x7, _, ga, gb, w'.heap.size, rfl, rfl, (by go_grown), h0, h1, h2, h3, h4, h5, (fun hj => ⟨(hA hj).1, (hA hj).2.1, (hA hj).2.2.alloc⟩), (fun hj => ⟨(hBb hj).1, (hBb hj).2.1, (hBb hj).2.2.alloc⟩), (fun _ => ⟨rfl, hs, _, _, _, _, Bk.new rfl, fun hj => absurd (s3 hj) (by simp [hu])⟩), n1, (fun hj _ => Nat.ne_of_lt (hA hj).2.2.lt), (fun hj _ => Nat.ne_of_lt (hBb hj).2.2.lt), s1, s2, fun _ => rfl⟩
  · obtain rfl := Option.some.inj ho
    simp [Region.binds] at hu hd
    have d0 : j0 = true := by simp [hd]
    have e0 := h0 d0
    subst e0
    have d1 : j1 = true := by simp [hd]
    have e1 := h1 d1
    subst e1
    have d6 : j6 = true := by simp [hd]
    have d7 : j7 = true := by simp [hd]
    have d8 : j8 = true := by simp [hd]
    subst d0
    subst d1
    subst d6
    subst d7
    subst d8
    refine wpOp_of rfl rfl ?_
    obtain ⟨eA, lA, A0, A1, A2, A3, bA, cA⟩ := hA rfl
    obtain ⟨eB, lB, B0, B1, B2, B3, bB, cB⟩ := hBb rfl
    obtain ⟨eC, lC, C0, C1, C2, C3, bC, cC⟩ := hC rfl
    subst eA eB eC
    have n1' := n1 rfl rfl
    have n2' := n2 rfl rfl
    have n3' := n3 rfl rfl
    obtain ⟨f0, f1, f2, f3⟩ := bA.fros
    obtain ⟨c0', c1', c2', c3'⟩ := bA.cells
    clear hA hBb hC n1 n2 n3
    go_simp
    unfold r1I
    exact ⟨true, true, j2, j3, j4, j5, true, true, true, true, j10, j11, _, _, x2, x3, x4, x5, _, _, _, ga, gb, gc, rfl, rfl, (by go_grown), h0, h1, h2, h3, h4, h5, (fun _ => ⟨rfl, lA, _, _, _, _, Bk.put bA, fun _ => rfl⟩), (fun _ => ⟨rfl, lB, _, _, _, _, Bk.puto (Ne.symm n1') bB, cB⟩), (fun _ => ⟨rfl, lC, _, _, _, _, Bk.puto (Ne.symm n2') bC, cC⟩), (fun _ _ => n1'), (fun _ _ => n2'), (fun _ _ => n3'), fun _ => rfl, fun _ => rfl, fun _ => rfl⟩
  · obtain rfl := Option.some.inj ho
    simp [Region.binds] at hu hd
    have d0 : j0 = true := by simp [hd]
    have e0 := h0 d0
    subst e0
    have d1 : j1 = true := by simp [hd]
    have e1 := h1 d1
    subst e1
    have d2 : j2 = true := by simp [hd]
    have e2 := h2 d2
    subst e2
    have d3 : j3 = true := by simp [hd]
    have e3 := h3 d3
    subst e3
    have d6 : j6 = true := by simp [hd]
    have d7 : j7 = true := by simp [hd]
    have d8 : j8 = true := by simp [hd]
    have d9 : j9 = true := by simp [hd]
    subst d0
    subst d1
    subst d2
    subst d3
    subst d6
    subst d7
    subst d8
    subst d9
    refine wpOp_of rfl rfl ?_
    obtain ⟨eA, lA, A0, A1, A2, A3, bA, cA⟩ := hA rfl
    obtain ⟨eB, lB, B0, B1, B2, B3, bB, cB⟩ := hBb rfl
    obtain ⟨eC, lC, C0, C1, C2, C3, bC, cC⟩ := hC rfl
    subst eA eB eC
    have n1' := n1 rfl rfl
    have n2' := n2 rfl rfl
    have n3' := n3 rfl rfl
    obtain ⟨f0, f1, f2, f3⟩ := bB.fros
    obtain ⟨c0', c1', c2', c3'⟩ := bB.cells
    clear hA hBb hC n1 n2 n3
    go_simp
    unfold r1I
    exact ⟨true, true, true, true, j4, j5, true, true, true, true, true, j11, _, _, _, _, x4, x5, _, _, _, ga, gb, gc, rfl, rfl, (by go_grown), h0, h1, h2, h3, h4, h5, (fun _ => ⟨rfl, lA, _, _, _, _, Bk.puto n1' bA, cA⟩), (fun _ => ⟨rfl, lB, _, _, _, _, Bk.put bB, fun _ => rfl⟩), (fun _ => ⟨rfl, lC, _, _, _, _, Bk.puto (Ne.symm n3') bC, cC⟩), (fun _ _ => n1'), (fun _ _ => n2'), (fun _ _ => n3'), fun _ => rfl, fun _ => rfl, fun _ => rfl⟩
  · obtain rfl := Option.some.inj ho
    simp [Region.binds] at hu hd
    have d0 : j0 = true := by simp [hd]
    have e0 := h0 d0
    subst e0
    have d1 : j1 = true := by simp [hd]
    have e1 := h1 d1
    subst e1
    have d2 : j2 = true := by simp [hd]
    have e2 := h2 d2
    subst e2
    have d3 : j3 = true := by simp [hd]
    have e3 := h3 d3
    subst e3
    have d4 : j4 = true := by simp [hd]
    have e4 := h4 d4
    subst e4
    have d5 : j5 = true := by simp [hd]
    have e5 := h5 d5
    subst e5
    have d6 : j6 = true := by simp [hd]
    have d7 : j7 = true := by simp [hd]
    have d8 : j8 = true := by simp [hd]
    have d9 : j9 = true := by simp [hd]
    have d10 : j10 = true := by simp [hd]
    subst d0
    subst d1
    subst d2
    subst d3
    subst d4
    subst d5
    subst d6
    subst d7
    subst d8
    subst d9
    subst d10
    refine wpOp_of rfl rfl ?_
    obtain ⟨eA, lA, A0, A1, A2, A3, bA, cA⟩ := hA rfl
    obtain ⟨eB, lB, B0, B1, B2, B3, bB, cB⟩ := hBb rfl
    obtain ⟨eC, lC, C0, C1, C2, C3, bC, cC⟩ := hC rfl
    subst eA eB eC
    have n1' := n1 rfl rfl
    have n2' := n2 rfl rfl
    have n3' := n3 rfl rfl
    obtain ⟨f0, f1, f2, f3⟩ := bC.fros
    obtain ⟨c0', c1', c2', c3'⟩ := bC.cells
    clear hA hBb hC n1 n2 n3
    go_simp
    unfold r1I
    exact ⟨true, true, true, true, true, true, true, true, true, true, true, true, _, _, _, _, _, _, _, _, _, ga, gb, gc, rfl, rfl, (by go_grown), h0, h1, h2, h3, h4, h5, (fun _ => ⟨rfl, lA, _, _, _, _, Bk.puto n2' bA, cA⟩), (fun _ => ⟨rfl, lB, _, _, _, _, Bk.puto n3' bB, cB⟩), (fun _ => ⟨rfl, lC, _, _, _, _, Bk.put bC, fun _ => rfl⟩), (fun _ _ => n1'), (fun _ _ => n2'), (fun _ _ => n3'), fun _ => rfl, fun _ => rfl, fun _ => rfl⟩

set_option maxHeartbeats 16000000 in
theorem r1_fin (g3 a0 a1 a2 a3 b0 b1 b2 b3 c0 c1 c2 c3 : Nat) (w : World)
    {t0 t1 t2 t4 t8 t9 t10 t11 t12 t19 t20 t21 t22 t23 t24 t25 t26 t27 t28 t29 t30 t31 t32 t33 t34 t35 t36 t37 t38 t39 t40 t41 t42 t43 t44 t45 t46 t47 t48 t49 t50 t51 t52 t53 t54 t55 t56 t57 t58 t59 t60 t61 t62 t63 t64 t65 t66 t67 t68 t69 t70 t71 t72 t73 t74 t75 t76 t77 t78 t79 t80 t81 t82 t83 t84 t85 t86 t87 t88 t89 t90 t91 t92 t93 t94 t95 t96 t97 t98 t99 t100 t101 t102 t103 t104 t105 t106 t107 t108 t109 t110 t111 t112 t113 t114 t115 t116 t117 t118 t119 t120 t121 t122 t123 t124 t125 t126 t127 t128 t129 t130 t131 t132 t133 t134 t135 t136 t137 t138 t139 t140 t141 t142 t143 t144 t145 t146 t147 t148 t149 t150 t151 t152 t153 t154 t155 t156 t157 t158 t159 t160 : Value} {ds : List Deferred} : ∀ l a w', r1I w g3 a0 a1 a2 a3 b0 b1 b2 b3 c0 c1 c2 c3 t0 t1 t2 t4 t8 t9 t10 t11 t12 t19 t20 t21 t22 t23 t24 t25 t26 t27 t28 t29 t30 t31 t32 t33 t34 t35 t36 t37 t38 t39 t40 t41 t42 t43 t44 t45 t46 t47 t48 t49 t50 t51 t52 t53 t54 t55 t56 t57 t58 t59 t60 t61 t62 t63 t64 t65 t66 t67 t68 t69 t70 t71 t72 t73 t74 t75 t76 t77 t78 t79 t80 t81 t82 t83 t84 t85 t86 t87 t88 t89 t90 t91 t92 t93 t94 t95 t96 t97 t98 t99 t100 t101 t102 t103 t104 t105 t106 t107 t108 t109 t110 t111 t112 t113 t114 t115 t116 t117 t118 t119 t120 t121 t122 t123 t124 t125 t126 t127 t128 t129 t130 t131 t132 t133 t134 t135 t136 t137 t138 t139 t140 t141 t142 t143 t144 t145 t146 t147 t148 t149 t150 t151 t152 t153 t154 t155 t156 t157 t158 t159 t160 ds l a w' → Region.ready .any (ops7 1) l = [] →
    ∃ (y0 y1 y2 y3 y4 y5 : Value) (ga gb gc : Nat), a = { tmps := #[t0, t1, t2, .pointer (some ⟨g3, 0, none⟩), t4, .pointer (some ⟨ga, 0, none⟩), .pointer (some ⟨gb, 0, none⟩), .pointer (some ⟨gc, 0, none⟩), t8, t9, t10, t11, t12, y0, y1, y2, y3, y4, y5, t19, t20, t21, t22, t23, t24, t25, t26, t27, t28, t29, t30, t31, t32, t33, t34, t35, t36, t37, t38, t39, t40, t41, t42, t43, t44, t45, t46, t47, t48, t49, t50, t51, t52, t53, t54, t55, t56, t57, t58, t59, t60, t61, t62, t63, t64, t65, t66, t67, t68, t69, t70, t71, t72, t73, t74, t75, t76, t77, t78, t79, t80, t81, t82, t83, t84, t85, t86, t87, t88, t89, t90, t91, t92, t93, t94, t95, t96, t97, t98, t99, t100, t101, t102, t103, t104, t105, t106, t107, t108, t109, t110, t111, t112, t113, t114, t115, t116, t117, t118, t119, t120, t121, t122, t123, t124, t125, t126, t127, t128, t129, t130, t131, t132, t133, t134, t135, t136, t137, t138, t139, t140, t141, t142, t143, t144, t145, t146, t147, t148, t149, t150, t151, t152, t153, t154, t155, t156, t157, t158, t159, t160], defers := ds } ∧ Below w.heap.size w w' ∧ w.heap.size ≤ ga ∧ w.heap.size ≤ gb ∧ w.heap.size ≤ gc ∧ Bk 24 w' ga #[.int .u64 (a0 : Int), .int .u64 (a1 : Int), .int .u64 (a2 : Int), .int .u64 (a3 : Int)] ∧ Bk 24 w' gb #[.int .u64 (b0 : Int), .int .u64 (b1 : Int), .int .u64 (b2 : Int), .int .u64 (b3 : Int)] ∧ Bk 24 w' gc #[.int .u64 (c0 : Int), .int .u64 (c1 : Int), .int .u64 (c2 : Int), .int .u64 (c3 : Int)] := by
  simp only [ops7, findR, Try.f7, Option.bind_some, Option.or, Option.getD, Nat.reduceEqDiff, if_true, if_false, reduceIte]
  rintro l a w' ⟨j0, j1, j2, j3, j4, j5, j6, j7, j8, j9, j10, j11, x0, x1, x2, x3, x4, x5, x6, x7, x8, ga, gb, gc, rfl, rfl, hB, h0, h1, h2, h3, h4, h5, hA, hBb, hC, n1, n2, n3, s1, s2, s3⟩ hr
  have hn := fun i => List.eq_nil_iff_forall_not_mem.1 hr i
  clear hr
  have d0 : j0 = true := by
    cases hj : j0
    · exact absurd (mem_ready.2 ⟨by simp [hj], _, rfl, by simp [Region.binds, hj]⟩) (hn 0)
    · rfl
  subst d0
  obtain rfl := h0 rfl
  have d1 : j1 = true := by
    cases hj : j1
    · exact absurd (mem_ready.2 ⟨by simp [hj], _, rfl, by simp [Region.binds, hj]⟩) (hn 1)
    · rfl
  subst d1
  obtain rfl := h1 rfl
  have d2 : j2 = true := by
    cases hj : j2
    · exact absurd (mem_ready.2 ⟨by simp [hj], _, rfl, by simp [Region.binds, hj]⟩) (hn 2)
    · rfl
  subst d2
  obtain rfl := h2 rfl
  have d3 : j3 = true := by
    cases hj : j3
    · exact absurd (mem_ready.2 ⟨by simp [hj], _, rfl, by simp [Region.binds, hj]⟩) (hn 3)
    · rfl
  subst d3
  obtain rfl := h3 rfl
  have d4 : j4 = true := by
    cases hj : j4
    · exact absurd (mem_ready.2 ⟨by simp [hj], _, rfl, by simp [Region.binds, hj]⟩) (hn 4)
    · rfl
  subst d4
  obtain rfl := h4 rfl
  have d5 : j5 = true := by
    cases hj : j5
    · exact absurd (mem_ready.2 ⟨by simp [hj], _, rfl, by simp [Region.binds, hj]⟩) (hn 5)
    · rfl
  subst d5
  obtain rfl := h5 rfl
  have d6 : j6 = true := by
    cases hj : j6
    · exact absurd (mem_ready.2 ⟨by simp [hj], _, rfl, by simp [Region.binds, hj]⟩) (hn 6)
    · rfl
  subst d6
  have d7 : j7 = true := by
    cases hj : j7
    · exact absurd (mem_ready.2 ⟨by simp [hj], _, rfl, by simp [Region.binds, hj]⟩) (hn 7)
    · rfl
  subst d7
  have d8 : j8 = true := by
    cases hj : j8
    · exact absurd (mem_ready.2 ⟨by simp [hj], _, rfl, by simp [Region.binds, hj]⟩) (hn 8)
    · rfl
  subst d8
  have d9 : j9 = true := by
    cases hj : j9
    · exact absurd (mem_ready.2 ⟨by simp [hj], _, rfl, by simp [Region.binds, hj]⟩) (hn 9)
    · rfl
  subst d9
  have d10 : j10 = true := by
    cases hj : j10
    · exact absurd (mem_ready.2 ⟨by simp [hj], _, rfl, by simp [Region.binds, hj]⟩) (hn 10)
    · rfl
  subst d10
  have d11 : j11 = true := by
    cases hj : j11
    · exact absurd (mem_ready.2 ⟨by simp [hj], _, rfl, by simp [Region.binds, hj]⟩) (hn 11)
    · rfl
  subst d11
  obtain ⟨rfl, lA, A0, A1, A2, A3, bA, cA⟩ := hA rfl
  obtain ⟨rfl, lB, B0, B1, B2, B3, bB, cB⟩ := hBb rfl
  obtain ⟨rfl, lC, C0, C1, C2, C3, bC, cC⟩ := hC rfl
  rw [cA rfl] at bA
  rw [cB rfl] at bB
  rw [cC rfl] at bC
  exact ⟨_, _, _, _, _, _, ga, gb, gc, rfl, hB, lA, lB, lC, bA, bB, bC⟩

theorem r1 (g3 a0 a1 a2 a3 b0 b1 b2 b3 c0 c1 c2 c3 : Nat) (w : World) (k0 : ∀ w', Below w.heap.size w w' → w'.cell? ⟨g3, 0, none⟩ = some (.int .u64 (a0 : Int))) (k1 : ∀ w', Below w.heap.size w w' → w'.cell? ⟨g3, 1, none⟩ = some (.int .u64 (a1 : Int))) (k2 : ∀ w', Below w.heap.size w w' → w'.cell? ⟨g3, 2, none⟩ = some (.int .u64 (a2 : Int))) (k3 : ∀ w', Below w.heap.size w w' → w'.cell? ⟨g3, 3, none⟩ = some (.int .u64 (a3 : Int))) (k4 : ∀ w', Below w.heap.size w w' → w'.cell? ⟨g3, 4, none⟩ = some (.int .u64 (b0 : Int))) (k5 : ∀ w', Below w.heap.size w w' → w'.cell? ⟨g3, 5, none⟩ = some (.int .u64 (b1 : Int))) (k6 : ∀ w', Below w.heap.size w w' → w'.cell? ⟨g3, 6, none⟩ = some (.int .u64 (b2 : Int))) (k7 : ∀ w', Below w.heap.size w w' → w'.cell? ⟨g3, 7, none⟩ = some (.int .u64 (b3 : Int))) (k8 : ∀ w', Below w.heap.size w w' → w'.cell? ⟨g3, 8, none⟩ = some (.int .u64 (c0 : Int))) (k9 : ∀ w', Below w.heap.size w w' → w'.cell? ⟨g3, 9, none⟩ = some (.int .u64 (c1 : Int))) (k10 : ∀ w', Below w.heap.size w w' → w'.cell? ⟨g3, 10, none⟩ = some (.int .u64 (c2 : Int))) (k11 : ∀ w', Below w.heap.size w w' → w'.cell? ⟨g3, 11, none⟩ = some (.int .u64 (c3 : Int)))
    {t0 t1 t2 t4 t5 t6 t7 t8 t9 t10 t11 t12 t13 t14 t15 t16 t17 t18 t19 t20 t21 t22 t23 t24 t25 t26 t27 t28 t29 t30 t31 t32 t33 t34 t35 t36 t37 t38 t39 t40 t41 t42 t43 t44 t45 t46 t47 t48 t49 t50 t51 t52 t53 t54 t55 t56 t57 t58 t59 t60 t61 t62 t63 t64 t65 t66 t67 t68 t69 t70 t71 t72 t73 t74 t75 t76 t77 t78 t79 t80 t81 t82 t83 t84 t85 t86 t87 t88 t89 t90 t91 t92 t93 t94 t95 t96 t97 t98 t99 t100 t101 t102 t103 t104 t105 t106 t107 t108 t109 t110 t111 t112 t113 t114 t115 t116 t117 t118 t119 t120 t121 t122 t123 t124 t125 t126 t127 t128 t129 t130 t131 t132 t133 t134 t135 t136 t137 t138 t139 t140 t141 t142 t143 t144 t145 t146 t147 t148 t149 t150 t151 t152 t153 t154 t155 t156 t157 t158 t159 t160 : Value} {ds : List Deferred} {K : Act → World → Prop} {Q : Exit → Act → World → Prop}
    (h : ∀ (y0 y1 y2 y3 y4 y5 : Value) (ga gb gc : Nat) (w' : World) (hb : Below w.heap.size w w') (ha : w.heap.size ≤ ga) (hgb : w.heap.size ≤ gb) (hgc : w.heap.size ≤ gc) (kA : Bk 24 w' ga #[.int .u64 (a0 : Int), .int .u64 (a1 : Int), .int .u64 (a2 : Int), .int .u64 (a3 : Int)]) (kB : Bk 24 w' gb #[.int .u64 (b0 : Int), .int .u64 (b1 : Int), .int .u64 (b2 : Int), .int .u64 (b3 : Int)]) (kC : Bk 24 w' gc #[.int .u64 (c0 : Int), .int .u64 (c1 : Int), .int .u64 (c2 : Int), .int .u64 (c3 : Int)]), K { tmps := #[t0, t1, t2, .pointer (some ⟨g3, 0, none⟩), t4, .pointer (some ⟨ga, 0, none⟩), .pointer (some ⟨gb, 0, none⟩), .pointer (some ⟨gc, 0, none⟩), t8, t9, t10, t11, t12, y0, y1, y2, y3, y4, y5, t19, t20, t21, t22, t23, t24, t25, t26, t27, t28, t29, t30, t31, t32, t33, t34, t35, t36, t37, t38, t39, t40, t41, t42, t43, t44, t45, t46, t47, t48, t49, t50, t51, t52, t53, t54, t55, t56, t57, t58, t59, t60, t61, t62, t63, t64, t65, t66, t67, t68, t69, t70, t71, t72, t73, t74, t75, t76, t77, t78, t79, t80, t81, t82, t83, t84, t85, t86, t87, t88, t89, t90, t91, t92, t93, t94, t95, t96, t97, t98, t99, t100, t101, t102, t103, t104, t105, t106, t107, t108, t109, t110, t111, t112, t113, t114, t115, t116, t117, t118, t119, t120, t121, t122, t123, t124, t125, t126, t127, t128, t129, t130, t131, t132, t133, t134, t135, t136, t137, t138, t139, t140, t141, t142, t143, t144, t145, t146, t147, t148, t149, t150, t151, t152, t153, t154, t155, t156, t157, t158, t159, t160], defers := ds } w') :
    (Code.region 1 (ops7 1) true).wp Try.prog (Exit.then K Q) { tmps := #[t0, t1, t2, .pointer (some ⟨g3, 0, none⟩), t4, t5, t6, t7, t8, t9, t10, t11, t12, t13, t14, t15, t16, t17, t18, t19, t20, t21, t22, t23, t24, t25, t26, t27, t28, t29, t30, t31, t32, t33, t34, t35, t36, t37, t38, t39, t40, t41, t42, t43, t44, t45, t46, t47, t48, t49, t50, t51, t52, t53, t54, t55, t56, t57, t58, t59, t60, t61, t62, t63, t64, t65, t66, t67, t68, t69, t70, t71, t72, t73, t74, t75, t76, t77, t78, t79, t80, t81, t82, t83, t84, t85, t86, t87, t88, t89, t90, t91, t92, t93, t94, t95, t96, t97, t98, t99, t100, t101, t102, t103, t104, t105, t106, t107, t108, t109, t110, t111, t112, t113, t114, t115, t116, t117, t118, t119, t120, t121, t122, t123, t124, t125, t126, t127, t128, t129, t130, t131, t132, t133, t134, t135, t136, t137, t138, t139, t140, t141, t142, t143, t144, t145, t146, t147, t148, t149, t150, t151, t152, t153, t154, t155, t156, t157, t158, t159, t160], defers := ds } w := by
  have hsz : (ops7 1).size = 12 := by kernel_rfl
  refine wp_region_any mixed ?_
  rw [hsz]
  refine wpAny_inv (I := r1I w g3 a0 a1 a2 a3 b0 b1 b2 b3 c0 c1 c2 c3 t0 t1 t2 t4 t8 t9 t10 t11 t12 t19 t20 t21 t22 t23 t24 t25 t26 t27 t28 t29 t30 t31 t32 t33 t34 t35 t36 t37 t38 t39 t40 t41 t42 t43 t44 t45 t46 t47 t48 t49 t50 t51 t52 t53 t54 t55 t56 t57 t58 t59 t60 t61 t62 t63 t64 t65 t66 t67 t68 t69 t70 t71 t72 t73 t74 t75 t76 t77 t78 t79 t80 t81 t82 t83 t84 t85 t86 t87 t88 t89 t90 t91 t92 t93 t94 t95 t96 t97 t98 t99 t100 t101 t102 t103 t104 t105 t106 t107 t108 t109 t110 t111 t112 t113 t114 t115 t116 t117 t118 t119 t120 t121 t122 t123 t124 t125 t126 t127 t128 t129 t130 t131 t132 t133 t134 t135 t136 t137 t138 t139 t140 t141 t142 t143 t144 t145 t146 t147 t148 t149 t150 t151 t152 t153 t154 t155 t156 t157 t158 t159 t160 ds) (r1_steps g3 a0 a1 a2 a3 b0 b1 b2 b3 c0 c1 c2 c3 w k0 k1 k2 k3 k4 k5 k6 k7 k8 k9 k10 k11) (fun l a w' hI hr => ?_) 12 _ _ _ (by decide) ?_
  · obtain ⟨y0, y1, y2, y3, y4, y5, ga, gb, gc, rfl, hb, ha, hgb, hgc, kA, kB, kC⟩ := r1_fin g3 a0 a1 a2 a3 b0 b1 b2 b3 c0 c1 c2 c3 w l a w' hI hr
    exact h _ _ _ _ _ _ ga gb gc w' hb ha hgb hgc kA kB kC
  · exact ⟨false, false, false, false, false, false, false, false, false, false, false, false, t13, t14, t15, t16, t17, t18, t5, t6, t7, 0, 0, 0, rfl, rfl, ⟨rfl, rfl, rfl, Nat.le_refl _, fun _ _ => rfl⟩, (fun h => by cases h), (fun h => by cases h), (fun h => by cases h), (fun h => by cases h), (fun h => by cases h), (fun h => by cases h), (fun h => by cases h), (fun h => by cases h), (fun h => by cases h), (fun h => by cases h), (fun h => by cases h), (fun h => by cases h), (fun h => by cases h), (fun h => by cases h), (fun h => by cases h)⟩
end Go.Proofs.Ytglmmodkflkkkaa
