/- DiskArms: what calls make of an armed disk beside one that is not; its drawn region. No condition. -/
import Derived.Test.YtekagnhablkggaaZ
set_option linter.unusedVariables false
set_option linter.unusedSimpArgs false
set_option maxRecDepth 100000
namespace Go.Proofs.Ytekagnhablkggaa
open Go.RowKit Go.Sort

theorem lay_power (S : St) (g : Bool) (m k f : Nat) (s : List UInt8) : (S.power g m k).lay f s = (S.lay f s).power g m k := by
  unfold St.lay St.power
  split <;> rfl
theorem count_pow1 (S : St) (k : Nat) : (S.power false 1 k).count = (2, S.lose k) := rfl
theorem count_pow2 (S : St) (m k : Nat) (hm : 2 ≤ m) : (S.power false m k).count = (0, S.power false (m - 1) k) := by
  unfold St.count St.power
  rw [if_neg (by simp only; omega), if_pos (by simp only; omega)]
theorem arm_append {S : St} (hc : Calm S) (f : Int) (s : List UInt8) (m k : Nat) (hm : 1 ≤ m) :
    (∃ e : Nat, e ≠ 0 ∧ e ≠ 2 ∧ S.append f s = (e, S) ∧ (S.power false m k).append f s = (e, S.power false m k)) ∨
    (m = 1 ∧ ∃ S', Calm S' ∧ S.append f s = (0, S') ∧ (S.power false m k).append f s = (2, S'.lose k)) ∨
    (2 ≤ m ∧ ∃ S', Calm S' ∧ S.append f s = (0, S') ∧ (S.power false m k).append f s = (0, S'.power false (m - 1) k)) := by
  have e0 : (S.power false m k).gone = false := rfl
  have e1 : appCode (S.power false m k) f s.length = appCode S f s.length := rfl
  rw [append_eq, append_eq, e0, e1, hc.1]
  simp only [Bool.false_eq_true, if_false]
  by_cases hcd : appCode S f s.length = 0
  · rw [if_neg (by simp [hcd]), if_neg (by simp [hcd]), (hc.lay _ _).count, lay_power]
    right
    by_cases h1 : m = 1
    · left
      subst h1
      exact ⟨rfl, _, hc.lay _ _, rfl, count_pow1 _ _⟩
    · right
      exact ⟨by omega, _, hc.lay _ _, rfl, count_pow2 _ _ _ (by omega)⟩
  · rw [if_pos hcd, if_pos hcd]
    left
    refine ⟨_, hcd, ?_, rfl, rfl⟩
    unfold appCode
    split
    · decide
    · split <;> decide
theorem arm_sync {S : St} (hc : Calm S) (m k : Nat) (hm : 1 ≤ m) :
    (m = 1 ∧ (S.power false m k).sync = (2, S.lose k)) ∨
    (2 ≤ m ∧ ∃ S', Calm S' ∧ S.sync = (0, S') ∧ (S.power false m k).sync = (0, S'.power false (m - 1) k)) := by
  by_cases h1 : m = 1
  · left
    subst h1
    exact ⟨rfl, rfl⟩
  · right
    refine ⟨by omega, S.keep S.waiting, hc, hc.sync_eq, ?_⟩
    have e0 : (S.power false m k).gone = false := rfl
    unfold St.sync
    rw [e0, count_pow2 _ _ _ (by omega)]
    rfl
theorem arm_cut {S : St} (hc : Calm S) (f n : Int) (m k : Nat) (hm : 1 ≤ m) :
    (∃ e : Nat, e ≠ 0 ∧ e ≠ 2 ∧ S.cut f n = (e, S) ∧ (S.power false m k).cut f n = (e, S.power false m k)) ∨
    (m = 1 ∧ (S.power false m k).cut f n = (2, S.lose k)) ∨
    (2 ≤ m ∧ ∃ S', Calm S' ∧ S.cut f n = (0, S') ∧ (S.power false m k).cut f n = (0, S'.power false (m - 1) k)) := by
  have e0 : (S.power false m k).gone = false := rfl
  have e1 : cutCode (S.power false m k) f n = cutCode S f n := rfl
  rw [cut_eq, cut_eq, e0, e1, hc.1]
  simp only [Bool.false_eq_true, if_false]
  by_cases hcd : cutCode S f n = 0
  · have hn : ¬ (cutCode S f n ≠ 0) := by simp [hcd]
    simp only [hn, if_false, hc.count, if_true]
    right
    by_cases h1 : m = 1
    · left
      subst h1
      refine ⟨rfl, ?_⟩
      rw [count_pow1]
      rfl
    · right
      refine ⟨by omega, S.cutF f.toNat n.toNat, ?_, rfl, ?_⟩
      · unfold St.cutF; split <;> exact hc
      · rw [count_pow2 _ _ _ (by omega)]
        rw [if_pos rfl]
        unfold St.cutF
        split <;> rfl
  · rw [if_pos hcd, if_pos hcd]
    left
    refine ⟨_, hcd, ?_, rfl, rfl⟩
    unfold cutCode
    split
    · decide
    · split <;> decide
theorem Calm.crash_any {S : St} (h : Calm S) (k : Nat) : S.crash (k : Int) = (0, S.lose k) := h.crash_eq k
theorem Cf.unprot {B : Nat} {w0 w : World} {ds : List (Nat × St)} {K : List Nat} {g : Nat} (h : Cf B w0 w ds (g :: K)) : Cf B w0 w ds K := by
  obtain ⟨ps, hl, hd, hk, hj⟩ := h.disks
  exact ⟨h.low, h.below, fun k hk => h.kept k (by simp [hk]), ps, hl, hd, fun i p hp k hkk => ⟨(hk i p hp k hkk).1, fun hK => (hk i p hp k hkk).2 (by simp [hK])⟩, hj⟩
theorem left_all11_3 {j0 j1 j2 j3 j4 j5 j6 j7 j8 j9 j10 : Bool} (h : left #[j0, j1, j2, j3, j4, j5, j6, j7, j8, j9, j10, false, false, false] = 3) : j0 = true ∧ j1 = true ∧ j2 = true ∧ j3 = true ∧ j4 = true ∧ j5 = true ∧ j6 = true ∧ j7 = true ∧ j8 = true ∧ j9 = true ∧ j10 = true := by
  have e := left_count #[j0, j1, j2, j3, j4, j5, j6, j7, j8, j9, j10] 3
  have e2 : (#[j0, j1, j2, j3, j4, j5, j6, j7, j8, j9, j10] ++ Array.replicate 3 false) = #[j0, j1, j2, j3, j4, j5, j6, j7, j8, j9, j10, false, false, false] := rfl
  rw [e2, h] at e
  have hz := left_zero (l := #[j0, j1, j2, j3, j4, j5, j6, j7, j8, j9, j10]) (by omega)
  simpa using hz
noncomputable def rEO : Array Oper := (Try.f6.body.bind fun c => findR c 16).getD #[]
def rEI (w0 : World) (b c g : Nat) (av : Int) (s : ByteArray) (R : World → Value → Prop) (t0 t1 t2 t3 t4 t5 t6 t8 t9 t10 t11 t13 t15 t16 t17 t18 t19 t20 t21 t22 t23 t24 t25 t26 t27 t28 t29 t30 t31 t32 t33 t34 t35 t36 t37 t38 t39 t40 t41 t42 t43 t44 t45 t46 t47 t48 t49 t50 t51 t52 t53 t54 t55 t56 t57 t58 t59 t60 t61 t62 t74 t75 t76 t77 t78 t79 t80 t81 t82 t83 t84 t85 t86 t87 t88 t89 t90 t91 t92 t93 t94 t95 t96 t97 t98 t99 t100 t101 t102 t103 t104 t105 t106 t107 t108 t109 t110 t111 t112 t113 t114 t115 t116 t117 t118 t119 t120 t121 t122 t123 t124 t125 t126 t127 t128 t129 t130 t131 t132 t133 t134 t135 t136 t137 t138 t139 t140 t141 t142 t143 t144 : Value) (ds : List Deferred) (l : Array Bool) (a : Act) (w : World) : Prop :=
  ∃ j0 j1 j2 j3 j4 j5 j6 j7 j8 j9 j10 : Bool, ∃ x0 x1 x2 x3 x4 x5 x6 x7 x8 x9 x10 : Value, l = #[j0, j1, j2, j3, j4, j5, j6, j7, j8, j9, j10, false, false, false] ∧ a = { tmps := #[t0, t1, t2, t3, t4, t5, t6, .pointer (some ⟨b, 0, none⟩), t8, t9, t10, t11, .pointer (some ⟨c, 0, none⟩), t13, .pointer (some ⟨g, 0, none⟩), t15, t16, t17, t18, t19, t20, t21, t22, t23, t24, t25, t26, t27, t28, t29, t30, t31, t32, t33, t34, t35, t36, t37, t38, t39, t40, t41, t42, t43, t44, t45, t46, t47, t48, t49, t50, t51, t52, t53, t54, t55, t56, t57, t58, t59, t60, t61, t62, x0, x1, x2, x3, x4, x5, x6, x7, x8, x9, x10, t74, t75, t76, t77, t78, t79, t80, t81, t82, t83, t84, t85, t86, t87, t88, t89, t90, t91, t92, t93, t94, t95, t96, t97, t98, t99, t100, t101, t102, t103, t104, t105, t106, t107, t108, t109, t110, t111, t112, t113, t114, t115, t116, t117, t118, t119, t120, t121, t122, t123, t124, t125, t126, t127, t128, t129, t130, t131, t132, t133, t134, t135, t136, t137, t138, t139, t140, t141, t142, t143, t144], defers := ds } ∧ (j5 = false → w = w0.drew) ∧
  (j0 = true → x0 = .pointer (some ⟨b, 0, none⟩)) ∧ (j1 = true → x1 = .pointer (some ⟨g, 2, none⟩)) ∧ (j2 = true → x2 = .int .i64 av) ∧ (j3 = true → x3 = .pointer (some ⟨g, 4, none⟩)) ∧ (j4 = true → x4 = .string s) ∧ (j5 = true → R w x5) ∧ (j6 = true → x6 = .pointer (some ⟨c, 0, none⟩)) ∧ (j7 = true → x7 = .pointer (some ⟨g, 2, none⟩)) ∧ (j8 = true → x8 = .int .i64 av) ∧ (j9 = true → x9 = .pointer (some ⟨g, 4, none⟩)) ∧ (j10 = true → x10 = .string s) ∧
  (j2 = true → j1 = true) ∧ (j4 = true → j3 = true) ∧ (j5 = true → j0 = true ∧ j2 = true ∧ j4 = true) ∧ (j8 = true → j7 = true) ∧ (j10 = true → j9 = true)
set_option maxHeartbeats 16000000 in
theorem rE_none (b c g : Nat) (av : Int) (s : ByteArray) (R : World → Value → Prop) (w : World) {t0 t1 t2 t3 t4 t5 t6 t8 t9 t10 t11 t13 t15 t16 t17 t18 t19 t20 t21 t22 t23 t24 t25 t26 t27 t28 t29 t30 t31 t32 t33 t34 t35 t36 t37 t38 t39 t40 t41 t42 t43 t44 t45 t46 t47 t48 t49 t50 t51 t52 t53 t54 t55 t56 t57 t58 t59 t60 t61 t62 t74 t75 t76 t77 t78 t79 t80 t81 t82 t83 t84 t85 t86 t87 t88 t89 t90 t91 t92 t93 t94 t95 t96 t97 t98 t99 t100 t101 t102 t103 t104 t105 t106 t107 t108 t109 t110 t111 t112 t113 t114 t115 t116 t117 t118 t119 t120 t121 t122 t123 t124 t125 t126 t127 t128 t129 t130 t131 t132 t133 t134 t135 t136 t137 t138 t139 t140 t141 t142 t143 t144 : Value} {ds : List Deferred} : ∀ l a w1, rEI w b c g av s R t0 t1 t2 t3 t4 t5 t6 t8 t9 t10 t11 t13 t15 t16 t17 t18 t19 t20 t21 t22 t23 t24 t25 t26 t27 t28 t29 t30 t31 t32 t33 t34 t35 t36 t37 t38 t39 t40 t41 t42 t43 t44 t45 t46 t47 t48 t49 t50 t51 t52 t53 t54 t55 t56 t57 t58 t59 t60 t61 t62 t74 t75 t76 t77 t78 t79 t80 t81 t82 t83 t84 t85 t86 t87 t88 t89 t90 t91 t92 t93 t94 t95 t96 t97 t98 t99 t100 t101 t102 t103 t104 t105 t106 t107 t108 t109 t110 t111 t112 t113 t114 t115 t116 t117 t118 t119 t120 t121 t122 t123 t124 t125 t126 t127 t128 t129 t130 t131 t132 t133 t134 t135 t136 t137 t138 t139 t140 t141 t142 t143 t144 ds l a w1 → Region.ready .any rEO l = [] → left l = 3 := by
  simp only [rEO, findR, Try.f6, Option.bind_some, Option.or, Option.getD, Nat.reduceEqDiff, if_true, if_false, reduceIte]
  rintro l a w1 hI hr
  obtain ⟨j0, j1, j2, j3, j4, j5, j6, j7, j8, j9, j10, x0, x1, x2, x3, x4, x5, x6, x7, x8, x9, x10, rfl, rfl, hW, h0, h1, h2, h3, h4, h5, h6, h7, h8, h9, h10, k2, k4, k5, k8, k10⟩ := hI
  have hn := fun i => List.eq_nil_iff_forall_not_mem.1 hr i
  clear hr
  have d0 : j0 = true := by
    cases hj : j0
    · exact absurd (mem_ready.2 ⟨by simp [hj], _, rfl, by simp [Region.binds, hj]⟩) (hn 0)
    · rfl
  subst d0
  have d1 : j1 = true := by
    cases hj : j1
    · exact absurd (mem_ready.2 ⟨by simp [hj], _, rfl, by simp [Region.binds, hj]⟩) (hn 1)
    · rfl
  subst d1
  have d2 : j2 = true := by
    cases hj : j2
    · exact absurd (mem_ready.2 ⟨by simp [hj], _, rfl, by simp [Region.binds, hj]⟩) (hn 2)
    · rfl
  subst d2
  have d3 : j3 = true := by
    cases hj : j3
    · exact absurd (mem_ready.2 ⟨by simp [hj], _, rfl, by simp [Region.binds, hj]⟩) (hn 3)
    · rfl
  subst d3
  have d4 : j4 = true := by
    cases hj : j4
    · exact absurd (mem_ready.2 ⟨by simp [hj], _, rfl, by simp [Region.binds, hj]⟩) (hn 4)
    · rfl
  subst d4
  have d5 : j5 = true := by
    cases hj : j5
    · exact absurd (mem_ready.2 ⟨by simp [hj], _, rfl, by simp [Region.binds, hj]⟩) (hn 5)
    · rfl
  subst d5
  have d6 : j6 = true := by
    cases hj : j6
    · exact absurd (mem_ready.2 ⟨by simp [hj], _, rfl, by simp [Region.binds, hj]⟩) (hn 6)
    · rfl
  subst d6
  have d7 : j7 = true := by
    cases hj : j7
    · exact absurd (mem_ready.2 ⟨by simp [hj], _, rfl, by simp [Region.binds, hj]⟩) (hn 7)
    · rfl
  subst d7
  have d8 : j8 = true := by
    cases hj : j8
    · exact absurd (mem_ready.2 ⟨by simp [hj], _, rfl, by simp [Region.binds, hj]⟩) (hn 8)
    · rfl
  subst d8
  have d9 : j9 = true := by
    cases hj : j9
    · exact absurd (mem_ready.2 ⟨by simp [hj], _, rfl, by simp [Region.binds, hj]⟩) (hn 9)
    · rfl
  subst d9
  have d10 : j10 = true := by
    cases hj : j10
    · exact absurd (mem_ready.2 ⟨by simp [hj], _, rfl, by simp [Region.binds, hj]⟩) (hn 10)
    · rfl
  subst d10
  rfl
set_option maxHeartbeats 16000000 in
theorem rE_steps (b c g : Nat) (av : Int) (s : ByteArray) (R : World → Value → Prop) (w : World)  (c0 : w.cell? ⟨g, 2, none⟩ = some (.int .i64 av)) (rc0 : Hid (∀ w1 v, R w1 v → w1.cell? ⟨g, 2, none⟩ = some (.int .i64 av))) (c1 : w.cell? ⟨g, 4, none⟩ = some (.string s)) (rc1 : Hid (∀ w1 v, R w1 v → w1.cell? ⟨g, 4, none⟩ = some (.string s))) (hE : Hid (Calls Try.prog 26 #[.pointer (some ⟨b, 0, none⟩), .int .i64 av, .string s] w.drew fun e w1 => ∃ v, e = .returned v ∧ R w1 v))
    {t0 t1 t2 t3 t4 t5 t6 t8 t9 t10 t11 t13 t15 t16 t17 t18 t19 t20 t21 t22 t23 t24 t25 t26 t27 t28 t29 t30 t31 t32 t33 t34 t35 t36 t37 t38 t39 t40 t41 t42 t43 t44 t45 t46 t47 t48 t49 t50 t51 t52 t53 t54 t55 t56 t57 t58 t59 t60 t61 t62 t74 t75 t76 t77 t78 t79 t80 t81 t82 t83 t84 t85 t86 t87 t88 t89 t90 t91 t92 t93 t94 t95 t96 t97 t98 t99 t100 t101 t102 t103 t104 t105 t106 t107 t108 t109 t110 t111 t112 t113 t114 t115 t116 t117 t118 t119 t120 t121 t122 t123 t124 t125 t126 t127 t128 t129 t130 t131 t132 t133 t134 t135 t136 t137 t138 t139 t140 t141 t142 t143 t144 : Value} {ds : List Deferred} {Q : Exit → Act → World → Prop} :
    ∀ l a w', rEI w b c g av s R t0 t1 t2 t3 t4 t5 t6 t8 t9 t10 t11 t13 t15 t16 t17 t18 t19 t20 t21 t22 t23 t24 t25 t26 t27 t28 t29 t30 t31 t32 t33 t34 t35 t36 t37 t38 t39 t40 t41 t42 t43 t44 t45 t46 t47 t48 t49 t50 t51 t52 t53 t54 t55 t56 t57 t58 t59 t60 t61 t62 t74 t75 t76 t77 t78 t79 t80 t81 t82 t83 t84 t85 t86 t87 t88 t89 t90 t91 t92 t93 t94 t95 t96 t97 t98 t99 t100 t101 t102 t103 t104 t105 t106 t107 t108 t109 t110 t111 t112 t113 t114 t115 t116 t117 t118 t119 t120 t121 t122 t123 t124 t125 t126 t127 t128 t129 t130 t131 t132 t133 t134 t135 t136 t137 t138 t139 t140 t141 t142 t143 t144 ds l a w' → left l ≠ 3 → ∀ i ∈ Region.ready .any rEO l, wpOp Try.prog rEO Q i (fun a' w'' => rEI w b c g av s R t0 t1 t2 t3 t4 t5 t6 t8 t9 t10 t11 t13 t15 t16 t17 t18 t19 t20 t21 t22 t23 t24 t25 t26 t27 t28 t29 t30 t31 t32 t33 t34 t35 t36 t37 t38 t39 t40 t41 t42 t43 t44 t45 t46 t47 t48 t49 t50 t51 t52 t53 t54 t55 t56 t57 t58 t59 t60 t61 t62 t74 t75 t76 t77 t78 t79 t80 t81 t82 t83 t84 t85 t86 t87 t88 t89 t90 t91 t92 t93 t94 t95 t96 t97 t98 t99 t100 t101 t102 t103 t104 t105 t106 t107 t108 t109 t110 t111 t112 t113 t114 t115 t116 t117 t118 t119 t120 t121 t122 t123 t124 t125 t126 t127 t128 t129 t130 t131 t132 t133 t134 t135 t136 t137 t138 t139 t140 t141 t142 t143 t144 ds (l.setIfInBounds i true) a' w'') a w' := by
  simp only [rEO, findR, Try.f6, Option.bind_some, Option.or, Option.getD, Nat.reduceEqDiff, if_true, if_false, reduceIte]
  rintro l a w' hI hlt i hi
  rw [mem_ready] at hi
  obtain ⟨hu, oo, ho, hd⟩ := hi
  have hin : i < 14 := by
    have := (Array.getElem?_eq_some_iff.1 ho).1
    simpa using this
  have hcase : i = 0 ∨ i = 1 ∨ i = 2 ∨ i = 3 ∨ i = 4 ∨ i = 5 ∨ i = 6 ∨ i = 7 ∨ i = 8 ∨ i = 9 ∨ i = 10 ∨ i = 11 ∨ i = 12 ∨ i = 13 := by omega
  obtain ⟨j0, j1, j2, j3, j4, j5, j6, j7, j8, j9, j10, x0, x1, x2, x3, x4, x5, x6, x7, x8, x9, x10, rfl, rfl, hW, h0, h1, h2, h3, h4, h5, h6, h7, h8, h9, h10, k2, k4, k5, k8, k10⟩ := hI
  replace hW := Lib.hid hW
  replace h0 := Lib.hid h0
  replace h1 := Lib.hid h1
  replace h2 := Lib.hid h2
  replace h3 := Lib.hid h3
  replace h4 := Lib.hid h4
  replace h5 := Lib.hid h5
  replace h6 := Lib.hid h6
  replace h7 := Lib.hid h7
  replace h8 := Lib.hid h8
  replace h9 := Lib.hid h9
  replace h10 := Lib.hid h10
  replace k2 := Lib.hid k2
  replace k4 := Lib.hid k4
  replace k5 := Lib.hid k5
  replace k8 := Lib.hid k8
  replace k10 := Lib.hid k10
  have gc0 : w'.cell? ⟨g, 2, none⟩ = some (.int .i64 av) := by
    cases hj : j5
    · rw [hW.out hj]; exact c0
    · exact rc0.out _ _ (h5.out hj)
  have gc1 : w'.cell? ⟨g, 4, none⟩ = some (.string s) := by
    cases hj : j5
    · rw [hW.out hj]; exact c1
    · exact rc1.out _ _ (h5.out hj)
  clear c0 c1
  rcases hcase with rfl | rfl | rfl | rfl | rfl | rfl | rfl | rfl | rfl | rfl | rfl | rfl | rfl | rfl
  · obtain rfl := Option.some.inj ho
    simp [Region.binds] at hu hd
    clear hd hlt
    refine wpOp_of rfl rfl ?_
    go_simp
    unfold rEI
    exact ⟨true, j1, j2, j3, j4, j5, j6, j7, j8, j9, j10, _, x1, x2, x3, x4, x5, x6, x7, x8, x9, x10, rfl, rfl, hW.out, fun _ => rfl, h1.out, h2.out, h3.out, h4.out, h5.out, h6.out, h7.out, h8.out, h9.out, h10.out, k2.out, k4.out, fun hj => absurd ((k5.out hj).1) (by simp [hu]), k8.out, k10.out⟩
  · obtain rfl := Option.some.inj ho
    simp [Region.binds] at hu hd
    clear hd hlt
    refine wpOp_of rfl rfl ?_
    go_simp
    unfold rEI
    exact ⟨j0, true, j2, j3, j4, j5, j6, j7, j8, j9, j10, x0, _, x2, x3, x4, x5, x6, x7, x8, x9, x10, rfl, rfl, hW.out, h0.out, fun _ => rfl, h2.out, h3.out, h4.out, h5.out, h6.out, h7.out, h8.out, h9.out, h10.out, fun hj => absurd ((k2.out hj)) (by simp [hu]), k4.out, k5.out, k8.out, k10.out⟩
  · obtain rfl := Option.some.inj ho
    simp [Region.binds] at hu hd
    have d1 : j1 = true := by simp [hd]
    have e1 := h1.out d1
    subst e1
    subst d1
    clear hd hlt
    refine wpOp_of rfl rfl ?_
    go_simp
    unfold rEI
    exact ⟨j0, true, true, j3, j4, j5, j6, j7, j8, j9, j10, x0, _, _, x3, x4, x5, x6, x7, x8, x9, x10, rfl, rfl, hW.out, h0.out, h1.out, fun _ => rfl, h3.out, h4.out, h5.out, h6.out, h7.out, h8.out, h9.out, h10.out, fun _ => rfl, k4.out, fun hj => absurd ((k5.out hj).2.1) (by simp [hu]), k8.out, k10.out⟩
  · obtain rfl := Option.some.inj ho
    simp [Region.binds] at hu hd
    clear hd hlt
    refine wpOp_of rfl rfl ?_
    go_simp
    unfold rEI
    exact ⟨j0, j1, j2, true, j4, j5, j6, j7, j8, j9, j10, x0, x1, x2, _, x4, x5, x6, x7, x8, x9, x10, rfl, rfl, hW.out, h0.out, h1.out, h2.out, fun _ => rfl, h4.out, h5.out, h6.out, h7.out, h8.out, h9.out, h10.out, k2.out, fun hj => absurd ((k4.out hj)) (by simp [hu]), k5.out, k8.out, k10.out⟩
  · obtain rfl := Option.some.inj ho
    simp [Region.binds] at hu hd
    have d3 : j3 = true := by simp [hd]
    have e3 := h3.out d3
    subst e3
    subst d3
    clear hd hlt
    refine wpOp_of rfl rfl ?_
    go_simp
    unfold rEI
    exact ⟨j0, j1, j2, true, true, j5, j6, j7, j8, j9, j10, x0, x1, x2, _, _, x5, x6, x7, x8, x9, x10, rfl, rfl, hW.out, h0.out, h1.out, h2.out, h3.out, fun _ => rfl, h5.out, h6.out, h7.out, h8.out, h9.out, h10.out, k2.out, fun _ => rfl, fun hj => absurd ((k5.out hj).2.2) (by simp [hu]), k8.out, k10.out⟩
  · obtain rfl := Option.some.inj ho
    simp [Region.binds] at hu hd
    have d0 : j0 = true := by simp [hd]
    have d2 : j2 = true := by simp [hd]
    have d4 : j4 = true := by simp [hd]
    have e0 := h0.out d0
    subst e0
    have e2 := h2.out d2
    subst e2
    have e4 := h4.out d4
    subst e4
    subst d0
    subst d2
    subst d4
    clear hd hlt
    have hWW := hW.out hu
    clear hW gc0 gc1
    subst hWW
    refine wpOp_of rfl rfl ?_
    go_simp
    go_at_call 26
    refine hE.out.mono ?_
    rintro e w2 ⟨v, rfl, hR⟩
    unfold rEI
    exact ⟨true, j1, true, j3, true, true, j6, j7, j8, j9, j10, _, x1, _, x3, _, _, x6, x7, x8, x9, x10, rfl, rfl, (fun h => by cases h), h0.out, h1.out, h2.out, h3.out, h4.out, fun _ => hR, h6.out, h7.out, h8.out, h9.out, h10.out, k2.out, k4.out, fun _ => ⟨rfl, rfl, rfl⟩, k8.out, k10.out⟩
  · obtain rfl := Option.some.inj ho
    simp [Region.binds] at hu hd
    clear hd hlt
    refine wpOp_of rfl rfl ?_
    go_simp
    unfold rEI
    exact ⟨j0, j1, j2, j3, j4, j5, true, j7, j8, j9, j10, x0, x1, x2, x3, x4, x5, _, x7, x8, x9, x10, rfl, rfl, hW.out, h0.out, h1.out, h2.out, h3.out, h4.out, h5.out, fun _ => rfl, h7.out, h8.out, h9.out, h10.out, k2.out, k4.out, k5.out, k8.out, k10.out⟩
  · obtain rfl := Option.some.inj ho
    simp [Region.binds] at hu hd
    clear hd hlt
    refine wpOp_of rfl rfl ?_
    go_simp
    unfold rEI
    exact ⟨j0, j1, j2, j3, j4, j5, j6, true, j8, j9, j10, x0, x1, x2, x3, x4, x5, x6, _, x8, x9, x10, rfl, rfl, hW.out, h0.out, h1.out, h2.out, h3.out, h4.out, h5.out, h6.out, fun _ => rfl, h8.out, h9.out, h10.out, k2.out, k4.out, k5.out, fun hj => absurd ((k8.out hj)) (by simp [hu]), k10.out⟩
  · obtain rfl := Option.some.inj ho
    simp [Region.binds] at hu hd
    have d7 : j7 = true := by simp [hd]
    have e7 := h7.out d7
    subst e7
    subst d7
    clear hd hlt
    refine wpOp_of rfl rfl ?_
    go_simp
    unfold rEI
    exact ⟨j0, j1, j2, j3, j4, j5, j6, true, true, j9, j10, x0, x1, x2, x3, x4, x5, x6, _, _, x9, x10, rfl, rfl, hW.out, h0.out, h1.out, h2.out, h3.out, h4.out, h5.out, h6.out, h7.out, fun _ => rfl, h9.out, h10.out, k2.out, k4.out, k5.out, fun _ => rfl, k10.out⟩
  · obtain rfl := Option.some.inj ho
    simp [Region.binds] at hu hd
    clear hd hlt
    refine wpOp_of rfl rfl ?_
    go_simp
    unfold rEI
    exact ⟨j0, j1, j2, j3, j4, j5, j6, j7, j8, true, j10, x0, x1, x2, x3, x4, x5, x6, x7, x8, _, x10, rfl, rfl, hW.out, h0.out, h1.out, h2.out, h3.out, h4.out, h5.out, h6.out, h7.out, h8.out, fun _ => rfl, h10.out, k2.out, k4.out, k5.out, k8.out, fun hj => absurd ((k10.out hj)) (by simp [hu])⟩
  · obtain rfl := Option.some.inj ho
    simp [Region.binds] at hu hd
    have d9 : j9 = true := by simp [hd]
    have e9 := h9.out d9
    subst e9
    subst d9
    clear hd hlt
    refine wpOp_of rfl rfl ?_
    go_simp
    unfold rEI
    exact ⟨j0, j1, j2, j3, j4, j5, j6, j7, j8, true, true, x0, x1, x2, x3, x4, x5, x6, x7, x8, _, _, rfl, rfl, hW.out, h0.out, h1.out, h2.out, h3.out, h4.out, h5.out, h6.out, h7.out, h8.out, h9.out, fun _ => rfl, k2.out, k4.out, k5.out, k8.out, fun _ => rfl⟩
  · obtain rfl := Option.some.inj ho
    simp [Region.binds] at hu hd
    exfalso
    have d5 : j5 = true := by simp [hd]
    have d6 : j6 = true := by simp [hd]
    have d8 : j8 = true := by simp [hd]
    have d10 : j10 = true := by simp [hd]
    have d9 : j9 = true := (k10.out d10)
    have d7 : j7 = true := (k8.out d8)
    have d0 : j0 = true := (k5.out d5).1
    have d2 : j2 = true := (k5.out d5).2.1
    have d4 : j4 = true := (k5.out d5).2.2
    have d3 : j3 = true := (k4.out d4)
    have d1 : j1 = true := (k2.out d2)
    subst d5
    subst d6
    subst d8
    subst d10
    subst d9
    subst d7
    subst d0
    subst d2
    subst d4
    subst d3
    subst d1
    exact hlt rfl
  · obtain rfl := Option.some.inj ho
    exfalso
    simp [Region.binds] at hd
  · obtain rfl := Option.some.inj ho
    exfalso
    simp [Region.binds] at hd
set_option maxHeartbeats 16000000 in
theorem rE (b c g : Nat) (av : Int) (s : ByteArray) (R : World → Value → Prop) (w : World)  (c0 : w.cell? ⟨g, 2, none⟩ = some (.int .i64 av)) (rc0 : Hid (∀ w1 v, R w1 v → w1.cell? ⟨g, 2, none⟩ = some (.int .i64 av))) (c1 : w.cell? ⟨g, 4, none⟩ = some (.string s)) (rc1 : Hid (∀ w1 v, R w1 v → w1.cell? ⟨g, 4, none⟩ = some (.string s))) (hE : Hid (Calls Try.prog 26 #[.pointer (some ⟨b, 0, none⟩), .int .i64 av, .string s] w.drew fun e w1 => ∃ v, e = .returned v ∧ R w1 v)) {t0 t1 t2 t3 t4 t5 t6 t8 t9 t10 t11 t13 t15 t16 t17 t18 t19 t20 t21 t22 t23 t24 t25 t26 t27 t28 t29 t30 t31 t32 t33 t34 t35 t36 t37 t38 t39 t40 t41 t42 t43 t44 t45 t46 t47 t48 t49 t50 t51 t52 t53 t54 t55 t56 t57 t58 t59 t60 t61 t62 t63 t64 t65 t66 t67 t68 t69 t70 t71 t72 t73 t74 t75 t76 t77 t78 t79 t80 t81 t82 t83 t84 t85 t86 t87 t88 t89 t90 t91 t92 t93 t94 t95 t96 t97 t98 t99 t100 t101 t102 t103 t104 t105 t106 t107 t108 t109 t110 t111 t112 t113 t114 t115 t116 t117 t118 t119 t120 t121 t122 t123 t124 t125 t126 t127 t128 t129 t130 t131 t132 t133 t134 t135 t136 t137 t138 t139 t140 t141 t142 t143 t144 : Value} {ds : List Deferred} {Q : Exit → Act → World → Prop}
    (h : ∀ (yE : Value) (w1 : World), R w1 yE → wpList Try.prog rEO Q (rEO.toList.drop 11) { tmps := #[t0, t1, t2, t3, t4, t5, t6, .pointer (some ⟨b, 0, none⟩), t8, t9, t10, t11, .pointer (some ⟨c, 0, none⟩), t13, .pointer (some ⟨g, 0, none⟩), t15, t16, t17, t18, t19, t20, t21, t22, t23, t24, t25, t26, t27, t28, t29, t30, t31, t32, t33, t34, t35, t36, t37, t38, t39, t40, t41, t42, t43, t44, t45, t46, t47, t48, t49, t50, t51, t52, t53, t54, t55, t56, t57, t58, t59, t60, t61, t62, .pointer (some ⟨b, 0, none⟩), .pointer (some ⟨g, 2, none⟩), .int .i64 av, .pointer (some ⟨g, 4, none⟩), .string s, yE, .pointer (some ⟨c, 0, none⟩), .pointer (some ⟨g, 2, none⟩), .int .i64 av, .pointer (some ⟨g, 4, none⟩), .string s, t74, t75, t76, t77, t78, t79, t80, t81, t82, t83, t84, t85, t86, t87, t88, t89, t90, t91, t92, t93, t94, t95, t96, t97, t98, t99, t100, t101, t102, t103, t104, t105, t106, t107, t108, t109, t110, t111, t112, t113, t114, t115, t116, t117, t118, t119, t120, t121, t122, t123, t124, t125, t126, t127, t128, t129, t130, t131, t132, t133, t134, t135, t136, t137, t138, t139, t140, t141, t142, t143, t144], defers := ds } w1) :
    (Code.region 16 rEO true).wp Try.prog Q { tmps := #[t0, t1, t2, t3, t4, t5, t6, .pointer (some ⟨b, 0, none⟩), t8, t9, t10, t11, .pointer (some ⟨c, 0, none⟩), t13, .pointer (some ⟨g, 0, none⟩), t15, t16, t17, t18, t19, t20, t21, t22, t23, t24, t25, t26, t27, t28, t29, t30, t31, t32, t33, t34, t35, t36, t37, t38, t39, t40, t41, t42, t43, t44, t45, t46, t47, t48, t49, t50, t51, t52, t53, t54, t55, t56, t57, t58, t59, t60, t61, t62, t63, t64, t65, t66, t67, t68, t69, t70, t71, t72, t73, t74, t75, t76, t77, t78, t79, t80, t81, t82, t83, t84, t85, t86, t87, t88, t89, t90, t91, t92, t93, t94, t95, t96, t97, t98, t99, t100, t101, t102, t103, t104, t105, t106, t107, t108, t109, t110, t111, t112, t113, t114, t115, t116, t117, t118, t119, t120, t121, t122, t123, t124, t125, t126, t127, t128, t129, t130, t131, t132, t133, t134, t135, t136, t137, t138, t139, t140, t141, t142, t143, t144], defers := ds } w := by
  have hsz : rEO.size = 14 := by kernel_rfl
  refine wp_region_any (show Try.prog.follows .mixedOrders = true from by kernel_rfl) ?_
  rw [hsz]
  refine wpAny_inv2 (I := rEI w b c g av s R t0 t1 t2 t3 t4 t5 t6 t8 t9 t10 t11 t13 t15 t16 t17 t18 t19 t20 t21 t22 t23 t24 t25 t26 t27 t28 t29 t30 t31 t32 t33 t34 t35 t36 t37 t38 t39 t40 t41 t42 t43 t44 t45 t46 t47 t48 t49 t50 t51 t52 t53 t54 t55 t56 t57 t58 t59 t60 t61 t62 t74 t75 t76 t77 t78 t79 t80 t81 t82 t83 t84 t85 t86 t87 t88 t89 t90 t91 t92 t93 t94 t95 t96 t97 t98 t99 t100 t101 t102 t103 t104 t105 t106 t107 t108 t109 t110 t111 t112 t113 t114 t115 t116 t117 t118 t119 t120 t121 t122 t123 t124 t125 t126 t127 t128 t129 t130 t131 t132 t133 t134 t135 t136 t137 t138 t139 t140 t141 t142 t143 t144 ds) (g := 3) (rE_none b c g av s R w) (rE_steps b c g av s R w  c0 rc0 c1 rc1 hE) (fun l a w' hI hl => ?_) 14 _ _ _ (by decide) (by decide) ?_
  · have hI' := hI
    obtain ⟨j0, j1, j2, j3, j4, j5, j6, j7, j8, j9, j10, x0, x1, x2, x3, x4, x5, x6, x7, x8, x9, x10, rfl, rfl, hW, h0, h1, h2, h3, h4, h5, h6, h7, h8, h9, h10, k2, k4, k5, k8, k10⟩ := hI
    obtain ⟨d0, d1, d2, d3, d4, d5, d6, d7, d8, d9, d10⟩ := left_all11_3 hl
    subst d0
    subst d1
    subst d2
    subst d3
    subst d4
    subst d5
    subst d6
    subst d7
    subst d8
    subst d9
    subst d10
    obtain rfl := h0 rfl
    obtain rfl := h1 rfl
    obtain rfl := h2 rfl
    obtain rfl := h3 rfl
    obtain rfl := h4 rfl
    obtain rfl := h6 rfl
    obtain rfl := h7 rfl
    obtain rfl := h8 rfl
    obtain rfl := h9 rfl
    obtain rfl := h10 rfl
    have hw := h _ _ (h5 rfl)
    have hB : Region.seqB .any rEO (rEO.toList.drop 11).length 11 #[true, true, true, true, true, true, true, true, true, true, true, false, false, false] = true := by kernel_rfl
    have hlen : (rEO.toList.drop 11).length = 3 := by kernel_rfl
    have := wpAny_of_seq (md := .any) (rEO.toList.drop 11) 11 _ _ _ (fun j => by simp [List.getElem?_drop]) hB hw
    rw [hlen] at this
    exact this
  · exact ⟨false, false, false, false, false, false, false, false, false, false, false, t63, t64, t65, t66, t67, t68, t69, t70, t71, t72, t73, rfl, rfl, fun _ => rfl, (fun h => by cases h), (fun h => by cases h), (fun h => by cases h), (fun h => by cases h), (fun h => by cases h), (fun h => by cases h), (fun h => by cases h), (fun h => by cases h), (fun h => by cases h), (fun h => by cases h), (fun h => by cases h), (fun h => by cases h), (fun h => by cases h), (fun h => by cases h), (fun h => by cases h), (fun h => by cases h)⟩
end Go.Proofs.Ytekagnhablkggaa
