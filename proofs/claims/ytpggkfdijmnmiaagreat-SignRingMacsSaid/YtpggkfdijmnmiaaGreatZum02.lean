/- The whole product of two numbers. No condition but that each limb is one. The whole product of two numbers: the walk. No condition but that each limb is one. What is left of a number with one limb more behind it, divided by a modulus: the walk. Condition: the number is below the modulus. Drawn regions that lay a number behind calls, each apart from the function that it stands in. No condition but  -/
import Derived.Deep.RegionLaw
import Derived.Test.YtpggkfdijmnmiaaGreatZum01
import Derived.Laws.Cover3
set_option linter.unusedVariables false
set_option linter.unusedSimpArgs false
set_option maxRecDepth 100000
namespace Go.Proofs.YtpggkfdijmnmiaaGreat
open Go.RowKit Limbs
theorem times_det {a b c d : Nat} (ha : a < 18446744073709551616) (hb : b < 18446744073709551616) (hc : c < 18446744073709551616) (hd : d < 18446744073709551616) :
    ∃ l h : Nat, l < 18446744073709551616 ∧ h < 18446744073709551616 ∧ l + 18446744073709551616 * h = a * b + c + d ∧ ∀ w, Calls Tryz.prog 161 #[.int .u64 (a : Int), .int .u64 (b : Int), .int .u64 (c : Int), .int .u64 (d : Int)] w fun e w' => e = .returned (.tuple #[.int .u64 (l : Int), .int .u64 (h : Int)]) ∧ w' = w := by
  refine ⟨(a * b + c + d) % 18446744073709551616, (a * b + c + d) / 18446744073709551616, ?_, ?_, ?_, fun w => ?_⟩
  · omega
  · have hP : a * b ≤ 18446744073709551615 * 18446744073709551615 := Nat.mul_le_mul (by omega) (by omega)
    omega
  · omega
  · refine (times_any ha hb hc hd w).mono ?_
    rintro e w' ⟨⟨l, h, hl, hh, he, rfl⟩, hw⟩
    refine ⟨?_, hw⟩
    have e1 : (a * b + c + d) % 18446744073709551616 = l := by omega
    have e2 : (a * b + c + d) / 18446744073709551616 = h := by omega
    rw [e1, e2]
theorem row_arith {a b0 b1 b2 b3 c0 c1 c2 c3 n0 n1 n2 n3 k0 k1 k2 k3 : Nat} (e0 : n0 + 18446744073709551616 * k0 = a * b0 + c0 + 0) (e1 : n1 + 18446744073709551616 * k1 = a * b1 + c1 + k0) (e2 : n2 + 18446744073709551616 * k2 = a * b2 + c2 + k1) (e3 : n3 + 18446744073709551616 * k3 = a * b3 + c3 + k2) :
    v4 n0 n1 n2 n3 + W256 * k3 = a * v4 b0 b1 b2 b3 + v4 c0 c1 c2 c3 := by
  rw [mul_v4]
  generalize a * b0 = t0 at *
  generalize a * b1 = t1 at *
  generalize a * b2 = t2 at *
  generalize a * b3 = t3 at *
  unfold v4 W256
  omega
def num8 (a b c d e f g h : Nat) : Value := .agg #[.int .u64 (a : Int), .int .u64 (b : Int), .int .u64 (c : Int), .int .u64 (d : Int), .int .u64 (e : Int), .int .u64 (f : Int), .int .u64 (g : Int), .int .u64 (h : Int)]
theorem u56 : Tryz.prog.underlying 208 = some (.array 8 22) := by kernel_rfl
theorem i56 : (Tryz.prog.info? 208).map (·.size) = some 8 := by kernel_rfl
def findR : Code → Nat → Option (Array Oper)
  | .region id ops _, n => if id = n then some ops else none
  | .seq a b, n => (findR a n).or (findR b n)
  | .cond _ a b, n => (findR a n).or (findR b n)
  | .block _ a, n => findR a n
  | .loop a, n => findR a n
  | .scope a, n => findR a n
  | _, _ => none
noncomputable def ops39 (n : Nat) : Array Oper := (Tryz.f182.body.bind fun c => findR c n).getD #[]
set_option maxHeartbeats 8000000 in
theorem r9 (ga gb gl i j : Nat) (a b c d n k : Nat) (hi : i < 4) (hj : j < 4) (w : World) (ia : w.cell? ⟨ga, i, none⟩ = some (.int .u64 (a : Int))) (ib : w.cell? ⟨gb, j, none⟩ = some (.int .u64 (b : Int))) (ic : w.cell? ⟨gl, i + j, none⟩ = some (.int .u64 (c : Int))) (hf : w.frozen? ⟨gl, i + j, none⟩ = false)
    (HQ : Hid (∀ w, Calls Tryz.prog 161 #[.int .u64 (a : Int), .int .u64 (b : Int), .int .u64 (c : Int), .int .u64 (d : Int)] w fun e w' => e = .returned (.tuple #[.int .u64 (n : Int), .int .u64 (k : Int)]) ∧ w' = w))
    {t0 t1 t4 t9 t10 t11 t12 t13 t14 t15 t16 t17 t18 t19 t20 t21 t22 t23 t24 t25 t26 t27 t28 t29 t30 t31 t32 t33 t34 t35 t36 t37 t38 t39 t40 t41 : Value} {ds : List Deferred} {Q : Exit → Act → World → Prop}
    (h : ∀ (x15 x16 x17 x18 x19 x20 x21 x22 x23 x24 x25 x26 x27 x28 x29 x30 x31 x32 x33 x34 : Value), Q .normal { tmps := #[t0, t1, .pointer (some ⟨ga, 0, none⟩), .pointer (some ⟨gb, 0, none⟩), t4, .pointer (some ⟨gl, 0, none⟩), .int .i64 (i : Int), .int .u64 (k : Int), .int .i64 (j : Int), t9, t10, t11, t12, t13, t14, x15, x16, x17, x18, x19, x20, x21, x22, x23, x24, x25, x26, x27, x28, x29, x30, x31, x32, x33, x34, t35, t36, t37, t38, t39, t40, t41], defers := ds } (w.drew.setCell ⟨gl, i + j, none⟩ (.int .u64 (n : Int)))) :
    (Code.region 9 (ops39 9) true).wp Tryz.prog Q { tmps := #[t0, t1, .pointer (some ⟨ga, 0, none⟩), .pointer (some ⟨gb, 0, none⟩), t4, .pointer (some ⟨gl, 0, none⟩), .int .i64 (i : Int), .int .u64 (d : Int), .int .i64 (j : Int), t9, t10, t11, t12, t13, t14, t15, t16, t17, t18, t19, t20, t21, t22, t23, t24, t25, t26, t27, t28, t29, t30, t31, t32, t33, t34, t35, t36, t37, t38, t39, t40, t41], defers := ds } w := by
  simp only [ops39, findR, Tryz.f182, Option.bind_some, Option.or, Option.getD, Nat.reduceEqDiff, if_true, if_false, reduceIte]
  have b1 : ((i : Int) : Int) < 4 := by omega
  have b2 : ((j : Int) : Int) < 4 := by omega
  have e1 : IntKind.i64.wrap ((i : Int) + (j : Int)) = ((i + j : Nat) : Int) := by rw [IntKind.wrap_i64]; omega
  have e2 : ((i : Int) + (j : Int)).toNat = i + j := by omega
  have b3 : (i : Int) + (j : Int) < 8 := by omega
  have b4 : (0 : Int) ≤ (i : Int) + (j : Int) := by omega
  have HH := Lib.hid h
  clear h
  refine Code.wp_mono (Q := Exit.then (fun a w => Q .normal a w) (fun _ _ _ => False)) (fun e a w h => by cases e <;> first | exact h | exact h.elim) ?_
  go_region_law (go_simp; go_at_call 161; refine (HQ.out _).mono ?_; rintro e w' ⟨rfl, rfl⟩)
  all_goals exact HH.out _ _ _ _ _ _ _ _ _ _ _ _ _ _ _ _ _ _ _ _
end Go.Proofs.YtpggkfdijmnmiaaGreat
namespace Go.Proofs.YtpggkfdijmnmiaaGreat
open Go.RowKit Limbs
theorem ret_cell8 {fn : Func} {R : Ending → World → Prop} {a : Act} {w : World} {p : Tmp} (h : fn.results = #[.cell p 208]) (g : Nat) (x0 x1 x2 x3 x4 x5 x6 x7 : Value) (hp : a.tmps.getD p undef = .pointer (some ⟨g, 0, none⟩)) (hk : Bk 208 w g #[x0, x1, x2, x3, x4, x5, x6, x7]) (hd : a.defers = []) (hR : R (.returned (.agg #[x0, x1, x2, x3, x4, x5, x6, x7])) w) : bodyPost Tryz.prog fn R .ret a w :=
  bodyPost_ret (v := .agg #[x0, x1, x2, x3, x4, x5, x6, x7]) (results_cell_row h a.tmps w g 208 #[x0, x1, x2, x3, x4, x5, x6, x7] (0, 0) _ hp hk u56 rfl i56) hd hR
set_option maxHeartbeats 32000000 in
theorem product_any {a0 a1 a2 a3 b0 b1 b2 b3 : Nat} (ha0 : a0 < 18446744073709551616) (ha1 : a1 < 18446744073709551616) (ha2 : a2 < 18446744073709551616) (ha3 : a3 < 18446744073709551616)
    (hb0 : b0 < 18446744073709551616) (hb1 : b1 < 18446744073709551616) (hb2 : b2 < 18446744073709551616) (hb3 : b3 < 18446744073709551616) (w : World) :
    Calls Tryz.prog 182 #[num a0 a1 a2 a3, num b0 b1 b2 b3] w fun e w' => (∃ l0 l1 l2 l3 l4 l5 l6 l7 : Nat, (l0 < 18446744073709551616 ∧ l1 < 18446744073709551616 ∧ l2 < 18446744073709551616 ∧ l3 < 18446744073709551616) ∧ (l4 < 18446744073709551616 ∧ l5 < 18446744073709551616 ∧ l6 < 18446744073709551616 ∧ l7 < 18446744073709551616) ∧ v4 l0 l1 l2 l3 + W256 * v4 l4 l5 l6 l7 = v4 a0 a1 a2 a3 * v4 b0 b1 b2 b3 ∧ e = .returned (num8 l0 l1 l2 l3 l4 l5 l6 l7)) ∧ Below w.heap.size w w' := by
  have z : (0 : Nat) < 18446744073709551616 := by decide
  obtain ⟨n00, k00, hn00, hk00, e00, q00⟩ := times_det (a := a0) (b := b0) (c := 0) (d := 0) ha0 hb0 z z
  obtain ⟨n01, k01, hn01, hk01, e01, q01⟩ := times_det (a := a0) (b := b1) (c := 0) (d := k00) ha0 hb1 z hk00
  obtain ⟨n02, k02, hn02, hk02, e02, q02⟩ := times_det (a := a0) (b := b2) (c := 0) (d := k01) ha0 hb2 z hk01
  obtain ⟨n03, k03, hn03, hk03, e03, q03⟩ := times_det (a := a0) (b := b3) (c := 0) (d := k02) ha0 hb3 z hk02
  obtain ⟨n10, k10, hn10, hk10, e10, q10⟩ := times_det (a := a1) (b := b0) (c := n01) (d := 0) ha1 hb0 hn01 z
  obtain ⟨n11, k11, hn11, hk11, e11, q11⟩ := times_det (a := a1) (b := b1) (c := n02) (d := k10) ha1 hb1 hn02 hk10
  obtain ⟨n12, k12, hn12, hk12, e12, q12⟩ := times_det (a := a1) (b := b2) (c := n03) (d := k11) ha1 hb2 hn03 hk11
  obtain ⟨n13, k13, hn13, hk13, e13, q13⟩ := times_det (a := a1) (b := b3) (c := k03) (d := k12) ha1 hb3 hk03 hk12
  obtain ⟨n20, k20, hn20, hk20, e20, q20⟩ := times_det (a := a2) (b := b0) (c := n11) (d := 0) ha2 hb0 hn11 z
  obtain ⟨n21, k21, hn21, hk21, e21, q21⟩ := times_det (a := a2) (b := b1) (c := n12) (d := k20) ha2 hb1 hn12 hk20
  obtain ⟨n22, k22, hn22, hk22, e22, q22⟩ := times_det (a := a2) (b := b2) (c := n13) (d := k21) ha2 hb2 hn13 hk21
  obtain ⟨n23, k23, hn23, hk23, e23, q23⟩ := times_det (a := a2) (b := b3) (c := k13) (d := k22) ha2 hb3 hk13 hk22
  obtain ⟨n30, k30, hn30, hk30, e30, q30⟩ := times_det (a := a3) (b := b0) (c := n21) (d := 0) ha3 hb0 hn21 z
  obtain ⟨n31, k31, hn31, hk31, e31, q31⟩ := times_det (a := a3) (b := b1) (c := n22) (d := k30) ha3 hb1 hn22 hk30
  obtain ⟨n32, k32, hn32, hk32, e32, q32⟩ := times_det (a := a3) (b := b2) (c := n23) (d := k31) ha3 hb2 hn23 hk31
  obtain ⟨n33, k33, hn33, hk33, e33, q33⟩ := times_det (a := a3) (b := b3) (c := k23) (d := k32) ha3 hb3 hk23 hk32
  have r0 := row_arith (a := a0) (b0 := b0) (b1 := b1) (b2 := b2) (b3 := b3) (c0 := 0) (c1 := 0) (c2 := 0) (c3 := 0) e00 e01 e02 e03
  have r1 := row_arith (a := a1) (b0 := b0) (b1 := b1) (b2 := b2) (b3 := b3) (c0 := n01) (c1 := n02) (c2 := n03) (c3 := k03) e10 e11 e12 e13
  have r2 := row_arith (a := a2) (b0 := b0) (b1 := b1) (b2 := b2) (b3 := b3) (c0 := n11) (c1 := n12) (c2 := n13) (c3 := k13) e20 e21 e22 e23
  have r3 := row_arith (a := a3) (b0 := b0) (b1 := b1) (b2 := b2) (b3 := b3) (c0 := n21) (c1 := n22) (c2 := n23) (c3 := k23) e30 e31 e32 e33
  have HF : Hid (v4 n00 n10 n20 n30 + W256 * v4 n31 n32 n33 k33 = v4 a0 a1 a2 a3 * v4 b0 b1 b2 b3) := Lib.hid (by
    have e : v4 a0 a1 a2 a3 * v4 b0 b1 b2 b3 = a0 * v4 b0 b1 b2 b3 + 18446744073709551616 * (a1 * v4 b0 b1 b2 b3 + 18446744073709551616 * (a2 * v4 b0 b1 b2 b3 + 18446744073709551616 * (a3 * v4 b0 b1 b2 b3))) := by
      generalize v4 b0 b1 b2 b3 = V
      unfold v4
      simp only [Nat.add_mul, Nat.mul_assoc]
    rw [e]
    clear e e00 e01 e02 e03 e10 e11 e12 e13 e20 e21 e22 e23 e30 e31 e32 e33
    generalize a0 * v4 b0 b1 b2 b3 = t0 at *
    generalize a1 * v4 b0 b1 b2 b3 = t1 at *
    generalize a2 * v4 b0 b1 b2 b3 = t2 at *
    generalize a3 * v4 b0 b1 b2 b3 = t3 at *
    unfold v4 W256 at *
    omega)
  have HB := Lib.hid (show (n00 < 18446744073709551616 ∧ n10 < 18446744073709551616 ∧ n20 < 18446744073709551616 ∧ n30 < 18446744073709551616) ∧ (n31 < 18446744073709551616 ∧ n32 < 18446744073709551616 ∧ n33 < 18446744073709551616 ∧ k33 < 18446744073709551616) from ⟨⟨hn00, hn10, hn20, hn30⟩, hn31, hn32, hn33, hk33⟩)
  have Q00 := Lib.hid q00
  have Q01 := Lib.hid q01
  have Q02 := Lib.hid q02
  have Q03 := Lib.hid q03
  have Q10 := Lib.hid q10
  have Q11 := Lib.hid q11
  have Q12 := Lib.hid q12
  have Q13 := Lib.hid q13
  have Q20 := Lib.hid q20
  have Q21 := Lib.hid q21
  have Q22 := Lib.hid q22
  have Q23 := Lib.hid q23
  have Q30 := Lib.hid q30
  have Q31 := Lib.hid q31
  have Q32 := Lib.hid q32
  have Q33 := Lib.hid q33
  clear z r0 r1 r2 r3 hn00 hk00 e00 q00 hn01 hk01 e01 q01 hn02 hk02 e02 q02 hn03 hk03 e03 q03 hn10 hk10 e10 q10 hn11 hk11 e11 q11 hn12 hk12 e12 q12 hn13 hk13 e13 q13 hn20 hk20 e20 q20 hn21 hk21 e21 q21 hn22 hk22 e22 q22 hn23 hk23 e23 q23 hn30 hk30 e30 q30 hn31 hk31 e31 q31 hn32 hk32 e32 q32 hn33 hk33 e33 q33 ha0 ha1 ha2 ha3 hb0 hb1 hb2 hb3
  have w0 : IntKind.i64.wrap 0 = 0 := by rw [IntKind.wrap_i64]; rfl
  have w1 : IntKind.i64.wrap 1 = 1 := by rw [IntKind.wrap_i64]; rfl
  have w2 : IntKind.i64.wrap 2 = 2 := by rw [IntKind.wrap_i64]; rfl
  have w3 : IntKind.i64.wrap 3 = 3 := by rw [IntKind.wrap_i64]; rfl
  have w4 : IntKind.i64.wrap 4 = 4 := by rw [IntKind.wrap_i64]; rfl
  have w5 : IntKind.i64.wrap 5 = 5 := by rw [IntKind.wrap_i64]; rfl
  have w6 : IntKind.i64.wrap 6 = 6 := by rw [IntKind.wrap_i64]; rfl
  have w7 : IntKind.i64.wrap 7 = 7 := by rw [IntKind.wrap_i64]; rfl
  unfold num
  go_enter Tryz.func182, Tryz.ntmps182
  go_wp2_with fail
  refine wp_loop_rounds 5 ?_
  rw [rounds_succ]
  go_wp2_with fail
  refine wp_loop_rounds 5 ?_
  rw [rounds_succ]
  go_wp2_with fail
  refine r9 w.heap.size (w.heap.size + 1) (w.heap.size + 1 + 1 + 1) 0 0 a0 b0 0 0 n00 k00 (by decide) (by decide) _ (by go_cell) (by go_cell) (by go_cell) (by simp [go_sem]) Q00 ?_
  intros
  simp only [Nat.reduceAdd, Nat.zero_add, Nat.add_zero]
  clear Q00
  go_wp2_with fail
  rw [rounds_succ]
  go_wp2_with fail
  refine r9 w.heap.size (w.heap.size + 1) (w.heap.size + 1 + 1 + 1) 0 1 a0 b1 0 k00 n01 k01 (by decide) (by decide) _ (by go_cell) (by go_cell) (by go_cell) (by simp [go_sem]) Q01 ?_
  intros
  simp only [Nat.reduceAdd, Nat.zero_add, Nat.add_zero]
  clear Q01
  go_wp2_with fail
  rw [rounds_succ]
  go_wp2_with fail
  refine r9 w.heap.size (w.heap.size + 1) (w.heap.size + 1 + 1 + 1) 0 2 a0 b2 0 k01 n02 k02 (by decide) (by decide) _ (by go_cell) (by go_cell) (by go_cell) (by simp [go_sem]) Q02 ?_
  intros
  simp only [Nat.reduceAdd, Nat.zero_add, Nat.add_zero]
  clear Q02
  go_wp2_with fail
  rw [rounds_succ]
  go_wp2_with fail
  refine r9 w.heap.size (w.heap.size + 1) (w.heap.size + 1 + 1 + 1) 0 3 a0 b3 0 k02 n03 k03 (by decide) (by decide) _ (by go_cell) (by go_cell) (by go_cell) (by simp [go_sem]) Q03 ?_
  intros
  simp only [Nat.reduceAdd, Nat.zero_add, Nat.add_zero]
  clear Q03
  go_wp2_with fail
  rw [rounds_succ]
  go_wp2_with fail
  rw [rounds_succ]
  go_wp2_with fail
  refine wp_loop_rounds 5 ?_
  rw [rounds_succ]
  go_wp2_with fail
  refine r9 w.heap.size (w.heap.size + 1) (w.heap.size + 1 + 1 + 1) 1 0 a1 b0 n01 0 n10 k10 (by decide) (by decide) _ (by go_cell) (by go_cell) (by go_cell) (by simp [go_sem]) Q10 ?_
  intros
  simp only [Nat.reduceAdd, Nat.zero_add, Nat.add_zero]
  clear Q10
  go_wp2_with fail
  rw [rounds_succ]
  go_wp2_with fail
  refine r9 w.heap.size (w.heap.size + 1) (w.heap.size + 1 + 1 + 1) 1 1 a1 b1 n02 k10 n11 k11 (by decide) (by decide) _ (by go_cell) (by go_cell) (by go_cell) (by simp [go_sem]) Q11 ?_
  intros
  simp only [Nat.reduceAdd, Nat.zero_add, Nat.add_zero]
  clear Q11
  go_wp2_with fail
  rw [rounds_succ]
  go_wp2_with fail
  refine r9 w.heap.size (w.heap.size + 1) (w.heap.size + 1 + 1 + 1) 1 2 a1 b2 n03 k11 n12 k12 (by decide) (by decide) _ (by go_cell) (by go_cell) (by go_cell) (by simp [go_sem]) Q12 ?_
  intros
  simp only [Nat.reduceAdd, Nat.zero_add, Nat.add_zero]
  clear Q12
  go_wp2_with fail
  rw [rounds_succ]
  go_wp2_with fail
  refine r9 w.heap.size (w.heap.size + 1) (w.heap.size + 1 + 1 + 1) 1 3 a1 b3 k03 k12 n13 k13 (by decide) (by decide) _ (by go_cell) (by go_cell) (by go_cell) (by simp [go_sem]) Q13 ?_
  intros
  simp only [Nat.reduceAdd, Nat.zero_add, Nat.add_zero]
  clear Q13
  go_wp2_with fail
  rw [rounds_succ]
  go_wp2_with fail
  rw [rounds_succ]
  go_wp2_with fail
  refine wp_loop_rounds 5 ?_
  rw [rounds_succ]
  go_wp2_with fail
  refine r9 w.heap.size (w.heap.size + 1) (w.heap.size + 1 + 1 + 1) 2 0 a2 b0 n11 0 n20 k20 (by decide) (by decide) _ (by go_cell) (by go_cell) (by go_cell) (by simp [go_sem]) Q20 ?_
  intros
  simp only [Nat.reduceAdd, Nat.zero_add, Nat.add_zero]
  clear Q20
  go_wp2_with fail
  rw [rounds_succ]
  go_wp2_with fail
  refine r9 w.heap.size (w.heap.size + 1) (w.heap.size + 1 + 1 + 1) 2 1 a2 b1 n12 k20 n21 k21 (by decide) (by decide) _ (by go_cell) (by go_cell) (by go_cell) (by simp [go_sem]) Q21 ?_
  intros
  simp only [Nat.reduceAdd, Nat.zero_add, Nat.add_zero]
  clear Q21
  go_wp2_with fail
  rw [rounds_succ]
  go_wp2_with fail
  refine r9 w.heap.size (w.heap.size + 1) (w.heap.size + 1 + 1 + 1) 2 2 a2 b2 n13 k21 n22 k22 (by decide) (by decide) _ (by go_cell) (by go_cell) (by go_cell) (by simp [go_sem]) Q22 ?_
  intros
  simp only [Nat.reduceAdd, Nat.zero_add, Nat.add_zero]
  clear Q22
  go_wp2_with fail
  rw [rounds_succ]
  go_wp2_with fail
  refine r9 w.heap.size (w.heap.size + 1) (w.heap.size + 1 + 1 + 1) 2 3 a2 b3 k13 k22 n23 k23 (by decide) (by decide) _ (by go_cell) (by go_cell) (by go_cell) (by simp [go_sem]) Q23 ?_
  intros
  simp only [Nat.reduceAdd, Nat.zero_add, Nat.add_zero]
  clear Q23
  go_wp2_with fail
  rw [rounds_succ]
  go_wp2_with fail
  rw [rounds_succ]
  go_wp2_with fail
  refine wp_loop_rounds 5 ?_
  rw [rounds_succ]
  go_wp2_with fail
  refine r9 w.heap.size (w.heap.size + 1) (w.heap.size + 1 + 1 + 1) 3 0 a3 b0 n21 0 n30 k30 (by decide) (by decide) _ (by go_cell) (by go_cell) (by go_cell) (by simp [go_sem]) Q30 ?_
  intros
  simp only [Nat.reduceAdd, Nat.zero_add, Nat.add_zero]
  clear Q30
  go_wp2_with fail
  rw [rounds_succ]
  go_wp2_with fail
  refine r9 w.heap.size (w.heap.size + 1) (w.heap.size + 1 + 1 + 1) 3 1 a3 b1 n22 k30 n31 k31 (by decide) (by decide) _ (by go_cell) (by go_cell) (by go_cell) (by simp [go_sem]) Q31 ?_
  intros
  simp only [Nat.reduceAdd, Nat.zero_add, Nat.add_zero]
  clear Q31
  go_wp2_with fail
  rw [rounds_succ]
  go_wp2_with fail
  refine r9 w.heap.size (w.heap.size + 1) (w.heap.size + 1 + 1 + 1) 3 2 a3 b2 n23 k31 n32 k32 (by decide) (by decide) _ (by go_cell) (by go_cell) (by go_cell) (by simp [go_sem]) Q32 ?_
  intros
  simp only [Nat.reduceAdd, Nat.zero_add, Nat.add_zero]
  clear Q32
  go_wp2_with fail
  rw [rounds_succ]
  go_wp2_with fail
  refine r9 w.heap.size (w.heap.size + 1) (w.heap.size + 1 + 1 + 1) 3 3 a3 b3 k23 k32 n33 k33 (by decide) (by decide) _ (by go_cell) (by go_cell) (by go_cell) (by simp [go_sem]) Q33 ?_
  intros
  simp only [Nat.reduceAdd, Nat.zero_add, Nat.add_zero]
  clear Q33
  go_wp2_with fail
  rw [rounds_succ]
  go_wp2_with fail
  rw [rounds_succ]
  go_wp2_with fail
  refine ret_cell8 rfl (w.heap.size + 1 + 1) _ _ _ _ _ _ _ _ rfl ?_ rfl ⟨⟨n00, n10, n20, n30, n31, n32, n33, k33, HB.out.1, HB.out.2, HF.out, rfl⟩, by go_grown⟩
  repeat (refine Bk.drew ?_)
  exact Bk.alloc (Bk.new (by simp))
theorem product_nv (a b : Nat) (ha : a < W256) (hb : b < W256) (w : World) :
    Calls Tryz.prog 182 #[nv a, nv b] w fun e w' => (∃ l0 l1 l2 l3 l4 l5 l6 l7 : Nat, (l0 < 18446744073709551616 ∧ l1 < 18446744073709551616 ∧ l2 < 18446744073709551616 ∧ l3 < 18446744073709551616) ∧ (l4 < 18446744073709551616 ∧ l5 < 18446744073709551616 ∧ l6 < 18446744073709551616 ∧ l7 < 18446744073709551616) ∧ v4 l0 l1 l2 l3 + W256 * v4 l4 l5 l6 l7 = a * b ∧ e = .returned (num8 l0 l1 l2 l3 l4 l5 l6 l7)) ∧ Below w.heap.size w w' := by
  have h := product_any (lb_lt a 0) (lb_lt a 1) (lb_lt a 2) (lb_lt a 3) (lb_lt b 0) (lb_lt b 1) (lb_lt b 2) (lb_lt b 3) w
  rw [v4_lb ha, v4_lb hb] at h
  exact h
end Go.Proofs.YtpggkfdijmnmiaaGreat
namespace Go.Proofs.YtpggkfdijmnmiaaGreat
open Go.RowKit Limbs
set_option maxHeartbeats 16000000 in
theorem behind_any (r l M : Nat) (hM : M = mP ∨ M = mN) (hr : r < M) (hl : l < 18446744073709551616) (w : World) :
    Calls Tryz.prog 130 #[nv r, .int .u64 (l : Int), nv M] w fun e w' => e = .returned (nv ((r * 18446744073709551616 + l) % M)) ∧ Below w.heap.size w w' := by
  obtain ⟨hMW, hM2, hM3, hMp⟩ := md_lt hM
  have HC := Lib.hid (quot_any r M hM hr)
  have hqb := quo_bounds (lb_lt r 0) (lb_lt r 1) (lb_lt r 2) (lb_lt r 3) (lb_lt M 0) (lb_lt M 1) (lb_lt M 2) (lb_lt M 3) hl hM3 (by rw [v4_lb hMW, v4_lb (by omega)]; exact hr)
  rw [v4_lb hMW, v4_lb (by omega)] at hqb
  have hql := quo_lt (lb_le hr hMW) (lb_lt r 2)
  have hXE : r * 18446744073709551616 + l = v4 l (lb r 0) (lb r 1) (lb r 2) + W256 * lb r 3 := by
    have := v4_lb (x := r) (by omega)
    unfold v4 at *
    unfold W256
    omega
  have hME := v4_lb hMW
  have hr0 := lb_lt r 0
  have hr1 := lb_lt r 1
  have hr2 := lb_lt r 2
  have hr3 := lb_lt r 3
  have hm0 := lb_lt M 0
  have hm1 := lb_lt M 1
  have hm2 := lb_lt M 2
  have hm3 := lb_lt M 3
  obtain ⟨X, hX⟩ : ∃ z, z = r * 18446744073709551616 + l := ⟨_, rfl⟩
  rw [← hX] at hqb hXE ⊢
  simp only [nv, num] at HC ⊢
  generalize quo (lb r 3) (lb r 2) (lb M 3) = q at *
  obtain ⟨Y, hY⟩ : ∃ z, z = X % M := ⟨_, rfl⟩
  rw [← hY]
  obtain ⟨r0, er0⟩ : ∃ z, z = lb r 0 := ⟨_, rfl⟩
  obtain ⟨r1, er1⟩ : ∃ z, z = lb r 1 := ⟨_, rfl⟩
  obtain ⟨r2, er2⟩ : ∃ z, z = lb r 2 := ⟨_, rfl⟩
  obtain ⟨r3, er3⟩ : ∃ z, z = lb r 3 := ⟨_, rfl⟩
  obtain ⟨m0, em0⟩ : ∃ z, z = lb M 0 := ⟨_, rfl⟩
  obtain ⟨m1, em1⟩ : ∃ z, z = lb M 1 := ⟨_, rfl⟩
  obtain ⟨m2, em2⟩ : ∃ z, z = lb M 2 := ⟨_, rfl⟩
  obtain ⟨m3, em3⟩ : ∃ z, z = lb M 3 := ⟨_, rfl⟩
  rw [← er0, ← er1, ← er2, ← er3] at HC hXE ⊢
  rw [← em0, ← em1, ← em2, ← em3] at HC hME ⊢
  rw [← er0] at hr0
  rw [← er1] at hr1
  rw [← er2] at hr2
  rw [← er3] at hr3
  rw [← em0] at hm0
  rw [← em1] at hm1
  rw [← em2] at hm2
  rw [← em3] at hm3 hM3
  have HA := Lib.hid (And.intro hqb.1 (And.intro hqb.2 (And.intro hM2 (And.intro hMW (And.intro hMp (And.intro hXE (And.intro hME hY)))))))
  have HL := Lib.hid (And.intro hql (And.intro hl (And.intro hr0 (And.intro hr1 (And.intro hr2 (And.intro hr3 (And.intro hm0 (And.intro hm1 (And.intro hm2 hm3)))))))))
  clear hqb hM2 hMW hMp hXE hME hY hX hql hl hr0 hr1 hr2 hr3 hm0 hm1 hm2 hm3 hM3 hr hM er0 er1 er2 er3 em0 em1 em2 em3
  go_enter Tryz.func130, Tryz.ntmps130
  go_wp2_with fail
  refine (keep w.heap.size w (HC.out _) (by go_grown) (Nat.le_refl _)).mono ?_
  rintro e w2 ⟨rfl, hb, hk⟩
  have K0 : Hid (Bk 24 w2 w.heap.size #[.int .u64 (r0 : Int), .int .u64 (r1 : Int), .int .u64 (r2 : Int), .int .u64 (r3 : Int)]) := Lib.hid (Bk.below (Bk.alloc (Bk.alloc (Bk.new rfl))) hk)
  have K1 : Hid (Bk 24 w2 (w.heap.size + 1) #[.int .u64 (m0 : Int), .int .u64 (m1 : Int), .int .u64 (m2 : Int), .int .u64 (m3 : Int)]) := Lib.hid (Bk.below (Bk.alloc (Bk.new (by simp))) hk)
  have K2 : Hid (Bk 24 w2 (w.heap.size + 1 + 1) cs0) := Lib.hid (Bk.below (Bk.new (by simp)) hk)
  have HB := Lib.hid hb
  clear hk hb HC
  obtain ⟨i0, i1, i2, i3⟩ := K0.out.cells
  obtain ⟨x0, x1, x2, x3⟩ := K0.out.cellsA
  obtain ⟨j0, j1, j2, j3⟩ := K1.out.cellsA
  go_wp2_with fail
  refine wp_loop_rounds 5 ?_
  rw [rounds_succ]
  go_wp2_with fail
  refine (times_any (a := q) (b := m0) (c := 0) (d := 0) HL.out.1 HL.out.2.2.2.2.2.2.1 (by decide) (by decide) _).mono ?_
  rintro e wz ⟨⟨n0, k0, hn0, hk0, en0, rfl⟩, rfl⟩
  obtain ⟨d0, b0, hd0, hb0, ed0, kd0⟩ := sub64 l n0 0 (by decide) HL.out.2.1 hn0
  rw [show ((0 : Nat) : Int) = 0 from rfl] at kd0
  have HK0 := Lib.hid (And.intro hn0 (And.intro hk0 (And.intro hd0 (And.intro hb0 (And.intro en0 ed0)))))
  clear hn0 hk0 hd0 hb0 en0 ed0
  go_wp2_with fail
  clear kd0
  rw [rounds_succ]
  go_wp2_with fail
  refine (times_any (a := q) (b := m1) (c := k0) (d := 0) HL.out.1 HL.out.2.2.2.2.2.2.2.1 HK0.out.2.1 (by decide) _).mono ?_
  rintro e wz ⟨⟨n1, k1, hn1, hk1, en1, rfl⟩, rfl⟩
  obtain ⟨d1, b1, hd1, hb1, ed1, kd1⟩ := sub64 r0 n1 b0 HK0.out.2.2.2.1 HL.out.2.2.1 hn1
  have HK1 := Lib.hid (And.intro hn1 (And.intro hk1 (And.intro hd1 (And.intro hb1 (And.intro en1 ed1)))))
  clear hn1 hk1 hd1 hb1 en1 ed1
  go_wp2_with fail
  clear kd1
  rw [rounds_succ]
  go_wp2_with fail
  refine (times_any (a := q) (b := m2) (c := k1) (d := 0) HL.out.1 HL.out.2.2.2.2.2.2.2.2.1 HK1.out.2.1 (by decide) _).mono ?_
  rintro e wz ⟨⟨n2, k2, hn2, hk2, en2, rfl⟩, rfl⟩
  obtain ⟨d2, b2, hd2, hb2, ed2, kd2⟩ := sub64 r1 n2 b1 HK1.out.2.2.2.1 HL.out.2.2.2.1 hn2
  have HK2 := Lib.hid (And.intro hn2 (And.intro hk2 (And.intro hd2 (And.intro hb2 (And.intro en2 ed2)))))
  clear hn2 hk2 hd2 hb2 en2 ed2
  go_wp2_with fail
  clear kd2
  rw [rounds_succ]
  go_wp2_with fail
  refine (times_any (a := q) (b := m3) (c := k2) (d := 0) HL.out.1 HL.out.2.2.2.2.2.2.2.2.2 HK2.out.2.1 (by decide) _).mono ?_
  rintro e wz ⟨⟨n3, k3, hn3, hk3, en3, rfl⟩, rfl⟩
  obtain ⟨d3, b3, hd3, hb3, ed3, kd3⟩ := sub64 r2 n3 b2 HK2.out.2.2.2.1 HL.out.2.2.2.2.1 hn3
  have HK3 := Lib.hid (And.intro hn3 (And.intro hk3 (And.intro hd3 (And.intro hb3 (And.intro en3 ed3)))))
  clear hn3 hk3 hd3 hb3 en3 ed3
  go_wp2_with fail
  clear kd3
  obtain ⟨hi, hhi, hz, ehi⟩ : ∃ hi : Nat, hi < 18446744073709551616 ∧ (∃ z : Nat, hi + k3 + b3 = r3 + 18446744073709551616 * z) ∧ IntKind.u64.wrap ((r3 : Int) - IntKind.u64.wrap ((k3 : Int) + (b3 : Int))) = (hi : Int) := by
    have h1 := HK3.out.2.1
    have h2 := HK3.out.2.2.2.1
    have h3 := HL.out.2.2.2.2.2.1
    refine ⟨(r3 + 36893488147419103232 - (k3 + b3)) % 18446744073709551616, by omega, ⟨(k3 + b3 + (r3 + 36893488147419103232 - (k3 + b3)) % 18446744073709551616 - r3) / 18446744073709551616, by omega⟩, by rw [IntKind.wrap_u64, IntKind.wrap_u64]; omega⟩
  have HE := Lib.hid (show (q = X / M ∧ hi = 0 ∧ v4 d0 d1 d2 d3 = Y) ∨ (q = X / M + 1 ∧ v4 d0 d1 d2 d3 + M = W256 + Y ∧ hi = 18446744073709551615) ∨ (q = X / M + 2 ∧ v4 d0 d1 d2 d3 + W256 * hi + 2 * M = W256 * 18446744073709551616 + Y) from by
    obtain ⟨g1, g2, g3, g4, g5, g6, g7, g8⟩ := HA.out
    obtain ⟨f1, f2, f3, f4, f5, f6, f7, f8, f9, f10⟩ := HL.out
    obtain ⟨hn0, hk0, hd0, hb0, en0, ed0⟩ := HK0.out
    obtain ⟨hn1, hk1, hd1, hb1, en1, ed1⟩ := HK1.out
    obtain ⟨hn2, hk2, hd2, hb2, en2, ed2⟩ := HK2.out
    obtain ⟨hn3, hk3, hd3, hb3, en3, ed3⟩ := HK3.out
    rw [g8]
    refine behind_arith (N := v4 n0 n1 n2 n3) (low := v4 l r0 r1 r2) (k3 := k3) (b3 := b3) (r3 := r3) (by omega) g1 g2 g3 g4 ?_ (v4_lt hd0 hd1 hd2 hd3) hb3 ?_ g6 f6 hk3 hhi hz
    · rw [← g7, mul_v4]
      generalize q * m0 = t0 at *
      generalize q * m1 = t1 at *
      generalize q * m2 = t2 at *
      generalize q * m3 = t3 at *
      unfold v4 W256
      omega
    · unfold v4 W256
      omega)
  have HD := Lib.hid (And.intro HK0.out.2.2.1 (And.intro HK1.out.2.2.1 (And.intro HK2.out.2.2.1 HK3.out.2.2.1)))
  have HHI := Lib.hid hhi
  clear hz hhi HK0 HK1 HK2 HK3
  rw [rounds_succ]
  go_wp2_with fail
  clear x0 x1 x2 x3 i0 i1 i2 i3 j0 j1 j2 j3
  obtain ⟨f0, f1, f2, f3⟩ := K2.out.frosA
  obtain ⟨c0, c1, c2, c3⟩ := K2.out.cellsA
  rcases HE.out with ⟨_, h0, hY⟩ | ⟨_, hY, h1⟩ | ⟨_, hY⟩
  · subst h0
    have HY := Lib.hid hY
    clear hY
    refine wp_loop_rounds 1 ?_
    rw [rounds_succ]
    go_wp2_with fail
    refine ret_cell rfl (w.heap.size + 1 + 1) Y rfl (by rw [← HY.out, cs4_v4 HD.out.1 HD.out.2.1 HD.out.2.2.1 HD.out.2.2.2]; exact Bk.put K2.out.alloc) rfl ⟨rfl, ?_⟩
    have hb := HB.out
    have hs := hb.size
    go_grown
  · subst h1
    have hYM : Y < M := by
      have h1 := HA.out.2.2.2.2.2.2.2
      have h2 := HA.out.2.2.2.2.1
      rw [h1]; exact Nat.mod_lt _ (by omega)
    have HY := Lib.hid (And.intro hY hYM)
    clear hY hYM
    refine wp_loop_rounds 2 ?_
    rw [rounds_succ]
    obtain ⟨j0, j1, j2, j3⟩ := K1.out.cellsA
    have HD1 := HD
    go_wp2_with fail
    refine (keep w.heap.size w (plus_any HD1.out.1 HD1.out.2.1 HD1.out.2.2.1 HD1.out.2.2.2 HL.out.2.2.2.2.2.2.1 HL.out.2.2.2.2.2.2.2.1 HL.out.2.2.2.2.2.2.2.2.1 HL.out.2.2.2.2.2.2.2.2.2 _) (by have hb := HB.out; have hs := hb.size; go_grown) (Nat.le_refl _)).mono ?_
    rintro e w3 ⟨⟨s0, s1, s2, s3, c, z0, z1, z2, z3, zc, ze, rfl⟩, hb, hk⟩
    have HD2 := Lib.hid (And.intro z0 (And.intro z1 (And.intro z2 z3)))
    obtain ⟨hc1, hs1⟩ : c = 1 ∧ v4 s0 s1 s2 s3 = Y := by
      rw [HA.out.2.2.2.2.2.2.1] at ze
      have h1 := HY.out.1
      have h2 := HY.out.2
      have h3 := HA.out.2.2.2.1
      have h4 := v4_lt z0 z1 z2 z3
      generalize v4 s0 s1 s2 s3 = S at *
      generalize v4 d0 d1 d2 d3 = DD at *
      unfold W256 at *
      omega
    subst hc1
    have HS := Lib.hid hs1
    have KK2 : Hid (Bk 24 w3 (w.heap.size + 1 + 1) cs0) := Lib.hid (Bk.below (Bk.alloc K2.out) hk)
    have KKL : Hid (Bk 24 w3 w2.heap.size #[.int .u64 (d0 : Int), .int .u64 (d1 : Int), .int .u64 (d2 : Int), .int .u64 (d3 : Int)]) := Lib.hid (Bk.below (Bk.new rfl) hk)
    have hne1 : ¬ (w.heap.size + 1 + 1 = w2.heap.size) := by have := K2.out.lt; omega
    have hne2 : ¬ (w2.heap.size = w.heap.size + 1 + 1) := by have := K2.out.lt; omega
    have HB3 := Lib.hid hb
    clear z0 z1 z2 z3 zc ze hs1 hk hb f0 f1 f2 f3 c0 c1 c2 c3 j0 j1 j2 j3
    obtain ⟨f0, f1, f2, f3⟩ := KK2.out.fros
    obtain ⟨c0, c1, c2, c3⟩ := KK2.out.cells
    obtain ⟨y0, y1, y2, y3⟩ := KKL.out.fros
    obtain ⟨x0, x1, x2, x3⟩ := KKL.out.cells
    simp only [num]
    go_wp2_with fail
    rw [rounds_succ]
    go_wp2_with fail
    refine ret_cell rfl (w.heap.size + 1 + 1) Y rfl (by rw [← HS.out, cs4_v4 HD2.out.1 HD2.out.2.1 HD2.out.2.2.1 HD2.out.2.2.2]; exact Bk.put (Bk.puto hne1 KK2.out)) rfl ⟨rfl, ?_⟩
    have hb := HB3.out
    have hs := HB.out.size
    go_grown
  · have hYM : Y < M := by
      have h1 := HA.out.2.2.2.2.2.2.2
      have h2 := HA.out.2.2.2.2.1
      rw [h1]; exact Nat.mod_lt _ (by omega)
    have HY := Lib.hid (And.intro hY hYM)
    have hi1 : ((hi : Int) != 0) = true := by
      have h3 := HA.out.2.2.2.1
      have h4 := v4_lt HD.out.1 HD.out.2.1 HD.out.2.2.1 HD.out.2.2.2
      generalize v4 d0 d1 d2 d3 = DD at *
      unfold W256 at *
      simp
      omega
    clear hY hYM
    refine wp_loop_rounds 3 ?_
    rw [rounds_succ]
    obtain ⟨j0, j1, j2, j3⟩ := K1.out.cellsA
    have HD1 := HD
    go_wp2_with fail
    refine (keep w.heap.size w (plus_any HD1.out.1 HD1.out.2.1 HD1.out.2.2.1 HD1.out.2.2.2 HL.out.2.2.2.2.2.2.1 HL.out.2.2.2.2.2.2.2.1 HL.out.2.2.2.2.2.2.2.2.1 HL.out.2.2.2.2.2.2.2.2.2 _) (by have hb := HB.out; have hs := hb.size; have hs2 := HB.out.size; go_grown) (Nat.le_refl _)).mono ?_
    rintro e w3 ⟨⟨s0, s1, s2, s3, c, z0, z1, z2, z3, zc, ze, rfl⟩, hb, hk⟩
    have HD2 := Lib.hid (And.intro z0 (And.intro z1 (And.intro z2 z3)))
    obtain ⟨hc1, hs1⟩ : IntKind.u64.wrap ((hi : Int) + (c : Int)) = 18446744073709551615 ∧ v4 s0 s1 s2 s3 + M = W256 + Y := by
      rw [HA.out.2.2.2.2.2.2.1] at ze
      have h1 := HY.out.1
      have h2 := HY.out.2
      have h3 := HA.out.2.2.2.1
      have h4 := v4_lt z0 z1 z2 z3
      have h5 := HHI.out
      generalize v4 s0 s1 s2 s3 = S at *
      generalize v4 d0 d1 d2 d3 = DD at *
      rw [IntKind.wrap_u64]
      unfold W256 at *
      omega
    have HS := Lib.hid hs1
    have KM : Hid (Bk 24 w3 (w.heap.size + 1) #[.int .u64 (m0 : Int), .int .u64 (m1 : Int), .int .u64 (m2 : Int), .int .u64 (m3 : Int)]) := Lib.hid (Bk.below (Bk.alloc K1.out) hk)
    have KK2 : Hid (Bk 24 w3 (w.heap.size + 1 + 1) cs0) := Lib.hid (Bk.below (Bk.alloc K2.out) hk)
    have KKL : Hid (Bk 24 w3 w2.heap.size #[.int .u64 (d0 : Int), .int .u64 (d1 : Int), .int .u64 (d2 : Int), .int .u64 (d3 : Int)]) := Lib.hid (Bk.below (Bk.new rfl) hk)
    have hne1 : ¬ (w.heap.size + 1 + 1 = w2.heap.size) := by have := K2.out.lt; omega
    have hne2 : ¬ (w2.heap.size = w.heap.size + 1 + 1) := by have := K2.out.lt; omega
    have hne3 : ¬ (w.heap.size + 1 = w2.heap.size) := by have := K2.out.lt; omega
    have hne4 : ¬ (w2.heap.size = w.heap.size + 1) := by have := K2.out.lt; omega
    have HB3 := Lib.hid hb
    clear z0 z1 z2 z3 zc ze hs1 hk hb f0 f1 f2 f3 c0 c1 c2 c3 j0 j1 j2 j3
    obtain ⟨j0, j1, j2, j3⟩ := KM.out.cells
    obtain ⟨y0, y1, y2, y3⟩ := KKL.out.fros
    obtain ⟨x0, x1, x2, x3⟩ := KKL.out.cells
    simp only [num]
    go_wp2_with fail
    rw [rounds_succ]
    go_wp2_with fail
    refine (keep w.heap.size w (plus_any HD2.out.1 HD2.out.2.1 HD2.out.2.2.1 HD2.out.2.2.2 HL.out.2.2.2.2.2.2.1 HL.out.2.2.2.2.2.2.2.1 HL.out.2.2.2.2.2.2.2.2.1 HL.out.2.2.2.2.2.2.2.2.2 _) (by have hb := HB3.out; have hs := hb.size; have hs2 := HB.out.size; go_grown) (Nat.le_refl _)).mono ?_
    rintro e w4 ⟨⟨u0, u1, u2, u3, cc, z0, z1, z2, z3, zc, ze, rfl⟩, hb, hk⟩
    have HD3 := Lib.hid (And.intro z0 (And.intro z1 (And.intro z2 z3)))
    obtain ⟨hcc1, hu1⟩ : cc = 1 ∧ v4 u0 u1 u2 u3 = Y := by
      rw [HA.out.2.2.2.2.2.2.1] at ze
      have h1 := HS.out
      have h2 := HY.out.2
      have h3 := HA.out.2.2.2.1
      have h4 := v4_lt z0 z1 z2 z3
      generalize v4 u0 u1 u2 u3 = U at *
      generalize v4 s0 s1 s2 s3 = S at *
      unfold W256 at *
      omega
    subst hcc1
    have HU := Lib.hid hu1
    have LK2 : Hid (Bk 24 w4 (w.heap.size + 1 + 1) cs0) := Lib.hid (Bk.below (Bk.puto hne1 KK2.out) hk)
    have LKL : Hid (Bk 24 w4 w2.heap.size #[.int .u64 (s0 : Int), .int .u64 (s1 : Int), .int .u64 (s2 : Int), .int .u64 (s3 : Int)]) := Lib.hid (Bk.below (Bk.put KKL.out) hk)
    have HB4 := Lib.hid hb
    clear z0 z1 z2 z3 zc ze hu1 hk hb j0 j1 j2 j3 y0 y1 y2 y3 x0 x1 x2 x3 hc1
    obtain ⟨f0, f1, f2, f3⟩ := LK2.out.fros
    obtain ⟨c0, c1, c2, c3⟩ := LK2.out.cells
    obtain ⟨y0, y1, y2, y3⟩ := LKL.out.fros
    obtain ⟨x0, x1, x2, x3⟩ := LKL.out.cells
    simp only [num]
    go_wp2_with fail
    rw [rounds_succ]
    go_wp2_with fail
    refine ret_cell rfl (w.heap.size + 1 + 1) Y rfl (by rw [← HU.out, cs4_v4 HD3.out.1 HD3.out.2.1 HD3.out.2.2.1 HD3.out.2.2.2]; exact Bk.put (Bk.puto hne1 LK2.out)) rfl ⟨rfl, ?_⟩
    have hb := HB4.out
    have hs := HB.out.size
    go_grown
end Go.Proofs.YtpggkfdijmnmiaaGreat
namespace Go.Proofs.YtpggkfdijmnmiaaGreat
open Go.RowKit Limbs
noncomputable def ops19 (n : Nat) : Array Oper := (Tryz.f156.body.bind fun c => findR c n).getD #[]
noncomputable def ops15 (n : Nat) : Array Oper := (Tryz.f141.body.bind fun c => findR c n).getD #[]
noncomputable def ops17 (n : Nat) : Array Oper := (Tryz.f73.body.bind fun c => findR c n).getD #[]
theorem cell_alloc_old {w : World} {o : Obj} {g i : Nat} (h : g < w.heap.size) : (w.alloc o).cell? ⟨g, i, none⟩ = w.cell? ⟨g, i, none⟩ :=
  ((Below.refl w.heap.size w).alloc (Nat.le_refl _) o).cell (p := ⟨g, i, none⟩) h
theorem Bk.all4 {w : World} {g : Nat} {x0 x1 x2 x3 : Value} (h : Bk 24 w g #[x0, x1, x2, x3]) : ((∀ w', Below w.heap.size w w' → w'.cell? ⟨g, 0, none⟩ = some x0) ∧ (∀ w', Below w.heap.size w w' → w'.cell? ⟨g, 1, none⟩ = some x1) ∧ (∀ w', Below w.heap.size w w' → w'.cell? ⟨g, 2, none⟩ = some x2) ∧ (∀ w', Below w.heap.size w w' → w'.cell? ⟨g, 3, none⟩ = some x3)) ∧ (∀ w' o, Below w.heap.size w w' → (w'.alloc o).cell? ⟨g, 0, none⟩ = some x0) ∧ (∀ w' o, Below w.heap.size w w' → (w'.alloc o).cell? ⟨g, 1, none⟩ = some x1) ∧ (∀ w' o, Below w.heap.size w w' → (w'.alloc o).cell? ⟨g, 2, none⟩ = some x2) ∧ (∀ w' o, Below w.heap.size w w' → (w'.alloc o).cell? ⟨g, 3, none⟩ = some x3) :=
  ⟨⟨fun _ hB => (h.below hB).cell 0, fun _ hB => (h.below hB).cell 1, fun _ hB => (h.below hB).cell 2, fun _ hB => (h.below hB).cell 3⟩, fun _ _ hB => (h.below hB).alloc.cell 0, fun _ _ hB => (h.below hB).alloc.cell 1, fun _ _ hB => (h.below hB).alloc.cell 2, fun _ _ hB => (h.below hB).alloc.cell 3⟩
theorem kp {W w' : World} (hb : Below W.heap.size W w') : (∀ g i, g < W.heap.size → w'.cell? ⟨g, i, none⟩ = W.cell? ⟨g, i, none⟩) ∧ (∀ g i, g < W.heap.size → w'.frozen? ⟨g, i, none⟩ = W.frozen? ⟨g, i, none⟩) :=
  ⟨fun g i h => hb.cell (p := ⟨g, i, none⟩) h, fun g i h => hb.frozen (p := ⟨g, i, none⟩) h⟩
set_option maxHeartbeats 16000000 in
theorem m3 (gl gM M l4 l5 l6 l7 r : Nat) (w : World) (hgl : gl < w.heap.size) (k4 : w.cell? ⟨gl, 4, none⟩ = some (.int .u64 (l4 : Int))) (k5 : w.cell? ⟨gl, 5, none⟩ = some (.int .u64 (l5 : Int))) (k6 : w.cell? ⟨gl, 6, none⟩ = some (.int .u64 (l6 : Int))) (k7 : w.cell? ⟨gl, 7, none⟩ = some (.int .u64 (l7 : Int))) (KM : Bk 24 w gM (cs4 M)) (HQ : Hid (∀ w, Calls Tryz.prog 132 #[.agg #[.int .u64 (l4 : Int), .int .u64 (l5 : Int), .int .u64 (l6 : Int), .int .u64 (l7 : Int)], nv M] w fun e w' => e = .returned (nv r) ∧ Below w.heap.size w w'))
    {t0 t1 t2 t3 t4 t5 t6 t9 t10 t11 t12 t13 t14 t15 t16 t17 t18 t19 t20 t21 t22 t23 t24 t25 t26 t27 t28 t29 t30 t31 t32 : Value} {ds : List Deferred} {K : Act → World → Prop} {Q : Exit → Act → World → Prop}
    (h : ∀ (x16 x17 x18 x19 x20 : Value) (g : Nat) (w' : World) (hb : Below w.heap.size w w') (hg : w.heap.size ≤ g) (hk : Bk 24 w' g (cs4 r)), K { tmps := #[t0, t1, t2, t3, t4, t5, t6, .pointer (some ⟨gM, 0, none⟩), .pointer (some ⟨gl, 0, none⟩), .pointer (some ⟨g, 0, none⟩), t10, t11, t12, t13, t14, t15, x16, x17, x18, x19, x20, t21, t22, t23, t24, t25, t26, t27, t28, t29, t30, t31, t32], defers := ds } w') :
    (Code.region 3 (ops19 3) true).wp Tryz.prog (Exit.then K Q) { tmps := #[t0, t1, t2, t3, t4, t5, t6, .pointer (some ⟨gM, 0, none⟩), .pointer (some ⟨gl, 0, none⟩), t9, t10, t11, t12, t13, t14, t15, t16, t17, t18, t19, t20, t21, t22, t23, t24, t25, t26, t27, t28, t29, t30, t31, t32], defers := ds } w := by
  simp only [ops19, findR, Tryz.f156, Option.bind_some, Option.or, Option.getD, Nat.reduceEqDiff, if_true, if_false, reduceIte]
  have HH := Lib.hid h
  clear h
  refine Code.wp_mono (Q := Exit.then K (fun _ _ _ => False)) (fun e a w h => by cases e <;> first | exact h | exact h.elim) ?_
  have hat : ∀ w, (Instr.arrayAt 24 (.slice (some ⟨gl, 4, none⟩) 4 4)).run Tryz.prog w = .ok (.pointer (some ⟨gl, 4, none⟩)) w := fun w => run_arrayAt w 24 22 4 _ 4 4 u24 (by decide)
  obtain ⟨m0, m1, m2, m3⟩ := KM.cells
  obtain ⟨n0, n1, n2, n3⟩ := KM.cellsA
  have z4 : ∀ o, (w.alloc o).cell? ⟨gl, 4, none⟩ = some (.int .u64 (l4 : Int)) := fun o => by rw [← k4]; exact cell_alloc_old hgl
  have z5 : ∀ o, (w.alloc o).cell? ⟨gl, 5, none⟩ = some (.int .u64 (l5 : Int)) := fun o => by rw [← k5]; exact cell_alloc_old hgl
  have z6 : ∀ o, (w.alloc o).cell? ⟨gl, 6, none⟩ = some (.int .u64 (l6 : Int)) := fun o => by rw [← k6]; exact cell_alloc_old hgl
  have z7 : ∀ o, (w.alloc o).cell? ⟨gl, 7, none⟩ = some (.int .u64 (l7 : Int)) := fun o => by rw [← k7]; exact cell_alloc_old hgl
  simp only [nv, num] at HQ
  go_region_law (go_simp; go_at_call 132; refine (keep w.heap.size w (HQ.out _) (by go_grown) (Nat.le_refl _)).mono ?_; rintro e w' ⟨rfl, hB, hb⟩; obtain ⟨hc, hf⟩ := kp hb)
  all_goals have hs := hB.size
  all_goals first
    | exact HH.out _ _ _ _ _ _ _ (by go_grown) hs (Bk.new rfl)
    | exact HH.out _ _ _ _ _ _ _ (by go_grown) (Nat.le_refl _) (Bk.put (Bk.below (Bk.drew (Bk.new rfl)) hb))
end Go.Proofs.YtpggkfdijmnmiaaGreat
namespace Go.Proofs.YtpggkfdijmnmiaaGreat
open Go.RowKit Go.Sort Limbs
theorem Bk.regrown {t : TypeId} {w : World} {g : Nat} {cs : Array Value} (h : Bk t w g cs) (d : Nat) (os : Array Obj) : Bk t (grow (redrawn w d) os) g cs := h.below (below_regrown w d os)
theorem mod_step (x c l M : Nat) : (x % M * c + l) % M = (x * c + l) % M := by
  rw [Nat.add_mod, Nat.mul_mod, Nat.mod_mod, ← Nat.mul_mod, ← Nat.add_mod]
theorem mul_any (m : Int) (a b : Nat) (ha : a < W256) (hb : b < W256) (w : World) :
    Calls Tryz.prog 156 #[.int .i64 m, nv a, nv b] w fun e w' => e = .returned (nv (a * b % md m)) ∧ Below w.heap.size w w' := by
  have hM := md_or m
  obtain ⟨hMW, hM2, hM3, hMp⟩ := md_lt hM
  have HM := Lib.hid (mod_any m)
  have HP := Lib.hid (product_nv a b ha hb)
  generalize md m = M at *
  have HA := Lib.hid (And.intro hM (And.intro hMW (And.intro hM2 hMp)))
  obtain ⟨ab, hab⟩ : ∃ z, z = a * b := ⟨_, rfl⟩
  rw [← hab] at HP ⊢
  obtain ⟨res, hres⟩ : ∃ z, z = ab % M := ⟨_, rfl⟩
  rw [← hres]
  have HRES := Lib.hid hres
  clear hres hab hM hMW hM2 hM3 hMp ha hb
  simp only [nv, num] at HP ⊢
  have HPa := HP
  go_enter Tryz.func156, Tryz.ntmps156
  go_wp2_with fail
  refine (keep w.heap.size w (HM.out _) (by go_grown) (Nat.le_refl _)).mono ?_
  rintro e w1 ⟨rfl, hb, hk⟩
  have KA : Hid (Bk 24 w1 w.heap.size (cs4 a)) := Lib.hid (Bk.below (Bk.alloc (Bk.alloc (Bk.new rfl))) hk)
  have KB : Hid (Bk 24 w1 (w.heap.size + 1) (cs4 b)) := Lib.hid (Bk.below (Bk.alloc (Bk.new (by simp))) hk)
  have KR : Hid (Bk 24 w1 (w.heap.size + 1 + 1) cs0) := Lib.hid (Bk.below (Bk.new (by simp)) hk)
  have HB := Lib.hid hb
  clear hk hb HM
  obtain ⟨i0, i1, i2, i3⟩ := KA.out.cellsA
  obtain ⟨j0, j1, j2, j3⟩ := KB.out.cellsA
  simp only [nv, num]
  go_wp2_with fail
  refine (keep w.heap.size w (HP.out _) (by have hb := HB.out; have hs := hb.size; go_grown) (Nat.le_refl _)).mono ?_
  rintro e w2 ⟨⟨l0, l1, l2, l3, l4, l5, l6, l7, hl, hh, he, rfl⟩, hb, hk⟩
  have K2R : Hid (Bk 24 w2 (w.heap.size + 1 + 1) cs0) := Lib.hid (Bk.below (Bk.alloc KR.out) hk)
  have K2M : Hid (Bk 24 w2 w1.heap.size (cs4 M)) := Lib.hid (Bk.below (Bk.new rfl) hk)
  have HL := Lib.hid hl
  have HH := Lib.hid hh
  have HE := Lib.hid he
  have HB2 := Lib.hid hb
  clear hk hb hl hh he i0 i1 i2 i3 j0 j1 j2 j3 KA KB KR HP
  unfold num8
  go_wp2_with fail
  have KL := Lib.hid (Bk.new (t := 208) (w := w2) (cs := #[.int .u64 (l0 : Int), .int .u64 (l1 : Int), .int .u64 (l2 : Int), .int .u64 (l3 : Int), .int .u64 (l4 : Int), .int .u64 (l5 : Int), .int .u64 (l6 : Int), .int .u64 (l7 : Int)]) rfl)
  have K3R := Lib.hid (Bk.alloc (o := .cells #[.int .u64 (l0 : Int), .int .u64 (l1 : Int), .int .u64 (l2 : Int), .int .u64 (l3 : Int), .int .u64 (l4 : Int), .int .u64 (l5 : Int), .int .u64 (l6 : Int), .int .u64 (l7 : Int)] 208) K2R.out)
  have K3M := Lib.hid (Bk.alloc (o := .cells #[.int .u64 (l0 : Int), .int .u64 (l1 : Int), .int .u64 (l2 : Int), .int .u64 (l3 : Int), .int .u64 (l4 : Int), .int .u64 (l5 : Int), .int .u64 (l6 : Int), .int .u64 (l7 : Int)] 208) K2M.out)
  have HB3 : Hid (Below w.heap.size w (w2.alloc (.cells #[.int .u64 (l0 : Int), .int .u64 (l1 : Int), .int .u64 (l2 : Int), .int .u64 (l3 : Int), .int .u64 (l4 : Int), .int .u64 (l5 : Int), .int .u64 (l6 : Int), .int .u64 (l7 : Int)] 208))) := Lib.hid (by have hb := HB2.out; have hs := hb.size; go_grown)
  clear K2R K2M HB2 HB
  generalize (w2.alloc (.cells #[.int .u64 (l0 : Int), .int .u64 (l1 : Int), .int .u64 (l2 : Int), .int .u64 (l3 : Int), .int .u64 (l4 : Int), .int .u64 (l5 : Int), .int .u64 (l6 : Int), .int .u64 (l7 : Int)] 208)) = W at KL K3R K3M HB3 ⊢
  generalize w2.heap.size = gl at KL ⊢
  generalize w1.heap.size = gM at K3M ⊢
  have hgl := KL.out.lt
  obtain ⟨R0, hR0⟩ : ∃ z, z = v4 l4 l5 l6 l7 % M := ⟨_, rfl⟩
  have HLE := Lib.hid (show ∀ w, Calls Tryz.prog 132 #[.agg #[.int .u64 (l4 : Int), .int .u64 (l5 : Int), .int .u64 (l6 : Int), .int .u64 (l7 : Int)], nv M] w fun e w' => e = .returned (nv R0) ∧ Below w.heap.size w w' from fun w => by
    have h8 := v4_lt HH.out.1 HH.out.2.1 HH.out.2.2.1 HH.out.2.2.2
    have := left_any (v4 l4 l5 l6 l7) M h8 HA.out.2.1 (by have := HA.out.2.2.1; omega) w
    rw [← nv_v4 HH.out.1 HH.out.2.1 HH.out.2.2.1 HH.out.2.2.2, ← hR0] at this
    exact this)
  have HR0 := Lib.hid hR0
  clear hR0
  refine m3 gl gM M l4 l5 l6 l7 R0 W hgl (KL.out.cell 4) (KL.out.cell 5) (KL.out.cell 6) (KL.out.cell 7) K3M.out HLE ?_
  intro _ _ _ _ _ g9 wq hb hg hk
  have K4L := Lib.hid (KL.out.below hb)
  have K4R := Lib.hid (K3R.out.below hb)
  have K4M := Lib.hid (K3M.out.below hb)
  have K49 := Lib.hid hk
  have HNE : Hid (gl ≠ g9 ∧ w.heap.size + 1 + 1 ≠ g9 ∧ gM ≠ g9 ∧ w.heap.size ≤ g9) := Lib.hid ⟨by omega, by have := K3R.out.lt; omega, by have := K3M.out.lt; omega, by have := HB3.out.size; omega⟩
  have HB4 := Lib.hid (HB3.out.trans (hb.mono HB3.out.size))
  clear KL K3R K3M HB3 hgl HLE hb hg hk
  generalize hgR : w.heap.size + 1 + 1 = gR at *
  go_wp2_with fail
  refine wp_loop_rounds 5 ?_
  rw [rounds_succ]
  go_wp2_with fail
  obtain ⟨R1, hR1⟩ : ∃ z, z = (R0 * 18446744073709551616 + l3) % M := ⟨_, rfl⟩
  have HC0 := Lib.hid (show ∀ w, Calls Tryz.prog 130 #[.agg (cs4 R0), .int .u64 (l3 : Int), .agg (cs4 M)] w fun e w' => e = .returned (nv R1) ∧ Below w.heap.size w w' from fun w => by
    have hp : 0 < M := by have := HA.out.2.2.2; omega
    have := behind_any R0 l3 M HA.out.1 (by rw [HR0.out]; exact Nat.mod_lt _ hp) HL.out.2.2.2 w
    rw [← hR1] at this
    exact this)
  have HR1 := Lib.hid hR1
  clear hR1
  have q3 : ∀ d os, (grow (redrawn wq d) os).cell? ⟨gl, 3, none⟩ = some (.int .u64 (l3 : Int)) := fun d os => (K4L.out.regrown d os).cell 3
  refine wp_region_below_tail 7 mixed (by kernel_rfl) ?_
  simp only [List.take_succ_cons, List.take_zero, List.drop_succ_cons, List.drop_zero]
  refine wpQuiet_load_row rfl 24 (.tmp 9) rfl g9 rfl 24 (cs4 R0) (0, 0) _ (fun w' hw' => heap_regrown K49.out hw') u24 rfl i24 ?_
  quiet_step (fail)
  iterate 3 go_big_quiet_step (fail)
  refine wpQuiet_load_row rfl 24 (.tmp 7) rfl gM rfl 24 (cs4 M) (0, 0) _ (fun w' hw' => heap_regrown K4M.out hw') u24 rfl i24 ?_
  quiet_step (exact qg HC0.out)
  refine wpQuiet_nil ?_
  intro _ hw'
  obtain ⟨⟨dq, osq⟩, hw''⟩ := hw'
  subst hw''
  have L4L := Lib.hid (K4L.out.regrown dq osq)
  have L4R := Lib.hid (K4R.out.regrown dq osq)
  have L4M := Lib.hid (K4M.out.regrown dq osq)
  have L49 := Lib.hid (K49.out.regrown dq osq)
  have HB5 := Lib.hid (HB4.out.trans ((below_regrown wq dq osq).mono HB4.out.size))
  clear K4L K4R K4M K49 HB4 q3 HC0
  generalize grow (redrawn wq dq) osq = v0 at L4L L4R L4M L49 HB5 ⊢
  obtain ⟨f0, f1, f2, f3⟩ := L49.out.fros
  obtain ⟨c0, c1, c2, c3⟩ := L49.out.cells
  simp only [nv, num, cs4] at c0 c1 c2 c3 ⊢
  go_wp2_with fail
  clear f0 f1 f2 f3 c0 c1 c2 c3
  have K4L : Hid (Bk 208 ((((v0.setCell ⟨g9, 0, none⟩ (.int .u64 (lb R1 0 : Nat))).setCell ⟨g9, 1, none⟩ (.int .u64 (lb R1 1 : Nat))).setCell ⟨g9, 2, none⟩ (.int .u64 (lb R1 2 : Nat))).setCell ⟨g9, 3, none⟩ (.int .u64 (lb R1 3 : Nat))) gl #[.int .u64 (l0 : Int), .int .u64 (l1 : Int), .int .u64 (l2 : Int), .int .u64 (l3 : Int), .int .u64 (l4 : Int), .int .u64 (l5 : Int), .int .u64 (l6 : Int), .int .u64 (l7 : Int)]) := Lib.hid (Bk.puto HNE.out.1 L4L.out)
  have K4R : Hid (Bk 24 ((((v0.setCell ⟨g9, 0, none⟩ (.int .u64 (lb R1 0 : Nat))).setCell ⟨g9, 1, none⟩ (.int .u64 (lb R1 1 : Nat))).setCell ⟨g9, 2, none⟩ (.int .u64 (lb R1 2 : Nat))).setCell ⟨g9, 3, none⟩ (.int .u64 (lb R1 3 : Nat))) gR cs0) := Lib.hid (Bk.puto HNE.out.2.1 L4R.out)
  have K4M : Hid (Bk 24 ((((v0.setCell ⟨g9, 0, none⟩ (.int .u64 (lb R1 0 : Nat))).setCell ⟨g9, 1, none⟩ (.int .u64 (lb R1 1 : Nat))).setCell ⟨g9, 2, none⟩ (.int .u64 (lb R1 2 : Nat))).setCell ⟨g9, 3, none⟩ (.int .u64 (lb R1 3 : Nat))) gM (cs4 M)) := Lib.hid (Bk.puto HNE.out.2.2.1 L4M.out)
  have K49 : Hid (Bk 24 ((((v0.setCell ⟨g9, 0, none⟩ (.int .u64 (lb R1 0 : Nat))).setCell ⟨g9, 1, none⟩ (.int .u64 (lb R1 1 : Nat))).setCell ⟨g9, 2, none⟩ (.int .u64 (lb R1 2 : Nat))).setCell ⟨g9, 3, none⟩ (.int .u64 (lb R1 3 : Nat))) g9 (cs4 R1)) := Lib.hid (Bk.put L49.out)
  have HB4 : Hid (Below w.heap.size w ((((v0.setCell ⟨g9, 0, none⟩ (.int .u64 (lb R1 0 : Nat))).setCell ⟨g9, 1, none⟩ (.int .u64 (lb R1 1 : Nat))).setCell ⟨g9, 2, none⟩ (.int .u64 (lb R1 2 : Nat))).setCell ⟨g9, 3, none⟩ (.int .u64 (lb R1 3 : Nat)))) := Lib.hid (by have hb := HB5.out; have h9 := HNE.out.2.2.2; go_grown)
  clear L4L L4R L4M L49 HB5
  generalize ((((v0.setCell ⟨g9, 0, none⟩ (.int .u64 (lb R1 0 : Nat))).setCell ⟨g9, 1, none⟩ (.int .u64 (lb R1 1 : Nat))).setCell ⟨g9, 2, none⟩ (.int .u64 (lb R1 2 : Nat))).setCell ⟨g9, 3, none⟩ (.int .u64 (lb R1 3 : Nat))) = wq1 at K4L K4R K4M K49 HB4 ⊢
  rw [rounds_succ]
  go_wp2_with fail
  obtain ⟨R2, hR2⟩ : ∃ z, z = (R1 * 18446744073709551616 + l2) % M := ⟨_, rfl⟩
  have HC1 := Lib.hid (show ∀ w, Calls Tryz.prog 130 #[.agg (cs4 R1), .int .u64 (l2 : Int), .agg (cs4 M)] w fun e w' => e = .returned (nv R2) ∧ Below w.heap.size w w' from fun w => by
    have hp : 0 < M := by have := HA.out.2.2.2; omega
    have := behind_any R1 l2 M HA.out.1 (by rw [HR1.out]; exact Nat.mod_lt _ hp) HL.out.2.2.1 w
    rw [← hR2] at this
    exact this)
  have HR2 := Lib.hid hR2
  clear hR2
  have q2 : ∀ d os, (grow (redrawn wq1 d) os).cell? ⟨gl, 2, none⟩ = some (.int .u64 (l2 : Int)) := fun d os => (K4L.out.regrown d os).cell 2
  refine wp_region_below_tail 7 mixed (by kernel_rfl) ?_
  simp only [List.take_succ_cons, List.take_zero, List.drop_succ_cons, List.drop_zero]
  refine wpQuiet_load_row rfl 24 (.tmp 9) rfl g9 rfl 24 (cs4 R1) (0, 0) _ (fun w' hw' => heap_regrown K49.out hw') u24 rfl i24 ?_
  quiet_step (fail)
  iterate 3 go_big_quiet_step (fail)
  refine wpQuiet_load_row rfl 24 (.tmp 7) rfl gM rfl 24 (cs4 M) (0, 0) _ (fun w' hw' => heap_regrown K4M.out hw') u24 rfl i24 ?_
  quiet_step (exact qg HC1.out)
  refine wpQuiet_nil ?_
  intro _ hw'
  obtain ⟨⟨dq, osq⟩, hw''⟩ := hw'
  subst hw''
  have L4L := Lib.hid (K4L.out.regrown dq osq)
  have L4R := Lib.hid (K4R.out.regrown dq osq)
  have L4M := Lib.hid (K4M.out.regrown dq osq)
  have L49 := Lib.hid (K49.out.regrown dq osq)
  have HB5 := Lib.hid (HB4.out.trans ((below_regrown wq1 dq osq).mono HB4.out.size))
  clear K4L K4R K4M K49 HB4 q2 HC1
  generalize grow (redrawn wq1 dq) osq = v1 at L4L L4R L4M L49 HB5 ⊢
  obtain ⟨f0, f1, f2, f3⟩ := L49.out.fros
  obtain ⟨c0, c1, c2, c3⟩ := L49.out.cells
  simp only [nv, num, cs4] at c0 c1 c2 c3 ⊢
  go_wp2_with fail
  clear f0 f1 f2 f3 c0 c1 c2 c3
  have K4L : Hid (Bk 208 ((((v1.setCell ⟨g9, 0, none⟩ (.int .u64 (lb R2 0 : Nat))).setCell ⟨g9, 1, none⟩ (.int .u64 (lb R2 1 : Nat))).setCell ⟨g9, 2, none⟩ (.int .u64 (lb R2 2 : Nat))).setCell ⟨g9, 3, none⟩ (.int .u64 (lb R2 3 : Nat))) gl #[.int .u64 (l0 : Int), .int .u64 (l1 : Int), .int .u64 (l2 : Int), .int .u64 (l3 : Int), .int .u64 (l4 : Int), .int .u64 (l5 : Int), .int .u64 (l6 : Int), .int .u64 (l7 : Int)]) := Lib.hid (Bk.puto HNE.out.1 L4L.out)
  have K4R : Hid (Bk 24 ((((v1.setCell ⟨g9, 0, none⟩ (.int .u64 (lb R2 0 : Nat))).setCell ⟨g9, 1, none⟩ (.int .u64 (lb R2 1 : Nat))).setCell ⟨g9, 2, none⟩ (.int .u64 (lb R2 2 : Nat))).setCell ⟨g9, 3, none⟩ (.int .u64 (lb R2 3 : Nat))) gR cs0) := Lib.hid (Bk.puto HNE.out.2.1 L4R.out)
  have K4M : Hid (Bk 24 ((((v1.setCell ⟨g9, 0, none⟩ (.int .u64 (lb R2 0 : Nat))).setCell ⟨g9, 1, none⟩ (.int .u64 (lb R2 1 : Nat))).setCell ⟨g9, 2, none⟩ (.int .u64 (lb R2 2 : Nat))).setCell ⟨g9, 3, none⟩ (.int .u64 (lb R2 3 : Nat))) gM (cs4 M)) := Lib.hid (Bk.puto HNE.out.2.2.1 L4M.out)
  have K49 : Hid (Bk 24 ((((v1.setCell ⟨g9, 0, none⟩ (.int .u64 (lb R2 0 : Nat))).setCell ⟨g9, 1, none⟩ (.int .u64 (lb R2 1 : Nat))).setCell ⟨g9, 2, none⟩ (.int .u64 (lb R2 2 : Nat))).setCell ⟨g9, 3, none⟩ (.int .u64 (lb R2 3 : Nat))) g9 (cs4 R2)) := Lib.hid (Bk.put L49.out)
  have HB4 : Hid (Below w.heap.size w ((((v1.setCell ⟨g9, 0, none⟩ (.int .u64 (lb R2 0 : Nat))).setCell ⟨g9, 1, none⟩ (.int .u64 (lb R2 1 : Nat))).setCell ⟨g9, 2, none⟩ (.int .u64 (lb R2 2 : Nat))).setCell ⟨g9, 3, none⟩ (.int .u64 (lb R2 3 : Nat)))) := Lib.hid (by have hb := HB5.out; have h9 := HNE.out.2.2.2; go_grown)
  clear L4L L4R L4M L49 HB5
  generalize ((((v1.setCell ⟨g9, 0, none⟩ (.int .u64 (lb R2 0 : Nat))).setCell ⟨g9, 1, none⟩ (.int .u64 (lb R2 1 : Nat))).setCell ⟨g9, 2, none⟩ (.int .u64 (lb R2 2 : Nat))).setCell ⟨g9, 3, none⟩ (.int .u64 (lb R2 3 : Nat))) = wq2 at K4L K4R K4M K49 HB4 ⊢
  rw [rounds_succ]
  go_wp2_with fail
  obtain ⟨R3, hR3⟩ : ∃ z, z = (R2 * 18446744073709551616 + l1) % M := ⟨_, rfl⟩
  have HC2 := Lib.hid (show ∀ w, Calls Tryz.prog 130 #[.agg (cs4 R2), .int .u64 (l1 : Int), .agg (cs4 M)] w fun e w' => e = .returned (nv R3) ∧ Below w.heap.size w w' from fun w => by
    have hp : 0 < M := by have := HA.out.2.2.2; omega
    have := behind_any R2 l1 M HA.out.1 (by rw [HR2.out]; exact Nat.mod_lt _ hp) HL.out.2.1 w
    rw [← hR3] at this
    exact this)
  have HR3 := Lib.hid hR3
  clear hR3
  have q1 : ∀ d os, (grow (redrawn wq2 d) os).cell? ⟨gl, 1, none⟩ = some (.int .u64 (l1 : Int)) := fun d os => (K4L.out.regrown d os).cell 1
  refine wp_region_below_tail 7 mixed (by kernel_rfl) ?_
  simp only [List.take_succ_cons, List.take_zero, List.drop_succ_cons, List.drop_zero]
  refine wpQuiet_load_row rfl 24 (.tmp 9) rfl g9 rfl 24 (cs4 R2) (0, 0) _ (fun w' hw' => heap_regrown K49.out hw') u24 rfl i24 ?_
  quiet_step (fail)
  iterate 3 go_big_quiet_step (fail)
  refine wpQuiet_load_row rfl 24 (.tmp 7) rfl gM rfl 24 (cs4 M) (0, 0) _ (fun w' hw' => heap_regrown K4M.out hw') u24 rfl i24 ?_
  quiet_step (exact qg HC2.out)
  refine wpQuiet_nil ?_
  intro _ hw'
  obtain ⟨⟨dq, osq⟩, hw''⟩ := hw'
  subst hw''
  have L4L := Lib.hid (K4L.out.regrown dq osq)
  have L4R := Lib.hid (K4R.out.regrown dq osq)
  have L4M := Lib.hid (K4M.out.regrown dq osq)
  have L49 := Lib.hid (K49.out.regrown dq osq)
  have HB5 := Lib.hid (HB4.out.trans ((below_regrown wq2 dq osq).mono HB4.out.size))
  clear K4L K4R K4M K49 HB4 q1 HC2
  generalize grow (redrawn wq2 dq) osq = v2 at L4L L4R L4M L49 HB5 ⊢
  obtain ⟨f0, f1, f2, f3⟩ := L49.out.fros
  obtain ⟨c0, c1, c2, c3⟩ := L49.out.cells
  simp only [nv, num, cs4] at c0 c1 c2 c3 ⊢
  go_wp2_with fail
  clear f0 f1 f2 f3 c0 c1 c2 c3
  have K4L : Hid (Bk 208 ((((v2.setCell ⟨g9, 0, none⟩ (.int .u64 (lb R3 0 : Nat))).setCell ⟨g9, 1, none⟩ (.int .u64 (lb R3 1 : Nat))).setCell ⟨g9, 2, none⟩ (.int .u64 (lb R3 2 : Nat))).setCell ⟨g9, 3, none⟩ (.int .u64 (lb R3 3 : Nat))) gl #[.int .u64 (l0 : Int), .int .u64 (l1 : Int), .int .u64 (l2 : Int), .int .u64 (l3 : Int), .int .u64 (l4 : Int), .int .u64 (l5 : Int), .int .u64 (l6 : Int), .int .u64 (l7 : Int)]) := Lib.hid (Bk.puto HNE.out.1 L4L.out)
  have K4R : Hid (Bk 24 ((((v2.setCell ⟨g9, 0, none⟩ (.int .u64 (lb R3 0 : Nat))).setCell ⟨g9, 1, none⟩ (.int .u64 (lb R3 1 : Nat))).setCell ⟨g9, 2, none⟩ (.int .u64 (lb R3 2 : Nat))).setCell ⟨g9, 3, none⟩ (.int .u64 (lb R3 3 : Nat))) gR cs0) := Lib.hid (Bk.puto HNE.out.2.1 L4R.out)
  have K4M : Hid (Bk 24 ((((v2.setCell ⟨g9, 0, none⟩ (.int .u64 (lb R3 0 : Nat))).setCell ⟨g9, 1, none⟩ (.int .u64 (lb R3 1 : Nat))).setCell ⟨g9, 2, none⟩ (.int .u64 (lb R3 2 : Nat))).setCell ⟨g9, 3, none⟩ (.int .u64 (lb R3 3 : Nat))) gM (cs4 M)) := Lib.hid (Bk.puto HNE.out.2.2.1 L4M.out)
  have K49 : Hid (Bk 24 ((((v2.setCell ⟨g9, 0, none⟩ (.int .u64 (lb R3 0 : Nat))).setCell ⟨g9, 1, none⟩ (.int .u64 (lb R3 1 : Nat))).setCell ⟨g9, 2, none⟩ (.int .u64 (lb R3 2 : Nat))).setCell ⟨g9, 3, none⟩ (.int .u64 (lb R3 3 : Nat))) g9 (cs4 R3)) := Lib.hid (Bk.put L49.out)
  have HB4 : Hid (Below w.heap.size w ((((v2.setCell ⟨g9, 0, none⟩ (.int .u64 (lb R3 0 : Nat))).setCell ⟨g9, 1, none⟩ (.int .u64 (lb R3 1 : Nat))).setCell ⟨g9, 2, none⟩ (.int .u64 (lb R3 2 : Nat))).setCell ⟨g9, 3, none⟩ (.int .u64 (lb R3 3 : Nat)))) := Lib.hid (by have hb := HB5.out; have h9 := HNE.out.2.2.2; go_grown)
  clear L4L L4R L4M L49 HB5
  generalize ((((v2.setCell ⟨g9, 0, none⟩ (.int .u64 (lb R3 0 : Nat))).setCell ⟨g9, 1, none⟩ (.int .u64 (lb R3 1 : Nat))).setCell ⟨g9, 2, none⟩ (.int .u64 (lb R3 2 : Nat))).setCell ⟨g9, 3, none⟩ (.int .u64 (lb R3 3 : Nat))) = wq3 at K4L K4R K4M K49 HB4 ⊢
  rw [rounds_succ]
  go_wp2_with fail
  obtain ⟨R4, hR4⟩ : ∃ z, z = (R3 * 18446744073709551616 + l0) % M := ⟨_, rfl⟩
  have HC3 := Lib.hid (show ∀ w, Calls Tryz.prog 130 #[.agg (cs4 R3), .int .u64 (l0 : Int), .agg (cs4 M)] w fun e w' => e = .returned (nv R4) ∧ Below w.heap.size w w' from fun w => by
    have hp : 0 < M := by have := HA.out.2.2.2; omega
    have := behind_any R3 l0 M HA.out.1 (by rw [HR3.out]; exact Nat.mod_lt _ hp) HL.out.1 w
    rw [← hR4] at this
    exact this)
  have HR4 := Lib.hid hR4
  clear hR4
  have q0 : ∀ d os, (grow (redrawn wq3 d) os).cell? ⟨gl, 0, none⟩ = some (.int .u64 (l0 : Int)) := fun d os => (K4L.out.regrown d os).cell 0
  refine wp_region_below_tail 7 mixed (by kernel_rfl) ?_
  simp only [List.take_succ_cons, List.take_zero, List.drop_succ_cons, List.drop_zero]
  refine wpQuiet_load_row rfl 24 (.tmp 9) rfl g9 rfl 24 (cs4 R3) (0, 0) _ (fun w' hw' => heap_regrown K49.out hw') u24 rfl i24 ?_
  quiet_step (fail)
  iterate 3 go_big_quiet_step (fail)
  refine wpQuiet_load_row rfl 24 (.tmp 7) rfl gM rfl 24 (cs4 M) (0, 0) _ (fun w' hw' => heap_regrown K4M.out hw') u24 rfl i24 ?_
  quiet_step (exact qg HC3.out)
  refine wpQuiet_nil ?_
  intro _ hw'
  obtain ⟨⟨dq, osq⟩, hw''⟩ := hw'
  subst hw''
  have L4L := Lib.hid (K4L.out.regrown dq osq)
  have L4R := Lib.hid (K4R.out.regrown dq osq)
  have L4M := Lib.hid (K4M.out.regrown dq osq)
  have L49 := Lib.hid (K49.out.regrown dq osq)
  have HB5 := Lib.hid (HB4.out.trans ((below_regrown wq3 dq osq).mono HB4.out.size))
  clear K4L K4R K4M K49 HB4 q0 HC3
  generalize grow (redrawn wq3 dq) osq = v3 at L4L L4R L4M L49 HB5 ⊢
  obtain ⟨f0, f1, f2, f3⟩ := L49.out.fros
  obtain ⟨c0, c1, c2, c3⟩ := L49.out.cells
  simp only [nv, num, cs4] at c0 c1 c2 c3 ⊢
  go_wp2_with fail
  clear f0 f1 f2 f3 c0 c1 c2 c3
  have K4L : Hid (Bk 208 ((((v3.setCell ⟨g9, 0, none⟩ (.int .u64 (lb R4 0 : Nat))).setCell ⟨g9, 1, none⟩ (.int .u64 (lb R4 1 : Nat))).setCell ⟨g9, 2, none⟩ (.int .u64 (lb R4 2 : Nat))).setCell ⟨g9, 3, none⟩ (.int .u64 (lb R4 3 : Nat))) gl #[.int .u64 (l0 : Int), .int .u64 (l1 : Int), .int .u64 (l2 : Int), .int .u64 (l3 : Int), .int .u64 (l4 : Int), .int .u64 (l5 : Int), .int .u64 (l6 : Int), .int .u64 (l7 : Int)]) := Lib.hid (Bk.puto HNE.out.1 L4L.out)
  have K4R : Hid (Bk 24 ((((v3.setCell ⟨g9, 0, none⟩ (.int .u64 (lb R4 0 : Nat))).setCell ⟨g9, 1, none⟩ (.int .u64 (lb R4 1 : Nat))).setCell ⟨g9, 2, none⟩ (.int .u64 (lb R4 2 : Nat))).setCell ⟨g9, 3, none⟩ (.int .u64 (lb R4 3 : Nat))) gR cs0) := Lib.hid (Bk.puto HNE.out.2.1 L4R.out)
  have K4M : Hid (Bk 24 ((((v3.setCell ⟨g9, 0, none⟩ (.int .u64 (lb R4 0 : Nat))).setCell ⟨g9, 1, none⟩ (.int .u64 (lb R4 1 : Nat))).setCell ⟨g9, 2, none⟩ (.int .u64 (lb R4 2 : Nat))).setCell ⟨g9, 3, none⟩ (.int .u64 (lb R4 3 : Nat))) gM (cs4 M)) := Lib.hid (Bk.puto HNE.out.2.2.1 L4M.out)
  have K49 : Hid (Bk 24 ((((v3.setCell ⟨g9, 0, none⟩ (.int .u64 (lb R4 0 : Nat))).setCell ⟨g9, 1, none⟩ (.int .u64 (lb R4 1 : Nat))).setCell ⟨g9, 2, none⟩ (.int .u64 (lb R4 2 : Nat))).setCell ⟨g9, 3, none⟩ (.int .u64 (lb R4 3 : Nat))) g9 (cs4 R4)) := Lib.hid (Bk.put L49.out)
  have HB4 : Hid (Below w.heap.size w ((((v3.setCell ⟨g9, 0, none⟩ (.int .u64 (lb R4 0 : Nat))).setCell ⟨g9, 1, none⟩ (.int .u64 (lb R4 1 : Nat))).setCell ⟨g9, 2, none⟩ (.int .u64 (lb R4 2 : Nat))).setCell ⟨g9, 3, none⟩ (.int .u64 (lb R4 3 : Nat)))) := Lib.hid (by have hb := HB5.out; have h9 := HNE.out.2.2.2; go_grown)
  clear L4L L4R L4M L49 HB5
  generalize ((((v3.setCell ⟨g9, 0, none⟩ (.int .u64 (lb R4 0 : Nat))).setCell ⟨g9, 1, none⟩ (.int .u64 (lb R4 1 : Nat))).setCell ⟨g9, 2, none⟩ (.int .u64 (lb R4 2 : Nat))).setCell ⟨g9, 3, none⟩ (.int .u64 (lb R4 3 : Nat))) = wq4 at K4L K4R K4M K49 HB4 ⊢
  rw [rounds_succ]
  have hgn : ¬ (g9 = gR) := fun h => HNE.out.2.1 h.symm
  have hgn2 : ¬ (gR = g9) := HNE.out.2.1
  obtain ⟨f0, f1, f2, f3⟩ := K4R.out.fros
  obtain ⟨c0, c1, c2, c3⟩ := K49.out.cells
  obtain ⟨e0, e1, e2, e3⟩ := K4R.out.cells
  go_wp2_with fail
  have hres : R4 = res := by
    have k1 := HR1.out
    rw [HR0.out, mod_step] at k1
    have k2 := HR2.out
    rw [k1, mod_step] at k2
    have k3 := HR3.out
    rw [k2, mod_step] at k3
    have k4 := HR4.out
    rw [k3, mod_step] at k4
    rw [HRES.out, ← HE.out, k4]
    congr 1
    unfold v4 W256
    omega
  subst hres
  refine ret_cell rfl gR R4 rfl (Bk.put K4R.out) rfl ⟨rfl, ?_⟩
  have hb := HB4.out
  have hg : w.heap.size ≤ gR := by omega
  go_grown
end Go.Proofs.YtpggkfdijmnmiaaGreat
