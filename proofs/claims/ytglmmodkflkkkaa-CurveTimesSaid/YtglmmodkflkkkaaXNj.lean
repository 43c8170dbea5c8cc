import Derived.Test.YtglmmodkflkkkaaXShelf
import Derived.Test.YtglmmodkflkkkaaXNh
import Derived.Deep.RegionLaw
import Derived.Laws.Cover3
set_option linter.unusedVariables false
set_option linter.unusedSimpArgs false
set_option maxRecDepth 100000
namespace Go.Proofs.Ytglmmodkflkkkaa
open Go.RowKit Limbs
theorem times_det {a b c d : Nat} (ha : a < 18446744073709551616) (hb : b < 18446744073709551616) (hc : c < 18446744073709551616) (hd : d < 18446744073709551616) :
    ∃ l h : Nat, l < 18446744073709551616 ∧ h < 18446744073709551616 ∧ l + 18446744073709551616 * h = a * b + c + d ∧ ∀ w, Calls Try.prog 89 #[.int .u64 (a : Int), .int .u64 (b : Int), .int .u64 (c : Int), .int .u64 (d : Int)] w fun e w' => e = .returned (.tuple #[.int .u64 (l : Int), .int .u64 (h : Int)]) ∧ w' = w := by
  refine ⟨(a * b + c + d) % 18446744073709551616, (a * b + c + d) / 18446744073709551616, ?_, ?_, ?_, fun w => ?_⟩
  · omega
  · have hP : a * b ≤ 18446744073709551615 * 18446744073709551615 := Nat.mul_le_mul (by omega) (by omega)
    omega
  · omega
  · refine (times_any ha hb hc hd w).mono ?_
    rintro e w' ⟨⟨l, h, hl, hh, he, rfl⟩, hw⟩
    refine ⟨?_, hw⟩
    have e1 : (a * b + c + d) % 18446744073709551616 = l := by omega
    have e2 : (a * b + c + d) / 18446744073709551616 = h := by omega
    rw [e1, e2]
theorem row_arith {a b0 b1 b2 b3 c0 c1 c2 c3 n0 n1 n2 n3 k0 k1 k2 k3 : Nat} (e0 : n0 + 18446744073709551616 * k0 = a * b0 + c0 + 0) (e1 : n1 + 18446744073709551616 * k1 = a * b1 + c1 + k0) (e2 : n2 + 18446744073709551616 * k2 = a * b2 + c2 + k1) (e3 : n3 + 18446744073709551616 * k3 = a * b3 + c3 + k2) :
    v4 n0 n1 n2 n3 + W256 * k3 = a * v4 b0 b1 b2 b3 + v4 c0 c1 c2 c3 := by
  rw [mul_v4]
  generalize a * b0 = t0 at *
  generalize a * b1 = t1 at *
  generalize a * b2 = t2 at *
  generalize a * b3 = t3 at *
  unfold v4 W256
  omega
def num8 (a b c d e f g h : Nat) : Value := .agg #[.int .u64 (a : Int), .int .u64 (b : Int), .int .u64 (c : Int), .int .u64 (d : Int), .int .u64 (e : Int), .int .u64 (f : Int), .int .u64 (g : Int), .int .u64 (h : Int)]
theorem u56 : Try.prog.underlying 80 = some (.array 8 22) := by kernel_rfl
theorem i56 : (Try.prog.info? 80).map (·.size) = some 8 := by kernel_rfl
def findR : Code → Nat → Option (Array Oper)
  | .region id ops _, n => if id = n then some ops else none
  | .seq a b, n => (findR a n).or (findR b n)
  | .cond _ a b, n => (findR a n).or (findR b n)
  | .block _ a, n => findR a n
  | .loop a, n => findR a n
  | .scope a, n => findR a n
  | _, _ => none
noncomputable def ops39 (n : Nat) : Array Oper := (Try.f59.body.bind fun c => findR c n).getD #[]
set_option maxHeartbeats 8000000 in
theorem r9 (ga gb gl i j : Nat) (a b c d n k : Nat) (hi : i < 4) (hj : j < 4) (w : World) (ia : w.cell? ⟨ga, i, none⟩ = some (.int .u64 (a : Int))) (ib : w.cell? ⟨gb, j, none⟩ = some (.int .u64 (b : Int))) (ic : w.cell? ⟨gl, i + j, none⟩ = some (.int .u64 (c : Int))) (hf : w.frozen? ⟨gl, i + j, none⟩ = false)
    (HQ : Hid (∀ w, Calls Try.prog 89 #[.int .u64 (a : Int), .int .u64 (b : Int), .int .u64 (c : Int), .int .u64 (d : Int)] w fun e w' => e = .returned (.tuple #[.int .u64 (n : Int), .int .u64 (k : Int)]) ∧ w' = w))
    {t0 t1 t4 t9 t10 t11 t12 t13 t14 t15 t16 t17 t18 t19 t20 t21 t22 t23 t24 t25 t26 t27 t28 t29 t30 t31 t32 t33 t34 t35 t36 t37 t38 t39 t40 t41 : Value} {ds : List Deferred} {Q : Exit → Act → World → Prop}
    (h : ∀ (x15 x16 x17 x18 x19 x20 x21 x22 x23 x24 x25 x26 x27 x28 x29 x30 x31 x32 x33 x34 : Value), Q .normal { tmps := #[t0, t1, .pointer (some ⟨ga, 0, none⟩), .pointer (some ⟨gb, 0, none⟩), t4, .pointer (some ⟨gl, 0, none⟩), .int .i64 (i : Int), .int .u64 (k : Int), .int .i64 (j : Int), t9, t10, t11, t12, t13, t14, x15, x16, x17, x18, x19, x20, x21, x22, x23, x24, x25, x26, x27, x28, x29, x30, x31, x32, x33, x34, t35, t36, t37, t38, t39, t40, t41], defers := ds } (w.drew.setCell ⟨gl, i + j, none⟩ (.int .u64 (n : Int)))) :
    (Code.region 9 (ops39 9) true).wp Try.prog Q { tmps := #[t0, t1, .pointer (some ⟨ga, 0, none⟩), .pointer (some ⟨gb, 0, none⟩), t4, .pointer (some ⟨gl, 0, none⟩), .int .i64 (i : Int), .int .u64 (d : Int), .int .i64 (j : Int), t9, t10, t11, t12, t13, t14, t15, t16, t17, t18, t19, t20, t21, t22, t23, t24, t25, t26, t27, t28, t29, t30, t31, t32, t33, t34, t35, t36, t37, t38, t39, t40, t41], defers := ds } w := by
  simp only [ops39, findR, Try.f59, Option.bind_some, Option.or, Option.getD, Nat.reduceEqDiff, if_true, if_false, reduceIte]
  have b1 : ((i : Int) : Int) < 4 := by omega
  have b2 : ((j : Int) : Int) < 4 := by omega
  have e1 : IntKind.i64.wrap ((i : Int) + (j : Int)) = ((i + j : Nat) : Int) := by rw [IntKind.wrap_i64]; omega
  have e2 : ((i : Int) + (j : Int)).toNat = i + j := by omega
  have b3 : (i : Int) + (j : Int) < 8 := by omega
  have b4 : (0 : Int) ≤ (i : Int) + (j : Int) := by omega
  have HH := Lib.hid h
  clear h
  refine Code.wp_mono (Q := Exit.then (fun a w => Q .normal a w) (fun _ _ _ => False)) (fun e a w h => by cases e <;> first | exact h | exact h.elim) ?_
  go_region_law (go_simp; go_at_call 89; refine (HQ.out _).mono ?_; rintro e w' ⟨rfl, rfl⟩)
  all_goals exact HH.out _ _ _ _ _ _ _ _ _ _ _ _ _ _ _ _ _ _ _ _
end Go.Proofs.Ytglmmodkflkkkaa
set_option linter.unusedVariables false
set_option linter.unusedSimpArgs false
set_option maxRecDepth 100000
namespace Go.Proofs.Ytglmmodkflkkkaa
open Go.RowKit Limbs
theorem ret_cell8 {fn : Func} {R : Ending → World → Prop} {a : Act} {w : World} {p : Tmp} (h : fn.results = #[.cell p 80]) (g : Nat) (x0 x1 x2 x3 x4 x5 x6 x7 : Value) (hp : a.tmps.getD p undef = .pointer (some ⟨g, 0, none⟩)) (hk : Bk 80 w g #[x0, x1, x2, x3, x4, x5, x6, x7]) (hd : a.defers = []) (hR : R (.returned (.agg #[x0, x1, x2, x3, x4, x5, x6, x7])) w) : bodyPost Try.prog fn R .ret a w :=
  bodyPost_ret (v := .agg #[x0, x1, x2, x3, x4, x5, x6, x7]) (results_cell_row h a.tmps w g 80 #[x0, x1, x2, x3, x4, x5, x6, x7] (0, 0) _ hp hk u56 rfl i56) hd hR
set_option maxHeartbeats 32000000 in
theorem product_any {a0 a1 a2 a3 b0 b1 b2 b3 : Nat} (ha0 : a0 < 18446744073709551616) (ha1 : a1 < 18446744073709551616) (ha2 : a2 < 18446744073709551616) (ha3 : a3 < 18446744073709551616)
    (hb0 : b0 < 18446744073709551616) (hb1 : b1 < 18446744073709551616) (hb2 : b2 < 18446744073709551616) (hb3 : b3 < 18446744073709551616) (w : World) :
    Calls Try.prog 59 #[num a0 a1 a2 a3, num b0 b1 b2 b3] w fun e w' => (∃ l0 l1 l2 l3 l4 l5 l6 l7 : Nat, (l0 < 18446744073709551616 ∧ l1 < 18446744073709551616 ∧ l2 < 18446744073709551616 ∧ l3 < 18446744073709551616) ∧ (l4 < 18446744073709551616 ∧ l5 < 18446744073709551616 ∧ l6 < 18446744073709551616 ∧ l7 < 18446744073709551616) ∧ v4 l0 l1 l2 l3 + W256 * v4 l4 l5 l6 l7 = v4 a0 a1 a2 a3 * v4 b0 b1 b2 b3 ∧ e = .returned (num8 l0 l1 l2 l3 l4 l5 l6 l7)) ∧ Below w.heap.size w w' := by
  have z : (0 : Nat) < 18446744073709551616 := by decide
  obtain ⟨n00, k00, hn00, hk00, e00, q00⟩ := times_det (a := a0) (b := b0) (c := 0) (d := 0) ha0 hb0 z z
  obtain ⟨n01, k01, hn01, hk01, e01, q01⟩ := times_det (a := a0) (b := b1) (c := 0) (d := k00) ha0 hb1 z hk00
  obtain ⟨n02, k02, hn02, hk02, e02, q02⟩ := times_det (a := a0) (b := b2) (c := 0) (d := k01) ha0 hb2 z hk01
  obtain ⟨n03, k03, hn03, hk03, e03, q03⟩ := times_det (a := a0) (b := b3) (c := 0) (d := k02) ha0 hb3 z hk02
  obtain ⟨n10, k10, hn10, hk10, e10, q10⟩ := times_det (a := a1) (b := b0) (c := n01) (d := 0) ha1 hb0 hn01 z
  obtain ⟨n11, k11, hn11, hk11, e11, q11⟩ := times_det (a := a1) (b := b1) (c := n02) (d := k10) ha1 hb1 hn02 hk10
  obtain ⟨n12, k12, hn12, hk12, e12, q12⟩ := times_det (a := a1) (b := b2) (c := n03) (d := k11) ha1 hb2 hn03 hk11
  obtain ⟨n13, k13, hn13, hk13, e13, q13⟩ := times_det (a := a1) (b := b3) (c := k03) (d := k12) ha1 hb3 hk03 hk12
  obtain ⟨n20, k20, hn20, hk20, e20, q20⟩ := times_det (a := a2) (b := b0) (c := n11) (d := 0) ha2 hb0 hn11 z
  obtain ⟨n21, k21, hn21, hk21, e21, q21⟩ := times_det (a := a2) (b := b1) (c := n12) (d := k20) ha2 hb1 hn12 hk20
  obtain ⟨n22, k22, hn22, hk22, e22, q22⟩ := times_det (a := a2) (b := b2) (c := n13) (d := k21) ha2 hb2 hn13 hk21
  obtain ⟨n23, k23, hn23, hk23, e23, q23⟩ := times_det (a := a2) (b := b3) (c := k13) (d := k22) ha2 hb3 hk13 hk22
  obtain ⟨n30, k30, hn30, hk30, e30, q30⟩ := times_det (a := a3) (b := b0) (c := n21) (d := 0) ha3 hb0 hn21 z
  obtain ⟨n31, k31, hn31, hk31, e31, q31⟩ := times_det (a := a3) (b := b1) (c := n22) (d := k30) ha3 hb1 hn22 hk30
  obtain ⟨n32, k32, hn32, hk32, e32, q32⟩ := times_det (a := a3) (b := b2) (c := n23) (d := k31) ha3 hb2 hn23 hk31
  obtain ⟨n33, k33, hn33, hk33, e33, q33⟩ := times_det (a := a3) (b := b3) (c := k23) (d := k32) ha3 hb3 hk23 hk32
  have r0 := row_arith (a := a0) (b0 := b0) (b1 := b1) (b2 := b2) (b3 := b3) (c0 := 0) (c1 := 0) (c2 := 0) (c3 := 0) e00 e01 e02 e03
  have r1 := row_arith (a := a1) (b0 := b0) (b1 := b1) (b2 := b2) (b3 := b3) (c0 := n01) (c1 := n02) (c2 := n03) (c3 := k03) e10 e11 e12 e13
  have r2 := row_arith (a := a2) (b0 := b0) (b1 := b1) (b2 := b2) (b3 := b3) (c0 := n11) (c1 := n12) (c2 := n13) (c3 := k13) e20 e21 e22 e23
  have r3 := row_arith (a := a3) (b0 := b0) (b1 := b1) (b2 := b2) (b3 := b3) (c0 := n21) (c1 := n22) (c2 := n23) (c3 := k23) e30 e31 e32 e33
  have HF : Hid (v4 n00 n10 n20 n30 + W256 * v4 n31 n32 n33 k33 = v4 a0 a1 a2 a3 * v4 b0 b1 b2 b3) := Lib.hid (by
    have e : v4 a0 a1 a2 a3 * v4 b0 b1 b2 b3 = a0 * v4 b0 b1 b2 b3 + 18446744073709551616 * (a1 * v4 b0 b1 b2 b3 + 18446744073709551616 * (a2 * v4 b0 b1 b2 b3 + 18446744073709551616 * (a3 * v4 b0 b1 b2 b3))) := by
      generalize v4 b0 b1 b2 b3 = V
      unfold v4
      simp only [Nat.add_mul, Nat.mul_assoc]
    rw [e]
    clear e e00 e01 e02 e03 e10 e11 e12 e13 e20 e21 e22 e23 e30 e31 e32 e33
    generalize a0 * v4 b0 b1 b2 b3 = t0 at *
    generalize a1 * v4 b0 b1 b2 b3 = t1 at *
    generalize a2 * v4 b0 b1 b2 b3 = t2 at *
    generalize a3 * v4 b0 b1 b2 b3 = t3 at *
    unfold v4 W256 at *
    omega)
  have HB := Lib.hid (show (n00 < 18446744073709551616 ∧ n10 < 18446744073709551616 ∧ n20 < 18446744073709551616 ∧ n30 < 18446744073709551616) ∧ (n31 < 18446744073709551616 ∧ n32 < 18446744073709551616 ∧ n33 < 18446744073709551616 ∧ k33 < 18446744073709551616) from ⟨⟨hn00, hn10, hn20, hn30⟩, hn31, hn32, hn33, hk33⟩)
  have Q00 := Lib.hid q00
  have Q01 := Lib.hid q01
  have Q02 := Lib.hid q02
  have Q03 := Lib.hid q03
  have Q10 := Lib.hid q10
  have Q11 := Lib.hid q11
  have Q12 := Lib.hid q12
  have Q13 := Lib.hid q13
  have Q20 := Lib.hid q20
  have Q21 := Lib.hid q21
  have Q22 := Lib.hid q22
  have Q23 := Lib.hid q23
  have Q30 := Lib.hid q30
  have Q31 := Lib.hid q31
  have Q32 := Lib.hid q32
  have Q33 := Lib.hid q33
  clear z r0 r1 r2 r3 hn00 hk00 e00 q00 hn01 hk01 e01 q01 hn02 hk02 e02 q02 hn03 hk03 e03 q03 hn10 hk10 e10 q10 hn11 hk11 e11 q11 hn12 hk12 e12 q12 hn13 hk13 e13 q13 hn20 hk20 e20 q20 hn21 hk21 e21 q21 hn22 hk22 e22 q22 hn23 hk23 e23 q23 hn30 hk30 e30 q30 hn31 hk31 e31 q31 hn32 hk32 e32 q32 hn33 hk33 e33 q33 ha0 ha1 ha2 ha3 hb0 hb1 hb2 hb3
  have w0 : IntKind.i64.wrap 0 = 0 := by rw [IntKind.wrap_i64]; rfl
  have w1 : IntKind.i64.wrap 1 = 1 := by rw [IntKind.wrap_i64]; rfl
  have w2 : IntKind.i64.wrap 2 = 2 := by rw [IntKind.wrap_i64]; rfl
  have w3 : IntKind.i64.wrap 3 = 3 := by rw [IntKind.wrap_i64]; rfl
  have w4 : IntKind.i64.wrap 4 = 4 := by rw [IntKind.wrap_i64]; rfl
  have w5 : IntKind.i64.wrap 5 = 5 := by rw [IntKind.wrap_i64]; rfl
  have w6 : IntKind.i64.wrap 6 = 6 := by rw [IntKind.wrap_i64]; rfl
  have w7 : IntKind.i64.wrap 7 = 7 := by rw [IntKind.wrap_i64]; rfl
  unfold num
  go_enter Try.func59, Try.ntmps59
  go_wp2_with fail
  refine wp_loop_rounds 5 ?_
  rw [rounds_succ]
  go_wp2_with fail
  refine wp_loop_rounds 5 ?_
  rw [rounds_succ]
  go_wp2_with fail
  refine r9 w.heap.size (w.heap.size + 1) (w.heap.size + 1 + 1 + 1) 0 0 a0 b0 0 0 n00 k00 (by decide) (by decide) _ (by go_cell) (by go_cell) (by go_cell) (by simp [go_sem]) Q00 ?_
  intros
  simp only [Nat.reduceAdd, Nat.zero_add, Nat.add_zero]
  clear Q00
  go_wp2_with fail
  rw [rounds_succ]
  go_wp2_with fail
  refine r9 w.heap.size (w.heap.size + 1) (w.heap.size + 1 + 1 + 1) 0 1 a0 b1 0 k00 n01 k01 (by decide) (by decide) _ (by go_cell) (by go_cell) (by go_cell) (by simp [go_sem]) Q01 ?_
  intros
  simp only [Nat.reduceAdd, Nat.zero_add, Nat.add_zero]
  clear Q01
  go_wp2_with fail
  rw [rounds_succ]
  go_wp2_with fail
  refine r9 w.heap.size (w.heap.size + 1) (w.heap.size + 1 + 1 + 1) 0 2 a0 b2 0 k01 n02 k02 (by decide) (by decide) _ (by go_cell) (by go_cell) (by go_cell) (by simp [go_sem]) Q02 ?_
  intros
  simp only [Nat.reduceAdd, Nat.zero_add, Nat.add_zero]
  clear Q02
  go_wp2_with fail
  rw [rounds_succ]
  go_wp2_with fail
  refine r9 w.heap.size (w.heap.size + 1) (w.heap.size + 1 + 1 + 1) 0 3 a0 b3 0 k02 n03 k03 (by decide) (by decide) _ (by go_cell) (by go_cell) (by go_cell) (by simp [go_sem]) Q03 ?_
  intros
  simp only [Nat.reduceAdd, Nat.zero_add, Nat.add_zero]
  clear Q03
  go_wp2_with fail
  rw [rounds_succ]
  go_wp2_with fail
  rw [rounds_succ]
  go_wp2_with fail
  refine wp_loop_rounds 5 ?_
  rw [rounds_succ]
  go_wp2_with fail
  refine r9 w.heap.size (w.heap.size + 1) (w.heap.size + 1 + 1 + 1) 1 0 a1 b0 n01 0 n10 k10 (by decide) (by decide) _ (by go_cell) (by go_cell) (by go_cell) (by simp [go_sem]) Q10 ?_
  intros
  simp only [Nat.reduceAdd, Nat.zero_add, Nat.add_zero]
  clear Q10
  go_wp2_with fail
  rw [rounds_succ]
  go_wp2_with fail
  refine r9 w.heap.size (w.heap.size + 1) (w.heap.size + 1 + 1 + 1) 1 1 a1 b1 n02 k10 n11 k11 (by decide) (by decide) _ (by go_cell) (by go_cell) (by go_cell) (by simp [go_sem]) Q11 ?_
  intros
  simp only [Nat.reduceAdd, Nat.zero_add, Nat.add_zero]
  clear Q11
  go_wp2_with fail
  rw [rounds_succ]
  go_wp2_with fail
  refine r9 w.heap.size (w.heap.size + 1) (w.heap.size + 1 + 1 + 1) 1 2 a1 b2 n03 k11 n12 k12 (by decide) (by decide) _ (by go_cell) (by go_cell) (by go_cell) (by simp [go_sem]) Q12 ?_
  intros
  simp only [Nat.reduceAdd, Nat.zero_add, Nat.add_zero]
  clear Q12
  go_wp2_with fail
  rw [rounds_succ]
  go_wp2_with fail
  refine r9 w.heap.size (w.heap.size + 1) (w.heap.size + 1 + 1 + 1) 1 3 a1 b3 k03 k12 n13 k13 (by decide) (by decide) _ (by go_cell) (by go_cell) (by go_cell) (by simp [go_sem]) Q13 ?_
  intros
  simp only [Nat.reduceAdd, Nat.zero_add, Nat.add_zero]
  clear Q13
  go_wp2_with fail
  rw [rounds_succ]
  go_wp2_with fail
  rw [rounds_succ]
  go_wp2_with fail
  refine wp_loop_rounds 5 ?_
  rw [rounds_succ]
  go_wp2_with fail
  refine r9 w.heap.size (w.heap.size + 1) (w.heap.size + 1 + 1 + 1) 2 0 a2 b0 n11 0 n20 k20 (by decide) (by decide) _ (by go_cell) (by go_cell) (by go_cell) (by simp [go_sem]) Q20 ?_
  intros
  simp only [Nat.reduceAdd, Nat.zero_add, Nat.add_zero]
  clear Q20
  go_wp2_with fail
  rw [rounds_succ]
  go_wp2_with fail
  refine r9 w.heap.size (w.heap.size + 1) (w.heap.size + 1 + 1 + 1) 2 1 a2 b1 n12 k20 n21 k21 (by decide) (by decide) _ (by go_cell) (by go_cell) (by go_cell) (by simp [go_sem]) Q21 ?_
  intros
  simp only [Nat.reduceAdd, Nat.zero_add, Nat.add_zero]
  clear Q21
  go_wp2_with fail
  rw [rounds_succ]
  go_wp2_with fail
  refine r9 w.heap.size (w.heap.size + 1) (w.heap.size + 1 + 1 + 1) 2 2 a2 b2 n13 k21 n22 k22 (by decide) (by decide) _ (by go_cell) (by go_cell) (by go_cell) (by simp [go_sem]) Q22 ?_
  intros
  simp only [Nat.reduceAdd, Nat.zero_add, Nat.add_zero]
  clear Q22
  go_wp2_with fail
  rw [rounds_succ]
  go_wp2_with fail
  refine r9 w.heap.size (w.heap.size + 1) (w.heap.size + 1 + 1 + 1) 2 3 a2 b3 k13 k22 n23 k23 (by decide) (by decide) _ (by go_cell) (by go_cell) (by go_cell) (by simp [go_sem]) Q23 ?_
  intros
  simp only [Nat.reduceAdd, Nat.zero_add, Nat.add_zero]
  clear Q23
  go_wp2_with fail
  rw [rounds_succ]
  go_wp2_with fail
  rw [rounds_succ]
  go_wp2_with fail
  refine wp_loop_rounds 5 ?_
  rw [rounds_succ]
  go_wp2_with fail
  refine r9 w.heap.size (w.heap.size + 1) (w.heap.size + 1 + 1 + 1) 3 0 a3 b0 n21 0 n30 k30 (by decide) (by decide) _ (by go_cell) (by go_cell) (by go_cell) (by simp [go_sem]) Q30 ?_
  intros
  simp only [Nat.reduceAdd, Nat.zero_add, Nat.add_zero]
  clear Q30
  go_wp2_with fail
  rw [rounds_succ]
  go_wp2_with fail
  refine r9 w.heap.size (w.heap.size + 1) (w.heap.size + 1 + 1 + 1) 3 1 a3 b1 n22 k30 n31 k31 (by decide) (by decide) _ (by go_cell) (by go_cell) (by go_cell) (by simp [go_sem]) Q31 ?_
  intros
  simp only [Nat.reduceAdd, Nat.zero_add, Nat.add_zero]
  clear Q31
  go_wp2_with fail
  rw [rounds_succ]
  go_wp2_with fail
  refine r9 w.heap.size (w.heap.size + 1) (w.heap.size + 1 + 1 + 1) 3 2 a3 b2 n23 k31 n32 k32 (by decide) (by decide) _ (by go_cell) (by go_cell) (by go_cell) (by simp [go_sem]) Q32 ?_
  intros
  simp only [Nat.reduceAdd, Nat.zero_add, Nat.add_zero]
  clear Q32
  go_wp2_with fail
  rw [rounds_succ]
  go_wp2_with fail
  refine r9 w.heap.size (w.heap.size + 1) (w.heap.size + 1 + 1 + 1) 3 3 a3 b3 k23 k32 n33 k33 (by decide) (by decide) _ (by go_cell) (by go_cell) (by go_cell) (by simp [go_sem]) Q33 ?_
  intros
  simp only [Nat.reduceAdd, Nat.zero_add, Nat.add_zero]
  clear Q33
  go_wp2_with fail
  rw [rounds_succ]
  go_wp2_with fail
  rw [rounds_succ]
  go_wp2_with fail
  refine ret_cell8 rfl (w.heap.size + 1 + 1) _ _ _ _ _ _ _ _ rfl ?_ rfl ⟨⟨n00, n10, n20, n30, n31, n32, n33, k33, HB.out.1, HB.out.2, HF.out, rfl⟩, by go_grown⟩
  repeat (refine Bk.drew ?_)
  exact Bk.alloc (Bk.new (by simp))
theorem product_nv (a b : Nat) (ha : a < W256) (hb : b < W256) (w : World) :
    Calls Try.prog 59 #[nv a, nv b] w fun e w' => (∃ l0 l1 l2 l3 l4 l5 l6 l7 : Nat, (l0 < 18446744073709551616 ∧ l1 < 18446744073709551616 ∧ l2 < 18446744073709551616 ∧ l3 < 18446744073709551616) ∧ (l4 < 18446744073709551616 ∧ l5 < 18446744073709551616 ∧ l6 < 18446744073709551616 ∧ l7 < 18446744073709551616) ∧ v4 l0 l1 l2 l3 + W256 * v4 l4 l5 l6 l7 = a * b ∧ e = .returned (num8 l0 l1 l2 l3 l4 l5 l6 l7)) ∧ Below w.heap.size w w' := by
  have h := product_any (lb_lt a 0) (lb_lt a 1) (lb_lt a 2) (lb_lt a 3) (lb_lt b 0) (lb_lt b 1) (lb_lt b 2) (lb_lt b 3) w
  rw [v4_lb ha, v4_lb hb] at h
  exact h
end Go.Proofs.Ytglmmodkflkkkaa
set_option linter.unusedVariables false
set_option linter.unusedSimpArgs false
set_option maxRecDepth 100000
namespace Go.Proofs.Ytglmmodkflkkkaa
open Go.RowKit Limbs
noncomputable def ops19 (n : Nat) : Array Oper := (Try.f23.body.bind fun c => findR c n).getD #[]
noncomputable def ops15 (n : Nat) : Array Oper := (Try.f19.body.bind fun c => findR c n).getD #[]
noncomputable def ops17 (n : Nat) : Array Oper := (Try.f21.body.bind fun c => findR c n).getD #[]
theorem cell_alloc_old {w : World} {o : Obj} {g i : Nat} (h : g < w.heap.size) : (w.alloc o).cell? ⟨g, i, none⟩ = w.cell? ⟨g, i, none⟩ :=
  ((Below.refl w.heap.size w).alloc (Nat.le_refl _) o).cell (p := ⟨g, i, none⟩) h
theorem Bk.all4 {w : World} {g : Nat} {x0 x1 x2 x3 : Value} (h : Bk 24 w g #[x0, x1, x2, x3]) : ((∀ w', Below w.heap.size w w' → w'.cell? ⟨g, 0, none⟩ = some x0) ∧ (∀ w', Below w.heap.size w w' → w'.cell? ⟨g, 1, none⟩ = some x1) ∧ (∀ w', Below w.heap.size w w' → w'.cell? ⟨g, 2, none⟩ = some x2) ∧ (∀ w', Below w.heap.size w w' → w'.cell? ⟨g, 3, none⟩ = some x3)) ∧ (∀ w' o, Below w.heap.size w w' → (w'.alloc o).cell? ⟨g, 0, none⟩ = some x0) ∧ (∀ w' o, Below w.heap.size w w' → (w'.alloc o).cell? ⟨g, 1, none⟩ = some x1) ∧ (∀ w' o, Below w.heap.size w w' → (w'.alloc o).cell? ⟨g, 2, none⟩ = some x2) ∧ (∀ w' o, Below w.heap.size w w' → (w'.alloc o).cell? ⟨g, 3, none⟩ = some x3) :=
  ⟨⟨fun _ hB => (h.below hB).cell 0, fun _ hB => (h.below hB).cell 1, fun _ hB => (h.below hB).cell 2, fun _ hB => (h.below hB).cell 3⟩, fun _ _ hB => (h.below hB).alloc.cell 0, fun _ _ hB => (h.below hB).alloc.cell 1, fun _ _ hB => (h.below hB).alloc.cell 2, fun _ _ hB => (h.below hB).alloc.cell 3⟩
theorem kp {W w' : World} (hb : Below W.heap.size W w') : (∀ g i, g < W.heap.size → w'.cell? ⟨g, i, none⟩ = W.cell? ⟨g, i, none⟩) ∧ (∀ g i, g < W.heap.size → w'.frozen? ⟨g, i, none⟩ = W.frozen? ⟨g, i, none⟩) :=
  ⟨fun g i h => hb.cell (p := ⟨g, i, none⟩) h, fun g i h => hb.frozen (p := ⟨g, i, none⟩) h⟩
set_option maxHeartbeats 16000000 in
theorem m3 (gl gM M l4 l5 l6 l7 r : Nat) (w : World) (hgl : gl < w.heap.size) (k4 : w.cell? ⟨gl, 4, none⟩ = some (.int .u64 (l4 : Int))) (k5 : w.cell? ⟨gl, 5, none⟩ = some (.int .u64 (l5 : Int))) (k6 : w.cell? ⟨gl, 6, none⟩ = some (.int .u64 (l6 : Int))) (k7 : w.cell? ⟨gl, 7, none⟩ = some (.int .u64 (l7 : Int))) (KM : Bk 24 w gM (cs4 M)) (HQ : Hid (∀ w, Calls Try.prog 55 #[.agg #[.int .u64 (l4 : Int), .int .u64 (l5 : Int), .int .u64 (l6 : Int), .int .u64 (l7 : Int)], nv M] w fun e w' => e = .returned (nv r) ∧ Below w.heap.size w w'))
    {t0 t1 t2 t3 t4 t5 t6 t9 t10 t11 t12 t13 t14 t15 t16 t17 t18 t19 t20 t21 t22 t23 t24 t25 t26 t27 t28 t29 t30 t31 t32 : Value} {ds : List Deferred} {K : Act → World → Prop} {Q : Exit → Act → World → Prop}
    (h : ∀ (x16 x17 x18 x19 x20 : Value) (g : Nat) (w' : World) (hb : Below w.heap.size w w') (hg : w.heap.size ≤ g) (hk : Bk 24 w' g (cs4 r)), K { tmps := #[t0, t1, t2, t3, t4, t5, t6, .pointer (some ⟨gM, 0, none⟩), .pointer (some ⟨gl, 0, none⟩), .pointer (some ⟨g, 0, none⟩), t10, t11, t12, t13, t14, t15, x16, x17, x18, x19, x20, t21, t22, t23, t24, t25, t26, t27, t28, t29, t30, t31, t32], defers := ds } w') :
    (Code.region 3 (ops19 3) true).wp Try.prog (Exit.then K Q) { tmps := #[t0, t1, t2, t3, t4, t5, t6, .pointer (some ⟨gM, 0, none⟩), .pointer (some ⟨gl, 0, none⟩), t9, t10, t11, t12, t13, t14, t15, t16, t17, t18, t19, t20, t21, t22, t23, t24, t25, t26, t27, t28, t29, t30, t31, t32], defers := ds } w := by
  simp only [ops19, findR, Try.f23, Option.bind_some, Option.or, Option.getD, Nat.reduceEqDiff, if_true, if_false, reduceIte]
  have HH := Lib.hid h
  clear h
  refine Code.wp_mono (Q := Exit.then K (fun _ _ _ => False)) (fun e a w h => by cases e <;> first | exact h | exact h.elim) ?_
  have hat : ∀ w, (Instr.arrayAt 24 (.slice (some ⟨gl, 4, none⟩) 4 4)).run Try.prog w = .ok (.pointer (some ⟨gl, 4, none⟩)) w := fun w => run_arrayAt w 24 22 4 _ 4 4 u24 (by decide)
  obtain ⟨m0, m1, m2, m3⟩ := KM.cells
  obtain ⟨n0, n1, n2, n3⟩ := KM.cellsA
  have z4 : ∀ o, (w.alloc o).cell? ⟨gl, 4, none⟩ = some (.int .u64 (l4 : Int)) := fun o => by rw [← k4]; exact cell_alloc_old hgl
  have z5 : ∀ o, (w.alloc o).cell? ⟨gl, 5, none⟩ = some (.int .u64 (l5 : Int)) := fun o => by rw [← k5]; exact cell_alloc_old hgl
  have z6 : ∀ o, (w.alloc o).cell? ⟨gl, 6, none⟩ = some (.int .u64 (l6 : Int)) := fun o => by rw [← k6]; exact cell_alloc_old hgl
  have z7 : ∀ o, (w.alloc o).cell? ⟨gl, 7, none⟩ = some (.int .u64 (l7 : Int)) := fun o => by rw [← k7]; exact cell_alloc_old hgl
  simp only [nv, num] at HQ
  go_region_law (go_simp; go_at_call 55; refine (keep w.heap.size w (HQ.out _) (by go_grown) (Nat.le_refl _)).mono ?_; rintro e w' ⟨rfl, hB, hb⟩; obtain ⟨hc, hf⟩ := kp hb)
  all_goals have hs := hB.size
  all_goals first
    | exact HH.out _ _ _ _ _ _ _ (by go_grown) hs (Bk.new rfl)
    | exact HH.out _ _ _ _ _ _ _ (by go_grown) (Nat.le_refl _) (Bk.put (Bk.below (Bk.drew (Bk.new rfl)) hb))
end Go.Proofs.Ytglmmodkflkkkaa
