/- The whole product of two numbers. No condition but that each limb is one. -/
import Derived.Test.YtglmmodkflkkkaaQt
import Derived.Test.YtglmmodkflkkkaaNi
import Derived.Deep.RegionLaw
set_option linter.unusedVariables false
set_option linter.unusedSimpArgs false
set_option maxRecDepth 100000
namespace Go.Proofs.Ytglmmodkflkkkaa
open Go.RowKit Limbs

theorem times_det {a b c d : Nat} (ha : a < 18446744073709551616) (hb : b < 18446744073709551616) (hc : c < 18446744073709551616) (hd : d < 18446744073709551616) :
    ∃ l h : Nat, l < 18446744073709551616 ∧ h < 18446744073709551616 ∧ l + 18446744073709551616 * h = a * b + c + d ∧ ∀ w, Calls Try.prog 89 #[.int .u64 (a : Int), .int .u64 (b : Int), .int .u64 (c : Int), .int .u64 (d : Int)] w fun e w' => e = .returned (.tuple #[.int .u64 (l : Int), .int .u64 (h : Int)]) ∧ w' = w := by
  refine ⟨(a * b + c + d) % 18446744073709551616, (a * b + c + d) / 18446744073709551616, ?_, ?_, ?_, fun w => ?_⟩
  · omega
  · have hP : a * b ≤ 18446744073709551615 * 18446744073709551615 := Nat.mul_le_mul (by omega) (by omega)
    omega
  · omega
  · refine (times_any ha hb hc hd w).mono ?_
    rintro e w' ⟨⟨l, h, hl, hh, he, rfl⟩, hw⟩
    refine ⟨?_, hw⟩
    have e1 : (a * b + c + d) % 18446744073709551616 = l := by omega
    have e2 : (a * b + c + d) / 18446744073709551616 = h := by omega
    rw [e1, e2]
theorem row_arith {a b0 b1 b2 b3 c0 c1 c2 c3 n0 n1 n2 n3 k0 k1 k2 k3 : Nat} (e0 : n0 + 18446744073709551616 * k0 = a * b0 + c0 + 0) (e1 : n1 + 18446744073709551616 * k1 = a * b1 + c1 + k0) (e2 : n2 + 18446744073709551616 * k2 = a * b2 + c2 + k1) (e3 : n3 + 18446744073709551616 * k3 = a * b3 + c3 + k2) :
    v4 n0 n1 n2 n3 + W256 * k3 = a * v4 b0 b1 b2 b3 + v4 c0 c1 c2 c3 := by
  rw [mul_v4]
  generalize a * b0 = t0 at *
  generalize a * b1 = t1 at *
  generalize a * b2 = t2 at *
  generalize a * b3 = t3 at *
  unfold v4 W256
  omega
def num8 (a b c d e f g h : Nat) : Value := .agg #[.int .u64 (a : Int), .int .u64 (b : Int), .int .u64 (c : Int), .int .u64 (d : Int), .int .u64 (e : Int), .int .u64 (f : Int), .int .u64 (g : Int), .int .u64 (h : Int)]
theorem u56 : Try.prog.underlying 80 = some (.array 8 22) := by kernel_rfl
theorem i56 : (Try.prog.info? 80).map (·.size) = some 8 := by kernel_rfl

/-- a region's operations, by its number -/
def findR : Code → Nat → Option (Array Oper)
  | .region id ops _, n => if id = n then some ops else none
  | .seq a b, n => (findR a n).or (findR b n)
  | .cond _ a b, n => (findR a n).or (findR b n)
  | .block _ a, n => findR a n
  | .loop a, n => findR a n
  | .scope a, n => findR a n
  | _, _ => none
noncomputable def ops39 (n : Nat) : Array Oper := (Try.f59.body.bind fun c => findR c n).getD #[]

set_option maxHeartbeats 8000000 in
theorem r9 (ga gb gl i j : Nat) (a b c d n k : Nat) (hi : i < 4) (hj : j < 4) (w : World) (ia : w.cell? ⟨ga, i, none⟩ = some (.int .u64 (a : Int))) (ib : w.cell? ⟨gb, j, none⟩ = some (.int .u64 (b : Int))) (ic : w.cell? ⟨gl, i + j, none⟩ = some (.int .u64 (c : Int))) (hf : w.frozen? ⟨gl, i + j, none⟩ = false)
    (HQ : Hid (∀ w, Calls Try.prog 89 #[.int .u64 (a : Int), .int .u64 (b : Int), .int .u64 (c : Int), .int .u64 (d : Int)] w fun e w' => e = .returned (.tuple #[.int .u64 (n : Int), .int .u64 (k : Int)]) ∧ w' = w))
    {t0 t1 t4 t9 t10 t11 t12 t13 t14 t15 t16 t17 t18 t19 t20 t21 t22 t23 t24 t25 t26 t27 t28 t29 t30 t31 t32 t33 t34 t35 t36 t37 t38 t39 t40 t41 : Value} {ds : List Deferred} {Q : Exit → Act → World → Prop}
    (h : ∀ (x15 x16 x17 x18 x19 x20 x21 x22 x23 x24 x25 x26 x27 x28 x29 x30 x31 x32 x33 x34 : Value), Q .normal { tmps := #[t0, t1, .pointer (some ⟨ga, 0, none⟩), .pointer (some ⟨gb, 0, none⟩), t4, .pointer (some ⟨gl, 0, none⟩), .int .i64 (i : Int), .int .u64 (k : Int), .int .i64 (j : Int), t9, t10, t11, t12, t13, t14, x15, x16, x17, x18, x19, x20, x21, x22, x23, x24, x25, x26, x27, x28, x29, x30, x31, x32, x33, x34, t35, t36, t37, t38, t39, t40, t41], defers := ds } (w.drew.setCell ⟨gl, i + j, none⟩ (.int .u64 (n : Int)))) :
    (Code.region 9 (ops39 9) true).wp Try.prog Q { tmps := #[t0, t1, .pointer (some ⟨ga, 0, none⟩), .pointer (some ⟨gb, 0, none⟩), t4, .pointer (some ⟨gl, 0, none⟩), .int .i64 (i : Int), .int .u64 (d : Int), .int .i64 (j : Int), t9, t10, t11, t12, t13, t14, t15, t16, t17, t18, t19, t20, t21, t22, t23, t24, t25, t26, t27, t28, t29, t30, t31, t32, t33, t34, t35, t36, t37, t38, t39, t40, t41], defers := ds } w := by
  simp only [ops39, findR, Try.f59, Option.bind_some, Option.or, Option.getD, Nat.reduceEqDiff, if_true, if_false, reduceIte]
  have b1 : ((i : Int) : Int) < 4 := by omega
  have b2 : ((j : Int) : Int) < 4 := by omega
  have e1 : IntKind.i64.wrap ((i : Int) + (j : Int)) = ((i + j : Nat) : Int) := by rw [IntKind.wrap_i64]; omega
  have e2 : ((i : Int) + (j : Int)).toNat = i + j := by omega
  have b3 : (i : Int) + (j : Int) < 8 := by omega
  have b4 : (0 : Int) ≤ (i : Int) + (j : Int) := by omega
  have HH := Lib.hid h
  clear h
  refine Code.wp_mono (Q := Exit.then (fun a w => Q .normal a w) (fun _ _ _ => False)) (fun e a w h => by cases e <;> first | exact h | exact h.elim) ?_
  go_region_law (go_simp; go_at_call 89; refine (HQ.out _).mono ?_; rintro e w' ⟨rfl, rfl⟩)
  all_goals exact HH.out _ _ _ _ _ _ _ _ _ _ _ _ _ _ _ _ _ _ _ _ 
end Go.Proofs.Ytglmmodkflkkkaa
