/- Two numbers are compared. No condition. -/
import Derived.Test.YtglmmodkflkkkaaNc
import Derived.ChangeKeysEq
set_option linter.unusedVariables false
set_option linter.unusedSimpArgs false
set_option maxRecDepth 100000
namespace Go.Proofs.Ytglmmodkflkkkaa
open Go.RowKit Limbs

theorem info22 : ∃ i, Try.prog.info? 22 = some i := Option.isSome_iff_exists.1 (by kernel_rfl)
theorem cells22 : Try.prog.cellsOf 22 = 1 := by kernel_rfl
theorem one22 (v : Int) (j : Nat) (xs : Array Value) (h : xs[j]? = some (.int .u64 v)) (w : World) : (part 22 xs j).run Try.prog w = .ok (.int .u64 v) w := by
  simp [part, go_sem, Try.underlying22, Try.isAgg22, Try.sizeOf22, h]
theorem eq24 (a0 a1 a2 a3 b0 b1 b2 b3 : Int) (w : World) : (Op.equalIn 10000 24 (.agg #[.int .u64 a0, .int .u64 a1, .int .u64 a2, .int .u64 a3]) (.agg #[.int .u64 b0, .int .u64 b1, .int .u64 b2, .int .u64 b3])).run Try.prog w = .ok (a0 == b0 && (a1 == b1 && (a2 == b2 && a3 == b3))) w := by
  obtain ⟨i, hi⟩ := info22
  rw [show (10000 : Nat) = 9999 + 1 from rfl, run_equalIn_array w 9999 _ _ u24 hi, cells22]
  have hr : List.range 4 = [0, 1, 2, 3] := rfl
  rw [hr]
  have e (a b : Int) (w : World) : (Op.equalIn 9999 22 (.int .u64 a) (.int .u64 b)).run Try.prog w = .ok (a == b) w := run_equalIn_int w 9998 22 .u64 .u64 a b Try.underlying22
  have pa0 := one22 a0 0 #[.int .u64 a0, .int .u64 a1, .int .u64 a2, .int .u64 a3] rfl
  have pa1 := one22 a1 1 #[.int .u64 a0, .int .u64 a1, .int .u64 a2, .int .u64 a3] rfl
  have pa2 := one22 a2 2 #[.int .u64 a0, .int .u64 a1, .int .u64 a2, .int .u64 a3] rfl
  have pa3 := one22 a3 3 #[.int .u64 a0, .int .u64 a1, .int .u64 a2, .int .u64 a3] rfl
  have pb0 := one22 b0 0 #[.int .u64 b0, .int .u64 b1, .int .u64 b2, .int .u64 b3] rfl
  have pb1 := one22 b1 1 #[.int .u64 b0, .int .u64 b1, .int .u64 b2, .int .u64 b3] rfl
  have pb2 := one22 b2 2 #[.int .u64 b0, .int .u64 b1, .int .u64 b2, .int .u64 b3] rfl
  have pb3 := one22 b3 3 #[.int .u64 b0, .int .u64 b1, .int .u64 b2, .int .u64 b3] rfl
  simp only [Op.eqItems, Sem.run_bind, Nat.mul_one, pa0, pa1, pa2, pa3, pb0, pb1, pb2, pb3, Result.andThen_ok, e]
  cases h0 : (a0 == b0) <;> cases h1 : (a1 == b1) <;> cases h2 : (a2 == b2) <;> cases h3 : (a3 == b3) <;> simp [pa1, pa2, pa3, pb1, pb2, pb3, e, h0, h1, h2, h3, Op.eqItems]
theorem eqN (x y : Nat) (hx : x < W256) (hy : y < W256) (w : World) : (Op.equalIn 10000 24 (.agg #[.int .u64 (lb x 0 : Nat), .int .u64 (lb x 1 : Nat), .int .u64 (lb x 2 : Nat), .int .u64 (lb x 3 : Nat)]) (.agg #[.int .u64 (lb y 0 : Nat), .int .u64 (lb y 1 : Nat), .int .u64 (lb y 2 : Nat), .int .u64 (lb y 3 : Nat)])).run Try.prog w = .ok (decide (x = y)) w := by
  rw [eq24]
  congr 1
  rw [Bool.eq_iff_iff]
  simp only [Bool.and_eq_true, beq_iff_eq, decide_eq_true_eq]
  constructor
  · rintro ⟨h0, h1, h2, h3⟩
    rw [← v4_lb hx, ← v4_lb hy, show lb x 0 = lb y 0 by omega, show lb x 1 = lb y 1 by omega, show lb x 2 = lb y 2 by omega, show lb x 3 = lb y 3 by omega]
  · rintro rfl; simp
end Go.Proofs.Ytglmmodkflkkkaa
