/- Points, and points under way, as values: how they are compared, and the blocks that hold them. No condition. -/
import Derived.Test.YtglmmodkflkkkaaJa
import Derived.Deep.MidRow
set_option linter.unusedVariables false
set_option linter.unusedSimpArgs false
set_option maxRecDepth 100000
namespace Go.Proofs.Ytglmmodkflkkkaa
open Go.RowKit Limbs

/-- a point under way as a value -/
def jn (x y z : Nat) : Value := .agg #[.int .u64 (lb x 0 : Nat), .int .u64 (lb x 1 : Nat), .int .u64 (lb x 2 : Nat), .int .u64 (lb x 3 : Nat), .int .u64 (lb y 0 : Nat), .int .u64 (lb y 1 : Nat), .int .u64 (lb y 2 : Nat), .int .u64 (lb y 3 : Nat), .int .u64 (lb z 0 : Nat), .int .u64 (lb z 1 : Nat), .int .u64 (lb z 2 : Nat), .int .u64 (lb z 3 : Nat)]
/-- a point as a value -/
def pn (x y : Nat) (i : Bool) : Value := .agg #[.int .u64 (lb x 0 : Nat), .int .u64 (lb x 1 : Nat), .int .u64 (lb x 2 : Nat), .int .u64 (lb x 3 : Nat), .int .u64 (lb y 0 : Nat), .int .u64 (lb y 1 : Nat), .int .u64 (lb y 2 : Nat), .int .u64 (lb y 3 : Nat), .bool i]
theorem u93 : Try.prog.underlying 93 = some (.struct (Try.prog.fieldsOf 93)) := by kernel_rfl
theorem u51 : Try.prog.underlying 51 = some (.struct (Try.prog.fieldsOf 51)) := by kernel_rfl
theorem i93 : (Try.prog.info? 93).map (·.size) = some 12 := by kernel_rfl
theorem i51 : (Try.prog.info? 51).map (·.size) = some 9 := by kernel_rfl
theorem info24 : ∃ i, Try.prog.info? 24 = some i := Option.isSome_iff_exists.1 (by kernel_rfl)
theorem part24 (xs : Array Value) (o : Nat) (h : o + 4 ≤ xs.size) (w : World) : (part 24 xs o).run Try.prog w = .ok (.agg (xs.extract o (o + 4))) w := by
  simp [part, go_sem, Try.underlying24, Try.isAgg24, Try.sizeOf24, h]
theorem eq24' (d : Nat) (a0 a1 a2 a3 b0 b1 b2 b3 : Int) (w : World) : (Op.equalIn (d + 2) 24 (.agg #[.int .u64 a0, .int .u64 a1, .int .u64 a2, .int .u64 a3]) (.agg #[.int .u64 b0, .int .u64 b1, .int .u64 b2, .int .u64 b3])).run Try.prog w = .ok (a0 == b0 && (a1 == b1 && (a2 == b2 && a3 == b3))) w := by
  obtain ⟨i, hi⟩ := info22
  rw [run_equalIn_array w (d + 1) _ _ u24 hi, cells22]
  have hr : List.range 4 = [0, 1, 2, 3] := rfl
  rw [hr]
  have e (a b : Int) (w : World) : (Op.equalIn (d + 1) 22 (.int .u64 a) (.int .u64 b)).run Try.prog w = .ok (a == b) w := run_equalIn_int w d 22 .u64 .u64 a b Try.underlying22
  have pa0 := one22 a0 0 #[.int .u64 a0, .int .u64 a1, .int .u64 a2, .int .u64 a3] rfl
  have pa1 := one22 a1 1 #[.int .u64 a0, .int .u64 a1, .int .u64 a2, .int .u64 a3] rfl
  have pa2 := one22 a2 2 #[.int .u64 a0, .int .u64 a1, .int .u64 a2, .int .u64 a3] rfl
  have pa3 := one22 a3 3 #[.int .u64 a0, .int .u64 a1, .int .u64 a2, .int .u64 a3] rfl
  have pb0 := one22 b0 0 #[.int .u64 b0, .int .u64 b1, .int .u64 b2, .int .u64 b3] rfl
  have pb1 := one22 b1 1 #[.int .u64 b0, .int .u64 b1, .int .u64 b2, .int .u64 b3] rfl
  have pb2 := one22 b2 2 #[.int .u64 b0, .int .u64 b1, .int .u64 b2, .int .u64 b3] rfl
  have pb3 := one22 b3 3 #[.int .u64 b0, .int .u64 b1, .int .u64 b2, .int .u64 b3] rfl
  simp only [Op.eqItems, Sem.run_bind, Nat.mul_one, pa0, pa1, pa2, pa3, pb0, pb1, pb2, pb3, Result.andThen_ok, e]
  cases h0 : (a0 == b0) <;> cases h1 : (a1 == b1) <;> cases h2 : (a2 == b2) <;> cases h3 : (a3 == b3) <;> simp [pa1, pa2, pa3, pb1, pb2, pb3, e, h0, h1, h2, h3, Op.eqItems]
theorem eqN' (d : Nat) (x y : Nat) (hx : x < W256) (hy : y < W256) (w : World) : (Op.equalIn (d + 2) 24 (.agg #[.int .u64 (lb x 0 : Nat), .int .u64 (lb x 1 : Nat), .int .u64 (lb x 2 : Nat), .int .u64 (lb x 3 : Nat)]) (.agg #[.int .u64 (lb y 0 : Nat), .int .u64 (lb y 1 : Nat), .int .u64 (lb y 2 : Nat), .int .u64 (lb y 3 : Nat)])).run Try.prog w = .ok (decide (x = y)) w := by
  rw [eq24']
  congr 1
  rw [Bool.eq_iff_iff]
  simp only [Bool.and_eq_true, beq_iff_eq, decide_eq_true_eq]
  constructor
  · rintro ⟨h0, h1, h2, h3⟩
    rw [← v4_lb hx, ← v4_lb hy, show lb x 0 = lb y 0 by omega, show lb x 1 = lb y 1 by omega, show lb x 2 = lb y 2 by omega, show lb x 3 = lb y 3 by omega]
  · rintro rfl; simp
theorem eqJ (x y z x' y' z' : Nat) (hx : x < W256) (hy : y < W256) (hz : z < W256) (hx' : x' < W256) (hy' : y' < W256) (hz' : z' < W256) (w : World) : (Op.equalIn 10000 93 (jn x y z) (jn x' y' z')).run Try.prog w = .ok (decide (x = x' ∧ y = y' ∧ z = z')) w := by
  unfold jn
  rw [show (10000 : Nat) = 9999 + 1 from rfl, run_equalIn_struct w 9999 93 _ _ u93 (by kernel_rfl)]
  have h1 := eqN' 9997 x x' hx hx' w
  have h2 := eqN' 9997 y y' hy hy' w
  have h3 := eqN' 9997 z z' hz hz' w
  have a0 : (part 24 #[.int .u64 (lb x 0 : Nat), .int .u64 (lb x 1 : Nat), .int .u64 (lb x 2 : Nat), .int .u64 (lb x 3 : Nat), .int .u64 (lb y 0 : Nat), .int .u64 (lb y 1 : Nat), .int .u64 (lb y 2 : Nat), .int .u64 (lb y 3 : Nat), .int .u64 (lb z 0 : Nat), .int .u64 (lb z 1 : Nat), .int .u64 (lb z 2 : Nat), .int .u64 (lb z 3 : Nat)] 0).run Try.prog w = .ok (.agg #[.int .u64 (lb x 0 : Nat), .int .u64 (lb x 1 : Nat), .int .u64 (lb x 2 : Nat), .int .u64 (lb x 3 : Nat)]) w := part24 _ _ (by simp) w
  have a1 : (part 24 #[.int .u64 (lb x 0 : Nat), .int .u64 (lb x 1 : Nat), .int .u64 (lb x 2 : Nat), .int .u64 (lb x 3 : Nat), .int .u64 (lb y 0 : Nat), .int .u64 (lb y 1 : Nat), .int .u64 (lb y 2 : Nat), .int .u64 (lb y 3 : Nat), .int .u64 (lb z 0 : Nat), .int .u64 (lb z 1 : Nat), .int .u64 (lb z 2 : Nat), .int .u64 (lb z 3 : Nat)] 4).run Try.prog w = .ok (.agg #[.int .u64 (lb y 0 : Nat), .int .u64 (lb y 1 : Nat), .int .u64 (lb y 2 : Nat), .int .u64 (lb y 3 : Nat)]) w := part24 _ _ (by simp) w
  have a2 : (part 24 #[.int .u64 (lb x 0 : Nat), .int .u64 (lb x 1 : Nat), .int .u64 (lb x 2 : Nat), .int .u64 (lb x 3 : Nat), .int .u64 (lb y 0 : Nat), .int .u64 (lb y 1 : Nat), .int .u64 (lb y 2 : Nat), .int .u64 (lb y 3 : Nat), .int .u64 (lb z 0 : Nat), .int .u64 (lb z 1 : Nat), .int .u64 (lb z 2 : Nat), .int .u64 (lb z 3 : Nat)] 8).run Try.prog w = .ok (.agg #[.int .u64 (lb z 0 : Nat), .int .u64 (lb z 1 : Nat), .int .u64 (lb z 2 : Nat), .int .u64 (lb z 3 : Nat)]) w := part24 _ _ (by simp) w
  have b0 : (part 24 #[.int .u64 (lb x' 0 : Nat), .int .u64 (lb x' 1 : Nat), .int .u64 (lb x' 2 : Nat), .int .u64 (lb x' 3 : Nat), .int .u64 (lb y' 0 : Nat), .int .u64 (lb y' 1 : Nat), .int .u64 (lb y' 2 : Nat), .int .u64 (lb y' 3 : Nat), .int .u64 (lb z' 0 : Nat), .int .u64 (lb z' 1 : Nat), .int .u64 (lb z' 2 : Nat), .int .u64 (lb z' 3 : Nat)] 0).run Try.prog w = .ok (.agg #[.int .u64 (lb x' 0 : Nat), .int .u64 (lb x' 1 : Nat), .int .u64 (lb x' 2 : Nat), .int .u64 (lb x' 3 : Nat)]) w := part24 _ _ (by simp) w
  have b1 : (part 24 #[.int .u64 (lb x' 0 : Nat), .int .u64 (lb x' 1 : Nat), .int .u64 (lb x' 2 : Nat), .int .u64 (lb x' 3 : Nat), .int .u64 (lb y' 0 : Nat), .int .u64 (lb y' 1 : Nat), .int .u64 (lb y' 2 : Nat), .int .u64 (lb y' 3 : Nat), .int .u64 (lb z' 0 : Nat), .int .u64 (lb z' 1 : Nat), .int .u64 (lb z' 2 : Nat), .int .u64 (lb z' 3 : Nat)] 4).run Try.prog w = .ok (.agg #[.int .u64 (lb y' 0 : Nat), .int .u64 (lb y' 1 : Nat), .int .u64 (lb y' 2 : Nat), .int .u64 (lb y' 3 : Nat)]) w := part24 _ _ (by simp) w
  have b2 : (part 24 #[.int .u64 (lb x' 0 : Nat), .int .u64 (lb x' 1 : Nat), .int .u64 (lb x' 2 : Nat), .int .u64 (lb x' 3 : Nat), .int .u64 (lb y' 0 : Nat), .int .u64 (lb y' 1 : Nat), .int .u64 (lb y' 2 : Nat), .int .u64 (lb y' 3 : Nat), .int .u64 (lb z' 0 : Nat), .int .u64 (lb z' 1 : Nat), .int .u64 (lb z' 2 : Nat), .int .u64 (lb z' 3 : Nat)] 8).run Try.prog w = .ok (.agg #[.int .u64 (lb z' 0 : Nat), .int .u64 (lb z' 1 : Nat), .int .u64 (lb z' 2 : Nat), .int .u64 (lb z' 3 : Nat)]) w := part24 _ _ (by simp) w
  have f1 : ("x" ≠ "_") = True := by simp
  have f2 : ("y" ≠ "_") = True := by simp
  have f3 : ("z" ≠ "_") = True := by simp
  simp only [Program.fieldsOf, Try.underlying93, Op.eqFields, f1, f2, f3, if_true, Sem.run_bind, a0, b0, Result.andThen_ok, h1]
  rw [show decide (x = x' ∧ y = y' ∧ z = z') = (decide (x = x') && (decide (y = y') && decide (z = z'))) from by rw [Bool.decide_and, Bool.decide_and]]
  clear a0 b0 h1
  generalize decide (x = x') = c1
  generalize decide (y = y') = c2 at h2 ⊢
  generalize decide (z = z') = c3 at h3 ⊢
  cases c1 <;> cases c2 <;> cases c3 <;> simp only [Bool.and_true, Bool.and_false, Bool.true_and, Bool.false_and, a1, a2, b1, b2, h2, h3, decide_true, decide_false, Bool.not_true, Bool.not_false, Bool.false_eq_true, if_true, if_false, Sem.run_bind, Sem.run_pure, Result.andThen_ok, and_true, and_false, true_and, false_and]
theorem eqP (x y x' y' : Nat) (i i' : Bool) (hx : x < W256) (hy : y < W256) (hx' : x' < W256) (hy' : y' < W256) (w : World) : (Op.equalIn 10000 51 (pn x y i) (pn x' y' i')).run Try.prog w = .ok (decide (x = x' ∧ y = y' ∧ i = i')) w := by
  unfold pn
  rw [show (10000 : Nat) = 9999 + 1 from rfl, run_equalIn_struct w 9999 51 _ _ u51 (by kernel_rfl)]
  have h1 := eqN' 9997 x x' hx hx' w
  have h2 := eqN' 9997 y y' hy hy' w
  have h3 : (Op.equalIn 9999 4 (.bool i) (.bool i')).run Try.prog w = .ok (i == i') w := run_equalIn_bool' w 9998 4 i i' Try.underlying4
  have a0 : (part 24 #[.int .u64 (lb x 0 : Nat), .int .u64 (lb x 1 : Nat), .int .u64 (lb x 2 : Nat), .int .u64 (lb x 3 : Nat), .int .u64 (lb y 0 : Nat), .int .u64 (lb y 1 : Nat), .int .u64 (lb y 2 : Nat), .int .u64 (lb y 3 : Nat), .bool i] 0).run Try.prog w = .ok (.agg #[.int .u64 (lb x 0 : Nat), .int .u64 (lb x 1 : Nat), .int .u64 (lb x 2 : Nat), .int .u64 (lb x 3 : Nat)]) w := part24 _ _ (by simp) w
  have a1 : (part 24 #[.int .u64 (lb x 0 : Nat), .int .u64 (lb x 1 : Nat), .int .u64 (lb x 2 : Nat), .int .u64 (lb x 3 : Nat), .int .u64 (lb y 0 : Nat), .int .u64 (lb y 1 : Nat), .int .u64 (lb y 2 : Nat), .int .u64 (lb y 3 : Nat), .bool i] 4).run Try.prog w = .ok (.agg #[.int .u64 (lb y 0 : Nat), .int .u64 (lb y 1 : Nat), .int .u64 (lb y 2 : Nat), .int .u64 (lb y 3 : Nat)]) w := part24 _ _ (by simp) w
  have a2 : (part 4 #[.int .u64 (lb x 0 : Nat), .int .u64 (lb x 1 : Nat), .int .u64 (lb x 2 : Nat), .int .u64 (lb x 3 : Nat), .int .u64 (lb y 0 : Nat), .int .u64 (lb y 1 : Nat), .int .u64 (lb y 2 : Nat), .int .u64 (lb y 3 : Nat), .bool i] 8).run Try.prog w = .ok (.bool i) w := by
    have : #[.int .u64 (lb x 0 : Nat), .int .u64 (lb x 1 : Nat), .int .u64 (lb x 2 : Nat), .int .u64 (lb x 3 : Nat), .int .u64 (lb y 0 : Nat), .int .u64 (lb y 1 : Nat), .int .u64 (lb y 2 : Nat), .int .u64 (lb y 3 : Nat), .bool i][8]? = some (Value.bool i) := rfl
    simp [part, go_sem, Try.underlying4, Try.isAgg4, Try.sizeOf4]
  have b0 : (part 24 #[.int .u64 (lb x' 0 : Nat), .int .u64 (lb x' 1 : Nat), .int .u64 (lb x' 2 : Nat), .int .u64 (lb x' 3 : Nat), .int .u64 (lb y' 0 : Nat), .int .u64 (lb y' 1 : Nat), .int .u64 (lb y' 2 : Nat), .int .u64 (lb y' 3 : Nat), .bool i'] 0).run Try.prog w = .ok (.agg #[.int .u64 (lb x' 0 : Nat), .int .u64 (lb x' 1 : Nat), .int .u64 (lb x' 2 : Nat), .int .u64 (lb x' 3 : Nat)]) w := part24 _ _ (by simp) w
  have b1 : (part 24 #[.int .u64 (lb x' 0 : Nat), .int .u64 (lb x' 1 : Nat), .int .u64 (lb x' 2 : Nat), .int .u64 (lb x' 3 : Nat), .int .u64 (lb y' 0 : Nat), .int .u64 (lb y' 1 : Nat), .int .u64 (lb y' 2 : Nat), .int .u64 (lb y' 3 : Nat), .bool i'] 4).run Try.prog w = .ok (.agg #[.int .u64 (lb y' 0 : Nat), .int .u64 (lb y' 1 : Nat), .int .u64 (lb y' 2 : Nat), .int .u64 (lb y' 3 : Nat)]) w := part24 _ _ (by simp) w
  have b2 : (part 4 #[.int .u64 (lb x' 0 : Nat), .int .u64 (lb x' 1 : Nat), .int .u64 (lb x' 2 : Nat), .int .u64 (lb x' 3 : Nat), .int .u64 (lb y' 0 : Nat), .int .u64 (lb y' 1 : Nat), .int .u64 (lb y' 2 : Nat), .int .u64 (lb y' 3 : Nat), .bool i'] 8).run Try.prog w = .ok (.bool i') w := by
    have : #[.int .u64 (lb x' 0 : Nat), .int .u64 (lb x' 1 : Nat), .int .u64 (lb x' 2 : Nat), .int .u64 (lb x' 3 : Nat), .int .u64 (lb y' 0 : Nat), .int .u64 (lb y' 1 : Nat), .int .u64 (lb y' 2 : Nat), .int .u64 (lb y' 3 : Nat), .bool i'][8]? = some (Value.bool i') := rfl
    simp [part, go_sem, Try.underlying4, Try.isAgg4, Try.sizeOf4]
  have f1 : ("X" ≠ "_") = True := by simp
  have f2 : ("Y" ≠ "_") = True := by simp
  have f3 : ("Inf" ≠ "_") = True := by simp
  simp only [Program.fieldsOf, Try.underlying51, Op.eqFields, f1, f2, f3, if_true, Sem.run_bind, a0, b0, Result.andThen_ok, h1]
  rw [show decide (x = x' ∧ y = y' ∧ i = i') = (decide (x = x') && (decide (y = y') && (i == i'))) from by rw [Bool.decide_and, Bool.decide_and]; cases i <;> cases i' <;> rfl]
  clear a0 b0 h1
  generalize decide (x = x') = c1
  generalize decide (y = y') = c2 at h2 ⊢
  generalize (i == i') = c3 at h3 ⊢
  cases c1 <;> cases c2 <;> cases c3 <;> simp only [Bool.and_true, Bool.and_false, Bool.true_and, Bool.false_and, a1, a2, b1, b2, h2, h3, decide_true, decide_false, Bool.not_true, Bool.not_false, Bool.false_eq_true, if_true, if_false, Sem.run_bind, Sem.run_pure, Result.andThen_ok, and_true, and_false, true_and, false_and]
end Go.Proofs.Ytglmmodkflkkkaa
