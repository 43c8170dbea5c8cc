/- What is left of a number with one limb more behind it, divided by a modulus. Condition: the number is below the modulus. -/
import Derived.Test.YtglmmodkflkkkaaNf
set_option linter.unusedVariables false
set_option linter.unusedSimpArgs false
set_option maxRecDepth 100000
namespace Go.Proofs.Ytglmmodkflkkkaa
open Go.RowKit Limbs

theorem cs4_v4 {a b c d : Nat} (ha : a < 18446744073709551616) (hb : b < 18446744073709551616) (hc : c < 18446744073709551616) (hd : d < 18446744073709551616) : cs4 (v4 a b c d) = #[.int .u64 (a : Int), .int .u64 (b : Int), .int .u64 (c : Int), .int .u64 (d : Int)] := by
  obtain ⟨e0, e1, e2, e3⟩ := lb_v4 ha hb hc hd
  unfold cs4
  rw [e0, e1, e2, e3]
/-- a product by a number of four limbs, limb by limb -/
theorem mul_v4 (q a b c d : Nat) : q * v4 a b c d = q * a + 18446744073709551616 * (q * b + 18446744073709551616 * (q * c + 18446744073709551616 * (q * d))) := by
  unfold v4
  simp only [Nat.mul_add, Nat.mul_left_comm]
/-- what the limbs hold behind the subtraction: what is left, or that much less than 2 to the 320 -/
theorem behind_arith {X M q D hi k3 b3 N r3 low : Nat} (hM : 0 < M) (hq1 : X / M ≤ q) (hq2 : q ≤ X / M + 2) (hM2 : W256 < 2 * M) (hMW : M < W256)
    (hN : N + W256 * k3 = q * M) (hD : D < W256) (hb3 : b3 ≤ 1) (hlow : D + N = low + W256 * b3) (hX : X = low + W256 * r3) (hr3 : r3 < 18446744073709551616) (hk3 : k3 < 18446744073709551616) (hhi : hi < 18446744073709551616)
    (hh : ∃ z : Nat, hi + k3 + b3 = r3 + 18446744073709551616 * z) :
    (q = X / M ∧ hi = 0 ∧ D = X % M) ∨ (q = X / M + 1 ∧ D + M = W256 + X % M ∧ hi = 18446744073709551615) ∨ (q = X / M + 2 ∧ D + W256 * hi + 2 * M = W256 * 18446744073709551616 + X % M) := by
  have hdm := Nat.div_add_mod X M
  have hlt := Nat.mod_lt X hM
  obtain ⟨t, ht, ht2⟩ : ∃ t, q = X / M + t ∧ t ≤ 2 := ⟨q - X / M, by omega, by omega⟩
  have hqM : q * M = M * (X / M) + t * M := by rw [ht, Nat.add_mul, Nat.mul_comm]
  obtain ⟨z, hz⟩ := hh
  generalize X / M = Q at *
  generalize X % M = Y at *
  generalize M * Q = MQ at *
  generalize q * M = QM at *
  have h3 : t = 0 ∨ t = 1 ∨ t = 2 := by omega
  unfold W256 at *
  rcases h3 with rfl | rfl | rfl
  · left
    omega
  · right; left
    omega
  · right; right
    omega
end Go.Proofs.Ytglmmodkflkkkaa
