/- A limb times a limb, and two more. No condition but that each is a limb. -/
import Derived.Test.YtglmmodkflkkkaaNc
import Derived.Test.YtglmmodkflkkkaaShelf
set_option linter.unusedVariables false
set_option linter.unusedSimpArgs false
set_option maxRecDepth 100000
namespace Go.Proofs.Ytglmmodkflkkkaa
open Go.RowKit Limbs

set_option maxHeartbeats 4000000 in
theorem times_any {a b c d : Nat} (ha : a < 18446744073709551616) (hb : b < 18446744073709551616) (hc : c < 18446744073709551616) (hd : d < 18446744073709551616) (w : World) :
    Calls Try.prog 89 #[.int .u64 (a : Int), .int .u64 (b : Int), .int .u64 (c : Int), .int .u64 (d : Int)] w fun e w' => (∃ l h : Nat, l < 18446744073709551616 ∧ h < 18446744073709551616 ∧ l + 18446744073709551616 * h = a * b + c + d ∧ e = .returned (.tuple #[.int .u64 (l : Int), .int .u64 (h : Int)])) ∧ w' = w := by
  have hm := Lib.hid (Try.bits_Mul64 a b ha hb)
  have hP : a * b ≤ 18446744073709551615 * 18446744073709551615 := Nat.mul_le_mul (by omega) (by omega)
  generalize a * b = P at *
  have hL : P % 18446744073709551616 < 18446744073709551616 := by omega
  have hPE : P % 18446744073709551616 + 18446744073709551616 * (P / 18446744073709551616) = P := by omega
  generalize P % 18446744073709551616 = L at *
  generalize P / 18446744073709551616 = H at *
  obtain ⟨s0, c0, hs0, hc0, e0, k0⟩ := add64 L c 0 (by omega) hL hc
  obtain ⟨s1, c1, hs1, hc1, e1, k1⟩ := add64 s0 d 0 (by omega) hs0 hd
  rw [show ((0 : Nat) : Int) = 0 from rfl] at k0 k1
  have HF : Hid (s1 < 18446744073709551616 ∧ H + c0 + c1 < 18446744073709551616 ∧ s1 + 18446744073709551616 * (H + c0 + c1) = P + c + d) := Lib.hid ⟨hs1, by omega, by omega⟩
  have w1 : IntKind.u64.wrap ((H : Int) + c0) = ((H + c0 : Nat) : Int) := by rw [IntKind.wrap_u64]; omega
  have w2 : IntKind.u64.wrap (((H + c0 : Nat) : Int) + c1) = ((H + c0 + c1 : Nat) : Int) := by rw [IntKind.wrap_u64]; omega
  generalize hx : H + c0 = X at *
  generalize hy : X + c1 = Y at *
  clear hs0 hc0 hs1 hc1 e0 e1 hL hPE hP ha hb hc hd hx hy
  go_enter Try.func89, Try.ntmps89
  go_wp2_with fail
  refine (hm.out _).mono ?_
  rintro e w' ⟨rfl, rfl⟩
  go_wp2_with fail
  go_ret2
  exact ⟨⟨s1, Y, HF.out.1, HF.out.2.1, HF.out.2.2, rfl⟩, rfl⟩
end Go.Proofs.Ytglmmodkflkkkaa
