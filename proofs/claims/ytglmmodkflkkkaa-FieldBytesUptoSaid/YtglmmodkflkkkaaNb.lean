/- Sums and differences of numbers of four limbs. No condition but that each limb is one. -/
import Derived.Test.YtglmmodkflkkkaaProg
import Derived.Test.YtglmmodkflkkkaaNa
import Derived.WalkKit
import Derived.WalkSpells
import Derived.WalkLawsBesides
import Derived.BigCall
import Derived.BigRegion
import Derived.Outline
import Derived.KernelRfl
import Derived.Lib.Walk
import Derived.Lib.QuietBelow
import Derived.BigQuiet
import Derived.Laws.Externs
import Derived.RegionTactic
import Derived.LoopN
import Derived.Lib.Hide
import Derived.Handy
import Derived.Shelf.Spec.BitsCarry
set_option linter.unusedVariables false
set_option linter.unusedSimpArgs false
set_option maxRecDepth 100000
namespace Go.Proofs.Ytglmmodkflkkkaa
open Go.RowKit Limbs

theorem add64 (x y c : Nat) (hc : c ≤ 1) (hx : x < 18446744073709551616) (hy : y < 18446744073709551616) : ∃ s c' : Nat, s < 18446744073709551616 ∧ c' ≤ 1 ∧ s + 18446744073709551616 * c' = x + y + c ∧
    ∀ w, (callFunc 87 #[.int .u64 (x : Int), .int .u64 (y : Int), .int .u64 (c : Int)]).run Try.prog w = .ok (.value (.tuple #[.int .u64 (s : Int), .int .u64 (c' : Int)])) w := by
  refine ⟨(x + y + c) % 18446744073709551616, (x + y + c) / 18446744073709551616, by omega, by omega, by omega, fun w => ?_⟩
  rw [run_callFunc_extern Try.func87 (by kernel_rfl) (by kernel_rfl) (by kernel_rfl) (e := add64Entry) (by kernel_rfl), run_add64 x y c (by omega) (by omega) (by omega) (by omega)]
  simp only [Result.andThen]
  congr 5 <;> omega
theorem sub64 (x y b : Nat) (hb : b ≤ 1) (hx : x < 18446744073709551616) (hy : y < 18446744073709551616) : ∃ d b' : Nat, d < 18446744073709551616 ∧ b' ≤ 1 ∧ d + y + b = x + 18446744073709551616 * b' ∧
    ∀ w, (callFunc 88 #[.int .u64 (x : Int), .int .u64 (y : Int), .int .u64 (b : Int)]).run Try.prog w = .ok (.value (.tuple #[.int .u64 (d : Int), .int .u64 (b' : Int)])) w := by
  refine ⟨(x + 18446744073709551616 - y - b) % 18446744073709551616, if x < y + b then 1 else 0, by omega, by split <;> omega, by split <;> omega, fun w => ?_⟩
  rw [run_callFunc_extern Try.func88 (by kernel_rfl) (by kernel_rfl) (by kernel_rfl) (e := sub64Entry) (by kernel_rfl), run_sub64 x y b hb]
  rfl

def num (a b c d : Nat) : Value := .agg #[.int .u64 (a : Int), .int .u64 (b : Int), .int .u64 (c : Int), .int .u64 (d : Int)]
set_option maxHeartbeats 4000000 in
theorem plus_any {a0 a1 a2 a3 b0 b1 b2 b3 : Nat} (ha0 : a0 < 18446744073709551616) (ha1 : a1 < 18446744073709551616) (ha2 : a2 < 18446744073709551616) (ha3 : a3 < 18446744073709551616)
    (hb0 : b0 < 18446744073709551616) (hb1 : b1 < 18446744073709551616) (hb2 : b2 < 18446744073709551616) (hb3 : b3 < 18446744073709551616) (w : World) :
    Calls Try.prog 54 #[num a0 a1 a2 a3, num b0 b1 b2 b3] w fun e w' => (∃ s0 s1 s2 s3 c : Nat, s0 < 18446744073709551616 ∧ s1 < 18446744073709551616 ∧ s2 < 18446744073709551616 ∧ s3 < 18446744073709551616 ∧ c ≤ 1 ∧ v4 s0 s1 s2 s3 + W256 * c = v4 a0 a1 a2 a3 + v4 b0 b1 b2 b3 ∧ e = .returned (.tuple #[num s0 s1 s2 s3, .int .u64 (c : Int)])) ∧ Below w.heap.size w w' := by
  obtain ⟨s0, c0, hs0, hc0, e0, k0⟩ := add64 a0 b0 0 (by omega) ha0 hb0
  obtain ⟨s1, c1, hs1, hc1, e1, k1⟩ := add64 a1 b1 c0 hc0 ha1 hb1
  obtain ⟨s2, c2, hs2, hc2, e2, k2⟩ := add64 a2 b2 c1 hc1 ha2 hb2
  obtain ⟨s3, c3, hs3, hc3, e3, k3⟩ := add64 a3 b3 c2 hc2 ha3 hb3
  rw [show ((0 : Nat) : Int) = 0 from rfl] at k0
  have HF : Hid (v4 s0 s1 s2 s3 + W256 * c3 = v4 a0 a1 a2 a3 + v4 b0 b1 b2 b3) := Lib.hid (by unfold v4 W256; omega)
  have HB := Lib.hid (And.intro hs0 (And.intro hs1 (And.intro hs2 (And.intro hs3 hc3))))
  clear hs0 hs1 hs2 hs3 hc0 hc1 hc2 hc3 e0 e1 e2 e3 ha0 ha1 ha2 ha3 hb0 hb1 hb2 hb3
  unfold num
  go_enter Try.func54, Try.ntmps54
  go_wp2_with fail
  refine wp_loop_rounds 5 ?_
  iterate 4 (rw [rounds_succ]; go_wp2_with fail; go_region; go_wp2_with fail)
  rw [rounds_succ]
  go_wp2_with fail
  go_returns
  refine ⟨⟨s0, s1, s2, s3, c3, HB.out.1, HB.out.2.1, HB.out.2.2.1, HB.out.2.2.2.1, HB.out.2.2.2.2, HF.out, rfl⟩, ?_⟩
  go_grown
set_option maxHeartbeats 4000000 in
theorem minus_any {a0 a1 a2 a3 b0 b1 b2 b3 : Nat} (ha0 : a0 < 18446744073709551616) (ha1 : a1 < 18446744073709551616) (ha2 : a2 < 18446744073709551616) (ha3 : a3 < 18446744073709551616)
    (hb0 : b0 < 18446744073709551616) (hb1 : b1 < 18446744073709551616) (hb2 : b2 < 18446744073709551616) (hb3 : b3 < 18446744073709551616) (w : World) :
    Calls Try.prog 56 #[num a0 a1 a2 a3, num b0 b1 b2 b3] w fun e w' => (∃ s0 s1 s2 s3 c : Nat, s0 < 18446744073709551616 ∧ s1 < 18446744073709551616 ∧ s2 < 18446744073709551616 ∧ s3 < 18446744073709551616 ∧ c ≤ 1 ∧ v4 s0 s1 s2 s3 + v4 b0 b1 b2 b3 = v4 a0 a1 a2 a3 + W256 * c ∧ e = .returned (.tuple #[num s0 s1 s2 s3, .int .u64 (c : Int)])) ∧ Below w.heap.size w w' := by
  obtain ⟨s0, c0, hs0, hc0, e0, k0⟩ := sub64 a0 b0 0 (by omega) ha0 hb0
  obtain ⟨s1, c1, hs1, hc1, e1, k1⟩ := sub64 a1 b1 c0 hc0 ha1 hb1
  obtain ⟨s2, c2, hs2, hc2, e2, k2⟩ := sub64 a2 b2 c1 hc1 ha2 hb2
  obtain ⟨s3, c3, hs3, hc3, e3, k3⟩ := sub64 a3 b3 c2 hc2 ha3 hb3
  rw [show ((0 : Nat) : Int) = 0 from rfl] at k0
  have HF : Hid (v4 s0 s1 s2 s3 + v4 b0 b1 b2 b3 = v4 a0 a1 a2 a3 + W256 * c3) := Lib.hid (by unfold v4 W256; omega)
  have HB := Lib.hid (And.intro hs0 (And.intro hs1 (And.intro hs2 (And.intro hs3 hc3))))
  clear hs0 hs1 hs2 hs3 hc0 hc1 hc2 hc3 e0 e1 e2 e3 ha0 ha1 ha2 ha3 hb0 hb1 hb2 hb3
  unfold num
  go_enter Try.func56, Try.ntmps56
  go_wp2_with fail
  refine wp_loop_rounds 5 ?_
  iterate 4 (rw [rounds_succ]; go_wp2_with fail; go_region; go_wp2_with fail)
  rw [rounds_succ]
  go_wp2_with fail
  go_returns
  refine ⟨⟨s0, s1, s2, s3, c3, HB.out.1, HB.out.2.1, HB.out.2.2.1, HB.out.2.2.2.1, HB.out.2.2.2.2, HF.out, rfl⟩, ?_⟩
  go_grown

/-- a number below 2 to the 256 as a value -/
def nv (x : Nat) : Value := num (lb x 0) (lb x 1) (lb x 2) (lb x 3)
theorem nv_v4 {a b c d : Nat} (ha : a < 18446744073709551616) (hb : b < 18446744073709551616) (hc : c < 18446744073709551616) (hd : d < 18446744073709551616) : num a b c d = nv (v4 a b c d) := by
  obtain ⟨e0, e1, e2, e3⟩ := lb_v4 ha hb hc hd
  unfold nv
  rw [e0, e1, e2, e3]
theorem plus_nv (a b : Nat) (ha : a < W256) (hb : b < W256) (w : World) :
    Calls Try.prog 54 #[nv a, nv b] w fun e w' => e = .returned (.tuple #[nv ((a + b) % W256), .int .u64 (((a + b) / W256 : Nat) : Int)]) ∧ Below w.heap.size w w' := by
  refine (plus_any (lb_lt a 0) (lb_lt a 1) (lb_lt a 2) (lb_lt a 3) (lb_lt b 0) (lb_lt b 1) (lb_lt b 2) (lb_lt b 3) w).mono ?_
  rintro e w' ⟨⟨s0, s1, s2, s3, c, h0, h1, h2, h3, hc, he, rfl⟩, hb'⟩
  refine ⟨?_, hb'⟩
  rw [v4_lb ha, v4_lb hb] at he
  have hl := v4_lt h0 h1 h2 h3
  rw [nv_v4 h0 h1 h2 h3]
  have e1 : (a + b) % W256 = v4 s0 s1 s2 s3 := by rw [← he, Nat.add_mul_mod_self_left, Nat.mod_eq_of_lt hl]
  have e2 : (a + b) / W256 = c := by rw [← he, Nat.add_mul_div_left _ _ (Nat.lt_of_le_of_lt (Nat.zero_le _) hl), Nat.div_eq_of_lt hl, Nat.zero_add]
  rw [e1, e2]
theorem minus_nv (a b : Nat) (ha : a < W256) (hb : b < W256) (w : World) :
    Calls Try.prog 56 #[nv a, nv b] w fun e w' => (∃ d c : Nat, d < W256 ∧ c ≤ 1 ∧ d + b = a + W256 * c ∧ e = .returned (.tuple #[nv d, .int .u64 (c : Int)])) ∧ Below w.heap.size w w' := by
  refine (minus_any (lb_lt a 0) (lb_lt a 1) (lb_lt a 2) (lb_lt a 3) (lb_lt b 0) (lb_lt b 1) (lb_lt b 2) (lb_lt b 3) w).mono ?_
  rintro e w' ⟨⟨s0, s1, s2, s3, c, h0, h1, h2, h3, hc, he, rfl⟩, hb'⟩
  rw [v4_lb ha, v4_lb hb] at he
  exact ⟨⟨v4 s0 s1 s2 s3, c, v4_lt h0 h1 h2 h3, hc, he, by rw [nv_v4 h0 h1 h2 h3]⟩, hb'⟩
end Go.Proofs.Ytglmmodkflkkkaa
