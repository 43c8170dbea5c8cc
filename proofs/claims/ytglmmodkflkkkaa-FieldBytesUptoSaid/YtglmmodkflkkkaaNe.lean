/- How often the highest limb of a modulus goes into two limbs. Condition: the modulus is one of the two. -/
import Derived.Test.YtglmmodkflkkkaaNd
set_option linter.unusedVariables false
set_option linter.unusedSimpArgs false
set_option maxRecDepth 100000
namespace Go.Proofs.Ytglmmodkflkkkaa
open Go.RowKit Limbs

set_option maxHeartbeats 4000000 in
theorem lz_P (w : World) : Calls Try.prog 97 #[.int .u64 18446744069414584321] w fun e w' => e = .returned (.int .i64 0) ∧ w' = w := by
  go_enter Try.func97, Try.ntmps97
  go_wp2_with fail
  refine (show Calls Try.prog 98 #[.int .u64 18446744069414584321] w fun e w' => e = .returned (.int .i64 64) ∧ w' = w from ?_).mono ?_
  · go_enter Try.func98, Try.ntmps98
    go_wp2_with fail
    go_ret
    exact ⟨by kernel_rfl, rfl⟩
  rintro e w' ⟨rfl, rfl⟩
  go_wp2_with fail
  go_ret
  exact ⟨rfl, rfl⟩
set_option maxHeartbeats 4000000 in
theorem lz_N (w : World) : Calls Try.prog 97 #[.int .u64 18446744069414584320] w fun e w' => e = .returned (.int .i64 0) ∧ w' = w := by
  go_enter Try.func97, Try.ntmps97
  go_wp2_with fail
  refine (show Calls Try.prog 98 #[.int .u64 18446744069414584320] w fun e w' => e = .returned (.int .i64 64) ∧ w' = w from ?_).mono ?_
  · go_enter Try.func98, Try.ntmps98
    go_wp2_with fail
    go_ret
    exact ⟨by kernel_rfl, rfl⟩
  rintro e w' ⟨rfl, rfl⟩
  go_wp2_with fail
  go_ret
  exact ⟨rfl, rfl⟩

/-- half of the long division, by a divisor of two halves, the higher one all ones: the lower one 1 -/
theorem half_P (x u : Nat) (hx : x < 18446744069414584321) (hu : u < 4294967296) :
    (¬ 4294967296 ≤ x / 4294967295 → ¬ 4294967296 * (x % 4294967295) + u < x / 4294967295 → (x * 4294967296 + u) / 18446744069414584321 = x / 4294967295) ∧ (4294967296 ≤ x / 4294967295 ∨ 4294967296 * (x % 4294967295) + u < x / 4294967295 → x % 4294967295 = 0 ∧ u < x / 4294967295 ∧ (x * 4294967296 + u) / 18446744069414584321 = x / 4294967295 - 1) := by
  have ex : x = 4294967295 * (x / 4294967295) + x % 4294967295 := (Nat.div_add_mod x 4294967295).symm
  have hr : x % 4294967295 < 4294967295 := Nat.mod_lt _ (by decide)
  generalize x / 4294967295 = q at *
  generalize x % 4294967295 = r at *
  subst ex
  refine ⟨fun h1 h2 => ?_, fun h => ⟨by omega, by omega, ?_⟩⟩
  · rw [Nat.div_eq_iff (by decide)]; omega
  · rw [Nat.div_eq_iff (by decide)]; omega
theorem long_div (h l D : Nat) (hD : 0 < D) : (h * 18446744073709551616 + l) / D = (h * 4294967296 + l / 4294967296) / D * 4294967296 + ((h * 4294967296 + l / 4294967296) % D * 4294967296 + l % 4294967296) / D := by
  have e : h * 18446744073709551616 + l = ((h * 4294967296 + l / 4294967296) % D * 4294967296 + l % 4294967296) + (h * 4294967296 + l / 4294967296) / D * 4294967296 * D := by
    have e1 := Nat.div_add_mod (h * 4294967296 + l / 4294967296) D
    have e2 : (h * 4294967296 + l / 4294967296) / D * 4294967296 * D = D * ((h * 4294967296 + l / 4294967296) / D) * 4294967296 := by rw [Nat.mul_right_comm, Nat.mul_comm ((h * 4294967296 + l / 4294967296) / D) D]
    rw [e2]
    generalize D * ((h * 4294967296 + l / 4294967296) / D) = A at *
    generalize (h * 4294967296 + l / 4294967296) % D = C at *
    omega
  conv => lhs; rw [e]
  rw [Nat.add_mul_div_right _ _ hD, Nat.add_comm]
theorem half_N (x u : Nat) (hx : x < 18446744069414584320) (hu : u < 4294967296) : x / 4294967295 < 4294967296 ∧ (x * 4294967296 + u) / 18446744069414584320 = x / 4294967295 := by
  have ex : x = 4294967295 * (x / 4294967295) + x % 4294967295 := (Nat.div_add_mod x 4294967295).symm
  have hr : x % 4294967295 < 4294967295 := Nat.mod_lt _ (by decide)
  generalize x / 4294967295 = q at *
  generalize x % 4294967295 = r at *
  subst ex
  refine ⟨by omega, ?_⟩
  rw [Nat.div_eq_iff (by decide)]; omega
theorem and_one : bits .and .u64 18446744069414584321 4294967295 = 1 := by decide +kernel
theorem and_nil : bits .and .u64 18446744069414584320 4294967295 = 0 := by decide +kernel
theorem or_nil (h : Nat) (hh : h < 18446744073709551616) : bits .or .u64 (h : Int) 0 = (h : Int) := by
  have := bits_or_u64_nat h 0 hh (by decide)
  simpa using this

set_option maxHeartbeats 8000000 in
theorem div_P (h l : Nat) (hh : h < 18446744069414584321) (hl : l < 18446744073709551616) (w : World) :
    Calls Try.prog 96 #[.int .u64 (h : Int), .int .u64 (l : Int), .int .u64 18446744069414584321] w fun e w' => (∃ r : Value, e = .returned (.tuple #[.int .u64 (((h * 18446744073709551616 + l) / 18446744069414584321 : Nat) : Int), r])) ∧ Below w.heap.size w w' := by
  by_cases h0 : h = 0
  · subst h0
    go_enter Try.func96, Try.ntmps96
    go_wp2_with fail
    go_region
    go_wp2_with fail
    go_ret2
    exact ⟨⟨.int .u64 ((l : Int) % 18446744069414584321), by simp⟩, by go_grown⟩
  · have t1 : ((h : Int) == 0) = false := by simp; omega
    have t2 : decide ((18446744069414584321 : Int) ≤ (h : Int)) = false := by simp; omega
    have HPH := Lib.hid (half_P h (l / 4294967296) hh (by omega))
    have HFIN := Lib.hid (long_div h l 18446744069414584321 (by decide))
    have hX : (h * 4294967296 + l / 4294967296) % 18446744069414584321 < 18446744069414584321 := Nat.mod_lt _ (by decide)
    have HXE := Lib.hid (Nat.div_add_mod' (h * 4294967296 + l / 4294967296) 18446744069414584321).symm
    obtain ⟨u1, hu1⟩ : ∃ u, u = l / 4294967296 := ⟨_, rfl⟩
    obtain ⟨u0, hu0⟩ : ∃ u, u = l % 4294967296 := ⟨_, rfl⟩
    obtain ⟨q, hq⟩ : ∃ u, u = h / 4294967295 := ⟨_, rfl⟩
    obtain ⟨r, hr⟩ : ∃ u, u = h % 4294967295 := ⟨_, rfl⟩
    obtain ⟨M, hM⟩ : ∃ u, u = q * 4294967295 := ⟨_, rfl⟩
    rw [← hu1, ← hu0] at HFIN
    rw [← hu1] at HPH HXE hX
    rw [← hq, ← hr] at HPH
    have a1 : IntKind.u64.wrap (h : Int) = (h : Int) := by rw [IntKind.wrap_u64]; omega
    have a2 : (l : Int) / 18446744073709551616 = 0 := by omega
    have a4 : IntKind.u64.wrap (l : Int) = (l : Int) := by rw [IntKind.wrap_u64]; omega
    have a5 : (l : Int) / 4294967296 = (u1 : Int) := by omega
    have a8 : (h : Int).tdiv 4294967295 = (q : Int) := by rw [Int.tdiv_eq_ediv_of_nonneg (by omega)]; omega
    have a9 : IntKind.u64.wrap (q : Int) = (q : Int) := by rw [IntKind.wrap_u64]; omega
    have a10 : IntKind.u64.wrap ((q : Int) * 4294967295) = (M : Int) := by rw [IntKind.wrap_u64]; omega
    have a11 : IntKind.u64.wrap ((h : Int) - (M : Int)) = (r : Int) := by rw [IntKind.wrap_u64]; omega
    have a3 := or_nil h (by omega)
    have a6 : bits .and .u64 (l : Int) 4294967295 = (u0 : Int) := by rw [Mul64.maskN l hl, ← hu0]
    have a7 := and_one
    have HU : Hid (u1 < 4294967296 ∧ u0 < 4294967296 ∧ r < 4294967295 ∧ q ≤ 4294967296 ∧ h = q * 4294967295 + r ∧ h < 18446744069414584321) := Lib.hid ⟨by omega, by omega, by omega, by omega, by omega, hh⟩
    have HX := Lib.hid hX
    obtain ⟨FF, hFF⟩ : ∃ z, z = (h * 18446744073709551616 + l) / 18446744069414584321 := ⟨_, rfl⟩
    rw [← hFF]
    have HFF := Lib.hid hFF
    clear hFF
    clear hh hl h0 hu1 hu0 hq hr hM hX
    go_enter Try.func96, Try.ntmps96
    go_wp2_with fail
    refine (lz_P w).mono ?_
    rintro e w' ⟨rfl, rfl⟩
    go_wp2_with fail
    obtain ⟨g1, g2, g3, g4, g5, g6⟩ := HU.out
    obtain ⟨Q1, hQ1⟩ : ∃ z, z = (h * 4294967296 + u1) / 18446744069414584321 := ⟨_, rfl⟩
    obtain ⟨X, hX⟩ : ∃ z, z = (h * 4294967296 + u1) % 18446744069414584321 := ⟨_, rfl⟩
    have k1 := HXE.out
    have k2 := HX.out
    have k3 := HPH.out
    have k4 := HFIN.out
    rw [← hQ1, ← hX] at k1 k4
    rw [← hX] at k2
    rw [← hQ1] at k3
    have HP1 := Lib.hid k3
    have HP2 := Lib.hid (half_P X u0 k2 g2)
    obtain ⟨q2, hq2⟩ : ∃ z, z = X / 4294967295 := ⟨_, rfl⟩
    obtain ⟨r2, hr2⟩ : ∃ z, z = X % 4294967295 := ⟨_, rfl⟩
    obtain ⟨Q0, hQ0⟩ : ∃ z, z = (X * 4294967296 + u0) / 18446744069414584321 := ⟨_, rfl⟩
    rw [← hq2, ← hr2, ← hQ0] at HP2
    rw [← hQ0] at k4
    have g7 : r2 < 4294967295 := by omega
    have g8 : q2 ≤ 4294967296 := by omega
    have g9 : X = q2 * 4294967295 + r2 := by omega
    have g10 : Q0 < 4294967296 := by rw [hQ0]; exact (Nat.div_lt_iff_lt_mul (by decide)).2 (by omega)
    have g11 : Q1 < 4294967296 := by rw [hQ1]; exact (Nat.div_lt_iff_lt_mul (by decide)).2 (by omega)
    have HK4 := Lib.hid k4
    clear k3 k4 hQ1 hX hQ0 hq2 hr2 HPH HXE HX HFIN HU a1 a2 a3 a4 a5 a6 a7 a8 a9 a10 a11 t1 t2
    have HG := Lib.hid (And.intro g1 (And.intro g2 (And.intro g3 (And.intro g4 (And.intro g5 (And.intro g6 (And.intro g7 (And.intro g8 (And.intro g9 (And.intro g10 (And.intro g11 (And.intro k1 k2))))))))))))
    clear g1 g2 g3 g4 g5 g6 g7 g8 g9 g10 g11 k1 k2
    by_cases c1 : 4294967296 ≤ q
    · obtain ⟨g1, g2, g3, g4, g5, g6, g7, g8, g9, g10, g11, k1, k2⟩ := HG.out
      obtain ⟨hr0, hlt, hQ⟩ := HP1.out.2 (.inl c1)
      obtain ⟨R3, hR3⟩ : ∃ z, z = 18446744069414584320 + u1 := ⟨_, rfl⟩
      have b1 : IntKind.u64.wrap ((q : Int) - 1) = (Q1 : Int) := by rw [IntKind.wrap_u64]; omega
      have b2 : IntKind.u64.wrap ((r : Int) + 4294967295) = 4294967295 := by rw [IntKind.wrap_u64]; omega
      have b3 : decide ((4294967296 : Int) ≤ (q : Int)) = true := by simp; omega
      have b4 : IntKind.u64.wrap ((18446744069414584320 : Int) + (u1 : Int)) = (R3 : Int) := by rw [IntKind.wrap_u64]; omega
      have b5 : decide ((4294967296 : Int) ≤ (Q1 : Int)) = false := by simp; omega
      have b6 : decide (R3 < Q1) = false := by simp; omega
      have b7 : IntKind.u64.wrap (Q1 : Int) = (Q1 : Int) := by rw [IntKind.wrap_u64]; omega
      clear hR3
      refine wp_loop_rounds 2 ?_
      rw [rounds_succ]
      obtain ⟨H1, hH1⟩ : ∃ z, z = h * 4294967296 % 18446744073709551616 := ⟨_, rfl⟩
      obtain ⟨H2, hH2⟩ : ∃ z, z = (H1 + u1) % 18446744073709551616 := ⟨_, rfl⟩
      obtain ⟨H3, hH3⟩ : ∃ z, z = Q1 * 18446744069414584321 % 18446744073709551616 := ⟨_, rfl⟩
      obtain ⟨M2, hM2⟩ : ∃ z, z = q2 * 4294967295 := ⟨_, rfl⟩
      have d1 : IntKind.u64.wrap ((h : Int) * 4294967296) = (H1 : Int) := by rw [IntKind.wrap_u64]; omega
      have d2 : IntKind.u64.wrap ((H1 : Int) + (u1 : Int)) = (H2 : Int) := by rw [IntKind.wrap_u64]; omega
      have d3 : IntKind.u64.wrap ((Q1 : Int) * 18446744069414584321) = (H3 : Int) := by rw [IntKind.wrap_u64]; omega
      have d4 : IntKind.u64.wrap ((H2 : Int) - (H3 : Int)) = (X : Int) := by rw [IntKind.wrap_u64]; omega
      have d5 : (X : Int).tdiv 4294967295 = (q2 : Int) := by rw [Int.tdiv_eq_ediv_of_nonneg (by omega)]; omega
      have d6 : IntKind.u64.wrap ((q2 : Int)) = (q2 : Int) := by rw [IntKind.wrap_u64]; omega
      have d7 : IntKind.u64.wrap ((q2 : Int) * 4294967295) = (M2 : Int) := by rw [IntKind.wrap_u64]; omega
      have d8 : IntKind.u64.wrap ((X : Int) - (M2 : Int)) = (r2 : Int) := by rw [IntKind.wrap_u64]; omega
      clear hH1 hH2 hH3 hM2
      clear c1 g1 g2 g3 g4 g5 g6 g7 g8 g9 g10 g11 k1 k2 hr0 hlt hQ
      go_wp2_with fail
      rw [rounds_succ]
      go_wp2_with fail
      clear b1 b2 b3 b4 b5 b6 b7 d1 d2 d3 d4 d5 d6 d7 d8
      by_cases c1 : 4294967296 ≤ q2
      · obtain ⟨g1, g2, g3, g4, g5, g6, g7, g8, g9, g10, g11, k1, k2⟩ := HG.out
        obtain ⟨hr0, hlt, hQ⟩ := HP2.out.2 (.inl c1)
        obtain ⟨R3, hR3⟩ : ∃ z, z = 18446744069414584320 + u0 := ⟨_, rfl⟩
        have b1 : IntKind.u64.wrap ((q2 : Int) - 1) = (Q0 : Int) := by rw [IntKind.wrap_u64]; omega
        have b2 : IntKind.u64.wrap ((r2 : Int) + 4294967295) = 4294967295 := by rw [IntKind.wrap_u64]; omega
        have b3 : decide ((4294967296 : Int) ≤ (q2 : Int)) = true := by simp; omega
        have b4 : IntKind.u64.wrap ((18446744069414584320 : Int) + (u0 : Int)) = (R3 : Int) := by rw [IntKind.wrap_u64]; omega
        have b5 : decide ((4294967296 : Int) ≤ (Q0 : Int)) = false := by simp; omega
        have b6 : decide (R3 < Q0) = false := by simp; omega
        have b7 : IntKind.u64.wrap (Q0 : Int) = (Q0 : Int) := by rw [IntKind.wrap_u64]; omega
        clear hR3
        refine wp_loop_rounds 2 ?_
        rw [rounds_succ]
        obtain ⟨F1, hF1⟩ : ∃ z, z = Q1 * 4294967296 := ⟨_, rfl⟩
        have d1 : IntKind.u64.wrap ((Q1 : Int) * 4294967296) = (F1 : Int) := by rw [IntKind.wrap_u64]; omega
        have d2 : IntKind.u64.wrap ((F1 : Int) + (Q0 : Int)) = ((F1 + Q0 : Nat) : Int) := by rw [IntKind.wrap_u64]; omega
        obtain ⟨F2, hF2⟩ : ∃ z, z = F1 + Q0 := ⟨_, rfl⟩
        rw [← hF2] at d2
        have HR : Hid (FF = F2) := Lib.hid (by rw [HFF.out, HK4.out, hF2, hF1])
        clear hF1 hF2
        clear c1 g1 g2 g3 g4 g5 g6 g7 g8 g9 g10 g11 k1 k2 hr0 hlt hQ
        go_wp2_with fail
        rw [rounds_succ]
        go_wp2_with fail
        go_ret2
        refine ⟨?_, by go_grown⟩
        rw [HR.out]
        exact ⟨_, rfl⟩
      · by_cases c2 : 4294967296 * r2 + u0 < q2
        · obtain ⟨g1, g2, g3, g4, g5, g6, g7, g8, g9, g10, g11, k1, k2⟩ := HG.out
          obtain ⟨hr0, hlt, hQ⟩ := HP2.out.2 (.inr c2)
          obtain ⟨R3, hR3⟩ : ∃ z, z = 18446744069414584320 + u0 := ⟨_, rfl⟩
          have b1 : IntKind.u64.wrap ((q2 : Int) - 1) = (Q0 : Int) := by rw [IntKind.wrap_u64]; omega
          have b2 : IntKind.u64.wrap ((r2 : Int) + 4294967295) = 4294967295 := by rw [IntKind.wrap_u64]; omega
          have b3 : decide ((4294967296 : Int) ≤ (q2 : Int)) = false := by simp; omega
          obtain ⟨R1, hR1⟩ : ∃ z, z = 4294967296 * r2 := ⟨_, rfl⟩
          obtain ⟨R2, hR2⟩ : ∃ z, z = R1 + u0 := ⟨_, rfl⟩
          have b8 : IntKind.u64.wrap ((4294967296 : Int) * (r2 : Int)) = (R1 : Int) := by rw [IntKind.wrap_u64]; omega
          have b9 : IntKind.u64.wrap ((R1 : Int) + (u0 : Int)) = (R2 : Int) := by rw [IntKind.wrap_u64]; omega
          have b10 : decide (R2 < q2) = true := by simp; omega
          have b11 : IntKind.u64.wrap (q2 : Int) = (q2 : Int) := by rw [IntKind.wrap_u64]; omega
          clear hR1 hR2
          have b4 : IntKind.u64.wrap ((18446744069414584320 : Int) + (u0 : Int)) = (R3 : Int) := by rw [IntKind.wrap_u64]; omega
          have b5 : decide ((4294967296 : Int) ≤ (Q0 : Int)) = false := by simp; omega
          have b6 : decide (R3 < Q0) = false := by simp; omega
          have b7 : IntKind.u64.wrap (Q0 : Int) = (Q0 : Int) := by rw [IntKind.wrap_u64]; omega
          clear hR3
          refine wp_loop_rounds 2 ?_
          rw [rounds_succ]
          obtain ⟨F1, hF1⟩ : ∃ z, z = Q1 * 4294967296 := ⟨_, rfl⟩
          have d1 : IntKind.u64.wrap ((Q1 : Int) * 4294967296) = (F1 : Int) := by rw [IntKind.wrap_u64]; omega
          have d2 : IntKind.u64.wrap ((F1 : Int) + (Q0 : Int)) = ((F1 + Q0 : Nat) : Int) := by rw [IntKind.wrap_u64]; omega
          obtain ⟨F2, hF2⟩ : ∃ z, z = F1 + Q0 := ⟨_, rfl⟩
          rw [← hF2] at d2
          have HR : Hid (FF = F2) := Lib.hid (by rw [HFF.out, HK4.out, hF2, hF1])
          clear hF1 hF2
          clear c1 g1 g2 g3 g4 g5 g6 g7 g8 g9 g10 g11 k1 k2 hr0 hlt hQ
          go_wp2_with fail
          rw [rounds_succ]
          go_wp2_with fail
          go_ret2
          refine ⟨?_, by go_grown⟩
          rw [HR.out]
          exact ⟨_, rfl⟩
        · obtain ⟨g1, g2, g3, g4, g5, g6, g7, g8, g9, g10, g11, k1, k2⟩ := HG.out
          have hQ : Q0 = q2 := HP2.out.1 c1 c2
          subst hQ
          obtain ⟨R1, hR1⟩ : ∃ z, z = 4294967296 * r2 := ⟨_, rfl⟩
          obtain ⟨R2, hR2⟩ : ∃ z, z = R1 + u0 := ⟨_, rfl⟩
          have b1 : IntKind.u64.wrap ((4294967296 : Int) * (r2 : Int)) = (R1 : Int) := by rw [IntKind.wrap_u64]; omega
          have b2 : IntKind.u64.wrap ((R1 : Int) + (u0 : Int)) = (R2 : Int) := by rw [IntKind.wrap_u64]; omega
          have b3 : decide ((4294967296 : Int) ≤ (Q0 : Int)) = false := by simp; omega
          have b4 : decide (R2 < Q0) = false := by simp; omega
          have b5 : IntKind.u64.wrap (Q0 : Int) = (Q0 : Int) := by rw [IntKind.wrap_u64]; omega
          clear hR1 hR2
          refine wp_loop_rounds 1 ?_
          rw [rounds_succ]
          obtain ⟨F1, hF1⟩ : ∃ z, z = Q1 * 4294967296 := ⟨_, rfl⟩
          have d1 : IntKind.u64.wrap ((Q1 : Int) * 4294967296) = (F1 : Int) := by rw [IntKind.wrap_u64]; omega
          have d2 : IntKind.u64.wrap ((F1 : Int) + (Q0 : Int)) = ((F1 + Q0 : Nat) : Int) := by rw [IntKind.wrap_u64]; omega
          obtain ⟨F2, hF2⟩ : ∃ z, z = F1 + Q0 := ⟨_, rfl⟩
          rw [← hF2] at d2
          have HR : Hid (FF = F2) := Lib.hid (by rw [HFF.out, HK4.out, hF2, hF1])
          clear hF1 hF2
          clear c1 g1 g2 g3 g4 g5 g6 g7 g8 g9 g10 g11 k1 k2
          go_wp2_with fail
          go_ret2
          refine ⟨?_, by go_grown⟩
          rw [HR.out]
          exact ⟨_, rfl⟩
    · by_cases c2 : 4294967296 * r + u1 < q
      · obtain ⟨g1, g2, g3, g4, g5, g6, g7, g8, g9, g10, g11, k1, k2⟩ := HG.out
        obtain ⟨hr0, hlt, hQ⟩ := HP1.out.2 (.inr c2)
        obtain ⟨R3, hR3⟩ : ∃ z, z = 18446744069414584320 + u1 := ⟨_, rfl⟩
        have b1 : IntKind.u64.wrap ((q : Int) - 1) = (Q1 : Int) := by rw [IntKind.wrap_u64]; omega
        have b2 : IntKind.u64.wrap ((r : Int) + 4294967295) = 4294967295 := by rw [IntKind.wrap_u64]; omega
        have b3 : decide ((4294967296 : Int) ≤ (q : Int)) = false := by simp; omega
        obtain ⟨R1, hR1⟩ : ∃ z, z = 4294967296 * r := ⟨_, rfl⟩
        obtain ⟨R2, hR2⟩ : ∃ z, z = R1 + u1 := ⟨_, rfl⟩
        have b8 : IntKind.u64.wrap ((4294967296 : Int) * (r : Int)) = (R1 : Int) := by rw [IntKind.wrap_u64]; omega
        have b9 : IntKind.u64.wrap ((R1 : Int) + (u1 : Int)) = (R2 : Int) := by rw [IntKind.wrap_u64]; omega
        have b10 : decide (R2 < q) = true := by simp; omega
        have b11 : IntKind.u64.wrap (q : Int) = (q : Int) := by rw [IntKind.wrap_u64]; omega
        clear hR1 hR2
        have b4 : IntKind.u64.wrap ((18446744069414584320 : Int) + (u1 : Int)) = (R3 : Int) := by rw [IntKind.wrap_u64]; omega
        have b5 : decide ((4294967296 : Int) ≤ (Q1 : Int)) = false := by simp; omega
        have b6 : decide (R3 < Q1) = false := by simp; omega
        have b7 : IntKind.u64.wrap (Q1 : Int) = (Q1 : Int) := by rw [IntKind.wrap_u64]; omega
        clear hR3
        refine wp_loop_rounds 2 ?_
        rw [rounds_succ]
        obtain ⟨H1, hH1⟩ : ∃ z, z = h * 4294967296 % 18446744073709551616 := ⟨_, rfl⟩
        obtain ⟨H2, hH2⟩ : ∃ z, z = (H1 + u1) % 18446744073709551616 := ⟨_, rfl⟩
        obtain ⟨H3, hH3⟩ : ∃ z, z = Q1 * 18446744069414584321 % 18446744073709551616 := ⟨_, rfl⟩
        obtain ⟨M2, hM2⟩ : ∃ z, z = q2 * 4294967295 := ⟨_, rfl⟩
        have d1 : IntKind.u64.wrap ((h : Int) * 4294967296) = (H1 : Int) := by rw [IntKind.wrap_u64]; omega
        have d2 : IntKind.u64.wrap ((H1 : Int) + (u1 : Int)) = (H2 : Int) := by rw [IntKind.wrap_u64]; omega
        have d3 : IntKind.u64.wrap ((Q1 : Int) * 18446744069414584321) = (H3 : Int) := by rw [IntKind.wrap_u64]; omega
        have d4 : IntKind.u64.wrap ((H2 : Int) - (H3 : Int)) = (X : Int) := by rw [IntKind.wrap_u64]; omega
        have d5 : (X : Int).tdiv 4294967295 = (q2 : Int) := by rw [Int.tdiv_eq_ediv_of_nonneg (by omega)]; omega
        have d6 : IntKind.u64.wrap ((q2 : Int)) = (q2 : Int) := by rw [IntKind.wrap_u64]; omega
        have d7 : IntKind.u64.wrap ((q2 : Int) * 4294967295) = (M2 : Int) := by rw [IntKind.wrap_u64]; omega
        have d8 : IntKind.u64.wrap ((X : Int) - (M2 : Int)) = (r2 : Int) := by rw [IntKind.wrap_u64]; omega
        clear hH1 hH2 hH3 hM2
        clear c1 c2 g1 g2 g3 g4 g5 g6 g7 g8 g9 g10 g11 k1 k2 hr0 hlt hQ
        go_wp2_with fail
        rw [rounds_succ]
        go_wp2_with fail
        clear b1 b2 b3 b4 b5 b6 b7 b8 b9 b10 b11 d1 d2 d3 d4 d5 d6 d7 d8
        by_cases c1 : 4294967296 ≤ q2
        · obtain ⟨g1, g2, g3, g4, g5, g6, g7, g8, g9, g10, g11, k1, k2⟩ := HG.out
          obtain ⟨hr0, hlt, hQ⟩ := HP2.out.2 (.inl c1)
          obtain ⟨R3, hR3⟩ : ∃ z, z = 18446744069414584320 + u0 := ⟨_, rfl⟩
          have b1 : IntKind.u64.wrap ((q2 : Int) - 1) = (Q0 : Int) := by rw [IntKind.wrap_u64]; omega
          have b2 : IntKind.u64.wrap ((r2 : Int) + 4294967295) = 4294967295 := by rw [IntKind.wrap_u64]; omega
          have b3 : decide ((4294967296 : Int) ≤ (q2 : Int)) = true := by simp; omega
          have b4 : IntKind.u64.wrap ((18446744069414584320 : Int) + (u0 : Int)) = (R3 : Int) := by rw [IntKind.wrap_u64]; omega
          have b5 : decide ((4294967296 : Int) ≤ (Q0 : Int)) = false := by simp; omega
          have b6 : decide (R3 < Q0) = false := by simp; omega
          have b7 : IntKind.u64.wrap (Q0 : Int) = (Q0 : Int) := by rw [IntKind.wrap_u64]; omega
          clear hR3
          refine wp_loop_rounds 2 ?_
          rw [rounds_succ]
          obtain ⟨F1, hF1⟩ : ∃ z, z = Q1 * 4294967296 := ⟨_, rfl⟩
          have d1 : IntKind.u64.wrap ((Q1 : Int) * 4294967296) = (F1 : Int) := by rw [IntKind.wrap_u64]; omega
          have d2 : IntKind.u64.wrap ((F1 : Int) + (Q0 : Int)) = ((F1 + Q0 : Nat) : Int) := by rw [IntKind.wrap_u64]; omega
          obtain ⟨F2, hF2⟩ : ∃ z, z = F1 + Q0 := ⟨_, rfl⟩
          rw [← hF2] at d2
          have HR : Hid (FF = F2) := Lib.hid (by rw [HFF.out, HK4.out, hF2, hF1])
          clear hF1 hF2
          clear c1 g1 g2 g3 g4 g5 g6 g7 g8 g9 g10 g11 k1 k2 hr0 hlt hQ
          go_wp2_with fail
          rw [rounds_succ]
          go_wp2_with fail
          go_ret2
          refine ⟨?_, by go_grown⟩
          rw [HR.out]
          exact ⟨_, rfl⟩
        · by_cases c2 : 4294967296 * r2 + u0 < q2
          · obtain ⟨g1, g2, g3, g4, g5, g6, g7, g8, g9, g10, g11, k1, k2⟩ := HG.out
            obtain ⟨hr0, hlt, hQ⟩ := HP2.out.2 (.inr c2)
            obtain ⟨R3, hR3⟩ : ∃ z, z = 18446744069414584320 + u0 := ⟨_, rfl⟩
            have b1 : IntKind.u64.wrap ((q2 : Int) - 1) = (Q0 : Int) := by rw [IntKind.wrap_u64]; omega
            have b2 : IntKind.u64.wrap ((r2 : Int) + 4294967295) = 4294967295 := by rw [IntKind.wrap_u64]; omega
            have b3 : decide ((4294967296 : Int) ≤ (q2 : Int)) = false := by simp; omega
            obtain ⟨R1, hR1⟩ : ∃ z, z = 4294967296 * r2 := ⟨_, rfl⟩
            obtain ⟨R2, hR2⟩ : ∃ z, z = R1 + u0 := ⟨_, rfl⟩
            have b8 : IntKind.u64.wrap ((4294967296 : Int) * (r2 : Int)) = (R1 : Int) := by rw [IntKind.wrap_u64]; omega
            have b9 : IntKind.u64.wrap ((R1 : Int) + (u0 : Int)) = (R2 : Int) := by rw [IntKind.wrap_u64]; omega
            have b10 : decide (R2 < q2) = true := by simp; omega
            have b11 : IntKind.u64.wrap (q2 : Int) = (q2 : Int) := by rw [IntKind.wrap_u64]; omega
            clear hR1 hR2
            have b4 : IntKind.u64.wrap ((18446744069414584320 : Int) + (u0 : Int)) = (R3 : Int) := by rw [IntKind.wrap_u64]; omega
            have b5 : decide ((4294967296 : Int) ≤ (Q0 : Int)) = false := by simp; omega
            have b6 : decide (R3 < Q0) = false := by simp; omega
            have b7 : IntKind.u64.wrap (Q0 : Int) = (Q0 : Int) := by rw [IntKind.wrap_u64]; omega
            clear hR3
            refine wp_loop_rounds 2 ?_
            rw [rounds_succ]
            obtain ⟨F1, hF1⟩ : ∃ z, z = Q1 * 4294967296 := ⟨_, rfl⟩
            have d1 : IntKind.u64.wrap ((Q1 : Int) * 4294967296) = (F1 : Int) := by rw [IntKind.wrap_u64]; omega
            have d2 : IntKind.u64.wrap ((F1 : Int) + (Q0 : Int)) = ((F1 + Q0 : Nat) : Int) := by rw [IntKind.wrap_u64]; omega
            obtain ⟨F2, hF2⟩ : ∃ z, z = F1 + Q0 := ⟨_, rfl⟩
            rw [← hF2] at d2
            have HR : Hid (FF = F2) := Lib.hid (by rw [HFF.out, HK4.out, hF2, hF1])
            clear hF1 hF2
            clear c1 c2 g1 g2 g3 g4 g5 g6 g7 g8 g9 g10 g11 k1 k2 hr0 hlt hQ
            go_wp2_with fail
            rw [rounds_succ]
            go_wp2_with fail
            go_ret2
            refine ⟨?_, by go_grown⟩
            rw [HR.out]
            exact ⟨_, rfl⟩
          · obtain ⟨g1, g2, g3, g4, g5, g6, g7, g8, g9, g10, g11, k1, k2⟩ := HG.out
            have hQ : Q0 = q2 := HP2.out.1 c1 c2
            subst hQ
            obtain ⟨R1, hR1⟩ : ∃ z, z = 4294967296 * r2 := ⟨_, rfl⟩
            obtain ⟨R2, hR2⟩ : ∃ z, z = R1 + u0 := ⟨_, rfl⟩
            have b1 : IntKind.u64.wrap ((4294967296 : Int) * (r2 : Int)) = (R1 : Int) := by rw [IntKind.wrap_u64]; omega
            have b2 : IntKind.u64.wrap ((R1 : Int) + (u0 : Int)) = (R2 : Int) := by rw [IntKind.wrap_u64]; omega
            have b3 : decide ((4294967296 : Int) ≤ (Q0 : Int)) = false := by simp; omega
            have b4 : decide (R2 < Q0) = false := by simp; omega
            have b5 : IntKind.u64.wrap (Q0 : Int) = (Q0 : Int) := by rw [IntKind.wrap_u64]; omega
            clear hR1 hR2
            refine wp_loop_rounds 1 ?_
            rw [rounds_succ]
            obtain ⟨F1, hF1⟩ : ∃ z, z = Q1 * 4294967296 := ⟨_, rfl⟩
            have d1 : IntKind.u64.wrap ((Q1 : Int) * 4294967296) = (F1 : Int) := by rw [IntKind.wrap_u64]; omega
            have d2 : IntKind.u64.wrap ((F1 : Int) + (Q0 : Int)) = ((F1 + Q0 : Nat) : Int) := by rw [IntKind.wrap_u64]; omega
            obtain ⟨F2, hF2⟩ : ∃ z, z = F1 + Q0 := ⟨_, rfl⟩
            rw [← hF2] at d2
            have HR : Hid (FF = F2) := Lib.hid (by rw [HFF.out, HK4.out, hF2, hF1])
            clear hF1 hF2
            clear c1 c2 g1 g2 g3 g4 g5 g6 g7 g8 g9 g10 g11 k1 k2
            go_wp2_with fail
            go_ret2
            refine ⟨?_, by go_grown⟩
            rw [HR.out]
            exact ⟨_, rfl⟩
      · obtain ⟨g1, g2, g3, g4, g5, g6, g7, g8, g9, g10, g11, k1, k2⟩ := HG.out
        have hQ : Q1 = q := HP1.out.1 c1 c2
        subst hQ
        obtain ⟨R1, hR1⟩ : ∃ z, z = 4294967296 * r := ⟨_, rfl⟩
        obtain ⟨R2, hR2⟩ : ∃ z, z = R1 + u1 := ⟨_, rfl⟩
        have b1 : IntKind.u64.wrap ((4294967296 : Int) * (r : Int)) = (R1 : Int) := by rw [IntKind.wrap_u64]; omega
        have b2 : IntKind.u64.wrap ((R1 : Int) + (u1 : Int)) = (R2 : Int) := by rw [IntKind.wrap_u64]; omega
        have b3 : decide ((4294967296 : Int) ≤ (Q1 : Int)) = false := by simp; omega
        have b4 : decide (R2 < Q1) = false := by simp; omega
        have b5 : IntKind.u64.wrap (Q1 : Int) = (Q1 : Int) := by rw [IntKind.wrap_u64]; omega
        clear hR1 hR2
        refine wp_loop_rounds 1 ?_
        rw [rounds_succ]
        obtain ⟨H1, hH1⟩ : ∃ z, z = h * 4294967296 % 18446744073709551616 := ⟨_, rfl⟩
        obtain ⟨H2, hH2⟩ : ∃ z, z = (H1 + u1) % 18446744073709551616 := ⟨_, rfl⟩
        obtain ⟨H3, hH3⟩ : ∃ z, z = Q1 * 18446744069414584321 % 18446744073709551616 := ⟨_, rfl⟩
        obtain ⟨M2, hM2⟩ : ∃ z, z = q2 * 4294967295 := ⟨_, rfl⟩
        have d1 : IntKind.u64.wrap ((h : Int) * 4294967296) = (H1 : Int) := by rw [IntKind.wrap_u64]; omega
        have d2 : IntKind.u64.wrap ((H1 : Int) + (u1 : Int)) = (H2 : Int) := by rw [IntKind.wrap_u64]; omega
        have d3 : IntKind.u64.wrap ((Q1 : Int) * 18446744069414584321) = (H3 : Int) := by rw [IntKind.wrap_u64]; omega
        have d4 : IntKind.u64.wrap ((H2 : Int) - (H3 : Int)) = (X : Int) := by rw [IntKind.wrap_u64]; omega
        have d5 : (X : Int).tdiv 4294967295 = (q2 : Int) := by rw [Int.tdiv_eq_ediv_of_nonneg (by omega)]; omega
        have d6 : IntKind.u64.wrap ((q2 : Int)) = (q2 : Int) := by rw [IntKind.wrap_u64]; omega
        have d7 : IntKind.u64.wrap ((q2 : Int) * 4294967295) = (M2 : Int) := by rw [IntKind.wrap_u64]; omega
        have d8 : IntKind.u64.wrap ((X : Int) - (M2 : Int)) = (r2 : Int) := by rw [IntKind.wrap_u64]; omega
        clear hH1 hH2 hH3 hM2
        clear c1 c2 g1 g2 g3 g4 g5 g6 g7 g8 g9 g10 g11 k1 k2
        go_wp2_with fail
        clear b1 b2 b3 b4 b5 d1 d2 d3 d4 d5 d6 d7 d8
        by_cases c1 : 4294967296 ≤ q2
        · obtain ⟨g1, g2, g3, g4, g5, g6, g7, g8, g9, g10, g11, k1, k2⟩ := HG.out
          obtain ⟨hr0, hlt, hQ⟩ := HP2.out.2 (.inl c1)
          obtain ⟨R3, hR3⟩ : ∃ z, z = 18446744069414584320 + u0 := ⟨_, rfl⟩
          have b1 : IntKind.u64.wrap ((q2 : Int) - 1) = (Q0 : Int) := by rw [IntKind.wrap_u64]; omega
          have b2 : IntKind.u64.wrap ((r2 : Int) + 4294967295) = 4294967295 := by rw [IntKind.wrap_u64]; omega
          have b3 : decide ((4294967296 : Int) ≤ (q2 : Int)) = true := by simp; omega
          have b4 : IntKind.u64.wrap ((18446744069414584320 : Int) + (u0 : Int)) = (R3 : Int) := by rw [IntKind.wrap_u64]; omega
          have b5 : decide ((4294967296 : Int) ≤ (Q0 : Int)) = false := by simp; omega
          have b6 : decide (R3 < Q0) = false := by simp; omega
          have b7 : IntKind.u64.wrap (Q0 : Int) = (Q0 : Int) := by rw [IntKind.wrap_u64]; omega
          clear hR3
          refine wp_loop_rounds 2 ?_
          rw [rounds_succ]
          obtain ⟨F1, hF1⟩ : ∃ z, z = Q1 * 4294967296 := ⟨_, rfl⟩
          have d1 : IntKind.u64.wrap ((Q1 : Int) * 4294967296) = (F1 : Int) := by rw [IntKind.wrap_u64]; omega
          have d2 : IntKind.u64.wrap ((F1 : Int) + (Q0 : Int)) = ((F1 + Q0 : Nat) : Int) := by rw [IntKind.wrap_u64]; omega
          obtain ⟨F2, hF2⟩ : ∃ z, z = F1 + Q0 := ⟨_, rfl⟩
          rw [← hF2] at d2
          have HR : Hid (FF = F2) := Lib.hid (by rw [HFF.out, HK4.out, hF2, hF1])
          clear hF1 hF2
          clear c1 g1 g2 g3 g4 g5 g6 g7 g8 g9 g10 g11 k1 k2 hr0 hlt hQ
          go_wp2_with fail
          rw [rounds_succ]
          go_wp2_with fail
          go_ret2
          refine ⟨?_, by go_grown⟩
          rw [HR.out]
          exact ⟨_, rfl⟩
        · by_cases c2 : 4294967296 * r2 + u0 < q2
          · obtain ⟨g1, g2, g3, g4, g5, g6, g7, g8, g9, g10, g11, k1, k2⟩ := HG.out
            obtain ⟨hr0, hlt, hQ⟩ := HP2.out.2 (.inr c2)
            obtain ⟨R3, hR3⟩ : ∃ z, z = 18446744069414584320 + u0 := ⟨_, rfl⟩
            have b1 : IntKind.u64.wrap ((q2 : Int) - 1) = (Q0 : Int) := by rw [IntKind.wrap_u64]; omega
            have b2 : IntKind.u64.wrap ((r2 : Int) + 4294967295) = 4294967295 := by rw [IntKind.wrap_u64]; omega
            have b3 : decide ((4294967296 : Int) ≤ (q2 : Int)) = false := by simp; omega
            obtain ⟨R1, hR1⟩ : ∃ z, z = 4294967296 * r2 := ⟨_, rfl⟩
            obtain ⟨R2, hR2⟩ : ∃ z, z = R1 + u0 := ⟨_, rfl⟩
            have b8 : IntKind.u64.wrap ((4294967296 : Int) * (r2 : Int)) = (R1 : Int) := by rw [IntKind.wrap_u64]; omega
            have b9 : IntKind.u64.wrap ((R1 : Int) + (u0 : Int)) = (R2 : Int) := by rw [IntKind.wrap_u64]; omega
            have b10 : decide (R2 < q2) = true := by simp; omega
            have b11 : IntKind.u64.wrap (q2 : Int) = (q2 : Int) := by rw [IntKind.wrap_u64]; omega
            clear hR1 hR2
            have b4 : IntKind.u64.wrap ((18446744069414584320 : Int) + (u0 : Int)) = (R3 : Int) := by rw [IntKind.wrap_u64]; omega
            have b5 : decide ((4294967296 : Int) ≤ (Q0 : Int)) = false := by simp; omega
            have b6 : decide (R3 < Q0) = false := by simp; omega
            have b7 : IntKind.u64.wrap (Q0 : Int) = (Q0 : Int) := by rw [IntKind.wrap_u64]; omega
            clear hR3
            refine wp_loop_rounds 2 ?_
            rw [rounds_succ]
            obtain ⟨F1, hF1⟩ : ∃ z, z = Q1 * 4294967296 := ⟨_, rfl⟩
            have d1 : IntKind.u64.wrap ((Q1 : Int) * 4294967296) = (F1 : Int) := by rw [IntKind.wrap_u64]; omega
            have d2 : IntKind.u64.wrap ((F1 : Int) + (Q0 : Int)) = ((F1 + Q0 : Nat) : Int) := by rw [IntKind.wrap_u64]; omega
            obtain ⟨F2, hF2⟩ : ∃ z, z = F1 + Q0 := ⟨_, rfl⟩
            rw [← hF2] at d2
            have HR : Hid (FF = F2) := Lib.hid (by rw [HFF.out, HK4.out, hF2, hF1])
            clear hF1 hF2
            clear c1 c2 g1 g2 g3 g4 g5 g6 g7 g8 g9 g10 g11 k1 k2 hr0 hlt hQ
            go_wp2_with fail
            rw [rounds_succ]
            go_wp2_with fail
            go_ret2
            refine ⟨?_, by go_grown⟩
            rw [HR.out]
            exact ⟨_, rfl⟩
          · obtain ⟨g1, g2, g3, g4, g5, g6, g7, g8, g9, g10, g11, k1, k2⟩ := HG.out
            have hQ : Q0 = q2 := HP2.out.1 c1 c2
            subst hQ
            obtain ⟨R1, hR1⟩ : ∃ z, z = 4294967296 * r2 := ⟨_, rfl⟩
            obtain ⟨R2, hR2⟩ : ∃ z, z = R1 + u0 := ⟨_, rfl⟩
            have b1 : IntKind.u64.wrap ((4294967296 : Int) * (r2 : Int)) = (R1 : Int) := by rw [IntKind.wrap_u64]; omega
            have b2 : IntKind.u64.wrap ((R1 : Int) + (u0 : Int)) = (R2 : Int) := by rw [IntKind.wrap_u64]; omega
            have b3 : decide ((4294967296 : Int) ≤ (Q0 : Int)) = false := by simp; omega
            have b4 : decide (R2 < Q0) = false := by simp; omega
            have b5 : IntKind.u64.wrap (Q0 : Int) = (Q0 : Int) := by rw [IntKind.wrap_u64]; omega
            clear hR1 hR2
            refine wp_loop_rounds 1 ?_
            rw [rounds_succ]
            obtain ⟨F1, hF1⟩ : ∃ z, z = Q1 * 4294967296 := ⟨_, rfl⟩
            have d1 : IntKind.u64.wrap ((Q1 : Int) * 4294967296) = (F1 : Int) := by rw [IntKind.wrap_u64]; omega
            have d2 : IntKind.u64.wrap ((F1 : Int) + (Q0 : Int)) = ((F1 + Q0 : Nat) : Int) := by rw [IntKind.wrap_u64]; omega
            obtain ⟨F2, hF2⟩ : ∃ z, z = F1 + Q0 := ⟨_, rfl⟩
            rw [← hF2] at d2
            have HR : Hid (FF = F2) := Lib.hid (by rw [HFF.out, HK4.out, hF2, hF1])
            clear hF1 hF2
            clear c1 c2 g1 g2 g3 g4 g5 g6 g7 g8 g9 g10 g11 k1 k2
            go_wp2_with fail
            go_ret2
            refine ⟨?_, by go_grown⟩
            rw [HR.out]
            exact ⟨_, rfl⟩

set_option maxHeartbeats 8000000 in
theorem div_N (h l : Nat) (hh : h < 18446744069414584320) (hl : l < 18446744073709551616) (w : World) :
    Calls Try.prog 96 #[.int .u64 (h : Int), .int .u64 (l : Int), .int .u64 18446744069414584320] w fun e w' => (∃ r : Value, e = .returned (.tuple #[.int .u64 (((h * 18446744073709551616 + l) / 18446744069414584320 : Nat) : Int), r])) ∧ Below w.heap.size w w' := by
  by_cases h0 : h = 0
  · subst h0
    go_enter Try.func96, Try.ntmps96
    go_wp2_with fail
    go_region
    go_wp2_with fail
    go_ret2
    exact ⟨⟨.int .u64 ((l : Int) % 18446744069414584320), by simp⟩, by go_grown⟩
  · have t1 : ((h : Int) == 0) = false := by simp; omega
    have t2 : decide ((18446744069414584320 : Int) ≤ (h : Int)) = false := by simp; omega
    have HPH := Lib.hid (half_N h (l / 4294967296) hh (by omega))
    have HFIN := Lib.hid (long_div h l 18446744069414584320 (by decide))
    have hX : (h * 4294967296 + l / 4294967296) % 18446744069414584320 < 18446744069414584320 := Nat.mod_lt _ (by decide)
    have HXE := Lib.hid (Nat.div_add_mod' (h * 4294967296 + l / 4294967296) 18446744069414584320).symm
    obtain ⟨u1, hu1⟩ : ∃ u, u = l / 4294967296 := ⟨_, rfl⟩
    obtain ⟨u0, hu0⟩ : ∃ u, u = l % 4294967296 := ⟨_, rfl⟩
    obtain ⟨q, hq⟩ : ∃ u, u = h / 4294967295 := ⟨_, rfl⟩
    obtain ⟨r, hr⟩ : ∃ u, u = h % 4294967295 := ⟨_, rfl⟩
    obtain ⟨M, hM⟩ : ∃ u, u = q * 4294967295 := ⟨_, rfl⟩
    rw [← hu1, ← hu0] at HFIN
    rw [← hu1] at HPH HXE hX
    rw [← hq] at HPH
    have a1 : IntKind.u64.wrap (h : Int) = (h : Int) := by rw [IntKind.wrap_u64]; omega
    have a2 : (l : Int) / 18446744073709551616 = 0 := by omega
    have a4 : IntKind.u64.wrap (l : Int) = (l : Int) := by rw [IntKind.wrap_u64]; omega
    have a5 : (l : Int) / 4294967296 = (u1 : Int) := by omega
    have a8 : (h : Int).tdiv 4294967295 = (q : Int) := by rw [Int.tdiv_eq_ediv_of_nonneg (by omega)]; omega
    have a9 : IntKind.u64.wrap (q : Int) = (q : Int) := by rw [IntKind.wrap_u64]; omega
    have a10 : IntKind.u64.wrap ((q : Int) * 4294967295) = (M : Int) := by rw [IntKind.wrap_u64]; omega
    have a11 : IntKind.u64.wrap ((h : Int) - (M : Int)) = (r : Int) := by rw [IntKind.wrap_u64]; omega
    have a3 := or_nil h (by omega)
    have a6 : bits .and .u64 (l : Int) 4294967295 = (u0 : Int) := by rw [Mul64.maskN l hl, ← hu0]
    have a7 := and_nil
    have HU : Hid (u1 < 4294967296 ∧ u0 < 4294967296 ∧ r < 4294967295 ∧ q ≤ 4294967296 ∧ h = q * 4294967295 + r ∧ h < 18446744069414584320) := Lib.hid ⟨by omega, by omega, by omega, by omega, by omega, hh⟩
    have HX := Lib.hid hX
    obtain ⟨FF, hFF⟩ : ∃ z, z = (h * 18446744073709551616 + l) / 18446744069414584320 := ⟨_, rfl⟩
    rw [← hFF]
    have HFF := Lib.hid hFF
    clear hFF
    clear hh hl h0 hu1 hu0 hq hr hM hX
    go_enter Try.func96, Try.ntmps96
    go_wp2_with fail
    refine (lz_N w).mono ?_
    rintro e w' ⟨rfl, rfl⟩
    go_wp2_with fail
    obtain ⟨g1, g2, g3, g4, g5, g6⟩ := HU.out
    obtain ⟨Q1, hQ1⟩ : ∃ z, z = (h * 4294967296 + u1) / 18446744069414584320 := ⟨_, rfl⟩
    obtain ⟨X, hX⟩ : ∃ z, z = (h * 4294967296 + u1) % 18446744069414584320 := ⟨_, rfl⟩
    have k1 := HXE.out
    have k2 := HX.out
    have k3 := HPH.out
    have k4 := HFIN.out
    rw [← hQ1, ← hX] at k1 k4
    rw [← hX] at k2
    rw [← hQ1] at k3
    have HP1 := Lib.hid k3
    have HP2 := Lib.hid (half_N X u0 k2 g2)
    obtain ⟨q2, hq2⟩ : ∃ z, z = X / 4294967295 := ⟨_, rfl⟩
    obtain ⟨r2, hr2⟩ : ∃ z, z = X % 4294967295 := ⟨_, rfl⟩
    obtain ⟨Q0, hQ0⟩ : ∃ z, z = (X * 4294967296 + u0) / 18446744069414584320 := ⟨_, rfl⟩
    rw [← hq2, ← hQ0] at HP2
    rw [← hQ0] at k4
    have g7 : r2 < 4294967295 := by omega
    have g8 : q2 ≤ 4294967296 := by omega
    have g9 : X = q2 * 4294967295 + r2 := by omega
    have g10 : Q0 < 4294967296 := by rw [hQ0]; exact (Nat.div_lt_iff_lt_mul (by decide)).2 (by omega)
    have g11 : Q1 < 4294967296 := by rw [hQ1]; exact (Nat.div_lt_iff_lt_mul (by decide)).2 (by omega)
    have HK4 := Lib.hid k4
    clear k3 k4 hQ1 hX hQ0 hq2 hr2 HPH HXE HX HFIN HU a1 a2 a3 a4 a5 a6 a7 a8 a9 a10 a11 t1 t2
    have HG := Lib.hid (And.intro g1 (And.intro g2 (And.intro g3 (And.intro g4 (And.intro g5 (And.intro g6 (And.intro g7 (And.intro g8 (And.intro g9 (And.intro g10 (And.intro g11 (And.intro k1 k2))))))))))))
    clear g1 g2 g3 g4 g5 g6 g7 g8 g9 g10 g11 k1 k2
    obtain ⟨g1, g2, g3, g4, g5, g6, g7, g8, g9, g10, g11, k1, k2⟩ := HG.out
    have hQ : Q1 = q := HP1.out.2
    subst hQ
    obtain ⟨R1, hR1⟩ : ∃ z, z = 4294967296 * r := ⟨_, rfl⟩
    obtain ⟨R2, hR2⟩ : ∃ z, z = R1 + u1 := ⟨_, rfl⟩
    have b1 : IntKind.u64.wrap ((4294967296 : Int) * (r : Int)) = (R1 : Int) := by rw [IntKind.wrap_u64]; omega
    have b2 : IntKind.u64.wrap ((R1 : Int) + (u1 : Int)) = (R2 : Int) := by rw [IntKind.wrap_u64]; omega
    have b3 : decide ((4294967296 : Int) ≤ (Q1 : Int)) = false := by simp; omega
    have b4 : decide (R2 < 0) = false := by simp
    clear hR1 hR2
    refine wp_loop_rounds 1 ?_
    rw [rounds_succ]
    obtain ⟨H1, hH1⟩ : ∃ z, z = h * 4294967296 % 18446744073709551616 := ⟨_, rfl⟩
    obtain ⟨H2, hH2⟩ : ∃ z, z = (H1 + u1) % 18446744073709551616 := ⟨_, rfl⟩
    obtain ⟨H3, hH3⟩ : ∃ z, z = Q1 * 18446744069414584320 % 18446744073709551616 := ⟨_, rfl⟩
    obtain ⟨M2, hM2⟩ : ∃ z, z = q2 * 4294967295 := ⟨_, rfl⟩
    have d1 : IntKind.u64.wrap ((h : Int) * 4294967296) = (H1 : Int) := by rw [IntKind.wrap_u64]; omega
    have d2 : IntKind.u64.wrap ((H1 : Int) + (u1 : Int)) = (H2 : Int) := by rw [IntKind.wrap_u64]; omega
    have d3 : IntKind.u64.wrap ((Q1 : Int) * 18446744069414584320) = (H3 : Int) := by rw [IntKind.wrap_u64]; omega
    have d4 : IntKind.u64.wrap ((H2 : Int) - (H3 : Int)) = (X : Int) := by rw [IntKind.wrap_u64]; omega
    have d5 : (X : Int).tdiv 4294967295 = (q2 : Int) := by rw [Int.tdiv_eq_ediv_of_nonneg (by omega)]; omega
    have d6 : IntKind.u64.wrap ((q2 : Int)) = (q2 : Int) := by rw [IntKind.wrap_u64]; omega
    have d7 : IntKind.u64.wrap ((q2 : Int) * 4294967295) = (M2 : Int) := by rw [IntKind.wrap_u64]; omega
    have d8 : IntKind.u64.wrap ((X : Int) - (M2 : Int)) = (r2 : Int) := by rw [IntKind.wrap_u64]; omega
    clear hH1 hH2 hH3 hM2
    clear g1 g2 g3 g4 g5 g6 g7 g8 g9 g10 g11 k1 k2
    go_wp2_with fail
    clear b1 b2 b3 b4 d1 d2 d3 d4 d5 d6 d7 d8
    obtain ⟨g1, g2, g3, g4, g5, g6, g7, g8, g9, g10, g11, k1, k2⟩ := HG.out
    have hQ : Q0 = q2 := HP2.out.2
    subst hQ
    obtain ⟨R1, hR1⟩ : ∃ z, z = 4294967296 * r2 := ⟨_, rfl⟩
    obtain ⟨R2, hR2⟩ : ∃ z, z = R1 + u0 := ⟨_, rfl⟩
    have b1 : IntKind.u64.wrap ((4294967296 : Int) * (r2 : Int)) = (R1 : Int) := by rw [IntKind.wrap_u64]; omega
    have b2 : IntKind.u64.wrap ((R1 : Int) + (u0 : Int)) = (R2 : Int) := by rw [IntKind.wrap_u64]; omega
    have b3 : decide ((4294967296 : Int) ≤ (Q0 : Int)) = false := by simp; omega
    have b4 : decide (R2 < 0) = false := by simp
    clear hR1 hR2
    refine wp_loop_rounds 1 ?_
    rw [rounds_succ]
    obtain ⟨F1, hF1⟩ : ∃ z, z = Q1 * 4294967296 := ⟨_, rfl⟩
    have d1 : IntKind.u64.wrap ((Q1 : Int) * 4294967296) = (F1 : Int) := by rw [IntKind.wrap_u64]; omega
    have d2 : IntKind.u64.wrap ((F1 : Int) + (Q0 : Int)) = ((F1 + Q0 : Nat) : Int) := by rw [IntKind.wrap_u64]; omega
    obtain ⟨F2, hF2⟩ : ∃ z, z = F1 + Q0 := ⟨_, rfl⟩
    rw [← hF2] at d2
    have HR : Hid (FF = F2) := Lib.hid (by rw [HFF.out, HK4.out, hF2, hF1])
    clear hF1 hF2
    clear g1 g2 g3 g4 g5 g6 g7 g8 g9 g10 g11 k1 k2
    go_wp2_with fail
    go_ret2
    refine ⟨?_, by go_grown⟩
    rw [HR.out]
    exact ⟨_, rfl⟩
end Go.Proofs.Ytglmmodkflkkkaa
