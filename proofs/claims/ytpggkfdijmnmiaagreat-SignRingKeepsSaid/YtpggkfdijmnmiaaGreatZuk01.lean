/- How often the highest limb of a modulus goes into two limbs. Condition: the modulus is one of the two. The two moduli; how often one goes into a number with a limb behind it, or that and one or two too much. Condition: the number is below the modulus. What is left of a number with one limb more behind it, divided by a modulus. Condition: the number is below the modulus. The moduli as the program h -/
import Derived.Test.YtpggkfdijmnmiaaGreatZuk00
set_option linter.unusedVariables false
set_option linter.unusedSimpArgs false
set_option maxRecDepth 100000
namespace Go.Proofs.YtpggkfdijmnmiaaGreat
open Go.RowKit Limbs
set_option maxHeartbeats 4000000 in
theorem lz_P (w : World) : Calls Tryz.prog 199 #[.int .u64 18446744069414584321] w fun e w' => e = .returned (.int .i64 0) ∧ w' = w := by
  go_enter Tryz.func199, Tryz.ntmps199
  go_wp2_with fail
  refine (show Calls Tryz.prog 207 #[.int .u64 18446744069414584321] w fun e w' => e = .returned (.int .i64 64) ∧ w' = w from ?_).mono ?_
  · go_enter Tryz.func207, Tryz.ntmps207
    go_wp2_with fail
    go_ret
    exact ⟨by kernel_rfl, rfl⟩
  rintro e w' ⟨rfl, rfl⟩
  go_wp2_with fail
  go_ret
  exact ⟨rfl, rfl⟩
set_option maxHeartbeats 4000000 in
theorem lz_N (w : World) : Calls Tryz.prog 199 #[.int .u64 18446744069414584320] w fun e w' => e = .returned (.int .i64 0) ∧ w' = w := by
  go_enter Tryz.func199, Tryz.ntmps199
  go_wp2_with fail
  refine (show Calls Tryz.prog 207 #[.int .u64 18446744069414584320] w fun e w' => e = .returned (.int .i64 64) ∧ w' = w from ?_).mono ?_
  · go_enter Tryz.func207, Tryz.ntmps207
    go_wp2_with fail
    go_ret
    exact ⟨by kernel_rfl, rfl⟩
  rintro e w' ⟨rfl, rfl⟩
  go_wp2_with fail
  go_ret
  exact ⟨rfl, rfl⟩
theorem half_P (x u : Nat) (hx : x < 18446744069414584321) (hu : u < 4294967296) :
    (¬ 4294967296 ≤ x / 4294967295 → ¬ 4294967296 * (x % 4294967295) + u < x / 4294967295 → (x * 4294967296 + u) / 18446744069414584321 = x / 4294967295) ∧ (4294967296 ≤ x / 4294967295 ∨ 4294967296 * (x % 4294967295) + u < x / 4294967295 → x % 4294967295 = 0 ∧ u < x / 4294967295 ∧ (x * 4294967296 + u) / 18446744069414584321 = x / 4294967295 - 1) := by
  have ex : x = 4294967295 * (x / 4294967295) + x % 4294967295 := (Nat.div_add_mod x 4294967295).symm
  have hr : x % 4294967295 < 4294967295 := Nat.mod_lt _ (by decide)
  generalize x / 4294967295 = q at *
  generalize x % 4294967295 = r at *
  subst ex
  refine ⟨fun h1 h2 => ?_, fun h => ⟨by omega, by omega, ?_⟩⟩
  · rw [Nat.div_eq_iff (by decide)]; omega
  · rw [Nat.div_eq_iff (by decide)]; omega
theorem long_div (h l D : Nat) (hD : 0 < D) : (h * 18446744073709551616 + l) / D = (h * 4294967296 + l / 4294967296) / D * 4294967296 + ((h * 4294967296 + l / 4294967296) % D * 4294967296 + l % 4294967296) / D := by
  have e : h * 18446744073709551616 + l = ((h * 4294967296 + l / 4294967296) % D * 4294967296 + l % 4294967296) + (h * 4294967296 + l / 4294967296) / D * 4294967296 * D := by
    have e1 := Nat.div_add_mod (h * 4294967296 + l / 4294967296) D
    have e2 : (h * 4294967296 + l / 4294967296) / D * 4294967296 * D = D * ((h * 4294967296 + l / 4294967296) / D) * 4294967296 := by rw [Nat.mul_right_comm, Nat.mul_comm ((h * 4294967296 + l / 4294967296) / D) D]
    rw [e2]
    generalize D * ((h * 4294967296 + l / 4294967296) / D) = A at *
    generalize (h * 4294967296 + l / 4294967296) % D = C at *
    omega
  conv => lhs; rw [e]
  rw [Nat.add_mul_div_right _ _ hD, Nat.add_comm]
theorem half_N (x u : Nat) (hx : x < 18446744069414584320) (hu : u < 4294967296) : x / 4294967295 < 4294967296 ∧ (x * 4294967296 + u) / 18446744069414584320 = x / 4294967295 := by
  have ex : x = 4294967295 * (x / 4294967295) + x % 4294967295 := (Nat.div_add_mod x 4294967295).symm
  have hr : x % 4294967295 < 4294967295 := Nat.mod_lt _ (by decide)
  generalize x / 4294967295 = q at *
  generalize x % 4294967295 = r at *
  subst ex
  refine ⟨by omega, ?_⟩
  rw [Nat.div_eq_iff (by decide)]; omega
theorem and_one : bits .and .u64 18446744069414584321 4294967295 = 1 := by decide +kernel
theorem and_nil : bits .and .u64 18446744069414584320 4294967295 = 0 := by decide +kernel
theorem or_nil (h : Nat) (hh : h < 18446744073709551616) : bits .or .u64 (h : Int) 0 = (h : Int) := by
  have := bits_or_u64_nat h 0 hh (by decide)
  simpa using this
set_option maxHeartbeats 8000000 in
theorem div_P (h l : Nat) (hh : h < 18446744069414584321) (hl : l < 18446744073709551616) (w : World) :
    Calls Tryz.prog 185 #[.int .u64 (h : Int), .int .u64 (l : Int), .int .u64 18446744069414584321] w fun e w' => (∃ r : Value, e = .returned (.tuple #[.int .u64 (((h * 18446744073709551616 + l) / 18446744069414584321 : Nat) : Int), r])) ∧ Below w.heap.size w w' := by
  by_cases h0 : h = 0
  · subst h0
    go_enter Tryz.func185, Tryz.ntmps185
    go_wp2_with fail
    go_region
    go_wp2_with fail
    go_ret2
    exact ⟨⟨.int .u64 ((l : Int) % 18446744069414584321), by simp⟩, by go_grown⟩
  · have t1 : ((h : Int) == 0) = false := by simp; omega
    have t2 : decide ((18446744069414584321 : Int) ≤ (h : Int)) = false := by simp; omega
    have HPH := Lib.hid (half_P h (l / 4294967296) hh (by omega))
    have HFIN := Lib.hid (long_div h l 18446744069414584321 (by decide))
    have hX : (h * 4294967296 + l / 4294967296) % 18446744069414584321 < 18446744069414584321 := Nat.mod_lt _ (by decide)
    have HXE := Lib.hid (Nat.div_add_mod' (h * 4294967296 + l / 4294967296) 18446744069414584321).symm
    obtain ⟨u1, hu1⟩ : ∃ u, u = l / 4294967296 := ⟨_, rfl⟩
    obtain ⟨u0, hu0⟩ : ∃ u, u = l % 4294967296 := ⟨_, rfl⟩
    obtain ⟨q, hq⟩ : ∃ u, u = h / 4294967295 := ⟨_, rfl⟩
    obtain ⟨r, hr⟩ : ∃ u, u = h % 4294967295 := ⟨_, rfl⟩
    obtain ⟨M, hM⟩ : ∃ u, u = q * 4294967295 := ⟨_, rfl⟩
    rw [← hu1, ← hu0] at HFIN
    rw [← hu1] at HPH HXE hX
    rw [← hq, ← hr] at HPH
    have a1 : IntKind.u64.wrap (h : Int) = (h : Int) := by rw [IntKind.wrap_u64]; omega
    have a2 : (l : Int) / 18446744073709551616 = 0 := by omega
    have a4 : IntKind.u64.wrap (l : Int) = (l : Int) := by rw [IntKind.wrap_u64]; omega
    have a5 : (l : Int) / 4294967296 = (u1 : Int) := by omega
    have a8 : (h : Int).tdiv 4294967295 = (q : Int) := by rw [Int.tdiv_eq_ediv_of_nonneg (by omega)]; omega
    have a9 : IntKind.u64.wrap (q : Int) = (q : Int) := by rw [IntKind.wrap_u64]; omega
    have a10 : IntKind.u64.wrap ((q : Int) * 4294967295) = (M : Int) := by rw [IntKind.wrap_u64]; omega
    have a11 : IntKind.u64.wrap ((h : Int) - (M : Int)) = (r : Int) := by rw [IntKind.wrap_u64]; omega
    have a3 := or_nil h (by omega)
    have a6 : bits .and .u64 (l : Int) 4294967295 = (u0 : Int) := by rw [Mul64.maskN l hl, ← hu0]
    have a7 := and_one
    have HU : Hid (u1 < 4294967296 ∧ u0 < 4294967296 ∧ r < 4294967295 ∧ q ≤ 4294967296 ∧ h = q * 4294967295 + r ∧ h < 18446744069414584321) := Lib.hid ⟨by omega, by omega, by omega, by omega, by omega, hh⟩
    have HX := Lib.hid hX
    obtain ⟨FF, hFF⟩ : ∃ z, z = (h * 18446744073709551616 + l) / 18446744069414584321 := ⟨_, rfl⟩
    rw [← hFF]
    have HFF := Lib.hid hFF
    clear hFF
    clear hh hl h0 hu1 hu0 hq hr hM hX
    go_enter Tryz.func185, Tryz.ntmps185
    go_wp2_with fail
    refine (lz_P w).mono ?_
    rintro e w' ⟨rfl, rfl⟩
    go_wp2_with fail
    obtain ⟨g1, g2, g3, g4, g5, g6⟩ := HU.out
    obtain ⟨Q1, hQ1⟩ : ∃ z, z = (h * 4294967296 + u1) / 18446744069414584321 := ⟨_, rfl⟩
    obtain ⟨X, hX⟩ : ∃ z, z = (h * 4294967296 + u1) % 18446744069414584321 := ⟨_, rfl⟩
    have k1 := HXE.out
    have k2 := HX.out
    have k3 := HPH.out
    have k4 := HFIN.out
    rw [← hQ1, ← hX] at k1 k4
    rw [← hX] at k2
    rw [← hQ1] at k3
    have HP1 := Lib.hid k3
    have HP2 := Lib.hid (half_P X u0 k2 g2)
    obtain ⟨q2, hq2⟩ : ∃ z, z = X / 4294967295 := ⟨_, rfl⟩
    obtain ⟨r2, hr2⟩ : ∃ z, z = X % 4294967295 := ⟨_, rfl⟩
    obtain ⟨Q0, hQ0⟩ : ∃ z, z = (X * 4294967296 + u0) / 18446744069414584321 := ⟨_, rfl⟩
    rw [← hq2, ← hr2, ← hQ0] at HP2
    rw [← hQ0] at k4
    have g7 : r2 < 4294967295 := by omega
    have g8 : q2 ≤ 4294967296 := by omega
    have g9 : X = q2 * 4294967295 + r2 := by omega
    have g10 : Q0 < 4294967296 := by rw [hQ0]; exact (Nat.div_lt_iff_lt_mul (by decide)).2 (by omega)
    have g11 : Q1 < 4294967296 := by rw [hQ1]; exact (Nat.div_lt_iff_lt_mul (by decide)).2 (by omega)
    have HK4 := Lib.hid k4
    clear k3 k4 hQ1 hX hQ0 hq2 hr2 HPH HXE HX HFIN HU a1 a2 a3 a4 a5 a6 a7 a8 a9 a10 a11 t1 t2
    have HG := Lib.hid (And.intro g1 (And.intro g2 (And.intro g3 (And.intro g4 (And.intro g5 (And.intro g6 (And.intro g7 (And.intro g8 (And.intro g9 (And.intro g10 (And.intro g11 (And.intro k1 k2))))))))))))
    clear g1 g2 g3 g4 g5 g6 g7 g8 g9 g10 g11 k1 k2
    by_cases c1 : 4294967296 ≤ q
    · obtain ⟨g1, g2, g3, g4, g5, g6, g7, g8, g9, g10, g11, k1, k2⟩ := HG.out
      obtain ⟨hr0, hlt, hQ⟩ := HP1.out.2 (.inl c1)
      obtain ⟨R3, hR3⟩ : ∃ z, z = 18446744069414584320 + u1 := ⟨_, rfl⟩
      have b1 : IntKind.u64.wrap ((q : Int) - 1) = (Q1 : Int) := by rw [IntKind.wrap_u64]; omega
      have b2 : IntKind.u64.wrap ((r : Int) + 4294967295) = 4294967295 := by rw [IntKind.wrap_u64]; omega
      have b3 : decide ((4294967296 : Int) ≤ (q : Int)) = true := by simp; omega
      have b4 : IntKind.u64.wrap ((18446744069414584320 : Int) + (u1 : Int)) = (R3 : Int) := by rw [IntKind.wrap_u64]; omega
      have b5 : decide ((4294967296 : Int) ≤ (Q1 : Int)) = false := by simp; omega
      have b6 : decide (R3 < Q1) = false := by simp; omega
      have b7 : IntKind.u64.wrap (Q1 : Int) = (Q1 : Int) := by rw [IntKind.wrap_u64]; omega
      clear hR3
      refine wp_loop_rounds 2 ?_
      rw [rounds_succ]
      obtain ⟨H1, hH1⟩ : ∃ z, z = h * 4294967296 % 18446744073709551616 := ⟨_, rfl⟩
      obtain ⟨H2, hH2⟩ : ∃ z, z = (H1 + u1) % 18446744073709551616 := ⟨_, rfl⟩
      obtain ⟨H3, hH3⟩ : ∃ z, z = Q1 * 18446744069414584321 % 18446744073709551616 := ⟨_, rfl⟩
      obtain ⟨M2, hM2⟩ : ∃ z, z = q2 * 4294967295 := ⟨_, rfl⟩
      have d1 : IntKind.u64.wrap ((h : Int) * 4294967296) = (H1 : Int) := by rw [IntKind.wrap_u64]; omega
      have d2 : IntKind.u64.wrap ((H1 : Int) + (u1 : Int)) = (H2 : Int) := by rw [IntKind.wrap_u64]; omega
      have d3 : IntKind.u64.wrap ((Q1 : Int) * 18446744069414584321) = (H3 : Int) := by rw [IntKind.wrap_u64]; omega
      have d4 : IntKind.u64.wrap ((H2 : Int) - (H3 : Int)) = (X : Int) := by rw [IntKind.wrap_u64]; omega
      have d5 : (X : Int).tdiv 4294967295 = (q2 : Int) := by rw [Int.tdiv_eq_ediv_of_nonneg (by omega)]; omega
      have d6 : IntKind.u64.wrap ((q2 : Int)) = (q2 : Int) := by rw [IntKind.wrap_u64]; omega
      have d7 : IntKind.u64.wrap ((q2 : Int) * 4294967295) = (M2 : Int) := by rw [IntKind.wrap_u64]; omega
      have d8 : IntKind.u64.wrap ((X : Int) - (M2 : Int)) = (r2 : Int) := by rw [IntKind.wrap_u64]; omega
      clear hH1 hH2 hH3 hM2
      clear c1 g1 g2 g3 g4 g5 g6 g7 g8 g9 g10 g11 k1 k2 hr0 hlt hQ
      go_wp2_with fail
      rw [rounds_succ]
      go_wp2_with fail
      clear b1 b2 b3 b4 b5 b6 b7 d1 d2 d3 d4 d5 d6 d7 d8
      by_cases c1 : 4294967296 ≤ q2
      · obtain ⟨g1, g2, g3, g4, g5, g6, g7, g8, g9, g10, g11, k1, k2⟩ := HG.out
        obtain ⟨hr0, hlt, hQ⟩ := HP2.out.2 (.inl c1)
        obtain ⟨R3, hR3⟩ : ∃ z, z = 18446744069414584320 + u0 := ⟨_, rfl⟩
        have b1 : IntKind.u64.wrap ((q2 : Int) - 1) = (Q0 : Int) := by rw [IntKind.wrap_u64]; omega
        have b2 : IntKind.u64.wrap ((r2 : Int) + 4294967295) = 4294967295 := by rw [IntKind.wrap_u64]; omega
        have b3 : decide ((4294967296 : Int) ≤ (q2 : Int)) = true := by simp; omega
        have b4 : IntKind.u64.wrap ((18446744069414584320 : Int) + (u0 : Int)) = (R3 : Int) := by rw [IntKind.wrap_u64]; omega
        have b5 : decide ((4294967296 : Int) ≤ (Q0 : Int)) = false := by simp; omega
        have b6 : decide (R3 < Q0) = false := by simp; omega
        have b7 : IntKind.u64.wrap (Q0 : Int) = (Q0 : Int) := by rw [IntKind.wrap_u64]; omega
        clear hR3
        refine wp_loop_rounds 2 ?_
        rw [rounds_succ]
        obtain ⟨F1, hF1⟩ : ∃ z, z = Q1 * 4294967296 := ⟨_, rfl⟩
        have d1 : IntKind.u64.wrap ((Q1 : Int) * 4294967296) = (F1 : Int) := by rw [IntKind.wrap_u64]; omega
        have d2 : IntKind.u64.wrap ((F1 : Int) + (Q0 : Int)) = ((F1 + Q0 : Nat) : Int) := by rw [IntKind.wrap_u64]; omega
        obtain ⟨F2, hF2⟩ : ∃ z, z = F1 + Q0 := ⟨_, rfl⟩
        rw [← hF2] at d2
        have HR : Hid (FF = F2) := Lib.hid (by rw [HFF.out, HK4.out, hF2, hF1])
        clear hF1 hF2
        clear c1 g1 g2 g3 g4 g5 g6 g7 g8 g9 g10 g11 k1 k2 hr0 hlt hQ
        go_wp2_with fail
        rw [rounds_succ]
        go_wp2_with fail
        go_ret2
        refine ⟨?_, by go_grown⟩
        rw [HR.out]
        exact ⟨_, rfl⟩
      · by_cases c2 : 4294967296 * r2 + u0 < q2
        · obtain ⟨g1, g2, g3, g4, g5, g6, g7, g8, g9, g10, g11, k1, k2⟩ := HG.out
          obtain ⟨hr0, hlt, hQ⟩ := HP2.out.2 (.inr c2)
          obtain ⟨R3, hR3⟩ : ∃ z, z = 18446744069414584320 + u0 := ⟨_, rfl⟩
          have b1 : IntKind.u64.wrap ((q2 : Int) - 1) = (Q0 : Int) := by rw [IntKind.wrap_u64]; omega
          have b2 : IntKind.u64.wrap ((r2 : Int) + 4294967295) = 4294967295 := by rw [IntKind.wrap_u64]; omega
          have b3 : decide ((4294967296 : Int) ≤ (q2 : Int)) = false := by simp; omega
          obtain ⟨R1, hR1⟩ : ∃ z, z = 4294967296 * r2 := ⟨_, rfl⟩
          obtain ⟨R2, hR2⟩ : ∃ z, z = R1 + u0 := ⟨_, rfl⟩
          have b8 : IntKind.u64.wrap ((4294967296 : Int) * (r2 : Int)) = (R1 : Int) := by rw [IntKind.wrap_u64]; omega
          have b9 : IntKind.u64.wrap ((R1 : Int) + (u0 : Int)) = (R2 : Int) := by rw [IntKind.wrap_u64]; omega
          have b10 : decide (R2 < q2) = true := by simp; omega
          have b11 : IntKind.u64.wrap (q2 : Int) = (q2 : Int) := by rw [IntKind.wrap_u64]; omega
          clear hR1 hR2
          have b4 : IntKind.u64.wrap ((18446744069414584320 : Int) + (u0 : Int)) = (R3 : Int) := by rw [IntKind.wrap_u64]; omega
          have b5 : decide ((4294967296 : Int) ≤ (Q0 : Int)) = false := by simp; omega
          have b6 : decide (R3 < Q0) = false := by simp; omega
          have b7 : IntKind.u64.wrap (Q0 : Int) = (Q0 : Int) := by rw [IntKind.wrap_u64]; omega
          clear hR3
          refine wp_loop_rounds 2 ?_
          rw [rounds_succ]
          obtain ⟨F1, hF1⟩ : ∃ z, z = Q1 * 4294967296 := ⟨_, rfl⟩
          have d1 : IntKind.u64.wrap ((Q1 : Int) * 4294967296) = (F1 : Int) := by rw [IntKind.wrap_u64]; omega
          have d2 : IntKind.u64.wrap ((F1 : Int) + (Q0 : Int)) = ((F1 + Q0 : Nat) : Int) := by rw [IntKind.wrap_u64]; omega
          obtain ⟨F2, hF2⟩ : ∃ z, z = F1 + Q0 := ⟨_, rfl⟩
          rw [← hF2] at d2
          have HR : Hid (FF = F2) := Lib.hid (by rw [HFF.out, HK4.out, hF2, hF1])
          clear hF1 hF2
          clear c1 g1 g2 g3 g4 g5 g6 g7 g8 g9 g10 g11 k1 k2 hr0 hlt hQ
          go_wp2_with fail
          rw [rounds_succ]
          go_wp2_with fail
          go_ret2
          refine ⟨?_, by go_grown⟩
          rw [HR.out]
          exact ⟨_, rfl⟩
        · obtain ⟨g1, g2, g3, g4, g5, g6, g7, g8, g9, g10, g11, k1, k2⟩ := HG.out
          have hQ : Q0 = q2 := HP2.out.1 c1 c2
          subst hQ
          obtain ⟨R1, hR1⟩ : ∃ z, z = 4294967296 * r2 := ⟨_, rfl⟩
          obtain ⟨R2, hR2⟩ : ∃ z, z = R1 + u0 := ⟨_, rfl⟩
          have b1 : IntKind.u64.wrap ((4294967296 : Int) * (r2 : Int)) = (R1 : Int) := by rw [IntKind.wrap_u64]; omega
          have b2 : IntKind.u64.wrap ((R1 : Int) + (u0 : Int)) = (R2 : Int) := by rw [IntKind.wrap_u64]; omega
          have b3 : decide ((4294967296 : Int) ≤ (Q0 : Int)) = false := by simp; omega
          have b4 : decide (R2 < Q0) = false := by simp; omega
          have b5 : IntKind.u64.wrap (Q0 : Int) = (Q0 : Int) := by rw [IntKind.wrap_u64]; omega
          clear hR1 hR2
          refine wp_loop_rounds 1 ?_
          rw [rounds_succ]
          obtain ⟨F1, hF1⟩ : ∃ z, z = Q1 * 4294967296 := ⟨_, rfl⟩
          have d1 : IntKind.u64.wrap ((Q1 : Int) * 4294967296) = (F1 : Int) := by rw [IntKind.wrap_u64]; omega
          have d2 : IntKind.u64.wrap ((F1 : Int) + (Q0 : Int)) = ((F1 + Q0 : Nat) : Int) := by rw [IntKind.wrap_u64]; omega
          obtain ⟨F2, hF2⟩ : ∃ z, z = F1 + Q0 := ⟨_, rfl⟩
          rw [← hF2] at d2
          have HR : Hid (FF = F2) := Lib.hid (by rw [HFF.out, HK4.out, hF2, hF1])
          clear hF1 hF2
          clear c1 g1 g2 g3 g4 g5 g6 g7 g8 g9 g10 g11 k1 k2
          go_wp2_with fail
          go_ret2
          refine ⟨?_, by go_grown⟩
          rw [HR.out]
          exact ⟨_, rfl⟩
    · by_cases c2 : 4294967296 * r + u1 < q
      · obtain ⟨g1, g2, g3, g4, g5, g6, g7, g8, g9, g10, g11, k1, k2⟩ := HG.out
        obtain ⟨hr0, hlt, hQ⟩ := HP1.out.2 (.inr c2)
        obtain ⟨R3, hR3⟩ : ∃ z, z = 18446744069414584320 + u1 := ⟨_, rfl⟩
        have b1 : IntKind.u64.wrap ((q : Int) - 1) = (Q1 : Int) := by rw [IntKind.wrap_u64]; omega
        have b2 : IntKind.u64.wrap ((r : Int) + 4294967295) = 4294967295 := by rw [IntKind.wrap_u64]; omega
        have b3 : decide ((4294967296 : Int) ≤ (q : Int)) = false := by simp; omega
        obtain ⟨R1, hR1⟩ : ∃ z, z = 4294967296 * r := ⟨_, rfl⟩
        obtain ⟨R2, hR2⟩ : ∃ z, z = R1 + u1 := ⟨_, rfl⟩
        have b8 : IntKind.u64.wrap ((4294967296 : Int) * (r : Int)) = (R1 : Int) := by rw [IntKind.wrap_u64]; omega
        have b9 : IntKind.u64.wrap ((R1 : Int) + (u1 : Int)) = (R2 : Int) := by rw [IntKind.wrap_u64]; omega
        have b10 : decide (R2 < q) = true := by simp; omega
        have b11 : IntKind.u64.wrap (q : Int) = (q : Int) := by rw [IntKind.wrap_u64]; omega
        clear hR1 hR2
        have b4 : IntKind.u64.wrap ((18446744069414584320 : Int) + (u1 : Int)) = (R3 : Int) := by rw [IntKind.wrap_u64]; omega
        have b5 : decide ((4294967296 : Int) ≤ (Q1 : Int)) = false := by simp; omega
        have b6 : decide (R3 < Q1) = false := by simp; omega
        have b7 : IntKind.u64.wrap (Q1 : Int) = (Q1 : Int) := by rw [IntKind.wrap_u64]; omega
        clear hR3
        refine wp_loop_rounds 2 ?_
        rw [rounds_succ]
        obtain ⟨H1, hH1⟩ : ∃ z, z = h * 4294967296 % 18446744073709551616 := ⟨_, rfl⟩
        obtain ⟨H2, hH2⟩ : ∃ z, z = (H1 + u1) % 18446744073709551616 := ⟨_, rfl⟩
        obtain ⟨H3, hH3⟩ : ∃ z, z = Q1 * 18446744069414584321 % 18446744073709551616 := ⟨_, rfl⟩
        obtain ⟨M2, hM2⟩ : ∃ z, z = q2 * 4294967295 := ⟨_, rfl⟩
        have d1 : IntKind.u64.wrap ((h : Int) * 4294967296) = (H1 : Int) := by rw [IntKind.wrap_u64]; omega
        have d2 : IntKind.u64.wrap ((H1 : Int) + (u1 : Int)) = (H2 : Int) := by rw [IntKind.wrap_u64]; omega
        have d3 : IntKind.u64.wrap ((Q1 : Int) * 18446744069414584321) = (H3 : Int) := by rw [IntKind.wrap_u64]; omega
        have d4 : IntKind.u64.wrap ((H2 : Int) - (H3 : Int)) = (X : Int) := by rw [IntKind.wrap_u64]; omega
        have d5 : (X : Int).tdiv 4294967295 = (q2 : Int) := by rw [Int.tdiv_eq_ediv_of_nonneg (by omega)]; omega
        have d6 : IntKind.u64.wrap ((q2 : Int)) = (q2 : Int) := by rw [IntKind.wrap_u64]; omega
        have d7 : IntKind.u64.wrap ((q2 : Int) * 4294967295) = (M2 : Int) := by rw [IntKind.wrap_u64]; omega
        have d8 : IntKind.u64.wrap ((X : Int) - (M2 : Int)) = (r2 : Int) := by rw [IntKind.wrap_u64]; omega
        clear hH1 hH2 hH3 hM2
        clear c1 c2 g1 g2 g3 g4 g5 g6 g7 g8 g9 g10 g11 k1 k2 hr0 hlt hQ
        go_wp2_with fail
        rw [rounds_succ]
        go_wp2_with fail
        clear b1 b2 b3 b4 b5 b6 b7 b8 b9 b10 b11 d1 d2 d3 d4 d5 d6 d7 d8
        by_cases c1 : 4294967296 ≤ q2
        · obtain ⟨g1, g2, g3, g4, g5, g6, g7, g8, g9, g10, g11, k1, k2⟩ := HG.out
          obtain ⟨hr0, hlt, hQ⟩ := HP2.out.2 (.inl c1)
          obtain ⟨R3, hR3⟩ : ∃ z, z = 18446744069414584320 + u0 := ⟨_, rfl⟩
          have b1 : IntKind.u64.wrap ((q2 : Int) - 1) = (Q0 : Int) := by rw [IntKind.wrap_u64]; omega
          have b2 : IntKind.u64.wrap ((r2 : Int) + 4294967295) = 4294967295 := by rw [IntKind.wrap_u64]; omega
          have b3 : decide ((4294967296 : Int) ≤ (q2 : Int)) = true := by simp; omega
          have b4 : IntKind.u64.wrap ((18446744069414584320 : Int) + (u0 : Int)) = (R3 : Int) := by rw [IntKind.wrap_u64]; omega
          have b5 : decide ((4294967296 : Int) ≤ (Q0 : Int)) = false := by simp; omega
          have b6 : decide (R3 < Q0) = false := by simp; omega
          have b7 : IntKind.u64.wrap (Q0 : Int) = (Q0 : Int) := by rw [IntKind.wrap_u64]; omega
          clear hR3
          refine wp_loop_rounds 2 ?_
          rw [rounds_succ]
          obtain ⟨F1, hF1⟩ : ∃ z, z = Q1 * 4294967296 := ⟨_, rfl⟩
          have d1 : IntKind.u64.wrap ((Q1 : Int) * 4294967296) = (F1 : Int) := by rw [IntKind.wrap_u64]; omega
          have d2 : IntKind.u64.wrap ((F1 : Int) + (Q0 : Int)) = ((F1 + Q0 : Nat) : Int) := by rw [IntKind.wrap_u64]; omega
          obtain ⟨F2, hF2⟩ : ∃ z, z = F1 + Q0 := ⟨_, rfl⟩
          rw [← hF2] at d2
          have HR : Hid (FF = F2) := Lib.hid (by rw [HFF.out, HK4.out, hF2, hF1])
          clear hF1 hF2
          clear c1 g1 g2 g3 g4 g5 g6 g7 g8 g9 g10 g11 k1 k2 hr0 hlt hQ
          go_wp2_with fail
          rw [rounds_succ]
          go_wp2_with fail
          go_ret2
          refine ⟨?_, by go_grown⟩
          rw [HR.out]
          exact ⟨_, rfl⟩
        · by_cases c2 : 4294967296 * r2 + u0 < q2
          · obtain ⟨g1, g2, g3, g4, g5, g6, g7, g8, g9, g10, g11, k1, k2⟩ := HG.out
            obtain ⟨hr0, hlt, hQ⟩ := HP2.out.2 (.inr c2)
            obtain ⟨R3, hR3⟩ : ∃ z, z = 18446744069414584320 + u0 := ⟨_, rfl⟩
            have b1 : IntKind.u64.wrap ((q2 : Int) - 1) = (Q0 : Int) := by rw [IntKind.wrap_u64]; omega
            have b2 : IntKind.u64.wrap ((r2 : Int) + 4294967295) = 4294967295 := by rw [IntKind.wrap_u64]; omega
            have b3 : decide ((4294967296 : Int) ≤ (q2 : Int)) = false := by simp; omega
            obtain ⟨R1, hR1⟩ : ∃ z, z = 4294967296 * r2 := ⟨_, rfl⟩
            obtain ⟨R2, hR2⟩ : ∃ z, z = R1 + u0 := ⟨_, rfl⟩
            have b8 : IntKind.u64.wrap ((4294967296 : Int) * (r2 : Int)) = (R1 : Int) := by rw [IntKind.wrap_u64]; omega
            have b9 : IntKind.u64.wrap ((R1 : Int) + (u0 : Int)) = (R2 : Int) := by rw [IntKind.wrap_u64]; omega
            have b10 : decide (R2 < q2) = true := by simp; omega
            have b11 : IntKind.u64.wrap (q2 : Int) = (q2 : Int) := by rw [IntKind.wrap_u64]; omega
            clear hR1 hR2
            have b4 : IntKind.u64.wrap ((18446744069414584320 : Int) + (u0 : Int)) = (R3 : Int) := by rw [IntKind.wrap_u64]; omega
            have b5 : decide ((4294967296 : Int) ≤ (Q0 : Int)) = false := by simp; omega
            have b6 : decide (R3 < Q0) = false := by simp; omega
            have b7 : IntKind.u64.wrap (Q0 : Int) = (Q0 : Int) := by rw [IntKind.wrap_u64]; omega
            clear hR3
            refine wp_loop_rounds 2 ?_
            rw [rounds_succ]
            obtain ⟨F1, hF1⟩ : ∃ z, z = Q1 * 4294967296 := ⟨_, rfl⟩
            have d1 : IntKind.u64.wrap ((Q1 : Int) * 4294967296) = (F1 : Int) := by rw [IntKind.wrap_u64]; omega
            have d2 : IntKind.u64.wrap ((F1 : Int) + (Q0 : Int)) = ((F1 + Q0 : Nat) : Int) := by rw [IntKind.wrap_u64]; omega
            obtain ⟨F2, hF2⟩ : ∃ z, z = F1 + Q0 := ⟨_, rfl⟩
            rw [← hF2] at d2
            have HR : Hid (FF = F2) := Lib.hid (by rw [HFF.out, HK4.out, hF2, hF1])
            clear hF1 hF2
            clear c1 c2 g1 g2 g3 g4 g5 g6 g7 g8 g9 g10 g11 k1 k2 hr0 hlt hQ
            go_wp2_with fail
            rw [rounds_succ]
            go_wp2_with fail
            go_ret2
            refine ⟨?_, by go_grown⟩
            rw [HR.out]
            exact ⟨_, rfl⟩
          · obtain ⟨g1, g2, g3, g4, g5, g6, g7, g8, g9, g10, g11, k1, k2⟩ := HG.out
            have hQ : Q0 = q2 := HP2.out.1 c1 c2
            subst hQ
            obtain ⟨R1, hR1⟩ : ∃ z, z = 4294967296 * r2 := ⟨_, rfl⟩
            obtain ⟨R2, hR2⟩ : ∃ z, z = R1 + u0 := ⟨_, rfl⟩
            have b1 : IntKind.u64.wrap ((4294967296 : Int) * (r2 : Int)) = (R1 : Int) := by rw [IntKind.wrap_u64]; omega
            have b2 : IntKind.u64.wrap ((R1 : Int) + (u0 : Int)) = (R2 : Int) := by rw [IntKind.wrap_u64]; omega
            have b3 : decide ((4294967296 : Int) ≤ (Q0 : Int)) = false := by simp; omega
            have b4 : decide (R2 < Q0) = false := by simp; omega
            have b5 : IntKind.u64.wrap (Q0 : Int) = (Q0 : Int) := by rw [IntKind.wrap_u64]; omega
            clear hR1 hR2
            refine wp_loop_rounds 1 ?_
            rw [rounds_succ]
            obtain ⟨F1, hF1⟩ : ∃ z, z = Q1 * 4294967296 := ⟨_, rfl⟩
            have d1 : IntKind.u64.wrap ((Q1 : Int) * 4294967296) = (F1 : Int) := by rw [IntKind.wrap_u64]; omega
            have d2 : IntKind.u64.wrap ((F1 : Int) + (Q0 : Int)) = ((F1 + Q0 : Nat) : Int) := by rw [IntKind.wrap_u64]; omega
            obtain ⟨F2, hF2⟩ : ∃ z, z = F1 + Q0 := ⟨_, rfl⟩
            rw [← hF2] at d2
            have HR : Hid (FF = F2) := Lib.hid (by rw [HFF.out, HK4.out, hF2, hF1])
            clear hF1 hF2
            clear c1 c2 g1 g2 g3 g4 g5 g6 g7 g8 g9 g10 g11 k1 k2
            go_wp2_with fail
            go_ret2
            refine ⟨?_, by go_grown⟩
            rw [HR.out]
            exact ⟨_, rfl⟩
      · obtain ⟨g1, g2, g3, g4, g5, g6, g7, g8, g9, g10, g11, k1, k2⟩ := HG.out
        have hQ : Q1 = q := HP1.out.1 c1 c2
        subst hQ
        obtain ⟨R1, hR1⟩ : ∃ z, z = 4294967296 * r := ⟨_, rfl⟩
        obtain ⟨R2, hR2⟩ : ∃ z, z = R1 + u1 := ⟨_, rfl⟩
        have b1 : IntKind.u64.wrap ((4294967296 : Int) * (r : Int)) = (R1 : Int) := by rw [IntKind.wrap_u64]; omega
        have b2 : IntKind.u64.wrap ((R1 : Int) + (u1 : Int)) = (R2 : Int) := by rw [IntKind.wrap_u64]; omega
        have b3 : decide ((4294967296 : Int) ≤ (Q1 : Int)) = false := by simp; omega
        have b4 : decide (R2 < Q1) = false := by simp; omega
        have b5 : IntKind.u64.wrap (Q1 : Int) = (Q1 : Int) := by rw [IntKind.wrap_u64]; omega
        clear hR1 hR2
        refine wp_loop_rounds 1 ?_
        rw [rounds_succ]
        obtain ⟨H1, hH1⟩ : ∃ z, z = h * 4294967296 % 18446744073709551616 := ⟨_, rfl⟩
        obtain ⟨H2, hH2⟩ : ∃ z, z = (H1 + u1) % 18446744073709551616 := ⟨_, rfl⟩
        obtain ⟨H3, hH3⟩ : ∃ z, z = Q1 * 18446744069414584321 % 18446744073709551616 := ⟨_, rfl⟩
        obtain ⟨M2, hM2⟩ : ∃ z, z = q2 * 4294967295 := ⟨_, rfl⟩
        have d1 : IntKind.u64.wrap ((h : Int) * 4294967296) = (H1 : Int) := by rw [IntKind.wrap_u64]; omega
        have d2 : IntKind.u64.wrap ((H1 : Int) + (u1 : Int)) = (H2 : Int) := by rw [IntKind.wrap_u64]; omega
        have d3 : IntKind.u64.wrap ((Q1 : Int) * 18446744069414584321) = (H3 : Int) := by rw [IntKind.wrap_u64]; omega
        have d4 : IntKind.u64.wrap ((H2 : Int) - (H3 : Int)) = (X : Int) := by rw [IntKind.wrap_u64]; omega
        have d5 : (X : Int).tdiv 4294967295 = (q2 : Int) := by rw [Int.tdiv_eq_ediv_of_nonneg (by omega)]; omega
        have d6 : IntKind.u64.wrap ((q2 : Int)) = (q2 : Int) := by rw [IntKind.wrap_u64]; omega
        have d7 : IntKind.u64.wrap ((q2 : Int) * 4294967295) = (M2 : Int) := by rw [IntKind.wrap_u64]; omega
        have d8 : IntKind.u64.wrap ((X : Int) - (M2 : Int)) = (r2 : Int) := by rw [IntKind.wrap_u64]; omega
        clear hH1 hH2 hH3 hM2
        clear c1 c2 g1 g2 g3 g4 g5 g6 g7 g8 g9 g10 g11 k1 k2
        go_wp2_with fail
        clear b1 b2 b3 b4 b5 d1 d2 d3 d4 d5 d6 d7 d8
        by_cases c1 : 4294967296 ≤ q2
        · obtain ⟨g1, g2, g3, g4, g5, g6, g7, g8, g9, g10, g11, k1, k2⟩ := HG.out
          obtain ⟨hr0, hlt, hQ⟩ := HP2.out.2 (.inl c1)
          obtain ⟨R3, hR3⟩ : ∃ z, z = 18446744069414584320 + u0 := ⟨_, rfl⟩
          have b1 : IntKind.u64.wrap ((q2 : Int) - 1) = (Q0 : Int) := by rw [IntKind.wrap_u64]; omega
          have b2 : IntKind.u64.wrap ((r2 : Int) + 4294967295) = 4294967295 := by rw [IntKind.wrap_u64]; omega
          have b3 : decide ((4294967296 : Int) ≤ (q2 : Int)) = true := by simp; omega
          have b4 : IntKind.u64.wrap ((18446744069414584320 : Int) + (u0 : Int)) = (R3 : Int) := by rw [IntKind.wrap_u64]; omega
          have b5 : decide ((4294967296 : Int) ≤ (Q0 : Int)) = false := by simp; omega
          have b6 : decide (R3 < Q0) = false := by simp; omega
          have b7 : IntKind.u64.wrap (Q0 : Int) = (Q0 : Int) := by rw [IntKind.wrap_u64]; omega
          clear hR3
          refine wp_loop_rounds 2 ?_
          rw [rounds_succ]
          obtain ⟨F1, hF1⟩ : ∃ z, z = Q1 * 4294967296 := ⟨_, rfl⟩
          have d1 : IntKind.u64.wrap ((Q1 : Int) * 4294967296) = (F1 : Int) := by rw [IntKind.wrap_u64]; omega
          have d2 : IntKind.u64.wrap ((F1 : Int) + (Q0 : Int)) = ((F1 + Q0 : Nat) : Int) := by rw [IntKind.wrap_u64]; omega
          obtain ⟨F2, hF2⟩ : ∃ z, z = F1 + Q0 := ⟨_, rfl⟩
          rw [← hF2] at d2
          have HR : Hid (FF = F2) := Lib.hid (by rw [HFF.out, HK4.out, hF2, hF1])
          clear hF1 hF2
          clear c1 g1 g2 g3 g4 g5 g6 g7 g8 g9 g10 g11 k1 k2 hr0 hlt hQ
          go_wp2_with fail
          rw [rounds_succ]
          go_wp2_with fail
          go_ret2
          refine ⟨?_, by go_grown⟩
          rw [HR.out]
          exact ⟨_, rfl⟩
        · by_cases c2 : 4294967296 * r2 + u0 < q2
          · obtain ⟨g1, g2, g3, g4, g5, g6, g7, g8, g9, g10, g11, k1, k2⟩ := HG.out
            obtain ⟨hr0, hlt, hQ⟩ := HP2.out.2 (.inr c2)
            obtain ⟨R3, hR3⟩ : ∃ z, z = 18446744069414584320 + u0 := ⟨_, rfl⟩
            have b1 : IntKind.u64.wrap ((q2 : Int) - 1) = (Q0 : Int) := by rw [IntKind.wrap_u64]; omega
            have b2 : IntKind.u64.wrap ((r2 : Int) + 4294967295) = 4294967295 := by rw [IntKind.wrap_u64]; omega
            have b3 : decide ((4294967296 : Int) ≤ (q2 : Int)) = false := by simp; omega
            obtain ⟨R1, hR1⟩ : ∃ z, z = 4294967296 * r2 := ⟨_, rfl⟩
            obtain ⟨R2, hR2⟩ : ∃ z, z = R1 + u0 := ⟨_, rfl⟩
            have b8 : IntKind.u64.wrap ((4294967296 : Int) * (r2 : Int)) = (R1 : Int) := by rw [IntKind.wrap_u64]; omega
            have b9 : IntKind.u64.wrap ((R1 : Int) + (u0 : Int)) = (R2 : Int) := by rw [IntKind.wrap_u64]; omega
            have b10 : decide (R2 < q2) = true := by simp; omega
            have b11 : IntKind.u64.wrap (q2 : Int) = (q2 : Int) := by rw [IntKind.wrap_u64]; omega
            clear hR1 hR2
            have b4 : IntKind.u64.wrap ((18446744069414584320 : Int) + (u0 : Int)) = (R3 : Int) := by rw [IntKind.wrap_u64]; omega
            have b5 : decide ((4294967296 : Int) ≤ (Q0 : Int)) = false := by simp; omega
            have b6 : decide (R3 < Q0) = false := by simp; omega
            have b7 : IntKind.u64.wrap (Q0 : Int) = (Q0 : Int) := by rw [IntKind.wrap_u64]; omega
            clear hR3
            refine wp_loop_rounds 2 ?_
            rw [rounds_succ]
            obtain ⟨F1, hF1⟩ : ∃ z, z = Q1 * 4294967296 := ⟨_, rfl⟩
            have d1 : IntKind.u64.wrap ((Q1 : Int) * 4294967296) = (F1 : Int) := by rw [IntKind.wrap_u64]; omega
            have d2 : IntKind.u64.wrap ((F1 : Int) + (Q0 : Int)) = ((F1 + Q0 : Nat) : Int) := by rw [IntKind.wrap_u64]; omega
            obtain ⟨F2, hF2⟩ : ∃ z, z = F1 + Q0 := ⟨_, rfl⟩
            rw [← hF2] at d2
            have HR : Hid (FF = F2) := Lib.hid (by rw [HFF.out, HK4.out, hF2, hF1])
            clear hF1 hF2
            clear c1 c2 g1 g2 g3 g4 g5 g6 g7 g8 g9 g10 g11 k1 k2 hr0 hlt hQ
            go_wp2_with fail
            rw [rounds_succ]
            go_wp2_with fail
            go_ret2
            refine ⟨?_, by go_grown⟩
            rw [HR.out]
            exact ⟨_, rfl⟩
          · obtain ⟨g1, g2, g3, g4, g5, g6, g7, g8, g9, g10, g11, k1, k2⟩ := HG.out
            have hQ : Q0 = q2 := HP2.out.1 c1 c2
            subst hQ
            obtain ⟨R1, hR1⟩ : ∃ z, z = 4294967296 * r2 := ⟨_, rfl⟩
            obtain ⟨R2, hR2⟩ : ∃ z, z = R1 + u0 := ⟨_, rfl⟩
            have b1 : IntKind.u64.wrap ((4294967296 : Int) * (r2 : Int)) = (R1 : Int) := by rw [IntKind.wrap_u64]; omega
            have b2 : IntKind.u64.wrap ((R1 : Int) + (u0 : Int)) = (R2 : Int) := by rw [IntKind.wrap_u64]; omega
            have b3 : decide ((4294967296 : Int) ≤ (Q0 : Int)) = false := by simp; omega
            have b4 : decide (R2 < Q0) = false := by simp; omega
            have b5 : IntKind.u64.wrap (Q0 : Int) = (Q0 : Int) := by rw [IntKind.wrap_u64]; omega
            clear hR1 hR2
            refine wp_loop_rounds 1 ?_
            rw [rounds_succ]
            obtain ⟨F1, hF1⟩ : ∃ z, z = Q1 * 4294967296 := ⟨_, rfl⟩
            have d1 : IntKind.u64.wrap ((Q1 : Int) * 4294967296) = (F1 : Int) := by rw [IntKind.wrap_u64]; omega
            have d2 : IntKind.u64.wrap ((F1 : Int) + (Q0 : Int)) = ((F1 + Q0 : Nat) : Int) := by rw [IntKind.wrap_u64]; omega
            obtain ⟨F2, hF2⟩ : ∃ z, z = F1 + Q0 := ⟨_, rfl⟩
            rw [← hF2] at d2
            have HR : Hid (FF = F2) := Lib.hid (by rw [HFF.out, HK4.out, hF2, hF1])
            clear hF1 hF2
            clear c1 c2 g1 g2 g3 g4 g5 g6 g7 g8 g9 g10 g11 k1 k2
            go_wp2_with fail
            go_ret2
            refine ⟨?_, by go_grown⟩
            rw [HR.out]
            exact ⟨_, rfl⟩
set_option maxHeartbeats 8000000 in
theorem div_N (h l : Nat) (hh : h < 18446744069414584320) (hl : l < 18446744073709551616) (w : World) :
    Calls Tryz.prog 185 #[.int .u64 (h : Int), .int .u64 (l : Int), .int .u64 18446744069414584320] w fun e w' => (∃ r : Value, e = .returned (.tuple #[.int .u64 (((h * 18446744073709551616 + l) / 18446744069414584320 : Nat) : Int), r])) ∧ Below w.heap.size w w' := by
  by_cases h0 : h = 0
  · subst h0
    go_enter Tryz.func185, Tryz.ntmps185
    go_wp2_with fail
    go_region
    go_wp2_with fail
    go_ret2
    exact ⟨⟨.int .u64 ((l : Int) % 18446744069414584320), by simp⟩, by go_grown⟩
  · have t1 : ((h : Int) == 0) = false := by simp; omega
    have t2 : decide ((18446744069414584320 : Int) ≤ (h : Int)) = false := by simp; omega
    have HPH := Lib.hid (half_N h (l / 4294967296) hh (by omega))
    have HFIN := Lib.hid (long_div h l 18446744069414584320 (by decide))
    have hX : (h * 4294967296 + l / 4294967296) % 18446744069414584320 < 18446744069414584320 := Nat.mod_lt _ (by decide)
    have HXE := Lib.hid (Nat.div_add_mod' (h * 4294967296 + l / 4294967296) 18446744069414584320).symm
    obtain ⟨u1, hu1⟩ : ∃ u, u = l / 4294967296 := ⟨_, rfl⟩
    obtain ⟨u0, hu0⟩ : ∃ u, u = l % 4294967296 := ⟨_, rfl⟩
    obtain ⟨q, hq⟩ : ∃ u, u = h / 4294967295 := ⟨_, rfl⟩
    obtain ⟨r, hr⟩ : ∃ u, u = h % 4294967295 := ⟨_, rfl⟩
    obtain ⟨M, hM⟩ : ∃ u, u = q * 4294967295 := ⟨_, rfl⟩
    rw [← hu1, ← hu0] at HFIN
    rw [← hu1] at HPH HXE hX
    rw [← hq] at HPH
    have a1 : IntKind.u64.wrap (h : Int) = (h : Int) := by rw [IntKind.wrap_u64]; omega
    have a2 : (l : Int) / 18446744073709551616 = 0 := by omega
    have a4 : IntKind.u64.wrap (l : Int) = (l : Int) := by rw [IntKind.wrap_u64]; omega
    have a5 : (l : Int) / 4294967296 = (u1 : Int) := by omega
    have a8 : (h : Int).tdiv 4294967295 = (q : Int) := by rw [Int.tdiv_eq_ediv_of_nonneg (by omega)]; omega
    have a9 : IntKind.u64.wrap (q : Int) = (q : Int) := by rw [IntKind.wrap_u64]; omega
    have a10 : IntKind.u64.wrap ((q : Int) * 4294967295) = (M : Int) := by rw [IntKind.wrap_u64]; omega
    have a11 : IntKind.u64.wrap ((h : Int) - (M : Int)) = (r : Int) := by rw [IntKind.wrap_u64]; omega
    have a3 := or_nil h (by omega)
    have a6 : bits .and .u64 (l : Int) 4294967295 = (u0 : Int) := by rw [Mul64.maskN l hl, ← hu0]
    have a7 := and_nil
    have HU : Hid (u1 < 4294967296 ∧ u0 < 4294967296 ∧ r < 4294967295 ∧ q ≤ 4294967296 ∧ h = q * 4294967295 + r ∧ h < 18446744069414584320) := Lib.hid ⟨by omega, by omega, by omega, by omega, by omega, hh⟩
    have HX := Lib.hid hX
    obtain ⟨FF, hFF⟩ : ∃ z, z = (h * 18446744073709551616 + l) / 18446744069414584320 := ⟨_, rfl⟩
    rw [← hFF]
    have HFF := Lib.hid hFF
    clear hFF
    clear hh hl h0 hu1 hu0 hq hr hM hX
    go_enter Tryz.func185, Tryz.ntmps185
    go_wp2_with fail
    refine (lz_N w).mono ?_
    rintro e w' ⟨rfl, rfl⟩
    go_wp2_with fail
    obtain ⟨g1, g2, g3, g4, g5, g6⟩ := HU.out
    obtain ⟨Q1, hQ1⟩ : ∃ z, z = (h * 4294967296 + u1) / 18446744069414584320 := ⟨_, rfl⟩
    obtain ⟨X, hX⟩ : ∃ z, z = (h * 4294967296 + u1) % 18446744069414584320 := ⟨_, rfl⟩
    have k1 := HXE.out
    have k2 := HX.out
    have k3 := HPH.out
    have k4 := HFIN.out
    rw [← hQ1, ← hX] at k1 k4
    rw [← hX] at k2
    rw [← hQ1] at k3
    have HP1 := Lib.hid k3
    have HP2 := Lib.hid (half_N X u0 k2 g2)
    obtain ⟨q2, hq2⟩ : ∃ z, z = X / 4294967295 := ⟨_, rfl⟩
    obtain ⟨r2, hr2⟩ : ∃ z, z = X % 4294967295 := ⟨_, rfl⟩
    obtain ⟨Q0, hQ0⟩ : ∃ z, z = (X * 4294967296 + u0) / 18446744069414584320 := ⟨_, rfl⟩
    rw [← hq2, ← hQ0] at HP2
    rw [← hQ0] at k4
    have g7 : r2 < 4294967295 := by omega
    have g8 : q2 ≤ 4294967296 := by omega
    have g9 : X = q2 * 4294967295 + r2 := by omega
    have g10 : Q0 < 4294967296 := by rw [hQ0]; exact (Nat.div_lt_iff_lt_mul (by decide)).2 (by omega)
    have g11 : Q1 < 4294967296 := by rw [hQ1]; exact (Nat.div_lt_iff_lt_mul (by decide)).2 (by omega)
    have HK4 := Lib.hid k4
    clear k3 k4 hQ1 hX hQ0 hq2 hr2 HPH HXE HX HFIN HU a1 a2 a3 a4 a5 a6 a7 a8 a9 a10 a11 t1 t2
    have HG := Lib.hid (And.intro g1 (And.intro g2 (And.intro g3 (And.intro g4 (And.intro g5 (And.intro g6 (And.intro g7 (And.intro g8 (And.intro g9 (And.intro g10 (And.intro g11 (And.intro k1 k2))))))))))))
    clear g1 g2 g3 g4 g5 g6 g7 g8 g9 g10 g11 k1 k2
    obtain ⟨g1, g2, g3, g4, g5, g6, g7, g8, g9, g10, g11, k1, k2⟩ := HG.out
    have hQ : Q1 = q := HP1.out.2
    subst hQ
    obtain ⟨R1, hR1⟩ : ∃ z, z = 4294967296 * r := ⟨_, rfl⟩
    obtain ⟨R2, hR2⟩ : ∃ z, z = R1 + u1 := ⟨_, rfl⟩
    have b1 : IntKind.u64.wrap ((4294967296 : Int) * (r : Int)) = (R1 : Int) := by rw [IntKind.wrap_u64]; omega
    have b2 : IntKind.u64.wrap ((R1 : Int) + (u1 : Int)) = (R2 : Int) := by rw [IntKind.wrap_u64]; omega
    have b3 : decide ((4294967296 : Int) ≤ (Q1 : Int)) = false := by simp; omega
    have b4 : decide (R2 < 0) = false := by simp
    clear hR1 hR2
    refine wp_loop_rounds 1 ?_
    rw [rounds_succ]
    obtain ⟨H1, hH1⟩ : ∃ z, z = h * 4294967296 % 18446744073709551616 := ⟨_, rfl⟩
    obtain ⟨H2, hH2⟩ : ∃ z, z = (H1 + u1) % 18446744073709551616 := ⟨_, rfl⟩
    obtain ⟨H3, hH3⟩ : ∃ z, z = Q1 * 18446744069414584320 % 18446744073709551616 := ⟨_, rfl⟩
    obtain ⟨M2, hM2⟩ : ∃ z, z = q2 * 4294967295 := ⟨_, rfl⟩
    have d1 : IntKind.u64.wrap ((h : Int) * 4294967296) = (H1 : Int) := by rw [IntKind.wrap_u64]; omega
    have d2 : IntKind.u64.wrap ((H1 : Int) + (u1 : Int)) = (H2 : Int) := by rw [IntKind.wrap_u64]; omega
    have d3 : IntKind.u64.wrap ((Q1 : Int) * 18446744069414584320) = (H3 : Int) := by rw [IntKind.wrap_u64]; omega
    have d4 : IntKind.u64.wrap ((H2 : Int) - (H3 : Int)) = (X : Int) := by rw [IntKind.wrap_u64]; omega
    have d5 : (X : Int).tdiv 4294967295 = (q2 : Int) := by rw [Int.tdiv_eq_ediv_of_nonneg (by omega)]; omega
    have d6 : IntKind.u64.wrap ((q2 : Int)) = (q2 : Int) := by rw [IntKind.wrap_u64]; omega
    have d7 : IntKind.u64.wrap ((q2 : Int) * 4294967295) = (M2 : Int) := by rw [IntKind.wrap_u64]; omega
    have d8 : IntKind.u64.wrap ((X : Int) - (M2 : Int)) = (r2 : Int) := by rw [IntKind.wrap_u64]; omega
    clear hH1 hH2 hH3 hM2
    clear g1 g2 g3 g4 g5 g6 g7 g8 g9 g10 g11 k1 k2
    go_wp2_with fail
    clear b1 b2 b3 b4 d1 d2 d3 d4 d5 d6 d7 d8
    obtain ⟨g1, g2, g3, g4, g5, g6, g7, g8, g9, g10, g11, k1, k2⟩ := HG.out
    have hQ : Q0 = q2 := HP2.out.2
    subst hQ
    obtain ⟨R1, hR1⟩ : ∃ z, z = 4294967296 * r2 := ⟨_, rfl⟩
    obtain ⟨R2, hR2⟩ : ∃ z, z = R1 + u0 := ⟨_, rfl⟩
    have b1 : IntKind.u64.wrap ((4294967296 : Int) * (r2 : Int)) = (R1 : Int) := by rw [IntKind.wrap_u64]; omega
    have b2 : IntKind.u64.wrap ((R1 : Int) + (u0 : Int)) = (R2 : Int) := by rw [IntKind.wrap_u64]; omega
    have b3 : decide ((4294967296 : Int) ≤ (Q0 : Int)) = false := by simp; omega
    have b4 : decide (R2 < 0) = false := by simp
    clear hR1 hR2
    refine wp_loop_rounds 1 ?_
    rw [rounds_succ]
    obtain ⟨F1, hF1⟩ : ∃ z, z = Q1 * 4294967296 := ⟨_, rfl⟩
    have d1 : IntKind.u64.wrap ((Q1 : Int) * 4294967296) = (F1 : Int) := by rw [IntKind.wrap_u64]; omega
    have d2 : IntKind.u64.wrap ((F1 : Int) + (Q0 : Int)) = ((F1 + Q0 : Nat) : Int) := by rw [IntKind.wrap_u64]; omega
    obtain ⟨F2, hF2⟩ : ∃ z, z = F1 + Q0 := ⟨_, rfl⟩
    rw [← hF2] at d2
    have HR : Hid (FF = F2) := Lib.hid (by rw [HFF.out, HK4.out, hF2, hF1])
    clear hF1 hF2
    clear g1 g2 g3 g4 g5 g6 g7 g8 g9 g10 g11 k1 k2
    go_wp2_with fail
    go_ret2
    refine ⟨?_, by go_grown⟩
    rw [HR.out]
    exact ⟨_, rfl⟩
def mP : Nat := 115792089210356248762697446949407573530086143415290314195533631308867097853951
def mN : Nat := 115792089210356248762697446949407573529996955224135760342422259061068512044369
def md (m : Int) : Nat := if m = 0 then mP else mN
theorem md_or (m : Int) : md m = mP ∨ md m = mN := by unfold md; split <;> simp
theorem lbP : lb mP 0 = 18446744073709551615 ∧ lb mP 1 = 4294967295 ∧ lb mP 2 = 0 ∧ lb mP 3 = 18446744069414584321 := by decide +kernel
theorem lbN : lb mN 0 = 17562291160714782033 ∧ lb mN 1 = 13611842547513532036 ∧ lb mN 2 = 18446744073709551615 ∧ lb mN 3 = 18446744069414584320 := by decide +kernel
theorem md_lt {M : Nat} (h : M = mP ∨ M = mN) : M < W256 ∧ W256 < 2 * M ∧ 9223372036854775808 ≤ lb M 3 ∧ 2 < M := by
  rcases h with rfl | rfl <;> decide +kernel
theorem lb_le {r M : Nat} (hr : r < M) (hM : M < W256) : lb r 3 ≤ lb M 3 := by
  unfold W256 at hM
  simp only [lb]
  omega
set_option maxHeartbeats 4000000 in
theorem quot_one (r m3 : Nat) (M : Nat) (hr3 : lb r 3 ≤ m3) (hm3 : m3 < 18446744073709551616) (eM : lb M 3 = m3) (hd : ∀ (h l : Nat), h < m3 → l < 18446744073709551616 → ∀ w, Calls Tryz.prog 185 #[.int .u64 (h : Int), .int .u64 (l : Int), .int .u64 (m3 : Int)] w fun e w' => (∃ r : Value, e = .returned (.tuple #[.int .u64 (((h * 18446744073709551616 + l) / m3 : Nat) : Int), r])) ∧ Below w.heap.size w w') (w : World) :
    Calls Tryz.prog 160 #[nv r, nv M] w fun e w' => e = .returned (.int .u64 (quo (lb r 3) (lb r 2) m3 : Nat)) ∧ Below w.heap.size w w' := by
  simp only [nv, num]
  rw [eM]
  have h2 := lb_lt r 2
  generalize lb r 3 = r3 at *
  generalize lb r 2 = r2 at *
  generalize lb r 1 = r1 at *
  generalize lb r 0 = r0 at *
  by_cases h : r3 = m3
  · have e : quo r3 r2 m3 = 18446744073709551615 := by unfold quo; rw [if_pos h]
    rw [e]
    subst h
    clear hd e eM hr3
    go_enter Tryz.func160, Tryz.ntmps160
    go_wp2_with fail
    go_ret
    exact ⟨rfl, by go_grown⟩
  · have e : quo r3 r2 m3 = (r3 * 18446744073709551616 + r2) / m3 := by unfold quo; rw [if_neg h]
    rw [e]
    have HD := Lib.hid (hd r3 r2 (by omega) h2)
    generalize (r3 * 18446744073709551616 + r2) / m3 = q at *
    have t1 : ((r3 : Int) == (m3 : Int)) = false := by simp; omega
    clear hd e eM hr3 h h2
    go_enter Tryz.func160, Tryz.ntmps160
    go_wp2_with fail
    refine (keep w.heap.size w (HD.out _) (by go_grown) (Nat.le_refl _)).mono ?_
    rintro e w' ⟨⟨rr, rfl⟩, hb, _⟩
    have HB := Lib.hid hb
    clear hb
    go_wp2_with fail
    go_ret
    exact ⟨rfl, HB.out⟩
theorem quot_any (r M : Nat) (hM : M = mP ∨ M = mN) (hr : r < M) (w : World) :
    Calls Tryz.prog 160 #[nv r, nv M] w fun e w' => e = .returned (.int .u64 (quo (lb r 3) (lb r 2) (lb M 3) : Nat)) ∧ Below w.heap.size w w' := by
  have hle := lb_le hr (md_lt hM).1
  rcases hM with rfl | rfl
  · exact quot_one r (lb mP 3) mP hle (lb_lt _ _) rfl (fun h l hh hl w => by rw [lbP.2.2.2] at hh ⊢; exact div_P h l hh hl w) w
  · exact quot_one r (lb mN 3) mN hle (lb_lt _ _) rfl (fun h l hh hl w => by rw [lbN.2.2.2] at hh ⊢; exact div_N h l hh hl w) w
theorem cs4_v4 {a b c d : Nat} (ha : a < 18446744073709551616) (hb : b < 18446744073709551616) (hc : c < 18446744073709551616) (hd : d < 18446744073709551616) : cs4 (v4 a b c d) = #[.int .u64 (a : Int), .int .u64 (b : Int), .int .u64 (c : Int), .int .u64 (d : Int)] := by
  obtain ⟨e0, e1, e2, e3⟩ := lb_v4 ha hb hc hd
  unfold cs4
  rw [e0, e1, e2, e3]
theorem mul_v4 (q a b c d : Nat) : q * v4 a b c d = q * a + 18446744073709551616 * (q * b + 18446744073709551616 * (q * c + 18446744073709551616 * (q * d))) := by
  unfold v4
  simp only [Nat.mul_add, Nat.mul_left_comm]
theorem behind_arith {X M q D hi k3 b3 N r3 low : Nat} (hM : 0 < M) (hq1 : X / M ≤ q) (hq2 : q ≤ X / M + 2) (hM2 : W256 < 2 * M) (hMW : M < W256)
    (hN : N + W256 * k3 = q * M) (hD : D < W256) (hb3 : b3 ≤ 1) (hlow : D + N = low + W256 * b3) (hX : X = low + W256 * r3) (hr3 : r3 < 18446744073709551616) (hk3 : k3 < 18446744073709551616) (hhi : hi < 18446744073709551616)
    (hh : ∃ z : Nat, hi + k3 + b3 = r3 + 18446744073709551616 * z) :
    (q = X / M ∧ hi = 0 ∧ D = X % M) ∨ (q = X / M + 1 ∧ D + M = W256 + X % M ∧ hi = 18446744073709551615) ∨ (q = X / M + 2 ∧ D + W256 * hi + 2 * M = W256 * 18446744073709551616 + X % M) := by
  have hdm := Nat.div_add_mod X M
  have hlt := Nat.mod_lt X hM
  obtain ⟨t, ht, ht2⟩ : ∃ t, q = X / M + t ∧ t ≤ 2 := ⟨q - X / M, by omega, by omega⟩
  have hqM : q * M = M * (X / M) + t * M := by rw [ht, Nat.add_mul, Nat.mul_comm]
  obtain ⟨z, hz⟩ := hh
  generalize X / M = Q at *
  generalize X % M = Y at *
  generalize M * Q = MQ at *
  generalize q * M = QM at *
  have h3 : t = 0 ∨ t = 1 ∨ t = 2 := by omega
  unfold W256 at *
  rcases h3 with rfl | rfl | rfl
  · left
    omega
  · right; left
    omega
  · right; right
    omega
theorem nvP : nv mP = .agg #[.int .u64 18446744073709551615, .int .u64 4294967295, .int .u64 0, .int .u64 18446744069414584321] := by
  unfold nv num; rw [lbP.1, lbP.2.1, lbP.2.2.1, lbP.2.2.2]; rfl
theorem nvN : nv mN = .agg #[.int .u64 17562291160714782033, .int .u64 13611842547513532036, .int .u64 18446744073709551615, .int .u64 18446744069414584320] := by
  unfold nv num; rw [lbN.1, lbN.2.1, lbN.2.2.1, lbN.2.2.2]; rfl
set_option maxHeartbeats 4000000 in
theorem mod_any (m : Int) (w : World) : Calls Tryz.prog 47 #[.int .i64 m] w fun e w' => e = .returned (nv (md m)) ∧ Below w.heap.size w w' := by
  by_cases h : m = 0
  · subst h
    show Calls Tryz.prog 47 #[.int .i64 0] w fun e w' => e = .returned (nv mP) ∧ Below w.heap.size w w'
    rw [nvP]
    go_enter Tryz.func47, Tryz.ntmps47
    go_wp2_with fail
    go_returns
    exact ⟨rfl, by go_grown⟩
  · have e : md m = mN := by unfold md; rw [if_neg h]
    rw [e, nvN]
    have t : (m == 0) = false := by simpa using h
    clear e h
    go_enter Tryz.func47, Tryz.ntmps47
    go_wp2_with fail
    go_returns
    exact ⟨rfl, by go_grown⟩
set_option maxHeartbeats 16000000 in
theorem behind_any (r l M : Nat) (hM : M = mP ∨ M = mN) (hr : r < M) (hl : l < 18446744073709551616) (w : World) :
    Calls Tryz.prog 130 #[nv r, .int .u64 (l : Int), nv M] w fun e w' => e = .returned (nv ((r * 18446744073709551616 + l) % M)) ∧ Below w.heap.size w w' := by
  obtain ⟨hMW, hM2, hM3, hMp⟩ := md_lt hM
  have HC := Lib.hid (quot_any r M hM hr)
  have hqb := quo_bounds (lb_lt r 0) (lb_lt r 1) (lb_lt r 2) (lb_lt r 3) (lb_lt M 0) (lb_lt M 1) (lb_lt M 2) (lb_lt M 3) hl hM3 (by rw [v4_lb hMW, v4_lb (by omega)]; exact hr)
  rw [v4_lb hMW, v4_lb (by omega)] at hqb
  have hql := quo_lt (lb_le hr hMW) (lb_lt r 2)
  have hXE : r * 18446744073709551616 + l = v4 l (lb r 0) (lb r 1) (lb r 2) + W256 * lb r 3 := by
    have := v4_lb (x := r) (by omega)
    unfold v4 at *
    unfold W256
    omega
  have hME := v4_lb hMW
  have hr0 := lb_lt r 0
  have hr1 := lb_lt r 1
  have hr2 := lb_lt r 2
  have hr3 := lb_lt r 3
  have hm0 := lb_lt M 0
  have hm1 := lb_lt M 1
  have hm2 := lb_lt M 2
  have hm3 := lb_lt M 3
  obtain ⟨X, hX⟩ : ∃ z, z = r * 18446744073709551616 + l := ⟨_, rfl⟩
  rw [← hX] at hqb hXE ⊢
  simp only [nv, num] at HC ⊢
  generalize quo (lb r 3) (lb r 2) (lb M 3) = q at *
  obtain ⟨Y, hY⟩ : ∃ z, z = X % M := ⟨_, rfl⟩
  rw [← hY]
  obtain ⟨r0, er0⟩ : ∃ z, z = lb r 0 := ⟨_, rfl⟩
  obtain ⟨r1, er1⟩ : ∃ z, z = lb r 1 := ⟨_, rfl⟩
  obtain ⟨r2, er2⟩ : ∃ z, z = lb r 2 := ⟨_, rfl⟩
  obtain ⟨r3, er3⟩ : ∃ z, z = lb r 3 := ⟨_, rfl⟩
  obtain ⟨m0, em0⟩ : ∃ z, z = lb M 0 := ⟨_, rfl⟩
  obtain ⟨m1, em1⟩ : ∃ z, z = lb M 1 := ⟨_, rfl⟩
  obtain ⟨m2, em2⟩ : ∃ z, z = lb M 2 := ⟨_, rfl⟩
  obtain ⟨m3, em3⟩ : ∃ z, z = lb M 3 := ⟨_, rfl⟩
  rw [← er0, ← er1, ← er2, ← er3] at HC hXE ⊢
  rw [← em0, ← em1, ← em2, ← em3] at HC hME ⊢
  rw [← er0] at hr0
  rw [← er1] at hr1
  rw [← er2] at hr2
  rw [← er3] at hr3
  rw [← em0] at hm0
  rw [← em1] at hm1
  rw [← em2] at hm2
  rw [← em3] at hm3 hM3
  have HA := Lib.hid (And.intro hqb.1 (And.intro hqb.2 (And.intro hM2 (And.intro hMW (And.intro hMp (And.intro hXE (And.intro hME hY)))))))
  have HL := Lib.hid (And.intro hql (And.intro hl (And.intro hr0 (And.intro hr1 (And.intro hr2 (And.intro hr3 (And.intro hm0 (And.intro hm1 (And.intro hm2 hm3)))))))))
  clear hqb hM2 hMW hMp hXE hME hY hX hql hl hr0 hr1 hr2 hr3 hm0 hm1 hm2 hm3 hM3 hr hM er0 er1 er2 er3 em0 em1 em2 em3
  go_enter Tryz.func130, Tryz.ntmps130
  go_wp2_with fail
  refine (keep w.heap.size w (HC.out _) (by go_grown) (Nat.le_refl _)).mono ?_
  rintro e w2 ⟨rfl, hb, hk⟩
  have K0 : Hid (Bk 24 w2 w.heap.size #[.int .u64 (r0 : Int), .int .u64 (r1 : Int), .int .u64 (r2 : Int), .int .u64 (r3 : Int)]) := Lib.hid (Bk.below (Bk.alloc (Bk.alloc (Bk.new rfl))) hk)
  have K1 : Hid (Bk 24 w2 (w.heap.size + 1) #[.int .u64 (m0 : Int), .int .u64 (m1 : Int), .int .u64 (m2 : Int), .int .u64 (m3 : Int)]) := Lib.hid (Bk.below (Bk.alloc (Bk.new (by simp))) hk)
  have K2 : Hid (Bk 24 w2 (w.heap.size + 1 + 1) cs0) := Lib.hid (Bk.below (Bk.new (by simp)) hk)
  have HB := Lib.hid hb
  clear hk hb HC
  obtain ⟨i0, i1, i2, i3⟩ := K0.out.cells
  obtain ⟨x0, x1, x2, x3⟩ := K0.out.cellsA
  obtain ⟨j0, j1, j2, j3⟩ := K1.out.cellsA
  go_wp2_with fail
  refine wp_loop_rounds 5 ?_
  rw [rounds_succ]
  go_wp2_with fail
  refine (times_any (a := q) (b := m0) (c := 0) (d := 0) HL.out.1 HL.out.2.2.2.2.2.2.1 (by decide) (by decide) _).mono ?_
  rintro e wz ⟨⟨n0, k0, hn0, hk0, en0, rfl⟩, rfl⟩
  obtain ⟨d0, b0, hd0, hb0, ed0, kd0⟩ := sub64 l n0 0 (by decide) HL.out.2.1 hn0
  rw [show ((0 : Nat) : Int) = 0 from rfl] at kd0
  have HK0 := Lib.hid (And.intro hn0 (And.intro hk0 (And.intro hd0 (And.intro hb0 (And.intro en0 ed0)))))
  clear hn0 hk0 hd0 hb0 en0 ed0
  go_wp2_with fail
  clear kd0
  rw [rounds_succ]
  go_wp2_with fail
  refine (times_any (a := q) (b := m1) (c := k0) (d := 0) HL.out.1 HL.out.2.2.2.2.2.2.2.1 HK0.out.2.1 (by decide) _).mono ?_
  rintro e wz ⟨⟨n1, k1, hn1, hk1, en1, rfl⟩, rfl⟩
  obtain ⟨d1, b1, hd1, hb1, ed1, kd1⟩ := sub64 r0 n1 b0 HK0.out.2.2.2.1 HL.out.2.2.1 hn1
  have HK1 := Lib.hid (And.intro hn1 (And.intro hk1 (And.intro hd1 (And.intro hb1 (And.intro en1 ed1)))))
  clear hn1 hk1 hd1 hb1 en1 ed1
  go_wp2_with fail
  clear kd1
  rw [rounds_succ]
  go_wp2_with fail
  refine (times_any (a := q) (b := m2) (c := k1) (d := 0) HL.out.1 HL.out.2.2.2.2.2.2.2.2.1 HK1.out.2.1 (by decide) _).mono ?_
  rintro e wz ⟨⟨n2, k2, hn2, hk2, en2, rfl⟩, rfl⟩
  obtain ⟨d2, b2, hd2, hb2, ed2, kd2⟩ := sub64 r1 n2 b1 HK1.out.2.2.2.1 HL.out.2.2.2.1 hn2
  have HK2 := Lib.hid (And.intro hn2 (And.intro hk2 (And.intro hd2 (And.intro hb2 (And.intro en2 ed2)))))
  clear hn2 hk2 hd2 hb2 en2 ed2
  go_wp2_with fail
  clear kd2
  rw [rounds_succ]
  go_wp2_with fail
  refine (times_any (a := q) (b := m3) (c := k2) (d := 0) HL.out.1 HL.out.2.2.2.2.2.2.2.2.2 HK2.out.2.1 (by decide) _).mono ?_
  rintro e wz ⟨⟨n3, k3, hn3, hk3, en3, rfl⟩, rfl⟩
  obtain ⟨d3, b3, hd3, hb3, ed3, kd3⟩ := sub64 r2 n3 b2 HK2.out.2.2.2.1 HL.out.2.2.2.2.1 hn3
  have HK3 := Lib.hid (And.intro hn3 (And.intro hk3 (And.intro hd3 (And.intro hb3 (And.intro en3 ed3)))))
  clear hn3 hk3 hd3 hb3 en3 ed3
  go_wp2_with fail
  clear kd3
  obtain ⟨hi, hhi, hz, ehi⟩ : ∃ hi : Nat, hi < 18446744073709551616 ∧ (∃ z : Nat, hi + k3 + b3 = r3 + 18446744073709551616 * z) ∧ IntKind.u64.wrap ((r3 : Int) - IntKind.u64.wrap ((k3 : Int) + (b3 : Int))) = (hi : Int) := by
    have h1 := HK3.out.2.1
    have h2 := HK3.out.2.2.2.1
    have h3 := HL.out.2.2.2.2.2.1
    refine ⟨(r3 + 36893488147419103232 - (k3 + b3)) % 18446744073709551616, by omega, ⟨(k3 + b3 + (r3 + 36893488147419103232 - (k3 + b3)) % 18446744073709551616 - r3) / 18446744073709551616, by omega⟩, by rw [IntKind.wrap_u64, IntKind.wrap_u64]; omega⟩
  have HE := Lib.hid (show (q = X / M ∧ hi = 0 ∧ v4 d0 d1 d2 d3 = Y) ∨ (q = X / M + 1 ∧ v4 d0 d1 d2 d3 + M = W256 + Y ∧ hi = 18446744073709551615) ∨ (q = X / M + 2 ∧ v4 d0 d1 d2 d3 + W256 * hi + 2 * M = W256 * 18446744073709551616 + Y) from by
    obtain ⟨g1, g2, g3, g4, g5, g6, g7, g8⟩ := HA.out
    obtain ⟨f1, f2, f3, f4, f5, f6, f7, f8, f9, f10⟩ := HL.out
    obtain ⟨hn0, hk0, hd0, hb0, en0, ed0⟩ := HK0.out
    obtain ⟨hn1, hk1, hd1, hb1, en1, ed1⟩ := HK1.out
    obtain ⟨hn2, hk2, hd2, hb2, en2, ed2⟩ := HK2.out
    obtain ⟨hn3, hk3, hd3, hb3, en3, ed3⟩ := HK3.out
    rw [g8]
    refine behind_arith (N := v4 n0 n1 n2 n3) (low := v4 l r0 r1 r2) (k3 := k3) (b3 := b3) (r3 := r3) (by omega) g1 g2 g3 g4 ?_ (v4_lt hd0 hd1 hd2 hd3) hb3 ?_ g6 f6 hk3 hhi hz
    · rw [← g7, mul_v4]
      generalize q * m0 = t0 at *
      generalize q * m1 = t1 at *
      generalize q * m2 = t2 at *
      generalize q * m3 = t3 at *
      unfold v4 W256
      omega
    · unfold v4 W256
      omega)
  have HD := Lib.hid (And.intro HK0.out.2.2.1 (And.intro HK1.out.2.2.1 (And.intro HK2.out.2.2.1 HK3.out.2.2.1)))
  have HHI := Lib.hid hhi
  clear hz hhi HK0 HK1 HK2 HK3
  rw [rounds_succ]
  go_wp2_with fail
  clear x0 x1 x2 x3 i0 i1 i2 i3 j0 j1 j2 j3
  obtain ⟨f0, f1, f2, f3⟩ := K2.out.frosA
  obtain ⟨c0, c1, c2, c3⟩ := K2.out.cellsA
  rcases HE.out with ⟨_, h0, hY⟩ | ⟨_, hY, h1⟩ | ⟨_, hY⟩
  · subst h0
    have HY := Lib.hid hY
    clear hY
    refine wp_loop_rounds 1 ?_
    rw [rounds_succ]
    go_wp2_with fail
    refine ret_cell rfl (w.heap.size + 1 + 1) Y rfl (by rw [← HY.out, cs4_v4 HD.out.1 HD.out.2.1 HD.out.2.2.1 HD.out.2.2.2]; exact Bk.put K2.out.alloc) rfl ⟨rfl, ?_⟩
    have hb := HB.out
    have hs := hb.size
    go_grown
  · subst h1
    have hYM : Y < M := by
      have h1 := HA.out.2.2.2.2.2.2.2
      have h2 := HA.out.2.2.2.2.1
      rw [h1]; exact Nat.mod_lt _ (by omega)
    have HY := Lib.hid (And.intro hY hYM)
    clear hY hYM
    refine wp_loop_rounds 2 ?_
    rw [rounds_succ]
    obtain ⟨j0, j1, j2, j3⟩ := K1.out.cellsA
    have HD1 := HD
    go_wp2_with fail
    refine (keep w.heap.size w (plus_any HD1.out.1 HD1.out.2.1 HD1.out.2.2.1 HD1.out.2.2.2 HL.out.2.2.2.2.2.2.1 HL.out.2.2.2.2.2.2.2.1 HL.out.2.2.2.2.2.2.2.2.1 HL.out.2.2.2.2.2.2.2.2.2 _) (by have hb := HB.out; have hs := hb.size; go_grown) (Nat.le_refl _)).mono ?_
    rintro e w3 ⟨⟨s0, s1, s2, s3, c, z0, z1, z2, z3, zc, ze, rfl⟩, hb, hk⟩
    have HD2 := Lib.hid (And.intro z0 (And.intro z1 (And.intro z2 z3)))
    obtain ⟨hc1, hs1⟩ : c = 1 ∧ v4 s0 s1 s2 s3 = Y := by
      rw [HA.out.2.2.2.2.2.2.1] at ze
      have h1 := HY.out.1
      have h2 := HY.out.2
      have h3 := HA.out.2.2.2.1
      have h4 := v4_lt z0 z1 z2 z3
      generalize v4 s0 s1 s2 s3 = S at *
      generalize v4 d0 d1 d2 d3 = DD at *
      unfold W256 at *
      omega
    subst hc1
    have HS := Lib.hid hs1
    have KK2 : Hid (Bk 24 w3 (w.heap.size + 1 + 1) cs0) := Lib.hid (Bk.below (Bk.alloc K2.out) hk)
    have KKL : Hid (Bk 24 w3 w2.heap.size #[.int .u64 (d0 : Int), .int .u64 (d1 : Int), .int .u64 (d2 : Int), .int .u64 (d3 : Int)]) := Lib.hid (Bk.below (Bk.new rfl) hk)
    have hne1 : ¬ (w.heap.size + 1 + 1 = w2.heap.size) := by have := K2.out.lt; omega
    have hne2 : ¬ (w2.heap.size = w.heap.size + 1 + 1) := by have := K2.out.lt; omega
    have HB3 := Lib.hid hb
    clear z0 z1 z2 z3 zc ze hs1 hk hb f0 f1 f2 f3 c0 c1 c2 c3 j0 j1 j2 j3
    obtain ⟨f0, f1, f2, f3⟩ := KK2.out.fros
    obtain ⟨c0, c1, c2, c3⟩ := KK2.out.cells
    obtain ⟨y0, y1, y2, y3⟩ := KKL.out.fros
    obtain ⟨x0, x1, x2, x3⟩ := KKL.out.cells
    simp only [num]
    go_wp2_with fail
    rw [rounds_succ]
    go_wp2_with fail
    refine ret_cell rfl (w.heap.size + 1 + 1) Y rfl (by rw [← HS.out, cs4_v4 HD2.out.1 HD2.out.2.1 HD2.out.2.2.1 HD2.out.2.2.2]; exact Bk.put (Bk.puto hne1 KK2.out)) rfl ⟨rfl, ?_⟩
    have hb := HB3.out
    have hs := HB.out.size
    go_grown
  · have hYM : Y < M := by
      have h1 := HA.out.2.2.2.2.2.2.2
      have h2 := HA.out.2.2.2.2.1
      rw [h1]; exact Nat.mod_lt _ (by omega)
    have HY := Lib.hid (And.intro hY hYM)
    have hi1 : ((hi : Int) != 0) = true := by
      have h3 := HA.out.2.2.2.1
      have h4 := v4_lt HD.out.1 HD.out.2.1 HD.out.2.2.1 HD.out.2.2.2
      generalize v4 d0 d1 d2 d3 = DD at *
      unfold W256 at *
      simp
      omega
    clear hY hYM
    refine wp_loop_rounds 3 ?_
    rw [rounds_succ]
    obtain ⟨j0, j1, j2, j3⟩ := K1.out.cellsA
    have HD1 := HD
    go_wp2_with fail
    refine (keep w.heap.size w (plus_any HD1.out.1 HD1.out.2.1 HD1.out.2.2.1 HD1.out.2.2.2 HL.out.2.2.2.2.2.2.1 HL.out.2.2.2.2.2.2.2.1 HL.out.2.2.2.2.2.2.2.2.1 HL.out.2.2.2.2.2.2.2.2.2 _) (by have hb := HB.out; have hs := hb.size; have hs2 := HB.out.size; go_grown) (Nat.le_refl _)).mono ?_
    rintro e w3 ⟨⟨s0, s1, s2, s3, c, z0, z1, z2, z3, zc, ze, rfl⟩, hb, hk⟩
    have HD2 := Lib.hid (And.intro z0 (And.intro z1 (And.intro z2 z3)))
    obtain ⟨hc1, hs1⟩ : IntKind.u64.wrap ((hi : Int) + (c : Int)) = 18446744073709551615 ∧ v4 s0 s1 s2 s3 + M = W256 + Y := by
      rw [HA.out.2.2.2.2.2.2.1] at ze
      have h1 := HY.out.1
      have h2 := HY.out.2
      have h3 := HA.out.2.2.2.1
      have h4 := v4_lt z0 z1 z2 z3
      have h5 := HHI.out
      generalize v4 s0 s1 s2 s3 = S at *
      generalize v4 d0 d1 d2 d3 = DD at *
      rw [IntKind.wrap_u64]
      unfold W256 at *
      omega
    have HS := Lib.hid hs1
    have KM : Hid (Bk 24 w3 (w.heap.size + 1) #[.int .u64 (m0 : Int), .int .u64 (m1 : Int), .int .u64 (m2 : Int), .int .u64 (m3 : Int)]) := Lib.hid (Bk.below (Bk.alloc K1.out) hk)
    have KK2 : Hid (Bk 24 w3 (w.heap.size + 1 + 1) cs0) := Lib.hid (Bk.below (Bk.alloc K2.out) hk)
    have KKL : Hid (Bk 24 w3 w2.heap.size #[.int .u64 (d0 : Int), .int .u64 (d1 : Int), .int .u64 (d2 : Int), .int .u64 (d3 : Int)]) := Lib.hid (Bk.below (Bk.new rfl) hk)
    have hne1 : ¬ (w.heap.size + 1 + 1 = w2.heap.size) := by have := K2.out.lt; omega
    have hne2 : ¬ (w2.heap.size = w.heap.size + 1 + 1) := by have := K2.out.lt; omega
    have hne3 : ¬ (w.heap.size + 1 = w2.heap.size) := by have := K2.out.lt; omega
    have hne4 : ¬ (w2.heap.size = w.heap.size + 1) := by have := K2.out.lt; omega
    have HB3 := Lib.hid hb
    clear z0 z1 z2 z3 zc ze hs1 hk hb f0 f1 f2 f3 c0 c1 c2 c3 j0 j1 j2 j3
    obtain ⟨j0, j1, j2, j3⟩ := KM.out.cells
    obtain ⟨y0, y1, y2, y3⟩ := KKL.out.fros
    obtain ⟨x0, x1, x2, x3⟩ := KKL.out.cells
    simp only [num]
    go_wp2_with fail
    rw [rounds_succ]
    go_wp2_with fail
    refine (keep w.heap.size w (plus_any HD2.out.1 HD2.out.2.1 HD2.out.2.2.1 HD2.out.2.2.2 HL.out.2.2.2.2.2.2.1 HL.out.2.2.2.2.2.2.2.1 HL.out.2.2.2.2.2.2.2.2.1 HL.out.2.2.2.2.2.2.2.2.2 _) (by have hb := HB3.out; have hs := hb.size; have hs2 := HB.out.size; go_grown) (Nat.le_refl _)).mono ?_
    rintro e w4 ⟨⟨u0, u1, u2, u3, cc, z0, z1, z2, z3, zc, ze, rfl⟩, hb, hk⟩
    have HD3 := Lib.hid (And.intro z0 (And.intro z1 (And.intro z2 z3)))
    obtain ⟨hcc1, hu1⟩ : cc = 1 ∧ v4 u0 u1 u2 u3 = Y := by
      rw [HA.out.2.2.2.2.2.2.1] at ze
      have h1 := HS.out
      have h2 := HY.out.2
      have h3 := HA.out.2.2.2.1
      have h4 := v4_lt z0 z1 z2 z3
      generalize v4 u0 u1 u2 u3 = U at *
      generalize v4 s0 s1 s2 s3 = S at *
      unfold W256 at *
      omega
    subst hcc1
    have HU := Lib.hid hu1
    have LK2 : Hid (Bk 24 w4 (w.heap.size + 1 + 1) cs0) := Lib.hid (Bk.below (Bk.puto hne1 KK2.out) hk)
    have LKL : Hid (Bk 24 w4 w2.heap.size #[.int .u64 (s0 : Int), .int .u64 (s1 : Int), .int .u64 (s2 : Int), .int .u64 (s3 : Int)]) := Lib.hid (Bk.below (Bk.put KKL.out) hk)
    have HB4 := Lib.hid hb
    clear z0 z1 z2 z3 zc ze hu1 hk hb j0 j1 j2 j3 y0 y1 y2 y3 x0 x1 x2 x3 hc1
    obtain ⟨f0, f1, f2, f3⟩ := LK2.out.fros
    obtain ⟨c0, c1, c2, c3⟩ := LK2.out.cells
    obtain ⟨y0, y1, y2, y3⟩ := LKL.out.fros
    obtain ⟨x0, x1, x2, x3⟩ := LKL.out.cells
    simp only [num]
    go_wp2_with fail
    rw [rounds_succ]
    go_wp2_with fail
    refine ret_cell rfl (w.heap.size + 1 + 1) Y rfl (by rw [← HU.out, cs4_v4 HD3.out.1 HD3.out.2.1 HD3.out.2.2.1 HD3.out.2.2.2]; exact Bk.put (Bk.puto hne1 LK2.out)) rfl ⟨rfl, ?_⟩
    have hb := HB4.out
    have hs := HB.out.size
    go_grown
end Go.Proofs.YtpggkfdijmnmiaaGreat
