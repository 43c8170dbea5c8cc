/- How often the highest limb of a modulus goes into two limbs. Condition: the modulus is one of the two. The two moduli; how often one goes into a number with a limb behind it, or that and one or two too much. Condition: the number is below the modulus. What is left of a number with one limb more behind it, divided by a modulus. Condition: the number is below the modulus. The moduli as the program h -/
import Derived.Test.YtpggkfdijmnmiaaGreatZup01
import Derived.StillTail
import Derived.StillTailTactics
import Derived.Lib.QuietBelow
import Derived.BigQuiet
import Derived.Deep.RegionLaw
set_option linter.unusedVariables false
set_option linter.unusedSimpArgs false
set_option maxRecDepth 100000
namespace Go.Proofs.YtpggkfdijmnmiaaGreat
open Go.RowKit Limbs
set_option maxHeartbeats 4000000 in
theorem lz_P (w : World) : Calls Tryz.prog 199 #[.int .u64 18446744069414584321] w fun e w' => e = .returned (.int .i64 0) ∧ w' = w := by
  go_enter Tryz.func199, Tryz.ntmps199
  go_wp2_with fail
  refine (show Calls Tryz.prog 207 #[.int .u64 18446744069414584321] w fun e w' => e = .returned (.int .i64 64) ∧ w' = w from ?_).mono ?_
  · go_enter Tryz.func207, Tryz.ntmps207
    go_wp2_with fail
    go_ret
    exact ⟨by kernel_rfl, rfl⟩
  rintro e w' ⟨rfl, rfl⟩
  go_wp2_with fail
  go_ret
  exact ⟨rfl, rfl⟩
set_option maxHeartbeats 4000000 in
theorem lz_N (w : World) : Calls Tryz.prog 199 #[.int .u64 18446744069414584320] w fun e w' => e = .returned (.int .i64 0) ∧ w' = w := by
  go_enter Tryz.func199, Tryz.ntmps199
  go_wp2_with fail
  refine (show Calls Tryz.prog 207 #[.int .u64 18446744069414584320] w fun e w' => e = .returned (.int .i64 64) ∧ w' = w from ?_).mono ?_
  · go_enter Tryz.func207, Tryz.ntmps207
    go_wp2_with fail
    go_ret
    exact ⟨by kernel_rfl, rfl⟩
  rintro e w' ⟨rfl, rfl⟩
  go_wp2_with fail
  go_ret
  exact ⟨rfl, rfl⟩
theorem half_P (x u : Nat) (hx : x < 18446744069414584321) (hu : u < 4294967296) :
    (¬ 4294967296 ≤ x / 4294967295 → ¬ 4294967296 * (x % 4294967295) + u < x / 4294967295 → (x * 4294967296 + u) / 18446744069414584321 = x / 4294967295) ∧ (4294967296 ≤ x / 4294967295 ∨ 4294967296 * (x % 4294967295) + u < x / 4294967295 → x % 4294967295 = 0 ∧ u < x / 4294967295 ∧ (x * 4294967296 + u) / 18446744069414584321 = x / 4294967295 - 1) := by
  have ex : x = 4294967295 * (x / 4294967295) + x % 4294967295 := (Nat.div_add_mod x 4294967295).symm
  have hr : x % 4294967295 < 4294967295 := Nat.mod_lt _ (by decide)
  generalize x / 4294967295 = q at *
  generalize x % 4294967295 = r at *
  subst ex
  refine ⟨fun h1 h2 => ?_, fun h => ⟨by omega, by omega, ?_⟩⟩
  · rw [Nat.div_eq_iff (by decide)]; omega
  · rw [Nat.div_eq_iff (by decide)]; omega
theorem long_div (h l D : Nat) (hD : 0 < D) : (h * 18446744073709551616 + l) / D = (h * 4294967296 + l / 4294967296) / D * 4294967296 + ((h * 4294967296 + l / 4294967296) % D * 4294967296 + l % 4294967296) / D := by
  have e : h * 18446744073709551616 + l = ((h * 4294967296 + l / 4294967296) % D * 4294967296 + l % 4294967296) + (h * 4294967296 + l / 4294967296) / D * 4294967296 * D := by
    have e1 := Nat.div_add_mod (h * 4294967296 + l / 4294967296) D
    have e2 : (h * 4294967296 + l / 4294967296) / D * 4294967296 * D = D * ((h * 4294967296 + l / 4294967296) / D) * 4294967296 := by rw [Nat.mul_right_comm, Nat.mul_comm ((h * 4294967296 + l / 4294967296) / D) D]
    rw [e2]
    generalize D * ((h * 4294967296 + l / 4294967296) / D) = A at *
    generalize (h * 4294967296 + l / 4294967296) % D = C at *
    omega
  conv => lhs; rw [e]
  rw [Nat.add_mul_div_right _ _ hD, Nat.add_comm]
theorem half_N (x u : Nat) (hx : x < 18446744069414584320) (hu : u < 4294967296) : x / 4294967295 < 4294967296 ∧ (x * 4294967296 + u) / 18446744069414584320 = x / 4294967295 := by
  have ex : x = 4294967295 * (x / 4294967295) + x % 4294967295 := (Nat.div_add_mod x 4294967295).symm
  have hr : x % 4294967295 < 4294967295 := Nat.mod_lt _ (by decide)
  generalize x / 4294967295 = q at *
  generalize x % 4294967295 = r at *
  subst ex
  refine ⟨by omega, ?_⟩
  rw [Nat.div_eq_iff (by decide)]; omega
theorem and_one : bits .and .u64 18446744069414584321 4294967295 = 1 := by decide +kernel
theorem and_nil : bits .and .u64 18446744069414584320 4294967295 = 0 := by decide +kernel
theorem or_nil (h : Nat) (hh : h < 18446744073709551616) : bits .or .u64 (h : Int) 0 = (h : Int) := by
  have := bits_or_u64_nat h 0 hh (by decide)
  simpa using this
set_option maxHeartbeats 8000000 in
theorem div_P (h l : Nat) (hh : h < 18446744069414584321) (hl : l < 18446744073709551616) (w : World) :
    Calls Tryz.prog 185 #[.int .u64 (h : Int), .int .u64 (l : Int), .int .u64 18446744069414584321] w fun e w' => (∃ r : Value, e = .returned (.tuple #[.int .u64 (((h * 18446744073709551616 + l) / 18446744069414584321 : Nat) : Int), r])) ∧ Below w.heap.size w w' := by
  by_cases h0 : h = 0
  · subst h0
    go_enter Tryz.func185, Tryz.ntmps185
    go_wp2_with fail
    go_region
    go_wp2_with fail
    go_ret2
    exact ⟨⟨.int .u64 ((l : Int) % 18446744069414584321), by simp⟩, by go_grown⟩
  · have t1 : ((h : Int) == 0) = false := by simp; omega
    have t2 : decide ((18446744069414584321 : Int) ≤ (h : Int)) = false := by simp; omega
    have HPH := Lib.hid (half_P h (l / 4294967296) hh (by omega))
    have HFIN := Lib.hid (long_div h l 18446744069414584321 (by decide))
    have hX : (h * 4294967296 + l / 4294967296) % 18446744069414584321 < 18446744069414584321 := Nat.mod_lt _ (by decide)
    have HXE := Lib.hid (Nat.div_add_mod' (h * 4294967296 + l / 4294967296) 18446744069414584321).symm
    obtain ⟨u1, hu1⟩ : ∃ u, u = l / 4294967296 := ⟨_, rfl⟩
    obtain ⟨u0, hu0⟩ : ∃ u, u = l % 4294967296 := ⟨_, rfl⟩
    obtain ⟨q, hq⟩ : ∃ u, u = h / 4294967295 := ⟨_, rfl⟩
    obtain ⟨r, hr⟩ : ∃ u, u = h % 4294967295 := ⟨_, rfl⟩
    obtain ⟨M, hM⟩ : ∃ u, u = q * 4294967295 := ⟨_, rfl⟩
    rw [← hu1, ← hu0] at HFIN
    rw [← hu1] at HPH HXE hX
    rw [← hq, ← hr] at HPH
    have a1 : IntKind.u64.wrap (h : Int) = (h : Int) := by rw [IntKind.wrap_u64]; omega
    have a2 : (l : Int) / 18446744073709551616 = 0 := by omega
    have a4 : IntKind.u64.wrap (l : Int) = (l : Int) := by rw [IntKind.wrap_u64]; omega
    have a5 : (l : Int) / 4294967296 = (u1 : Int) := by omega
    have a8 : (h : Int).tdiv 4294967295 = (q : Int) := by rw [Int.tdiv_eq_ediv_of_nonneg (by omega)]; omega
    have a9 : IntKind.u64.wrap (q : Int) = (q : Int) := by rw [IntKind.wrap_u64]; omega
    have a10 : IntKind.u64.wrap ((q : Int) * 4294967295) = (M : Int) := by rw [IntKind.wrap_u64]; omega
    have a11 : IntKind.u64.wrap ((h : Int) - (M : Int)) = (r : Int) := by rw [IntKind.wrap_u64]; omega
    have a3 := or_nil h (by omega)
    have a6 : bits .and .u64 (l : Int) 4294967295 = (u0 : Int) := by rw [Mul64.maskN l hl, ← hu0]
    have a7 := and_one
    have HU : Hid (u1 < 4294967296 ∧ u0 < 4294967296 ∧ r < 4294967295 ∧ q ≤ 4294967296 ∧ h = q * 4294967295 + r ∧ h < 18446744069414584321) := Lib.hid ⟨by omega, by omega, by omega, by omega, by omega, hh⟩
    have HX := Lib.hid hX
    obtain ⟨FF, hFF⟩ : ∃ z, z = (h * 18446744073709551616 + l) / 18446744069414584321 := ⟨_, rfl⟩
    rw [← hFF]
    have HFF := Lib.hid hFF
    clear hFF
    clear hh hl h0 hu1 hu0 hq hr hM hX
    go_enter Tryz.func185, Tryz.ntmps185
    go_wp2_with fail
    refine (lz_P w).mono ?_
    rintro e w' ⟨rfl, rfl⟩
    go_wp2_with fail
    obtain ⟨g1, g2, g3, g4, g5, g6⟩ := HU.out
    obtain ⟨Q1, hQ1⟩ : ∃ z, z = (h * 4294967296 + u1) / 18446744069414584321 := ⟨_, rfl⟩
    obtain ⟨X, hX⟩ : ∃ z, z = (h * 4294967296 + u1) % 18446744069414584321 := ⟨_, rfl⟩
    have k1 := HXE.out
    have k2 := HX.out
    have k3 := HPH.out
    have k4 := HFIN.out
    rw [← hQ1, ← hX] at k1 k4
    rw [← hX] at k2
    rw [← hQ1] at k3
    have HP1 := Lib.hid k3
    have HP2 := Lib.hid (half_P X u0 k2 g2)
    obtain ⟨q2, hq2⟩ : ∃ z, z = X / 4294967295 := ⟨_, rfl⟩
    obtain ⟨r2, hr2⟩ : ∃ z, z = X % 4294967295 := ⟨_, rfl⟩
    obtain ⟨Q0, hQ0⟩ : ∃ z, z = (X * 4294967296 + u0) / 18446744069414584321 := ⟨_, rfl⟩
    rw [← hq2, ← hr2, ← hQ0] at HP2
    rw [← hQ0] at k4
    have g7 : r2 < 4294967295 := by omega
    have g8 : q2 ≤ 4294967296 := by omega
    have g9 : X = q2 * 4294967295 + r2 := by omega
    have g10 : Q0 < 4294967296 := by rw [hQ0]; exact (Nat.div_lt_iff_lt_mul (by decide)).2 (by omega)
    have g11 : Q1 < 4294967296 := by rw [hQ1]; exact (Nat.div_lt_iff_lt_mul (by decide)).2 (by omega)
    have HK4 := Lib.hid k4
    clear k3 k4 hQ1 hX hQ0 hq2 hr2 HPH HXE HX HFIN HU a1 a2 a3 a4 a5 a6 a7 a8 a9 a10 a11 t1 t2
    have HG := Lib.hid (And.intro g1 (And.intro g2 (And.intro g3 (And.intro g4 (And.intro g5 (And.intro g6 (And.intro g7 (And.intro g8 (And.intro g9 (And.intro g10 (And.intro g11 (And.intro k1 k2))))))))))))
    clear g1 g2 g3 g4 g5 g6 g7 g8 g9 g10 g11 k1 k2
    by_cases c1 : 4294967296 ≤ q
    · obtain ⟨g1, g2, g3, g4, g5, g6, g7, g8, g9, g10, g11, k1, k2⟩ := HG.out
      obtain ⟨hr0, hlt, hQ⟩ := HP1.out.2 (.inl c1)
      obtain ⟨R3, hR3⟩ : ∃ z, z = 18446744069414584320 + u1 := ⟨_, rfl⟩
      have b1 : IntKind.u64.wrap ((q : Int) - 1) = (Q1 : Int) := by rw [IntKind.wrap_u64]; omega
      have b2 : IntKind.u64.wrap ((r : Int) + 4294967295) = 4294967295 := by rw [IntKind.wrap_u64]; omega
      have b3 : decide ((4294967296 : Int) ≤ (q : Int)) = true := by simp; omega
      have b4 : IntKind.u64.wrap ((18446744069414584320 : Int) + (u1 : Int)) = (R3 : Int) := by rw [IntKind.wrap_u64]; omega
      have b5 : decide ((4294967296 : Int) ≤ (Q1 : Int)) = false := by simp; omega
      have b6 : decide (R3 < Q1) = false := by simp; omega
      have b7 : IntKind.u64.wrap (Q1 : Int) = (Q1 : Int) := by rw [IntKind.wrap_u64]; omega
      clear hR3
      refine wp_loop_rounds 2 ?_
      rw [rounds_succ]
      obtain ⟨H1, hH1⟩ : ∃ z, z = h * 4294967296 % 18446744073709551616 := ⟨_, rfl⟩
      obtain ⟨H2, hH2⟩ : ∃ z, z = (H1 + u1) % 18446744073709551616 := ⟨_, rfl⟩
      obtain ⟨H3, hH3⟩ : ∃ z, z = Q1 * 18446744069414584321 % 18446744073709551616 := ⟨_, rfl⟩
      obtain ⟨M2, hM2⟩ : ∃ z, z = q2 * 4294967295 := ⟨_, rfl⟩
      have d1 : IntKind.u64.wrap ((h : Int) * 4294967296) = (H1 : Int) := by rw [IntKind.wrap_u64]; omega
      have d2 : IntKind.u64.wrap ((H1 : Int) + (u1 : Int)) = (H2 : Int) := by rw [IntKind.wrap_u64]; omega
      have d3 : IntKind.u64.wrap ((Q1 : Int) * 18446744069414584321) = (H3 : Int) := by rw [IntKind.wrap_u64]; omega
      have d4 : IntKind.u64.wrap ((H2 : Int) - (H3 : Int)) = (X : Int) := by rw [IntKind.wrap_u64]; omega
      have d5 : (X : Int).tdiv 4294967295 = (q2 : Int) := by rw [Int.tdiv_eq_ediv_of_nonneg (by omega)]; omega
      have d6 : IntKind.u64.wrap ((q2 : Int)) = (q2 : Int) := by rw [IntKind.wrap_u64]; omega
      have d7 : IntKind.u64.wrap ((q2 : Int) * 4294967295) = (M2 : Int) := by rw [IntKind.wrap_u64]; omega
      have d8 : IntKind.u64.wrap ((X : Int) - (M2 : Int)) = (r2 : Int) := by rw [IntKind.wrap_u64]; omega
      clear hH1 hH2 hH3 hM2
      clear c1 g1 g2 g3 g4 g5 g6 g7 g8 g9 g10 g11 k1 k2 hr0 hlt hQ
      go_wp2_with fail
      rw [rounds_succ]
      go_wp2_with fail
      clear b1 b2 b3 b4 b5 b6 b7 d1 d2 d3 d4 d5 d6 d7 d8
      by_cases c1 : 4294967296 ≤ q2
      · obtain ⟨g1, g2, g3, g4, g5, g6, g7, g8, g9, g10, g11, k1, k2⟩ := HG.out
        obtain ⟨hr0, hlt, hQ⟩ := HP2.out.2 (.inl c1)
        obtain ⟨R3, hR3⟩ : ∃ z, z = 18446744069414584320 + u0 := ⟨_, rfl⟩
        have b1 : IntKind.u64.wrap ((q2 : Int) - 1) = (Q0 : Int) := by rw [IntKind.wrap_u64]; omega
        have b2 : IntKind.u64.wrap ((r2 : Int) + 4294967295) = 4294967295 := by rw [IntKind.wrap_u64]; omega
        have b3 : decide ((4294967296 : Int) ≤ (q2 : Int)) = true := by simp; omega
        have b4 : IntKind.u64.wrap ((18446744069414584320 : Int) + (u0 : Int)) = (R3 : Int) := by rw [IntKind.wrap_u64]; omega
        have b5 : decide ((4294967296 : Int) ≤ (Q0 : Int)) = false := by simp; omega
        have b6 : decide (R3 < Q0) = false := by simp; omega
        have b7 : IntKind.u64.wrap (Q0 : Int) = (Q0 : Int) := by rw [IntKind.wrap_u64]; omega
        clear hR3
        refine wp_loop_rounds 2 ?_
        rw [rounds_succ]
        obtain ⟨F1, hF1⟩ : ∃ z, z = Q1 * 4294967296 := ⟨_, rfl⟩
        have d1 : IntKind.u64.wrap ((Q1 : Int) * 4294967296) = (F1 : Int) := by rw [IntKind.wrap_u64]; omega
        have d2 : IntKind.u64.wrap ((F1 : Int) + (Q0 : Int)) = ((F1 + Q0 : Nat) : Int) := by rw [IntKind.wrap_u64]; omega
        obtain ⟨F2, hF2⟩ : ∃ z, z = F1 + Q0 := ⟨_, rfl⟩
        rw [← hF2] at d2
        have HR : Hid (FF = F2) := Lib.hid (by rw [HFF.out, HK4.out, hF2, hF1])
        clear hF1 hF2
        clear c1 g1 g2 g3 g4 g5 g6 g7 g8 g9 g10 g11 k1 k2 hr0 hlt hQ
        go_wp2_with fail
        rw [rounds_succ]
        go_wp2_with fail
        go_ret2
        refine ⟨?_, by go_grown⟩
        rw [HR.out]
        exact ⟨_, rfl⟩
      · by_cases c2 : 4294967296 * r2 + u0 < q2
        · obtain ⟨g1, g2, g3, g4, g5, g6, g7, g8, g9, g10, g11, k1, k2⟩ := HG.out
          obtain ⟨hr0, hlt, hQ⟩ := HP2.out.2 (.inr c2)
          obtain ⟨R3, hR3⟩ : ∃ z, z = 18446744069414584320 + u0 := ⟨_, rfl⟩
          have b1 : IntKind.u64.wrap ((q2 : Int) - 1) = (Q0 : Int) := by rw [IntKind.wrap_u64]; omega
          have b2 : IntKind.u64.wrap ((r2 : Int) + 4294967295) = 4294967295 := by rw [IntKind.wrap_u64]; omega
          have b3 : decide ((4294967296 : Int) ≤ (q2 : Int)) = false := by simp; omega
          obtain ⟨R1, hR1⟩ : ∃ z, z = 4294967296 * r2 := ⟨_, rfl⟩
          obtain ⟨R2, hR2⟩ : ∃ z, z = R1 + u0 := ⟨_, rfl⟩
          have b8 : IntKind.u64.wrap ((4294967296 : Int) * (r2 : Int)) = (R1 : Int) := by rw [IntKind.wrap_u64]; omega
          have b9 : IntKind.u64.wrap ((R1 : Int) + (u0 : Int)) = (R2 : Int) := by rw [IntKind.wrap_u64]; omega
          have b10 : decide (R2 < q2) = true := by simp; omega
          have b11 : IntKind.u64.wrap (q2 : Int) = (q2 : Int) := by rw [IntKind.wrap_u64]; omega
          clear hR1 hR2
          have b4 : IntKind.u64.wrap ((18446744069414584320 : Int) + (u0 : Int)) = (R3 : Int) := by rw [IntKind.wrap_u64]; omega
          have b5 : decide ((4294967296 : Int) ≤ (Q0 : Int)) = false := by simp; omega
          have b6 : decide (R3 < Q0) = false := by simp; omega
          have b7 : IntKind.u64.wrap (Q0 : Int) = (Q0 : Int) := by rw [IntKind.wrap_u64]; omega
          clear hR3
          refine wp_loop_rounds 2 ?_
          rw [rounds_succ]
          obtain ⟨F1, hF1⟩ : ∃ z, z = Q1 * 4294967296 := ⟨_, rfl⟩
          have d1 : IntKind.u64.wrap ((Q1 : Int) * 4294967296) = (F1 : Int) := by rw [IntKind.wrap_u64]; omega
          have d2 : IntKind.u64.wrap ((F1 : Int) + (Q0 : Int)) = ((F1 + Q0 : Nat) : Int) := by rw [IntKind.wrap_u64]; omega
          obtain ⟨F2, hF2⟩ : ∃ z, z = F1 + Q0 := ⟨_, rfl⟩
          rw [← hF2] at d2
          have HR : Hid (FF = F2) := Lib.hid (by rw [HFF.out, HK4.out, hF2, hF1])
          clear hF1 hF2
          clear c1 g1 g2 g3 g4 g5 g6 g7 g8 g9 g10 g11 k1 k2 hr0 hlt hQ
          go_wp2_with fail
          rw [rounds_succ]
          go_wp2_with fail
          go_ret2
          refine ⟨?_, by go_grown⟩
          rw [HR.out]
          exact ⟨_, rfl⟩
        · obtain ⟨g1, g2, g3, g4, g5, g6, g7, g8, g9, g10, g11, k1, k2⟩ := HG.out
          have hQ : Q0 = q2 := HP2.out.1 c1 c2
          subst hQ
          obtain ⟨R1, hR1⟩ : ∃ z, z = 4294967296 * r2 := ⟨_, rfl⟩
          obtain ⟨R2, hR2⟩ : ∃ z, z = R1 + u0 := ⟨_, rfl⟩
          have b1 : IntKind.u64.wrap ((4294967296 : Int) * (r2 : Int)) = (R1 : Int) := by rw [IntKind.wrap_u64]; omega
          have b2 : IntKind.u64.wrap ((R1 : Int) + (u0 : Int)) = (R2 : Int) := by rw [IntKind.wrap_u64]; omega
          have b3 : decide ((4294967296 : Int) ≤ (Q0 : Int)) = false := by simp; omega
          have b4 : decide (R2 < Q0) = false := by simp; omega
          have b5 : IntKind.u64.wrap (Q0 : Int) = (Q0 : Int) := by rw [IntKind.wrap_u64]; omega
          clear hR1 hR2
          refine wp_loop_rounds 1 ?_
          rw [rounds_succ]
          obtain ⟨F1, hF1⟩ : ∃ z, z = Q1 * 4294967296 := ⟨_, rfl⟩
          have d1 : IntKind.u64.wrap ((Q1 : Int) * 4294967296) = (F1 : Int) := by rw [IntKind.wrap_u64]; omega
          have d2 : IntKind.u64.wrap ((F1 : Int) + (Q0 : Int)) = ((F1 + Q0 : Nat) : Int) := by rw [IntKind.wrap_u64]; omega
          obtain ⟨F2, hF2⟩ : ∃ z, z = F1 + Q0 := ⟨_, rfl⟩
          rw [← hF2] at d2
          have HR : Hid (FF = F2) := Lib.hid (by rw [HFF.out, HK4.out, hF2, hF1])
          clear hF1 hF2
          clear c1 g1 g2 g3 g4 g5 g6 g7 g8 g9 g10 g11 k1 k2
          go_wp2_with fail
          go_ret2
          refine ⟨?_, by go_grown⟩
          rw [HR.out]
          exact ⟨_, rfl⟩
    · by_cases c2 : 4294967296 * r + u1 < q
      · obtain ⟨g1, g2, g3, g4, g5, g6, g7, g8, g9, g10, g11, k1, k2⟩ := HG.out
        obtain ⟨hr0, hlt, hQ⟩ := HP1.out.2 (.inr c2)
        obtain ⟨R3, hR3⟩ : ∃ z, z = 18446744069414584320 + u1 := ⟨_, rfl⟩
        have b1 : IntKind.u64.wrap ((q : Int) - 1) = (Q1 : Int) := by rw [IntKind.wrap_u64]; omega
        have b2 : IntKind.u64.wrap ((r : Int) + 4294967295) = 4294967295 := by rw [IntKind.wrap_u64]; omega
        have b3 : decide ((4294967296 : Int) ≤ (q : Int)) = false := by simp; omega
        obtain ⟨R1, hR1⟩ : ∃ z, z = 4294967296 * r := ⟨_, rfl⟩
        obtain ⟨R2, hR2⟩ : ∃ z, z = R1 + u1 := ⟨_, rfl⟩
        have b8 : IntKind.u64.wrap ((4294967296 : Int) * (r : Int)) = (R1 : Int) := by rw [IntKind.wrap_u64]; omega
        have b9 : IntKind.u64.wrap ((R1 : Int) + (u1 : Int)) = (R2 : Int) := by rw [IntKind.wrap_u64]; omega
        have b10 : decide (R2 < q) = true := by simp; omega
        have b11 : IntKind.u64.wrap (q : Int) = (q : Int) := by rw [IntKind.wrap_u64]; omega
        clear hR1 hR2
        have b4 : IntKind.u64.wrap ((18446744069414584320 : Int) + (u1 : Int)) = (R3 : Int) := by rw [IntKind.wrap_u64]; omega
        have b5 : decide ((4294967296 : Int) ≤ (Q1 : Int)) = false := by simp; omega
        have b6 : decide (R3 < Q1) = false := by simp; omega
        have b7 : IntKind.u64.wrap (Q1 : Int) = (Q1 : Int) := by rw [IntKind.wrap_u64]; omega
        clear hR3
        refine wp_loop_rounds 2 ?_
        rw [rounds_succ]
        obtain ⟨H1, hH1⟩ : ∃ z, z = h * 4294967296 % 18446744073709551616 := ⟨_, rfl⟩
        obtain ⟨H2, hH2⟩ : ∃ z, z = (H1 + u1) % 18446744073709551616 := ⟨_, rfl⟩
        obtain ⟨H3, hH3⟩ : ∃ z, z = Q1 * 18446744069414584321 % 18446744073709551616 := ⟨_, rfl⟩
        obtain ⟨M2, hM2⟩ : ∃ z, z = q2 * 4294967295 := ⟨_, rfl⟩
        have d1 : IntKind.u64.wrap ((h : Int) * 4294967296) = (H1 : Int) := by rw [IntKind.wrap_u64]; omega
        have d2 : IntKind.u64.wrap ((H1 : Int) + (u1 : Int)) = (H2 : Int) := by rw [IntKind.wrap_u64]; omega
        have d3 : IntKind.u64.wrap ((Q1 : Int) * 18446744069414584321) = (H3 : Int) := by rw [IntKind.wrap_u64]; omega
        have d4 : IntKind.u64.wrap ((H2 : Int) - (H3 : Int)) = (X : Int) := by rw [IntKind.wrap_u64]; omega
        have d5 : (X : Int).tdiv 4294967295 = (q2 : Int) := by rw [Int.tdiv_eq_ediv_of_nonneg (by omega)]; omega
        have d6 : IntKind.u64.wrap ((q2 : Int)) = (q2 : Int) := by rw [IntKind.wrap_u64]; omega
        have d7 : IntKind.u64.wrap ((q2 : Int) * 4294967295) = (M2 : Int) := by rw [IntKind.wrap_u64]; omega
        have d8 : IntKind.u64.wrap ((X : Int) - (M2 : Int)) = (r2 : Int) := by rw [IntKind.wrap_u64]; omega
        clear hH1 hH2 hH3 hM2
        clear c1 c2 g1 g2 g3 g4 g5 g6 g7 g8 g9 g10 g11 k1 k2 hr0 hlt hQ
        go_wp2_with fail
        rw [rounds_succ]
        go_wp2_with fail
        clear b1 b2 b3 b4 b5 b6 b7 b8 b9 b10 b11 d1 d2 d3 d4 d5 d6 d7 d8
        by_cases c1 : 4294967296 ≤ q2
        · obtain ⟨g1, g2, g3, g4, g5, g6, g7, g8, g9, g10, g11, k1, k2⟩ := HG.out
          obtain ⟨hr0, hlt, hQ⟩ := HP2.out.2 (.inl c1)
          obtain ⟨R3, hR3⟩ : ∃ z, z = 18446744069414584320 + u0 := ⟨_, rfl⟩
          have b1 : IntKind.u64.wrap ((q2 : Int) - 1) = (Q0 : Int) := by rw [IntKind.wrap_u64]; omega
          have b2 : IntKind.u64.wrap ((r2 : Int) + 4294967295) = 4294967295 := by rw [IntKind.wrap_u64]; omega
          have b3 : decide ((4294967296 : Int) ≤ (q2 : Int)) = true := by simp; omega
          have b4 : IntKind.u64.wrap ((18446744069414584320 : Int) + (u0 : Int)) = (R3 : Int) := by rw [IntKind.wrap_u64]; omega
          have b5 : decide ((4294967296 : Int) ≤ (Q0 : Int)) = false := by simp; omega
          have b6 : decide (R3 < Q0) = false := by simp; omega
          have b7 : IntKind.u64.wrap (Q0 : Int) = (Q0 : Int) := by rw [IntKind.wrap_u64]; omega
          clear hR3
          refine wp_loop_rounds 2 ?_
          rw [rounds_succ]
          obtain ⟨F1, hF1⟩ : ∃ z, z = Q1 * 4294967296 := ⟨_, rfl⟩
          have d1 : IntKind.u64.wrap ((Q1 : Int) * 4294967296) = (F1 : Int) := by rw [IntKind.wrap_u64]; omega
          have d2 : IntKind.u64.wrap ((F1 : Int) + (Q0 : Int)) = ((F1 + Q0 : Nat) : Int) := by rw [IntKind.wrap_u64]; omega
          obtain ⟨F2, hF2⟩ : ∃ z, z = F1 + Q0 := ⟨_, rfl⟩
          rw [← hF2] at d2
          have HR : Hid (FF = F2) := Lib.hid (by rw [HFF.out, HK4.out, hF2, hF1])
          clear hF1 hF2
          clear c1 g1 g2 g3 g4 g5 g6 g7 g8 g9 g10 g11 k1 k2 hr0 hlt hQ
          go_wp2_with fail
          rw [rounds_succ]
          go_wp2_with fail
          go_ret2
          refine ⟨?_, by go_grown⟩
          rw [HR.out]
          exact ⟨_, rfl⟩
        · by_cases c2 : 4294967296 * r2 + u0 < q2
          · obtain ⟨g1, g2, g3, g4, g5, g6, g7, g8, g9, g10, g11, k1, k2⟩ := HG.out
            obtain ⟨hr0, hlt, hQ⟩ := HP2.out.2 (.inr c2)
            obtain ⟨R3, hR3⟩ : ∃ z, z = 18446744069414584320 + u0 := ⟨_, rfl⟩
            have b1 : IntKind.u64.wrap ((q2 : Int) - 1) = (Q0 : Int) := by rw [IntKind.wrap_u64]; omega
            have b2 : IntKind.u64.wrap ((r2 : Int) + 4294967295) = 4294967295 := by rw [IntKind.wrap_u64]; omega
            have b3 : decide ((4294967296 : Int) ≤ (q2 : Int)) = false := by simp; omega
            obtain ⟨R1, hR1⟩ : ∃ z, z = 4294967296 * r2 := ⟨_, rfl⟩
            obtain ⟨R2, hR2⟩ : ∃ z, z = R1 + u0 := ⟨_, rfl⟩
            have b8 : IntKind.u64.wrap ((4294967296 : Int) * (r2 : Int)) = (R1 : Int) := by rw [IntKind.wrap_u64]; omega
            have b9 : IntKind.u64.wrap ((R1 : Int) + (u0 : Int)) = (R2 : Int) := by rw [IntKind.wrap_u64]; omega
            have b10 : decide (R2 < q2) = true := by simp; omega
            have b11 : IntKind.u64.wrap (q2 : Int) = (q2 : Int) := by rw [IntKind.wrap_u64]; omega
            clear hR1 hR2
            have b4 : IntKind.u64.wrap ((18446744069414584320 : Int) + (u0 : Int)) = (R3 : Int) := by rw [IntKind.wrap_u64]; omega
            have b5 : decide ((4294967296 : Int) ≤ (Q0 : Int)) = false := by simp; omega
            have b6 : decide (R3 < Q0) = false := by simp; omega
            have b7 : IntKind.u64.wrap (Q0 : Int) = (Q0 : Int) := by rw [IntKind.wrap_u64]; omega
            clear hR3
            refine wp_loop_rounds 2 ?_
            rw [rounds_succ]
            obtain ⟨F1, hF1⟩ : ∃ z, z = Q1 * 4294967296 := ⟨_, rfl⟩
            have d1 : IntKind.u64.wrap ((Q1 : Int) * 4294967296) = (F1 : Int) := by rw [IntKind.wrap_u64]; omega
            have d2 : IntKind.u64.wrap ((F1 : Int) + (Q0 : Int)) = ((F1 + Q0 : Nat) : Int) := by rw [IntKind.wrap_u64]; omega
            obtain ⟨F2, hF2⟩ : ∃ z, z = F1 + Q0 := ⟨_, rfl⟩
            rw [← hF2] at d2
            have HR : Hid (FF = F2) := Lib.hid (by rw [HFF.out, HK4.out, hF2, hF1])
            clear hF1 hF2
            clear c1 c2 g1 g2 g3 g4 g5 g6 g7 g8 g9 g10 g11 k1 k2 hr0 hlt hQ
            go_wp2_with fail
            rw [rounds_succ]
            go_wp2_with fail
            go_ret2
            refine ⟨?_, by go_grown⟩
            rw [HR.out]
            exact ⟨_, rfl⟩
          · obtain ⟨g1, g2, g3, g4, g5, g6, g7, g8, g9, g10, g11, k1, k2⟩ := HG.out
            have hQ : Q0 = q2 := HP2.out.1 c1 c2
            subst hQ
            obtain ⟨R1, hR1⟩ : ∃ z, z = 4294967296 * r2 := ⟨_, rfl⟩
            obtain ⟨R2, hR2⟩ : ∃ z, z = R1 + u0 := ⟨_, rfl⟩
            have b1 : IntKind.u64.wrap ((4294967296 : Int) * (r2 : Int)) = (R1 : Int) := by rw [IntKind.wrap_u64]; omega
            have b2 : IntKind.u64.wrap ((R1 : Int) + (u0 : Int)) = (R2 : Int) := by rw [IntKind.wrap_u64]; omega
            have b3 : decide ((4294967296 : Int) ≤ (Q0 : Int)) = false := by simp; omega
            have b4 : decide (R2 < Q0) = false := by simp; omega
            have b5 : IntKind.u64.wrap (Q0 : Int) = (Q0 : Int) := by rw [IntKind.wrap_u64]; omega
            clear hR1 hR2
            refine wp_loop_rounds 1 ?_
            rw [rounds_succ]
            obtain ⟨F1, hF1⟩ : ∃ z, z = Q1 * 4294967296 := ⟨_, rfl⟩
            have d1 : IntKind.u64.wrap ((Q1 : Int) * 4294967296) = (F1 : Int) := by rw [IntKind.wrap_u64]; omega
            have d2 : IntKind.u64.wrap ((F1 : Int) + (Q0 : Int)) = ((F1 + Q0 : Nat) : Int) := by rw [IntKind.wrap_u64]; omega
            obtain ⟨F2, hF2⟩ : ∃ z, z = F1 + Q0 := ⟨_, rfl⟩
            rw [← hF2] at d2
            have HR : Hid (FF = F2) := Lib.hid (by rw [HFF.out, HK4.out, hF2, hF1])
            clear hF1 hF2
            clear c1 c2 g1 g2 g3 g4 g5 g6 g7 g8 g9 g10 g11 k1 k2
            go_wp2_with fail
            go_ret2
            refine ⟨?_, by go_grown⟩
            rw [HR.out]
            exact ⟨_, rfl⟩
      · obtain ⟨g1, g2, g3, g4, g5, g6, g7, g8, g9, g10, g11, k1, k2⟩ := HG.out
        have hQ : Q1 = q := HP1.out.1 c1 c2
        subst hQ
        obtain ⟨R1, hR1⟩ : ∃ z, z = 4294967296 * r := ⟨_, rfl⟩
        obtain ⟨R2, hR2⟩ : ∃ z, z = R1 + u1 := ⟨_, rfl⟩
        have b1 : IntKind.u64.wrap ((4294967296 : Int) * (r : Int)) = (R1 : Int) := by rw [IntKind.wrap_u64]; omega
        have b2 : IntKind.u64.wrap ((R1 : Int) + (u1 : Int)) = (R2 : Int) := by rw [IntKind.wrap_u64]; omega
        have b3 : decide ((4294967296 : Int) ≤ (Q1 : Int)) = false := by simp; omega
        have b4 : decide (R2 < Q1) = false := by simp; omega
        have b5 : IntKind.u64.wrap (Q1 : Int) = (Q1 : Int) := by rw [IntKind.wrap_u64]; omega
        clear hR1 hR2
        refine wp_loop_rounds 1 ?_
        rw [rounds_succ]
        obtain ⟨H1, hH1⟩ : ∃ z, z = h * 4294967296 % 18446744073709551616 := ⟨_, rfl⟩
        obtain ⟨H2, hH2⟩ : ∃ z, z = (H1 + u1) % 18446744073709551616 := ⟨_, rfl⟩
        obtain ⟨H3, hH3⟩ : ∃ z, z = Q1 * 18446744069414584321 % 18446744073709551616 := ⟨_, rfl⟩
        obtain ⟨M2, hM2⟩ : ∃ z, z = q2 * 4294967295 := ⟨_, rfl⟩
        have d1 : IntKind.u64.wrap ((h : Int) * 4294967296) = (H1 : Int) := by rw [IntKind.wrap_u64]; omega
        have d2 : IntKind.u64.wrap ((H1 : Int) + (u1 : Int)) = (H2 : Int) := by rw [IntKind.wrap_u64]; omega
        have d3 : IntKind.u64.wrap ((Q1 : Int) * 18446744069414584321) = (H3 : Int) := by rw [IntKind.wrap_u64]; omega
        have d4 : IntKind.u64.wrap ((H2 : Int) - (H3 : Int)) = (X : Int) := by rw [IntKind.wrap_u64]; omega
        have d5 : (X : Int).tdiv 4294967295 = (q2 : Int) := by rw [Int.tdiv_eq_ediv_of_nonneg (by omega)]; omega
        have d6 : IntKind.u64.wrap ((q2 : Int)) = (q2 : Int) := by rw [IntKind.wrap_u64]; omega
        have d7 : IntKind.u64.wrap ((q2 : Int) * 4294967295) = (M2 : Int) := by rw [IntKind.wrap_u64]; omega
        have d8 : IntKind.u64.wrap ((X : Int) - (M2 : Int)) = (r2 : Int) := by rw [IntKind.wrap_u64]; omega
        clear hH1 hH2 hH3 hM2
        clear c1 c2 g1 g2 g3 g4 g5 g6 g7 g8 g9 g10 g11 k1 k2
        go_wp2_with fail
        clear b1 b2 b3 b4 b5 d1 d2 d3 d4 d5 d6 d7 d8
        by_cases c1 : 4294967296 ≤ q2
        · obtain ⟨g1, g2, g3, g4, g5, g6, g7, g8, g9, g10, g11, k1, k2⟩ := HG.out
          obtain ⟨hr0, hlt, hQ⟩ := HP2.out.2 (.inl c1)
          obtain ⟨R3, hR3⟩ : ∃ z, z = 18446744069414584320 + u0 := ⟨_, rfl⟩
          have b1 : IntKind.u64.wrap ((q2 : Int) - 1) = (Q0 : Int) := by rw [IntKind.wrap_u64]; omega
          have b2 : IntKind.u64.wrap ((r2 : Int) + 4294967295) = 4294967295 := by rw [IntKind.wrap_u64]; omega
          have b3 : decide ((4294967296 : Int) ≤ (q2 : Int)) = true := by simp; omega
          have b4 : IntKind.u64.wrap ((18446744069414584320 : Int) + (u0 : Int)) = (R3 : Int) := by rw [IntKind.wrap_u64]; omega
          have b5 : decide ((4294967296 : Int) ≤ (Q0 : Int)) = false := by simp; omega
          have b6 : decide (R3 < Q0) = false := by simp; omega
          have b7 : IntKind.u64.wrap (Q0 : Int) = (Q0 : Int) := by rw [IntKind.wrap_u64]; omega
          clear hR3
          refine wp_loop_rounds 2 ?_
          rw [rounds_succ]
          obtain ⟨F1, hF1⟩ : ∃ z, z = Q1 * 4294967296 := ⟨_, rfl⟩
          have d1 : IntKind.u64.wrap ((Q1 : Int) * 4294967296) = (F1 : Int) := by rw [IntKind.wrap_u64]; omega
          have d2 : IntKind.u64.wrap ((F1 : Int) + (Q0 : Int)) = ((F1 + Q0 : Nat) : Int) := by rw [IntKind.wrap_u64]; omega
          obtain ⟨F2, hF2⟩ : ∃ z, z = F1 + Q0 := ⟨_, rfl⟩
          rw [← hF2] at d2
          have HR : Hid (FF = F2) := Lib.hid (by rw [HFF.out, HK4.out, hF2, hF1])
          clear hF1 hF2
          clear c1 g1 g2 g3 g4 g5 g6 g7 g8 g9 g10 g11 k1 k2 hr0 hlt hQ
          go_wp2_with fail
          rw [rounds_succ]
          go_wp2_with fail
          go_ret2
          refine ⟨?_, by go_grown⟩
          rw [HR.out]
          exact ⟨_, rfl⟩
        · by_cases c2 : 4294967296 * r2 + u0 < q2
          · obtain ⟨g1, g2, g3, g4, g5, g6, g7, g8, g9, g10, g11, k1, k2⟩ := HG.out
            obtain ⟨hr0, hlt, hQ⟩ := HP2.out.2 (.inr c2)
            obtain ⟨R3, hR3⟩ : ∃ z, z = 18446744069414584320 + u0 := ⟨_, rfl⟩
            have b1 : IntKind.u64.wrap ((q2 : Int) - 1) = (Q0 : Int) := by rw [IntKind.wrap_u64]; omega
            have b2 : IntKind.u64.wrap ((r2 : Int) + 4294967295) = 4294967295 := by rw [IntKind.wrap_u64]; omega
            have b3 : decide ((4294967296 : Int) ≤ (q2 : Int)) = false := by simp; omega
            obtain ⟨R1, hR1⟩ : ∃ z, z = 4294967296 * r2 := ⟨_, rfl⟩
            obtain ⟨R2, hR2⟩ : ∃ z, z = R1 + u0 := ⟨_, rfl⟩
            have b8 : IntKind.u64.wrap ((4294967296 : Int) * (r2 : Int)) = (R1 : Int) := by rw [IntKind.wrap_u64]; omega
            have b9 : IntKind.u64.wrap ((R1 : Int) + (u0 : Int)) = (R2 : Int) := by rw [IntKind.wrap_u64]; omega
            have b10 : decide (R2 < q2) = true := by simp; omega
            have b11 : IntKind.u64.wrap (q2 : Int) = (q2 : Int) := by rw [IntKind.wrap_u64]; omega
            clear hR1 hR2
            have b4 : IntKind.u64.wrap ((18446744069414584320 : Int) + (u0 : Int)) = (R3 : Int) := by rw [IntKind.wrap_u64]; omega
            have b5 : decide ((4294967296 : Int) ≤ (Q0 : Int)) = false := by simp; omega
            have b6 : decide (R3 < Q0) = false := by simp; omega
            have b7 : IntKind.u64.wrap (Q0 : Int) = (Q0 : Int) := by rw [IntKind.wrap_u64]; omega
            clear hR3
            refine wp_loop_rounds 2 ?_
            rw [rounds_succ]
            obtain ⟨F1, hF1⟩ : ∃ z, z = Q1 * 4294967296 := ⟨_, rfl⟩
            have d1 : IntKind.u64.wrap ((Q1 : Int) * 4294967296) = (F1 : Int) := by rw [IntKind.wrap_u64]; omega
            have d2 : IntKind.u64.wrap ((F1 : Int) + (Q0 : Int)) = ((F1 + Q0 : Nat) : Int) := by rw [IntKind.wrap_u64]; omega
            obtain ⟨F2, hF2⟩ : ∃ z, z = F1 + Q0 := ⟨_, rfl⟩
            rw [← hF2] at d2
            have HR : Hid (FF = F2) := Lib.hid (by rw [HFF.out, HK4.out, hF2, hF1])
            clear hF1 hF2
            clear c1 c2 g1 g2 g3 g4 g5 g6 g7 g8 g9 g10 g11 k1 k2 hr0 hlt hQ
            go_wp2_with fail
            rw [rounds_succ]
            go_wp2_with fail
            go_ret2
            refine ⟨?_, by go_grown⟩
            rw [HR.out]
            exact ⟨_, rfl⟩
          · obtain ⟨g1, g2, g3, g4, g5, g6, g7, g8, g9, g10, g11, k1, k2⟩ := HG.out
            have hQ : Q0 = q2 := HP2.out.1 c1 c2
            subst hQ
            obtain ⟨R1, hR1⟩ : ∃ z, z = 4294967296 * r2 := ⟨_, rfl⟩
            obtain ⟨R2, hR2⟩ : ∃ z, z = R1 + u0 := ⟨_, rfl⟩
            have b1 : IntKind.u64.wrap ((4294967296 : Int) * (r2 : Int)) = (R1 : Int) := by rw [IntKind.wrap_u64]; omega
            have b2 : IntKind.u64.wrap ((R1 : Int) + (u0 : Int)) = (R2 : Int) := by rw [IntKind.wrap_u64]; omega
            have b3 : decide ((4294967296 : Int) ≤ (Q0 : Int)) = false := by simp; omega
            have b4 : decide (R2 < Q0) = false := by simp; omega
            have b5 : IntKind.u64.wrap (Q0 : Int) = (Q0 : Int) := by rw [IntKind.wrap_u64]; omega
            clear hR1 hR2
            refine wp_loop_rounds 1 ?_
            rw [rounds_succ]
            obtain ⟨F1, hF1⟩ : ∃ z, z = Q1 * 4294967296 := ⟨_, rfl⟩
            have d1 : IntKind.u64.wrap ((Q1 : Int) * 4294967296) = (F1 : Int) := by rw [IntKind.wrap_u64]; omega
            have d2 : IntKind.u64.wrap ((F1 : Int) + (Q0 : Int)) = ((F1 + Q0 : Nat) : Int) := by rw [IntKind.wrap_u64]; omega
            obtain ⟨F2, hF2⟩ : ∃ z, z = F1 + Q0 := ⟨_, rfl⟩
            rw [← hF2] at d2
            have HR : Hid (FF = F2) := Lib.hid (by rw [HFF.out, HK4.out, hF2, hF1])
            clear hF1 hF2
            clear c1 c2 g1 g2 g3 g4 g5 g6 g7 g8 g9 g10 g11 k1 k2
            go_wp2_with fail
            go_ret2
            refine ⟨?_, by go_grown⟩
            rw [HR.out]
            exact ⟨_, rfl⟩
set_option maxHeartbeats 8000000 in
theorem div_N (h l : Nat) (hh : h < 18446744069414584320) (hl : l < 18446744073709551616) (w : World) :
    Calls Tryz.prog 185 #[.int .u64 (h : Int), .int .u64 (l : Int), .int .u64 18446744069414584320] w fun e w' => (∃ r : Value, e = .returned (.tuple #[.int .u64 (((h * 18446744073709551616 + l) / 18446744069414584320 : Nat) : Int), r])) ∧ Below w.heap.size w w' := by
  by_cases h0 : h = 0
  · subst h0
    go_enter Tryz.func185, Tryz.ntmps185
    go_wp2_with fail
    go_region
    go_wp2_with fail
    go_ret2
    exact ⟨⟨.int .u64 ((l : Int) % 18446744069414584320), by simp⟩, by go_grown⟩
  · have t1 : ((h : Int) == 0) = false := by simp; omega
    have t2 : decide ((18446744069414584320 : Int) ≤ (h : Int)) = false := by simp; omega
    have HPH := Lib.hid (half_N h (l / 4294967296) hh (by omega))
    have HFIN := Lib.hid (long_div h l 18446744069414584320 (by decide))
    have hX : (h * 4294967296 + l / 4294967296) % 18446744069414584320 < 18446744069414584320 := Nat.mod_lt _ (by decide)
    have HXE := Lib.hid (Nat.div_add_mod' (h * 4294967296 + l / 4294967296) 18446744069414584320).symm
    obtain ⟨u1, hu1⟩ : ∃ u, u = l / 4294967296 := ⟨_, rfl⟩
    obtain ⟨u0, hu0⟩ : ∃ u, u = l % 4294967296 := ⟨_, rfl⟩
    obtain ⟨q, hq⟩ : ∃ u, u = h / 4294967295 := ⟨_, rfl⟩
    obtain ⟨r, hr⟩ : ∃ u, u = h % 4294967295 := ⟨_, rfl⟩
    obtain ⟨M, hM⟩ : ∃ u, u = q * 4294967295 := ⟨_, rfl⟩
    rw [← hu1, ← hu0] at HFIN
    rw [← hu1] at HPH HXE hX
    rw [← hq] at HPH
    have a1 : IntKind.u64.wrap (h : Int) = (h : Int) := by rw [IntKind.wrap_u64]; omega
    have a2 : (l : Int) / 18446744073709551616 = 0 := by omega
    have a4 : IntKind.u64.wrap (l : Int) = (l : Int) := by rw [IntKind.wrap_u64]; omega
    have a5 : (l : Int) / 4294967296 = (u1 : Int) := by omega
    have a8 : (h : Int).tdiv 4294967295 = (q : Int) := by rw [Int.tdiv_eq_ediv_of_nonneg (by omega)]; omega
    have a9 : IntKind.u64.wrap (q : Int) = (q : Int) := by rw [IntKind.wrap_u64]; omega
    have a10 : IntKind.u64.wrap ((q : Int) * 4294967295) = (M : Int) := by rw [IntKind.wrap_u64]; omega
    have a11 : IntKind.u64.wrap ((h : Int) - (M : Int)) = (r : Int) := by rw [IntKind.wrap_u64]; omega
    have a3 := or_nil h (by omega)
    have a6 : bits .and .u64 (l : Int) 4294967295 = (u0 : Int) := by rw [Mul64.maskN l hl, ← hu0]
    have a7 := and_nil
    have HU : Hid (u1 < 4294967296 ∧ u0 < 4294967296 ∧ r < 4294967295 ∧ q ≤ 4294967296 ∧ h = q * 4294967295 + r ∧ h < 18446744069414584320) := Lib.hid ⟨by omega, by omega, by omega, by omega, by omega, hh⟩
    have HX := Lib.hid hX
    obtain ⟨FF, hFF⟩ : ∃ z, z = (h * 18446744073709551616 + l) / 18446744069414584320 := ⟨_, rfl⟩
    rw [← hFF]
    have HFF := Lib.hid hFF
    clear hFF
    clear hh hl h0 hu1 hu0 hq hr hM hX
    go_enter Tryz.func185, Tryz.ntmps185
    go_wp2_with fail
    refine (lz_N w).mono ?_
    rintro e w' ⟨rfl, rfl⟩
    go_wp2_with fail
    obtain ⟨g1, g2, g3, g4, g5, g6⟩ := HU.out
    obtain ⟨Q1, hQ1⟩ : ∃ z, z = (h * 4294967296 + u1) / 18446744069414584320 := ⟨_, rfl⟩
    obtain ⟨X, hX⟩ : ∃ z, z = (h * 4294967296 + u1) % 18446744069414584320 := ⟨_, rfl⟩
    have k1 := HXE.out
    have k2 := HX.out
    have k3 := HPH.out
    have k4 := HFIN.out
    rw [← hQ1, ← hX] at k1 k4
    rw [← hX] at k2
    rw [← hQ1] at k3
    have HP1 := Lib.hid k3
    have HP2 := Lib.hid (half_N X u0 k2 g2)
    obtain ⟨q2, hq2⟩ : ∃ z, z = X / 4294967295 := ⟨_, rfl⟩
    obtain ⟨r2, hr2⟩ : ∃ z, z = X % 4294967295 := ⟨_, rfl⟩
    obtain ⟨Q0, hQ0⟩ : ∃ z, z = (X * 4294967296 + u0) / 18446744069414584320 := ⟨_, rfl⟩
    rw [← hq2, ← hQ0] at HP2
    rw [← hQ0] at k4
    have g7 : r2 < 4294967295 := by omega
    have g8 : q2 ≤ 4294967296 := by omega
    have g9 : X = q2 * 4294967295 + r2 := by omega
    have g10 : Q0 < 4294967296 := by rw [hQ0]; exact (Nat.div_lt_iff_lt_mul (by decide)).2 (by omega)
    have g11 : Q1 < 4294967296 := by rw [hQ1]; exact (Nat.div_lt_iff_lt_mul (by decide)).2 (by omega)
    have HK4 := Lib.hid k4
    clear k3 k4 hQ1 hX hQ0 hq2 hr2 HPH HXE HX HFIN HU a1 a2 a3 a4 a5 a6 a7 a8 a9 a10 a11 t1 t2
    have HG := Lib.hid (And.intro g1 (And.intro g2 (And.intro g3 (And.intro g4 (And.intro g5 (And.intro g6 (And.intro g7 (And.intro g8 (And.intro g9 (And.intro g10 (And.intro g11 (And.intro k1 k2))))))))))))
    clear g1 g2 g3 g4 g5 g6 g7 g8 g9 g10 g11 k1 k2
    obtain ⟨g1, g2, g3, g4, g5, g6, g7, g8, g9, g10, g11, k1, k2⟩ := HG.out
    have hQ : Q1 = q := HP1.out.2
    subst hQ
    obtain ⟨R1, hR1⟩ : ∃ z, z = 4294967296 * r := ⟨_, rfl⟩
    obtain ⟨R2, hR2⟩ : ∃ z, z = R1 + u1 := ⟨_, rfl⟩
    have b1 : IntKind.u64.wrap ((4294967296 : Int) * (r : Int)) = (R1 : Int) := by rw [IntKind.wrap_u64]; omega
    have b2 : IntKind.u64.wrap ((R1 : Int) + (u1 : Int)) = (R2 : Int) := by rw [IntKind.wrap_u64]; omega
    have b3 : decide ((4294967296 : Int) ≤ (Q1 : Int)) = false := by simp; omega
    have b4 : decide (R2 < 0) = false := by simp
    clear hR1 hR2
    refine wp_loop_rounds 1 ?_
    rw [rounds_succ]
    obtain ⟨H1, hH1⟩ : ∃ z, z = h * 4294967296 % 18446744073709551616 := ⟨_, rfl⟩
    obtain ⟨H2, hH2⟩ : ∃ z, z = (H1 + u1) % 18446744073709551616 := ⟨_, rfl⟩
    obtain ⟨H3, hH3⟩ : ∃ z, z = Q1 * 18446744069414584320 % 18446744073709551616 := ⟨_, rfl⟩
    obtain ⟨M2, hM2⟩ : ∃ z, z = q2 * 4294967295 := ⟨_, rfl⟩
    have d1 : IntKind.u64.wrap ((h : Int) * 4294967296) = (H1 : Int) := by rw [IntKind.wrap_u64]; omega
    have d2 : IntKind.u64.wrap ((H1 : Int) + (u1 : Int)) = (H2 : Int) := by rw [IntKind.wrap_u64]; omega
    have d3 : IntKind.u64.wrap ((Q1 : Int) * 18446744069414584320) = (H3 : Int) := by rw [IntKind.wrap_u64]; omega
    have d4 : IntKind.u64.wrap ((H2 : Int) - (H3 : Int)) = (X : Int) := by rw [IntKind.wrap_u64]; omega
    have d5 : (X : Int).tdiv 4294967295 = (q2 : Int) := by rw [Int.tdiv_eq_ediv_of_nonneg (by omega)]; omega
    have d6 : IntKind.u64.wrap ((q2 : Int)) = (q2 : Int) := by rw [IntKind.wrap_u64]; omega
    have d7 : IntKind.u64.wrap ((q2 : Int) * 4294967295) = (M2 : Int) := by rw [IntKind.wrap_u64]; omega
    have d8 : IntKind.u64.wrap ((X : Int) - (M2 : Int)) = (r2 : Int) := by rw [IntKind.wrap_u64]; omega
    clear hH1 hH2 hH3 hM2
    clear g1 g2 g3 g4 g5 g6 g7 g8 g9 g10 g11 k1 k2
    go_wp2_with fail
    clear b1 b2 b3 b4 d1 d2 d3 d4 d5 d6 d7 d8
    obtain ⟨g1, g2, g3, g4, g5, g6, g7, g8, g9, g10, g11, k1, k2⟩ := HG.out
    have hQ : Q0 = q2 := HP2.out.2
    subst hQ
    obtain ⟨R1, hR1⟩ : ∃ z, z = 4294967296 * r2 := ⟨_, rfl⟩
    obtain ⟨R2, hR2⟩ : ∃ z, z = R1 + u0 := ⟨_, rfl⟩
    have b1 : IntKind.u64.wrap ((4294967296 : Int) * (r2 : Int)) = (R1 : Int) := by rw [IntKind.wrap_u64]; omega
    have b2 : IntKind.u64.wrap ((R1 : Int) + (u0 : Int)) = (R2 : Int) := by rw [IntKind.wrap_u64]; omega
    have b3 : decide ((4294967296 : Int) ≤ (Q0 : Int)) = false := by simp; omega
    have b4 : decide (R2 < 0) = false := by simp
    clear hR1 hR2
    refine wp_loop_rounds 1 ?_
    rw [rounds_succ]
    obtain ⟨F1, hF1⟩ : ∃ z, z = Q1 * 4294967296 := ⟨_, rfl⟩
    have d1 : IntKind.u64.wrap ((Q1 : Int) * 4294967296) = (F1 : Int) := by rw [IntKind.wrap_u64]; omega
    have d2 : IntKind.u64.wrap ((F1 : Int) + (Q0 : Int)) = ((F1 + Q0 : Nat) : Int) := by rw [IntKind.wrap_u64]; omega
    obtain ⟨F2, hF2⟩ : ∃ z, z = F1 + Q0 := ⟨_, rfl⟩
    rw [← hF2] at d2
    have HR : Hid (FF = F2) := Lib.hid (by rw [HFF.out, HK4.out, hF2, hF1])
    clear hF1 hF2
    clear g1 g2 g3 g4 g5 g6 g7 g8 g9 g10 g11 k1 k2
    go_wp2_with fail
    go_ret2
    refine ⟨?_, by go_grown⟩
    rw [HR.out]
    exact ⟨_, rfl⟩
def mP : Nat := 115792089210356248762697446949407573530086143415290314195533631308867097853951
def mN : Nat := 115792089210356248762697446949407573529996955224135760342422259061068512044369
def md (m : Int) : Nat := if m = 0 then mP else mN
theorem md_or (m : Int) : md m = mP ∨ md m = mN := by unfold md; split <;> simp
theorem lbP : lb mP 0 = 18446744073709551615 ∧ lb mP 1 = 4294967295 ∧ lb mP 2 = 0 ∧ lb mP 3 = 18446744069414584321 := by decide +kernel
theorem lbN : lb mN 0 = 17562291160714782033 ∧ lb mN 1 = 13611842547513532036 ∧ lb mN 2 = 18446744073709551615 ∧ lb mN 3 = 18446744069414584320 := by decide +kernel
theorem md_lt {M : Nat} (h : M = mP ∨ M = mN) : M < W256 ∧ W256 < 2 * M ∧ 9223372036854775808 ≤ lb M 3 ∧ 2 < M := by
  rcases h with rfl | rfl <;> decide +kernel
theorem lb_le {r M : Nat} (hr : r < M) (hM : M < W256) : lb r 3 ≤ lb M 3 := by
  unfold W256 at hM
  simp only [lb]
  omega
set_option maxHeartbeats 4000000 in
theorem quot_one (r m3 : Nat) (M : Nat) (hr3 : lb r 3 ≤ m3) (hm3 : m3 < 18446744073709551616) (eM : lb M 3 = m3) (hd : ∀ (h l : Nat), h < m3 → l < 18446744073709551616 → ∀ w, Calls Tryz.prog 185 #[.int .u64 (h : Int), .int .u64 (l : Int), .int .u64 (m3 : Int)] w fun e w' => (∃ r : Value, e = .returned (.tuple #[.int .u64 (((h * 18446744073709551616 + l) / m3 : Nat) : Int), r])) ∧ Below w.heap.size w w') (w : World) :
    Calls Tryz.prog 160 #[nv r, nv M] w fun e w' => e = .returned (.int .u64 (quo (lb r 3) (lb r 2) m3 : Nat)) ∧ Below w.heap.size w w' := by
  simp only [nv, num]
  rw [eM]
  have h2 := lb_lt r 2
  generalize lb r 3 = r3 at *
  generalize lb r 2 = r2 at *
  generalize lb r 1 = r1 at *
  generalize lb r 0 = r0 at *
  by_cases h : r3 = m3
  · have e : quo r3 r2 m3 = 18446744073709551615 := by unfold quo; rw [if_pos h]
    rw [e]
    subst h
    clear hd e eM hr3
    go_enter Tryz.func160, Tryz.ntmps160
    go_wp2_with fail
    go_ret
    exact ⟨rfl, by go_grown⟩
  · have e : quo r3 r2 m3 = (r3 * 18446744073709551616 + r2) / m3 := by unfold quo; rw [if_neg h]
    rw [e]
    have HD := Lib.hid (hd r3 r2 (by omega) h2)
    generalize (r3 * 18446744073709551616 + r2) / m3 = q at *
    have t1 : ((r3 : Int) == (m3 : Int)) = false := by simp; omega
    clear hd e eM hr3 h h2
    go_enter Tryz.func160, Tryz.ntmps160
    go_wp2_with fail
    refine (keep w.heap.size w (HD.out _) (by go_grown) (Nat.le_refl _)).mono ?_
    rintro e w' ⟨⟨rr, rfl⟩, hb, _⟩
    have HB := Lib.hid hb
    clear hb
    go_wp2_with fail
    go_ret
    exact ⟨rfl, HB.out⟩
theorem quot_any (r M : Nat) (hM : M = mP ∨ M = mN) (hr : r < M) (w : World) :
    Calls Tryz.prog 160 #[nv r, nv M] w fun e w' => e = .returned (.int .u64 (quo (lb r 3) (lb r 2) (lb M 3) : Nat)) ∧ Below w.heap.size w w' := by
  have hle := lb_le hr (md_lt hM).1
  rcases hM with rfl | rfl
  · exact quot_one r (lb mP 3) mP hle (lb_lt _ _) rfl (fun h l hh hl w => by rw [lbP.2.2.2] at hh ⊢; exact div_P h l hh hl w) w
  · exact quot_one r (lb mN 3) mN hle (lb_lt _ _) rfl (fun h l hh hl w => by rw [lbN.2.2.2] at hh ⊢; exact div_N h l hh hl w) w
theorem cs4_v4 {a b c d : Nat} (ha : a < 18446744073709551616) (hb : b < 18446744073709551616) (hc : c < 18446744073709551616) (hd : d < 18446744073709551616) : cs4 (v4 a b c d) = #[.int .u64 (a : Int), .int .u64 (b : Int), .int .u64 (c : Int), .int .u64 (d : Int)] := by
  obtain ⟨e0, e1, e2, e3⟩ := lb_v4 ha hb hc hd
  unfold cs4
  rw [e0, e1, e2, e3]
theorem mul_v4 (q a b c d : Nat) : q * v4 a b c d = q * a + 18446744073709551616 * (q * b + 18446744073709551616 * (q * c + 18446744073709551616 * (q * d))) := by
  unfold v4
  simp only [Nat.mul_add, Nat.mul_left_comm]
theorem behind_arith {X M q D hi k3 b3 N r3 low : Nat} (hM : 0 < M) (hq1 : X / M ≤ q) (hq2 : q ≤ X / M + 2) (hM2 : W256 < 2 * M) (hMW : M < W256)
    (hN : N + W256 * k3 = q * M) (hD : D < W256) (hb3 : b3 ≤ 1) (hlow : D + N = low + W256 * b3) (hX : X = low + W256 * r3) (hr3 : r3 < 18446744073709551616) (hk3 : k3 < 18446744073709551616) (hhi : hi < 18446744073709551616)
    (hh : ∃ z : Nat, hi + k3 + b3 = r3 + 18446744073709551616 * z) :
    (q = X / M ∧ hi = 0 ∧ D = X % M) ∨ (q = X / M + 1 ∧ D + M = W256 + X % M ∧ hi = 18446744073709551615) ∨ (q = X / M + 2 ∧ D + W256 * hi + 2 * M = W256 * 18446744073709551616 + X % M) := by
  have hdm := Nat.div_add_mod X M
  have hlt := Nat.mod_lt X hM
  obtain ⟨t, ht, ht2⟩ : ∃ t, q = X / M + t ∧ t ≤ 2 := ⟨q - X / M, by omega, by omega⟩
  have hqM : q * M = M * (X / M) + t * M := by rw [ht, Nat.add_mul, Nat.mul_comm]
  obtain ⟨z, hz⟩ := hh
  generalize X / M = Q at *
  generalize X % M = Y at *
  generalize M * Q = MQ at *
  generalize q * M = QM at *
  have h3 : t = 0 ∨ t = 1 ∨ t = 2 := by omega
  unfold W256 at *
  rcases h3 with rfl | rfl | rfl
  · left
    omega
  · right; left
    omega
  · right; right
    omega
theorem nvP : nv mP = .agg #[.int .u64 18446744073709551615, .int .u64 4294967295, .int .u64 0, .int .u64 18446744069414584321] := by
  unfold nv num; rw [lbP.1, lbP.2.1, lbP.2.2.1, lbP.2.2.2]; rfl
theorem nvN : nv mN = .agg #[.int .u64 17562291160714782033, .int .u64 13611842547513532036, .int .u64 18446744073709551615, .int .u64 18446744069414584320] := by
  unfold nv num; rw [lbN.1, lbN.2.1, lbN.2.2.1, lbN.2.2.2]; rfl
set_option maxHeartbeats 4000000 in
theorem mod_any (m : Int) (w : World) : Calls Tryz.prog 47 #[.int .i64 m] w fun e w' => e = .returned (nv (md m)) ∧ Below w.heap.size w w' := by
  by_cases h : m = 0
  · subst h
    show Calls Tryz.prog 47 #[.int .i64 0] w fun e w' => e = .returned (nv mP) ∧ Below w.heap.size w w'
    rw [nvP]
    go_enter Tryz.func47, Tryz.ntmps47
    go_wp2_with fail
    go_returns
    exact ⟨rfl, by go_grown⟩
  · have e : md m = mN := by unfold md; rw [if_neg h]
    rw [e, nvN]
    have t : (m == 0) = false := by simpa using h
    clear e h
    go_enter Tryz.func47, Tryz.ntmps47
    go_wp2_with fail
    go_returns
    exact ⟨rfl, by go_grown⟩
set_option maxHeartbeats 16000000 in
theorem behind_any (r l M : Nat) (hM : M = mP ∨ M = mN) (hr : r < M) (hl : l < 18446744073709551616) (w : World) :
    Calls Tryz.prog 130 #[nv r, .int .u64 (l : Int), nv M] w fun e w' => e = .returned (nv ((r * 18446744073709551616 + l) % M)) ∧ Below w.heap.size w w' := by
  obtain ⟨hMW, hM2, hM3, hMp⟩ := md_lt hM
  have HC := Lib.hid (quot_any r M hM hr)
  have hqb := quo_bounds (lb_lt r 0) (lb_lt r 1) (lb_lt r 2) (lb_lt r 3) (lb_lt M 0) (lb_lt M 1) (lb_lt M 2) (lb_lt M 3) hl hM3 (by rw [v4_lb hMW, v4_lb (by omega)]; exact hr)
  rw [v4_lb hMW, v4_lb (by omega)] at hqb
  have hql := quo_lt (lb_le hr hMW) (lb_lt r 2)
  have hXE : r * 18446744073709551616 + l = v4 l (lb r 0) (lb r 1) (lb r 2) + W256 * lb r 3 := by
    have := v4_lb (x := r) (by omega)
    unfold v4 at *
    unfold W256
    omega
  have hME := v4_lb hMW
  have hr0 := lb_lt r 0
  have hr1 := lb_lt r 1
  have hr2 := lb_lt r 2
  have hr3 := lb_lt r 3
  have hm0 := lb_lt M 0
  have hm1 := lb_lt M 1
  have hm2 := lb_lt M 2
  have hm3 := lb_lt M 3
  obtain ⟨X, hX⟩ : ∃ z, z = r * 18446744073709551616 + l := ⟨_, rfl⟩
  rw [← hX] at hqb hXE ⊢
  simp only [nv, num] at HC ⊢
  generalize quo (lb r 3) (lb r 2) (lb M 3) = q at *
  obtain ⟨Y, hY⟩ : ∃ z, z = X % M := ⟨_, rfl⟩
  rw [← hY]
  obtain ⟨r0, er0⟩ : ∃ z, z = lb r 0 := ⟨_, rfl⟩
  obtain ⟨r1, er1⟩ : ∃ z, z = lb r 1 := ⟨_, rfl⟩
  obtain ⟨r2, er2⟩ : ∃ z, z = lb r 2 := ⟨_, rfl⟩
  obtain ⟨r3, er3⟩ : ∃ z, z = lb r 3 := ⟨_, rfl⟩
  obtain ⟨m0, em0⟩ : ∃ z, z = lb M 0 := ⟨_, rfl⟩
  obtain ⟨m1, em1⟩ : ∃ z, z = lb M 1 := ⟨_, rfl⟩
  obtain ⟨m2, em2⟩ : ∃ z, z = lb M 2 := ⟨_, rfl⟩
  obtain ⟨m3, em3⟩ : ∃ z, z = lb M 3 := ⟨_, rfl⟩
  rw [← er0, ← er1, ← er2, ← er3] at HC hXE ⊢
  rw [← em0, ← em1, ← em2, ← em3] at HC hME ⊢
  rw [← er0] at hr0
  rw [← er1] at hr1
  rw [← er2] at hr2
  rw [← er3] at hr3
  rw [← em0] at hm0
  rw [← em1] at hm1
  rw [← em2] at hm2
  rw [← em3] at hm3 hM3
  have HA := Lib.hid (And.intro hqb.1 (And.intro hqb.2 (And.intro hM2 (And.intro hMW (And.intro hMp (And.intro hXE (And.intro hME hY)))))))
  have HL := Lib.hid (And.intro hql (And.intro hl (And.intro hr0 (And.intro hr1 (And.intro hr2 (And.intro hr3 (And.intro hm0 (And.intro hm1 (And.intro hm2 hm3)))))))))
  clear hqb hM2 hMW hMp hXE hME hY hX hql hl hr0 hr1 hr2 hr3 hm0 hm1 hm2 hm3 hM3 hr hM er0 er1 er2 er3 em0 em1 em2 em3
  go_enter Tryz.func130, Tryz.ntmps130
  go_wp2_with fail
  refine (keep w.heap.size w (HC.out _) (by go_grown) (Nat.le_refl _)).mono ?_
  rintro e w2 ⟨rfl, hb, hk⟩
  have K0 : Hid (Bk 24 w2 w.heap.size #[.int .u64 (r0 : Int), .int .u64 (r1 : Int), .int .u64 (r2 : Int), .int .u64 (r3 : Int)]) := Lib.hid (Bk.below (Bk.alloc (Bk.alloc (Bk.new rfl))) hk)
  have K1 : Hid (Bk 24 w2 (w.heap.size + 1) #[.int .u64 (m0 : Int), .int .u64 (m1 : Int), .int .u64 (m2 : Int), .int .u64 (m3 : Int)]) := Lib.hid (Bk.below (Bk.alloc (Bk.new (by simp))) hk)
  have K2 : Hid (Bk 24 w2 (w.heap.size + 1 + 1) cs0) := Lib.hid (Bk.below (Bk.new (by simp)) hk)
  have HB := Lib.hid hb
  clear hk hb HC
  obtain ⟨i0, i1, i2, i3⟩ := K0.out.cells
  obtain ⟨x0, x1, x2, x3⟩ := K0.out.cellsA
  obtain ⟨j0, j1, j2, j3⟩ := K1.out.cellsA
  go_wp2_with fail
  refine wp_loop_rounds 5 ?_
  rw [rounds_succ]
  go_wp2_with fail
  refine (times_any (a := q) (b := m0) (c := 0) (d := 0) HL.out.1 HL.out.2.2.2.2.2.2.1 (by decide) (by decide) _).mono ?_
  rintro e wz ⟨⟨n0, k0, hn0, hk0, en0, rfl⟩, rfl⟩
  obtain ⟨d0, b0, hd0, hb0, ed0, kd0⟩ := sub64 l n0 0 (by decide) HL.out.2.1 hn0
  rw [show ((0 : Nat) : Int) = 0 from rfl] at kd0
  have HK0 := Lib.hid (And.intro hn0 (And.intro hk0 (And.intro hd0 (And.intro hb0 (And.intro en0 ed0)))))
  clear hn0 hk0 hd0 hb0 en0 ed0
  go_wp2_with fail
  clear kd0
  rw [rounds_succ]
  go_wp2_with fail
  refine (times_any (a := q) (b := m1) (c := k0) (d := 0) HL.out.1 HL.out.2.2.2.2.2.2.2.1 HK0.out.2.1 (by decide) _).mono ?_
  rintro e wz ⟨⟨n1, k1, hn1, hk1, en1, rfl⟩, rfl⟩
  obtain ⟨d1, b1, hd1, hb1, ed1, kd1⟩ := sub64 r0 n1 b0 HK0.out.2.2.2.1 HL.out.2.2.1 hn1
  have HK1 := Lib.hid (And.intro hn1 (And.intro hk1 (And.intro hd1 (And.intro hb1 (And.intro en1 ed1)))))
  clear hn1 hk1 hd1 hb1 en1 ed1
  go_wp2_with fail
  clear kd1
  rw [rounds_succ]
  go_wp2_with fail
  refine (times_any (a := q) (b := m2) (c := k1) (d := 0) HL.out.1 HL.out.2.2.2.2.2.2.2.2.1 HK1.out.2.1 (by decide) _).mono ?_
  rintro e wz ⟨⟨n2, k2, hn2, hk2, en2, rfl⟩, rfl⟩
  obtain ⟨d2, b2, hd2, hb2, ed2, kd2⟩ := sub64 r1 n2 b1 HK1.out.2.2.2.1 HL.out.2.2.2.1 hn2
  have HK2 := Lib.hid (And.intro hn2 (And.intro hk2 (And.intro hd2 (And.intro hb2 (And.intro en2 ed2)))))
  clear hn2 hk2 hd2 hb2 en2 ed2
  go_wp2_with fail
  clear kd2
  rw [rounds_succ]
  go_wp2_with fail
  refine (times_any (a := q) (b := m3) (c := k2) (d := 0) HL.out.1 HL.out.2.2.2.2.2.2.2.2.2 HK2.out.2.1 (by decide) _).mono ?_
  rintro e wz ⟨⟨n3, k3, hn3, hk3, en3, rfl⟩, rfl⟩
  obtain ⟨d3, b3, hd3, hb3, ed3, kd3⟩ := sub64 r2 n3 b2 HK2.out.2.2.2.1 HL.out.2.2.2.2.1 hn3
  have HK3 := Lib.hid (And.intro hn3 (And.intro hk3 (And.intro hd3 (And.intro hb3 (And.intro en3 ed3)))))
  clear hn3 hk3 hd3 hb3 en3 ed3
  go_wp2_with fail
  clear kd3
  obtain ⟨hi, hhi, hz, ehi⟩ : ∃ hi : Nat, hi < 18446744073709551616 ∧ (∃ z : Nat, hi + k3 + b3 = r3 + 18446744073709551616 * z) ∧ IntKind.u64.wrap ((r3 : Int) - IntKind.u64.wrap ((k3 : Int) + (b3 : Int))) = (hi : Int) := by
    have h1 := HK3.out.2.1
    have h2 := HK3.out.2.2.2.1
    have h3 := HL.out.2.2.2.2.2.1
    refine ⟨(r3 + 36893488147419103232 - (k3 + b3)) % 18446744073709551616, by omega, ⟨(k3 + b3 + (r3 + 36893488147419103232 - (k3 + b3)) % 18446744073709551616 - r3) / 18446744073709551616, by omega⟩, by rw [IntKind.wrap_u64, IntKind.wrap_u64]; omega⟩
  have HE := Lib.hid (show (q = X / M ∧ hi = 0 ∧ v4 d0 d1 d2 d3 = Y) ∨ (q = X / M + 1 ∧ v4 d0 d1 d2 d3 + M = W256 + Y ∧ hi = 18446744073709551615) ∨ (q = X / M + 2 ∧ v4 d0 d1 d2 d3 + W256 * hi + 2 * M = W256 * 18446744073709551616 + Y) from by
    obtain ⟨g1, g2, g3, g4, g5, g6, g7, g8⟩ := HA.out
    obtain ⟨f1, f2, f3, f4, f5, f6, f7, f8, f9, f10⟩ := HL.out
    obtain ⟨hn0, hk0, hd0, hb0, en0, ed0⟩ := HK0.out
    obtain ⟨hn1, hk1, hd1, hb1, en1, ed1⟩ := HK1.out
    obtain ⟨hn2, hk2, hd2, hb2, en2, ed2⟩ := HK2.out
    obtain ⟨hn3, hk3, hd3, hb3, en3, ed3⟩ := HK3.out
    rw [g8]
    refine behind_arith (N := v4 n0 n1 n2 n3) (low := v4 l r0 r1 r2) (k3 := k3) (b3 := b3) (r3 := r3) (by omega) g1 g2 g3 g4 ?_ (v4_lt hd0 hd1 hd2 hd3) hb3 ?_ g6 f6 hk3 hhi hz
    · rw [← g7, mul_v4]
      generalize q * m0 = t0 at *
      generalize q * m1 = t1 at *
      generalize q * m2 = t2 at *
      generalize q * m3 = t3 at *
      unfold v4 W256
      omega
    · unfold v4 W256
      omega)
  have HD := Lib.hid (And.intro HK0.out.2.2.1 (And.intro HK1.out.2.2.1 (And.intro HK2.out.2.2.1 HK3.out.2.2.1)))
  have HHI := Lib.hid hhi
  clear hz hhi HK0 HK1 HK2 HK3
  rw [rounds_succ]
  go_wp2_with fail
  clear x0 x1 x2 x3 i0 i1 i2 i3 j0 j1 j2 j3
  obtain ⟨f0, f1, f2, f3⟩ := K2.out.frosA
  obtain ⟨c0, c1, c2, c3⟩ := K2.out.cellsA
  rcases HE.out with ⟨_, h0, hY⟩ | ⟨_, hY, h1⟩ | ⟨_, hY⟩
  · subst h0
    have HY := Lib.hid hY
    clear hY
    refine wp_loop_rounds 1 ?_
    rw [rounds_succ]
    go_wp2_with fail
    refine ret_cell rfl (w.heap.size + 1 + 1) Y rfl (by rw [← HY.out, cs4_v4 HD.out.1 HD.out.2.1 HD.out.2.2.1 HD.out.2.2.2]; exact Bk.put K2.out.alloc) rfl ⟨rfl, ?_⟩
    have hb := HB.out
    have hs := hb.size
    go_grown
  · subst h1
    have hYM : Y < M := by
      have h1 := HA.out.2.2.2.2.2.2.2
      have h2 := HA.out.2.2.2.2.1
      rw [h1]; exact Nat.mod_lt _ (by omega)
    have HY := Lib.hid (And.intro hY hYM)
    clear hY hYM
    refine wp_loop_rounds 2 ?_
    rw [rounds_succ]
    obtain ⟨j0, j1, j2, j3⟩ := K1.out.cellsA
    have HD1 := HD
    go_wp2_with fail
    refine (keep w.heap.size w (plus_any HD1.out.1 HD1.out.2.1 HD1.out.2.2.1 HD1.out.2.2.2 HL.out.2.2.2.2.2.2.1 HL.out.2.2.2.2.2.2.2.1 HL.out.2.2.2.2.2.2.2.2.1 HL.out.2.2.2.2.2.2.2.2.2 _) (by have hb := HB.out; have hs := hb.size; go_grown) (Nat.le_refl _)).mono ?_
    rintro e w3 ⟨⟨s0, s1, s2, s3, c, z0, z1, z2, z3, zc, ze, rfl⟩, hb, hk⟩
    have HD2 := Lib.hid (And.intro z0 (And.intro z1 (And.intro z2 z3)))
    obtain ⟨hc1, hs1⟩ : c = 1 ∧ v4 s0 s1 s2 s3 = Y := by
      rw [HA.out.2.2.2.2.2.2.1] at ze
      have h1 := HY.out.1
      have h2 := HY.out.2
      have h3 := HA.out.2.2.2.1
      have h4 := v4_lt z0 z1 z2 z3
      generalize v4 s0 s1 s2 s3 = S at *
      generalize v4 d0 d1 d2 d3 = DD at *
      unfold W256 at *
      omega
    subst hc1
    have HS := Lib.hid hs1
    have KK2 : Hid (Bk 24 w3 (w.heap.size + 1 + 1) cs0) := Lib.hid (Bk.below (Bk.alloc K2.out) hk)
    have KKL : Hid (Bk 24 w3 w2.heap.size #[.int .u64 (d0 : Int), .int .u64 (d1 : Int), .int .u64 (d2 : Int), .int .u64 (d3 : Int)]) := Lib.hid (Bk.below (Bk.new rfl) hk)
    have hne1 : ¬ (w.heap.size + 1 + 1 = w2.heap.size) := by have := K2.out.lt; omega
    have hne2 : ¬ (w2.heap.size = w.heap.size + 1 + 1) := by have := K2.out.lt; omega
    have HB3 := Lib.hid hb
    clear z0 z1 z2 z3 zc ze hs1 hk hb f0 f1 f2 f3 c0 c1 c2 c3 j0 j1 j2 j3
    obtain ⟨f0, f1, f2, f3⟩ := KK2.out.fros
    obtain ⟨c0, c1, c2, c3⟩ := KK2.out.cells
    obtain ⟨y0, y1, y2, y3⟩ := KKL.out.fros
    obtain ⟨x0, x1, x2, x3⟩ := KKL.out.cells
    simp only [num]
    go_wp2_with fail
    rw [rounds_succ]
    go_wp2_with fail
    refine ret_cell rfl (w.heap.size + 1 + 1) Y rfl (by rw [← HS.out, cs4_v4 HD2.out.1 HD2.out.2.1 HD2.out.2.2.1 HD2.out.2.2.2]; exact Bk.put (Bk.puto hne1 KK2.out)) rfl ⟨rfl, ?_⟩
    have hb := HB3.out
    have hs := HB.out.size
    go_grown
  · have hYM : Y < M := by
      have h1 := HA.out.2.2.2.2.2.2.2
      have h2 := HA.out.2.2.2.2.1
      rw [h1]; exact Nat.mod_lt _ (by omega)
    have HY := Lib.hid (And.intro hY hYM)
    have hi1 : ((hi : Int) != 0) = true := by
      have h3 := HA.out.2.2.2.1
      have h4 := v4_lt HD.out.1 HD.out.2.1 HD.out.2.2.1 HD.out.2.2.2
      generalize v4 d0 d1 d2 d3 = DD at *
      unfold W256 at *
      simp
      omega
    clear hY hYM
    refine wp_loop_rounds 3 ?_
    rw [rounds_succ]
    obtain ⟨j0, j1, j2, j3⟩ := K1.out.cellsA
    have HD1 := HD
    go_wp2_with fail
    refine (keep w.heap.size w (plus_any HD1.out.1 HD1.out.2.1 HD1.out.2.2.1 HD1.out.2.2.2 HL.out.2.2.2.2.2.2.1 HL.out.2.2.2.2.2.2.2.1 HL.out.2.2.2.2.2.2.2.2.1 HL.out.2.2.2.2.2.2.2.2.2 _) (by have hb := HB.out; have hs := hb.size; have hs2 := HB.out.size; go_grown) (Nat.le_refl _)).mono ?_
    rintro e w3 ⟨⟨s0, s1, s2, s3, c, z0, z1, z2, z3, zc, ze, rfl⟩, hb, hk⟩
    have HD2 := Lib.hid (And.intro z0 (And.intro z1 (And.intro z2 z3)))
    obtain ⟨hc1, hs1⟩ : IntKind.u64.wrap ((hi : Int) + (c : Int)) = 18446744073709551615 ∧ v4 s0 s1 s2 s3 + M = W256 + Y := by
      rw [HA.out.2.2.2.2.2.2.1] at ze
      have h1 := HY.out.1
      have h2 := HY.out.2
      have h3 := HA.out.2.2.2.1
      have h4 := v4_lt z0 z1 z2 z3
      have h5 := HHI.out
      generalize v4 s0 s1 s2 s3 = S at *
      generalize v4 d0 d1 d2 d3 = DD at *
      rw [IntKind.wrap_u64]
      unfold W256 at *
      omega
    have HS := Lib.hid hs1
    have KM : Hid (Bk 24 w3 (w.heap.size + 1) #[.int .u64 (m0 : Int), .int .u64 (m1 : Int), .int .u64 (m2 : Int), .int .u64 (m3 : Int)]) := Lib.hid (Bk.below (Bk.alloc K1.out) hk)
    have KK2 : Hid (Bk 24 w3 (w.heap.size + 1 + 1) cs0) := Lib.hid (Bk.below (Bk.alloc K2.out) hk)
    have KKL : Hid (Bk 24 w3 w2.heap.size #[.int .u64 (d0 : Int), .int .u64 (d1 : Int), .int .u64 (d2 : Int), .int .u64 (d3 : Int)]) := Lib.hid (Bk.below (Bk.new rfl) hk)
    have hne1 : ¬ (w.heap.size + 1 + 1 = w2.heap.size) := by have := K2.out.lt; omega
    have hne2 : ¬ (w2.heap.size = w.heap.size + 1 + 1) := by have := K2.out.lt; omega
    have hne3 : ¬ (w.heap.size + 1 = w2.heap.size) := by have := K2.out.lt; omega
    have hne4 : ¬ (w2.heap.size = w.heap.size + 1) := by have := K2.out.lt; omega
    have HB3 := Lib.hid hb
    clear z0 z1 z2 z3 zc ze hs1 hk hb f0 f1 f2 f3 c0 c1 c2 c3 j0 j1 j2 j3
    obtain ⟨j0, j1, j2, j3⟩ := KM.out.cells
    obtain ⟨y0, y1, y2, y3⟩ := KKL.out.fros
    obtain ⟨x0, x1, x2, x3⟩ := KKL.out.cells
    simp only [num]
    go_wp2_with fail
    rw [rounds_succ]
    go_wp2_with fail
    refine (keep w.heap.size w (plus_any HD2.out.1 HD2.out.2.1 HD2.out.2.2.1 HD2.out.2.2.2 HL.out.2.2.2.2.2.2.1 HL.out.2.2.2.2.2.2.2.1 HL.out.2.2.2.2.2.2.2.2.1 HL.out.2.2.2.2.2.2.2.2.2 _) (by have hb := HB3.out; have hs := hb.size; have hs2 := HB.out.size; go_grown) (Nat.le_refl _)).mono ?_
    rintro e w4 ⟨⟨u0, u1, u2, u3, cc, z0, z1, z2, z3, zc, ze, rfl⟩, hb, hk⟩
    have HD3 := Lib.hid (And.intro z0 (And.intro z1 (And.intro z2 z3)))
    obtain ⟨hcc1, hu1⟩ : cc = 1 ∧ v4 u0 u1 u2 u3 = Y := by
      rw [HA.out.2.2.2.2.2.2.1] at ze
      have h1 := HS.out
      have h2 := HY.out.2
      have h3 := HA.out.2.2.2.1
      have h4 := v4_lt z0 z1 z2 z3
      generalize v4 u0 u1 u2 u3 = U at *
      generalize v4 s0 s1 s2 s3 = S at *
      unfold W256 at *
      omega
    subst hcc1
    have HU := Lib.hid hu1
    have LK2 : Hid (Bk 24 w4 (w.heap.size + 1 + 1) cs0) := Lib.hid (Bk.below (Bk.puto hne1 KK2.out) hk)
    have LKL : Hid (Bk 24 w4 w2.heap.size #[.int .u64 (s0 : Int), .int .u64 (s1 : Int), .int .u64 (s2 : Int), .int .u64 (s3 : Int)]) := Lib.hid (Bk.below (Bk.put KKL.out) hk)
    have HB4 := Lib.hid hb
    clear z0 z1 z2 z3 zc ze hu1 hk hb j0 j1 j2 j3 y0 y1 y2 y3 x0 x1 x2 x3 hc1
    obtain ⟨f0, f1, f2, f3⟩ := LK2.out.fros
    obtain ⟨c0, c1, c2, c3⟩ := LK2.out.cells
    obtain ⟨y0, y1, y2, y3⟩ := LKL.out.fros
    obtain ⟨x0, x1, x2, x3⟩ := LKL.out.cells
    simp only [num]
    go_wp2_with fail
    rw [rounds_succ]
    go_wp2_with fail
    refine ret_cell rfl (w.heap.size + 1 + 1) Y rfl (by rw [← HU.out, cs4_v4 HD3.out.1 HD3.out.2.1 HD3.out.2.2.1 HD3.out.2.2.2]; exact Bk.put (Bk.puto hne1 LK2.out)) rfl ⟨rfl, ?_⟩
    have hb := HB4.out
    have hs := HB.out.size
    go_grown
end Go.Proofs.YtpggkfdijmnmiaaGreat
namespace Go.Proofs.YtpggkfdijmnmiaaGreat.Ref
open Go.RowKit Go.Proofs.YtpggkfdijmnmiaaGreat.Digits
def NV (w : World) (v : Value) (n : Nat) : Prop := ∃ r, Dr w v r ∧ Dig r ∧ Trim r ∧ val r = n
theorem NV.below {w w' : World} {v : Value} {n : Nat} (h : NV w v n) (hb : Below w.heap.size w w') : NV w' v n := by
  obtain ⟨r, h1, h2⟩ := h
  exact ⟨r, h1.below hb, h2⟩
theorem Nr.nv {w w' : World} {v : Value} {n : Nat} (h : Nr w w' v n) : NV w' v n := h.row
def big : Nat := 65536 ^ 120
theorem md_big (m : Int) : md m < big := by
  rcases md_or m with h | h <;> rw [h] <;> decide +kernel
theorem md_pos (m : Int) : 0 < md m := by
  rcases md_or m with h | h <;> rw [h] <;> decide +kernel
def R0 : List Nat := [65535, 65535, 65535, 65535, 65535, 65535, 0, 0, 0, 0, 0, 0, 1, 0, 65535, 65535]
def R1 : List Nat := [9553, 64611, 51906, 62393, 40580, 42775, 64173, 48358, 65535, 65535, 65535, 65535, 0, 0, 65535, 65535]
theorem R0_dig : Dig R0 := by unfold Dig R0; decide
theorem R1_dig : Dig R1 := by unfold Dig R1; decide
theorem R0_val : val R0 = mP := by decide +kernel
theorem R1_val : val R1 = mN := by decide +kernel
set_option maxHeartbeats 2000000 in
theorem modref_any (m : Int) (w : World) : Calls Tryz.prog 71 #[.int .i64 m] w fun e w' => ∃ v', e = .returned v' ∧ Nr w w' v' (md m) := by
  by_cases h0 : m = 0
  · subst h0
    go_enter Tryz.func71, Tryz.ntmps71
    go_wp2_with fail
    go_ret
    exact ⟨_, rfl, ⟨⟨R0, us_dr (l := R0) (Go.heap_alloc_new w _) (by decide), R0_dig, by unfold Trim R0; decide, R0_val⟩, by go_grown⟩⟩
  · have h1 : (m == 0) = false := by simpa using h0
    have hm : md m = mN := by unfold md; rw [if_neg h0]
    rw [hm]
    clear hm h0
    go_enter Tryz.func71, Tryz.ntmps71
    go_wp2_with fail
    go_ret
    exact ⟨_, rfl, ⟨⟨R1, us_dr (l := R1) (Go.heap_alloc_new w _) (by decide), R1_dig, by unfold Trim R1; decide, R1_val⟩, by go_grown⟩⟩
theorem len_pow {r : List Nat} {n q : Nat} (ht : Trim r) (hv : val r = n) (hn : n < 65536 ^ q) : r.length ≤ q := by
  rcases Nat.lt_or_ge q r.length with h | h
  · exfalso
    have h1 := val_ge ht (by intro e; subst e; simp at h)
    have h2 := Nat.pow_le_pow_right (n := 65536) (by decide) (show q ≤ r.length - 1 by omega)
    rw [hv] at h1
    exact absurd (Nat.lt_of_lt_of_le hn (Nat.le_trans h2 h1)) (Nat.lt_irrefl _)
  · exact h
theorem len_big {r : List Nat} {n : Nat} (ht : Trim r) (hv : val r = n) (hn : n < big) : r.length ≤ 120 := len_pow ht hv hn
theorem len_bigs {r : List Nat} {n : Nat} (ht : Trim r) (hv : val r = n) (hn : n < big * big) : r.length ≤ 240 := len_pow ht hv (by
  have e : big * big = 65536 ^ 240 := by unfold big; rw [← Nat.pow_add]
  rwa [e] at hn)
theorem add_nv (v u : Value) (w : World) (a b : Nat) (ha : a < big) (hb : b < big) (h : NV w v a) (k : NV w u b) : Calls Tryz.prog 155 #[v, u] w fun e w' => ∃ v', e = .returned v' ∧ Nr w w' v' (a + b) := by
  obtain ⟨r, h1, h2, h3, h4⟩ := h
  obtain ⟨s, k1, k2, k3, k4⟩ := k
  have := add_any r s h2 k2 (by have := len_big h3 h4 ha; omega) (by have := len_big k3 k4 hb; omega) v u w h1 k1
  rwa [h4, k4] at this
theorem mul_nv' (v u : Value) (w : World) (a b : Nat) (ha : a < big) (hb : b < big) (h : NV w v a) (k : NV w u b) : Calls Tryz.prog 124 #[v, u] w fun e w' => ∃ v', e = .returned v' ∧ Nr w w' v' (a * b) := by
  obtain ⟨r, h1, h2, h3, h4⟩ := h
  obtain ⟨s, k1, k2, k3, k4⟩ := k
  have := mul_any r s h2 k2 (by have := len_big h3 h4 ha; omega) (by have := len_big k3 k4 hb; omega) v u w h1 k1
  rwa [h4, k4] at this
theorem sub_nv' (v u : Value) (w : World) (a b : Nat) (ha : a < big) (hle : b ≤ a) (h : NV w v a) (k : NV w u b) : Calls Tryz.prog 122 #[v, u] w fun e w' => ∃ v', e = .returned v' ∧ Nr w w' v' (a - b) := by
  obtain ⟨r, h1, h2, h3, h4⟩ := h
  obtain ⟨s, k1, k2, k3, k4⟩ := k
  have := sub_any r s h2 k2 (by have := len_big h3 h4 ha; omega) (by rw [h4, k4]; exact hle) v u w h1 k1
  rwa [h4, k4] at this
theorem left_nv (v u : Value) (w : World) (a b : Nat) (ha : a < big * big) (hb : b < big) (hb0 : 0 < b) (h : NV w v a) (k : NV w u b) : Calls Tryz.prog 70 #[v, u] w fun e w' => ∃ v', e = .returned v' ∧ Nr w w' v' (a % b) := by
  obtain ⟨r, h1, h2, h3, h4⟩ := h
  obtain ⟨s, k1, k2, k3, k4⟩ := k
  have := left_any r s h2 k2 (by have := len_bigs h3 h4 ha; omega) (by have := len_big k3 k4 hb; omega) (by rw [k4]; exact hb0) v u w h1 k1
  rwa [h4, k4] at this
theorem nk {f : FuncId} {args : Array Value} {W : World} {n : Nat} (B : Nat) (w : World) (h : Calls Tryz.prog f args W fun e w' => ∃ v', e = .returned v' ∧ Nr W w' v' n) (hb : Below B w W) (hB : B ≤ w.heap.size) :
    Calls Tryz.prog f args W fun e w' => ∃ v', e = .returned v' ∧ NV w' v' n ∧ Below B w w' ∧ Below W.heap.size W w' :=
  h.mono fun _ _ ⟨v', h1, h2⟩ => ⟨v', h1, h2.nv, hb.trans (h2.below.mono (Nat.le_trans hB hb.size)), h2.below⟩
set_option maxHeartbeats 2000000 in
theorem sum_nv (m : Int) (v u : Value) (w : World) (a b : Nat) (ha : a < big) (hb : b < big) (h : NV w v a) (k : NV w u b) : Calls Tryz.prog 106 #[.int .i64 m, v, u] w fun e w' => ∃ v', e = .returned v' ∧ Nr w w' v' ((a + b) % md m) := by
  have HA := Lib.hid (add_nv v u w a b ha hb h k)
  have hab : a + b < big * big := by
    have : 2 ≤ big := by decide +kernel
    have : big * 2 ≤ big * big := Nat.mul_le_mul_left _ this
    omega
  have HAB := Lib.hid hab
  clear h k ha hb hab
  go_enter Tryz.func106, Tryz.ntmps106
  go_wp2_with fail
  refine (nk w.heap.size w (HA.out) (Below.refl _ _) (Nat.le_refl _)).mono ?_
  rintro e w1 ⟨v1, rfl, n1, hb1, hk1⟩
  have N1 := Lib.hid n1
  have HB1 := Lib.hid hb1
  clear n1 hb1 hk1 HA
  go_wp2_with fail
  refine (nk w.heap.size w (modref_any m w1) HB1.out (Nat.le_refl _)).mono ?_
  rintro e w2 ⟨v2, rfl, n2, hb2, hk2⟩
  have N12 := Lib.hid (N1.out.below hk2)
  have N2 := Lib.hid n2
  have HB2 := Lib.hid hb2
  clear n2 hb2 hk2 HB1 N1
  go_wp2_with fail
  refine (nk w.heap.size w (left_nv v1 v2 w2 (a + b) (md m) HAB.out (md_big m) (md_pos m) N12.out N2.out) HB2.out (Nat.le_refl _)).mono ?_
  rintro e w3 ⟨v3, rfl, n3, hb3, hk3⟩
  have N3 := Lib.hid n3
  have HB3 := Lib.hid hb3
  clear n3 hb3 hk3 HB2 N12 N2
  go_wp2_with fail
  go_ret
  exact ⟨_, rfl, ⟨N3.out, HB3.out⟩⟩
set_option maxHeartbeats 2000000 in
theorem prod_nv (m : Int) (v u : Value) (w : World) (a b : Nat) (ha : a < big) (hb : b < big) (h : NV w v a) (k : NV w u b) : Calls Tryz.prog 65 #[.int .i64 m, v, u] w fun e w' => ∃ v', e = .returned v' ∧ Nr w w' v' (a * b % md m) := by
  have HA := Lib.hid (mul_nv' v u w a b ha hb h k)
  have HAB : Hid (a * b < big * big) := Lib.hid (Nat.mul_lt_mul'' ha hb)
  clear h k ha hb
  go_enter Tryz.func65, Tryz.ntmps65
  go_wp2_with fail
  refine (nk w.heap.size w (HA.out) (Below.refl _ _) (Nat.le_refl _)).mono ?_
  rintro e w1 ⟨v1, rfl, n1, hb1, hk1⟩
  have N1 := Lib.hid n1
  have HB1 := Lib.hid hb1
  clear n1 hb1 hk1 HA
  go_wp2_with fail
  refine (nk w.heap.size w (modref_any m w1) HB1.out (Nat.le_refl _)).mono ?_
  rintro e w2 ⟨v2, rfl, n2, hb2, hk2⟩
  have N12 := Lib.hid (N1.out.below hk2)
  have N2 := Lib.hid n2
  have HB2 := Lib.hid hb2
  clear n2 hb2 hk2 HB1 N1
  go_wp2_with fail
  refine (nk w.heap.size w (left_nv v1 v2 w2 (a * b) (md m) HAB.out (md_big m) (md_pos m) N12.out N2.out) HB2.out (Nat.le_refl _)).mono ?_
  rintro e w3 ⟨v3, rfl, n3, hb3, hk3⟩
  have N3 := Lib.hid n3
  have HB3 := Lib.hid hb3
  clear n3 hb3 hk3 HB2 N12 N2
  go_wp2_with fail
  go_ret
  exact ⟨_, rfl, ⟨N3.out, HB3.out⟩⟩
theorem big_sq : big ≤ big * big := by
  have : 1 ≤ big := by decide +kernel
  have := Nat.mul_le_mul_left big this
  omega
set_option maxHeartbeats 4000000 in
theorem opp_nv (m : Int) (v : Value) (w : World) (a : Nat) (ha : a < big) (h : NV w v a) : Calls Tryz.prog 159 #[.int .i64 m, v] w fun e w' => ∃ v', e = .returned v' ∧ Nr w w' v' ((md m - a % md m) % md m) := by
  have H := Lib.hid h
  have HAA := Lib.hid ha
  clear h ha
  go_enter Tryz.func159, Tryz.ntmps159
  go_wp2_with fail
  refine (nk w.heap.size w (modref_any m w) (Below.refl _ _) (Nat.le_refl _)).mono ?_
  rintro e w1 ⟨v1, rfl, n1, hb1, hk1⟩
  have N1 := Lib.hid n1
  have HB1 := Lib.hid hb1
  clear n1 hb1 hk1
  go_wp2_with fail
  refine (nk w.heap.size w (modref_any m w1) HB1.out (Nat.le_refl _)).mono ?_
  rintro e w2 ⟨v2, rfl, n2, hb2, hk2⟩
  have N12 := Lib.hid (N1.out.below hk2)
  have N2 := Lib.hid n2
  have HB2 := Lib.hid hb2
  clear n2 hb2 hk2 HB1 N1
  go_wp2_with fail
  refine (nk w.heap.size w (left_nv v v2 w2 a (md m) (Nat.lt_of_lt_of_le HAA.out big_sq) (md_big m) (md_pos m) (H.out.below HB2.out) N2.out) HB2.out (Nat.le_refl _)).mono ?_
  rintro e w3 ⟨v3, rfl, n3, hb3, hk3⟩
  have N13 := Lib.hid (N12.out.below hk3)
  have N3 := Lib.hid n3
  have HB3 := Lib.hid hb3
  clear n3 hb3 hk3 HB2 N12 N2
  go_wp2_with fail
  refine (nk w.heap.size w (sub_nv' v1 v3 w3 (md m) (a % md m) (md_big m) (Nat.le_of_lt (Nat.mod_lt _ (md_pos m))) N13.out N3.out) HB3.out (Nat.le_refl _)).mono ?_
  rintro e w4 ⟨v4, rfl, n4, hb4, hk4⟩
  have N4 := Lib.hid n4
  have HB4 := Lib.hid hb4
  clear n4 hb4 hk4 HB3 N13 N3
  go_wp2_with fail
  refine (nk w.heap.size w (modref_any m w4) HB4.out (Nat.le_refl _)).mono ?_
  rintro e w5 ⟨v5, rfl, n5, hb5, hk5⟩
  have N45 := Lib.hid (N4.out.below hk5)
  have N5 := Lib.hid n5
  have HB5 := Lib.hid hb5
  clear n5 hb5 hk5 HB4 N4
  go_wp2_with fail
  refine (nk w.heap.size w (left_nv v4 v5 w5 (md m - a % md m) (md m) (Nat.lt_of_le_of_lt (Nat.sub_le _ _) (Nat.lt_of_lt_of_le (md_big m) big_sq)) (md_big m) (md_pos m) N45.out N5.out) HB5.out (Nat.le_refl _)).mono ?_
  rintro e w6 ⟨v6, rfl, n6, hb6, hk6⟩
  have N6 := Lib.hid n6
  have HB6 := Lib.hid hb6
  clear n6 hb6 hk6 HB5 N45 N5
  go_wp2_with fail
  go_ret
  exact ⟨_, rfl, ⟨N6.out, HB6.out⟩⟩
def cellN (w : World) (g i : Nat) : Nat := match w.cell? ⟨g, i, none⟩ with
  | some (.int _ x) => x.toNat
  | _ => 0
def sval (w : World) : Value → Nat
  | .slice (some a) n _ => val ((List.range n).map (cellN w a.block))
  | _ => 0
theorem sval_nv {w : World} {v : Value} {n : Nat} (h : NV w v n) : sval w v = n := by
  obtain ⟨r, ⟨g, cap, rfl, _, _, _, hc⟩, _, _, rfl⟩ := h
  unfold sval
  simp only []
  congr 1
  apply List.ext_getElem
  · simp
  · intro i h1 h2
    simp only [List.getElem_map, List.getElem_range]
    have := hc i h2
    unfold cellN
    rw [this]
    simp
theorem cmp_nv (v u : Value) (w : World) (a b : Nat) (h : NV w v a) (k : NV w u b) : Calls Tryz.prog 69 #[v, u] w fun e w' => e = .returned (.int .i64 (cmpN a b)) ∧ Sm w w' := by
  obtain ⟨r, h1, h2, h3, rfl⟩ := h
  obtain ⟨s, k1, k2, k3, rfl⟩ := k
  exact cmp_any r s h2 k2 v u w h1 k1
theorem odd_nv (v : Value) (w : World) (a : Nat) (h : NV w v a) : Calls Tryz.prog 119 #[v] w fun e w' => e = .returned (.bool (decide (a % 2 = 1))) ∧ Sm w w' := by
  obtain ⟨r, h1, h2, h3, rfl⟩ := h
  exact odd_any r h2 v w h1
theorem half_nv (v : Value) (w : World) (a : Nat) (ha : a < big) (h : NV w v a) : Calls Tryz.prog 120 #[v] w fun e w' => ∃ v', e = .returned v' ∧ Nr w w' v' (a / 2) := by
  obtain ⟨r, h1, h2, h3, rfl⟩ := h
  exact half_any r h2 (by have := len_big h3 rfl ha; omega) v w h1
theorem halved_nv (v u : Value) (w : World) (a m : Nat) (ha : a < big) (hm : m < big) (h : NV w v a) (k : NV w u m) : Calls Tryz.prog 121 #[v, u] w fun e w' => ∃ v', e = .returned v' ∧ Nr w w' v' ((if a % 2 = 1 then a + m else a) / 2) := by
  obtain ⟨r, h1, h2, h3, rfl⟩ := h
  obtain ⟨s, k1, k2, k3, rfl⟩ := k
  exact halved_any r s h2 k2 (by have := len_big h3 rfl ha; omega) (by have := len_big k3 rfl hm; omega) v u w h1 k1
theorem less_nv (v u z : Value) (w : World) (a b m : Nat) (ha : a < big) (hb : b < big) (hm : m < big) (hle : b ≤ a + m) (h : NV w v a) (k : NV w u b) (q : NV w z m) : Calls Tryz.prog 123 #[v, u, z] w fun e w' => ∃ v', e = .returned v' ∧ Nr w w' v' ((if a < b then a + m else a) - b) := by
  obtain ⟨r, h1, h2, h3, rfl⟩ := h
  obtain ⟨s, k1, k2, k3, rfl⟩ := k
  obtain ⟨t, q1, q2, q3, rfl⟩ := q
  exact less_any r s t h2 k2 q2 (by have := len_big h3 rfl ha; omega) (by have := len_big k3 rfl hb; omega) (by have := len_big q3 rfl hm; omega) hle v u z w h1 k1 q1
theorem nv_one (w : World) : NV (w.alloc (.cells #[.int .u32 1] 111)) (.slice (some ⟨w.heap.size, 0, none⟩) 1 1) 1 :=
  ⟨[1], us_dr (l := [1]) (Go.heap_alloc_new w _) (by decide), by unfold Dig; decide, by unfold Trim; decide, rfl⟩
theorem nv_nil (w : World) : NV (w.alloc (.cells #[] 111)) (.slice (some ⟨w.heap.size, 0, none⟩) 0 0) 0 :=
  ⟨[], us_dr (l := []) (Go.heap_alloc_new w _) (by decide), by unfold Dig; simp, by unfold Trim; simp, rfl⟩
theorem al_below (w : World) (o : Obj) : Below w.heap.size w (w.alloc o) := (Below.refl _ _).alloc (Nat.le_refl _) _
theorem NV.al {w : World} {v : Value} {n : Nat} (h : NV w v n) (o : Obj) : NV (w.alloc o) v n := h.below (al_below w o)
theorem NV.sm {w w' : World} {v : Value} {n : Nat} (h : NV w v n) (s : Sm w w') : NV w' v n := h.below s.below0
theorem cmp_one {a : Nat} : (cmpN a 1 != 0) = decide (a ≠ 1) := by
  unfold cmpN
  by_cases h : a = 1
  · subst h; rfl
  · have e : decide (a ≠ 1) = true := by simpa using h
    rw [e]
    split
    · rfl
    · split
      · rfl
      · omega
theorem cmp_one' {a : Nat} : (cmpN a 1 == 0) = decide (a = 1) := by
  unfold cmpN
  by_cases h : a = 1
  · subst h; rfl
  · have e : decide (a = 1) = false := by simpa using h
    rw [e]
    split
    · rfl
    · split
      · rfl
      · omega
theorem dig_at {r : List Nat} (h : Dig r) {q : Nat} (hq : q < r.length) : val r / 65536 ^ q % 65536 = r[q] := by
  have e := val_append (r.take q) (r.drop q)
  rw [List.take_append_drop, List.length_take, Nat.min_eq_left (by omega), drop_val hq] at e
  have hlt := val_lt (r.take q) (dig_take h q)
  rw [List.length_take, Nat.min_eq_left (by omega)] at hlt
  have hd := h _ (List.getElem_mem hq)
  rw [e, Nat.add_mul_div_left _ _ (Nat.pow_pos (by decide)), Nat.div_eq_of_lt hlt]
  omega
theorem bit_at {r : List Nat} (h : Dig r) {k : Nat} (hk : k / 16 < r.length) : r[k / 16] / 2 ^ (k % 16) % 2 = val r / 2 ^ k % 2 := by
  rw [← dig_at h hk]
  have hs : k % 16 < 16 := Nat.mod_lt _ (by decide)
  generalize hx : val r / 65536 ^ (k / 16) = x
  have e : val r / 2 ^ k = x / 2 ^ (k % 16) := by
    rw [← hx, Nat.div_div_eq_div_mul]
    congr 1
    rw [show (65536 : Nat) = 2 ^ 16 from rfl, ← Nat.pow_mul, ← Nat.pow_add]
    congr 1
    omega
  rw [e, ← Nat.mod_mul_right_div_self, ← Nat.mod_mul_right_div_self (m := x)]
  congr 1
  refine Nat.mod_mod_of_dvd _ ?_
  rw [show (65536 : Nat) = 2 ^ (k % 16) * 2 ^ (16 - k % 16) from by rw [← Nat.pow_add, show k % 16 + (16 - k % 16) = 16 by omega]]
  exact Nat.mul_dvd_mul_left _ (Nat.pow_dvd_pow 2 (show 1 ≤ 16 - k % 16 by omega))
end Go.Proofs.YtpggkfdijmnmiaaGreat.Ref
namespace Go.Proofs.YtpggkfdijmnmiaaGreat.Inver
def Keeps (p a u x : Nat) : Prop := x < p ∧ (x * a) % p = u % p
theorem dvd_of_mod_eq {p s t : Nat} (hle : t ≤ s) (h : s % p = t % p) : p ∣ s - t := Nat.dvd_of_mod_eq_zero (Nat.sub_mod_eq_zero_of_mod_eq h)
theorem mod_eq_of_dvd {p s t : Nat} (hle : t ≤ s) (h : p ∣ s - t) : s % p = t % p := by
  obtain ⟨k, hk⟩ := h
  have : s = t + p * k := by omega
  rw [this, Nat.add_mul_mod_self_left]
theorem add_cancel {p s t v : Nat} (h : (s + v) % p = (t + v) % p) : s % p = t % p := by
  rcases Nat.le_total t s with hl | hl
  · have := dvd_of_mod_eq (by omega) h
    rw [Nat.add_sub_add_right] at this
    exact mod_eq_of_dvd hl this
  · have := dvd_of_mod_eq (by omega) h.symm
    rw [Nat.add_sub_add_right] at this
    exact (mod_eq_of_dvd hl this).symm
theorem odd_cop {p : Nat} (h : p % 2 = 1) : Nat.Coprime p 2 := by
  rw [Nat.Coprime, Nat.gcd_comm, Nat.gcd_rec, h]
  rfl
theorem two_cancel_le {p s t : Nat} (hp : p % 2 = 1) (hle : t ≤ s) (h : (2 * s) % p = (2 * t) % p) : s % p = t % p := by
  refine mod_eq_of_dvd hle ?_
  have := dvd_of_mod_eq (by omega) h
  rw [← Nat.mul_sub] at this
  exact (odd_cop hp).dvd_of_dvd_mul_left this
theorem two_cancel {p s t : Nat} (hp : p % 2 = 1) (h : (2 * s) % p = (2 * t) % p) : s % p = t % p := by
  rcases Nat.le_total t s with hl | hl
  · exact two_cancel_le hp hl h
  · exact (two_cancel_le hp hl h.symm).symm
theorem Keeps.halve {p a u x : Nat} (hp : p % 2 = 1) (hu : u % 2 = 0) (h : Keeps p a u x) :
    Keeps p a (u / 2) ((if x % 2 = 1 then x + p else x) / 2) := by
  obtain ⟨hx, he⟩ := h
  by_cases ho : x % 2 = 1
  · rw [if_pos ho]
    refine ⟨by omega, two_cancel hp ?_⟩
    rw [← Nat.mul_assoc, show 2 * ((x + p) / 2) = x + p from by omega, show 2 * (u / 2) = u from by omega, Nat.add_mul, Nat.add_mul_mod_self_left, he]
  · rw [if_neg ho]
    refine ⟨by omega, two_cancel hp ?_⟩
    rw [← Nat.mul_assoc, show 2 * (x / 2) = x from by omega, show 2 * (u / 2) = u from by omega, he]
theorem Keeps.minus {p a u v x y : Nat} (hle : v ≤ u) (h : Keeps p a u x) (k : Keeps p a v y) :
    Keeps p a (u - v) ((if x < y then x + p else x) - y) := by
  obtain ⟨hx, he⟩ := h
  obtain ⟨hy, hf⟩ := k
  have key : ∀ z, y ≤ z → (z * a) % p = u % p → ((z - y) * a) % p = (u - v) % p := by
    intro z hz hza
    have h1 : ((z - y) * a + y * a) % p = ((u - v) + v) % p := by
      rw [← Nat.add_mul, Nat.sub_add_cancel hz, Nat.sub_add_cancel hle, hza]
    rw [Nat.add_mod, hf, ← Nat.add_mod] at h1
    exact add_cancel h1
  by_cases hlt : x < y
  · rw [if_pos hlt]
    exact ⟨by omega, key _ (by omega) (by rw [Nat.add_mul, Nat.add_mul_mod_self_left, he])⟩
  · rw [if_neg hlt]
    exact ⟨by omega, key _ (by omega) he⟩
theorem cop_half {u v : Nat} (hu : u % 2 = 0) (h : Nat.Coprime u v) : Nat.Coprime (u / 2) v :=
  Nat.Coprime.coprime_dvd_left ⟨2, by omega⟩ h
theorem cop_minus {u v : Nat} (hle : v ≤ u) (h : Nat.Coprime u v) : Nat.Coprime (u - v) v := by
  rw [Nat.Coprime] at *
  rw [Nat.gcd_sub_self_left hle]; exact h
theorem Keeps.start {p a : Nat} (hp : 1 < p) : Keeps p a (a % p) 1 := ⟨hp, by rw [Nat.one_mul, Nat.mod_mod]⟩
theorem Keeps.none {p a : Nat} (hp : 1 < p) : Keeps p a p 0 := ⟨by omega, by rw [Nat.zero_mul, Nat.zero_mod, Nat.mod_self]⟩
theorem Keeps.done {p a x : Nat} (hp : 1 < p) (h : Keeps p a 1 x) : (x * a) % p = 1 := by rw [h.2, Nat.mod_eq_of_lt hp]
end Go.Proofs.YtpggkfdijmnmiaaGreat.Inver
namespace Go.Proofs.YtpggkfdijmnmiaaGreat
open Go.RowKit Go.Sort
section
variable {P : Program}
theorem exec_load_row {o : Oper} {a : Act} {w : World} (ty : TypeId) (x : Operand) (ho : o.op = .load ty x)
    (g : Nat) (hx : a.eval x = .pointer (some ⟨g, 0, none⟩)) (t : TypeId) (cs : Array Value) (fr : Nat × Nat) (d : TypeDesc) (hg : w.heap[g]? = some (.cells cs t fr))
    (hu : P.underlying ty = some d) (hd : (match d with | .struct _ | .array _ _ => true | _ => false) = true) (hi : (P.info? ty).map (·.size) = some cs.size) :
    (execOp a.eval o).run P w = .ok (.value (.agg cs)) w := by
  unfold execOp
  simp only [ho, hx, Instr.loadAt, Instr.sureAddr, Sem.run_bind, Sem.run_pure, Result.andThen_ok, run_loadVar_row w g t ty cs fr d hg hu hd hi]
theorem wpStill_load_row {ops : Array Oper} {w : World} {Q : Act → Prop} {a : Act} {o : Oper} {rest : List Oper} (hgd : o.guard = none) (ty : TypeId) (x : Operand) (ho : o.op = .load ty x)
    (g : Nat) (hx : a.eval x = .pointer (some ⟨g, 0, none⟩)) (t : TypeId) (cs : Array Value) (fr : Nat × Nat) (d : TypeDesc) (hg : w.heap[g]? = some (.cells cs t fr))
    (hu : P.underlying ty = some d) (hd : (match d with | .struct _ | .array _ _ => true | _ => false) = true) (hi : (P.info? ty).map (·.size) = some cs.size)
    (h : wpStill P ops w Q rest (a.put o.dst (.agg cs))) : wpStill P ops w Q (o :: rest) a :=
  wpStill_step fun K hK => by
    rw [if_pos (by simp [Region.wanted, hgd])]
    unfold Oper.still
    rw [exec_load_row ty x ho g hx t cs fr d hg hu hd hi, Oper.stillUpon_value]
    exact hK _ h
theorem wpQuiet_load_row {ops : Array Oper} {C : World → Prop} {Q : Act → Prop} {a : Act} {o : Oper} {rest : List Oper} (hgd : o.guard = none) (ty : TypeId) (x : Operand) (ho : o.op = .load ty x)
    (g : Nat) (hx : a.eval x = .pointer (some ⟨g, 0, none⟩)) (t : TypeId) (cs : Array Value) (fr : Nat × Nat) (d : TypeDesc) (hg : ∀ w, C w → w.heap[g]? = some (.cells cs t fr))
    (hu : P.underlying ty = some d) (hd : (match d with | .struct _ | .array _ _ => true | _ => false) = true) (hi : (P.info? ty).map (·.size) = some cs.size)
    (h : wpQuiet P ops C Q rest (a.put o.dst (.agg cs))) : wpQuiet P ops C Q (o :: rest) a :=
  wpQuiet_step fun K hK => by
    rw [if_pos (by simp [Region.wanted, hgd])]
    refine ⟨.agg cs, fun w hw => ?_, hK _ h⟩
    unfold Oper.quietAt
    rw [exec_load_row ty x ho g hx t cs fr d (hg w hw) hu hd hi]
    exact ⟨rfl, rfl⟩
theorem heap_regrown {w w' : World} {b : Nat} {o : Obj} (h : w.heap[b]? = some o) (hw : ∃ p : Regrown, w' = grow (redrawn w p.d) p.os) : w'.heap[b]? = some o := by
  obtain ⟨p, rfl⟩ := hw
  exact ((below_regrown w p.d p.os).block _ (Array.getElem?_eq_some_iff.1 h).1).trans h
end
theorem mixed : Tryz.prog.follows .mixedOrders = true := by kernel_rfl
section
variable {P : Program} {ops : Array Oper} {md : Region.Mode} {C : World → Prop}
def headQ (P : Program) (md : Region.Mode) (ops : Array Oper) (C : World → Prop) (n : Nat) (L : Array Bool → Act → Prop) : Nat → Array Bool → Act → Prop
  | 0, ls, a => L ls a
  | f + 1, ls, a => Region.ready md ops ls ≠ [] ∧ ∀ i, i ∈ Region.ready md ops ls → i < n ∧ qOp P ops C i (headQ P md ops C n L f (ls.setIfInBounds i true)) a
theorem any_of_headQ {n g : Nat} {L : Array Bool → Act → Prop} {Q : Exit → Act → World → Prop} (hL : ∀ ls a w, C w → L ls a → wpAny P md ops Q g ls a w) (f : Nat) :
    ∀ (ls : Array Bool) (a : Act) (w : World), C w → headQ P md ops C n L f ls a → wpAny P md ops Q (f + g) ls a w := by
  induction f with
  | zero => intro ls a w hw h; rw [Nat.zero_add]; exact hL _ _ _ hw h
  | succ f ih =>
    intro ls a w hw h
    rw [Nat.succ_add]
    exact ⟨fun h0 => absurd h0 h.1, fun i hi => wpOp_of_qOp hw (fun a' w' hw' h' => ih _ a' w' hw' h') (h.2 i hi).2⟩
theorem headQ_first {n i : Nat} {oi : Oper} {v : Value} {L : Array Bool → Act → Prop} (hi : ops[i]? = some oi) (hsel : ∀ (j : Nat) (o : Oper) cs b, ops[j]? = some o → o.op ≠ .select cs b)
    (hs : Region.sinkB md ops n = true) (hc : Region.chainB md ops n = true) (hn : n < ops.size) (hin : i < n) (hdone : ∀ ls a, L ls a → ∀ j ∈ Region.ready md ops ls, n ≤ j) (f : Nat) :
    ∀ (ls : Array Bool) (a : Act), HeadInv md ops n ls → (∀ j oj, ops[j]? = some oj → j ≠ i → ls.getD j true = false → (∀ e ∈ oj.after, Region.binds md e = true → e.on ≠ i) → oi.apart ops oj = true) →
      i ∈ Region.ready md ops ls → YieldsIn P ops C oi v a → headQ P md ops C n L f (ls.setIfInBounds i true) (a.put oi.dst v) → headQ P md ops C n L (f + 1) ls a := by
  induction f with
  | zero =>
    intro ls a inv _ hr hy H
    have hun := (mem_ready.1 hr).1
    refine ⟨fun h => (by rw [h] at hr; cases hr), fun j hj => ?_⟩
    have hjn : j < n := Nat.lt_of_not_le fun h => tail_waits hs hc hn inv _ i rfl hin hun j h hj
    refine ⟨hjn, ?_⟩
    by_cases hji : j = i
    · subst hji; exact hy.qOp hi H
    · have := hdone _ _ H j (ready_mono hj hji)
      omega
  | succ f ih =>
    intro ls a inv hfree hr hy H
    have hun := (mem_ready.1 hr).1
    refine ⟨fun h => (by rw [h] at hr; cases hr), fun j hj => ?_⟩
    have hjn : j < n := Nat.lt_of_not_le fun h => tail_waits hs hc hn inv _ i rfl hin hun j h hj
    refine ⟨hjn, ?_⟩
    by_cases hji : j = i
    · subst hji; exact hy.qOp hi H
    · obtain ⟨hjun, oj, hoj, hall⟩ := mem_ready.1 hj
      have hnot : ∀ e ∈ oj.after, Region.binds md e = true → e.on ≠ i := fun e he hb heq => by
        have h1 := hall e he hb
        rw [heq, getD_both hun] at h1
        cases h1
      have h2 := qOp_put hoj (hfree j oj hoj hji hjun hnot) (fun cs b => hsel i oi cs b hi) (fun cs b => hsel j oj cs b hoj) hy (H.2 j (ready_mono hj hji)).2
      refine qOp_mono (fun a' h3 => ih _ a' (inv.set hj hjn) (fun k ok hk hki hu hno => hfree k ok hk hki ?_ hno) (ready_mono hr (Ne.symm hji)) h3.1 ?_) h2
      · by_cases hjk : j = k
        · subst hjk; exact hjun
        · rw [getD_set_ne true hjk] at hu; exact hu
      · rw [Array.setIfInBounds_comm _ _ hji]; exact h3.2
theorem headQ_lex {n g : Nat} {F : Act → Prop} (hsel : Region.noSelect ops = true) (hs : Region.sinkB md ops n = true) (hc : Region.chainB md ops n = true) (hn : n < ops.size) :
    ∀ (l : List Oper) (k : Nat) (ls : Array Bool) (a : Act), (∀ j, j < l.length → l[j]? = ops[k + j]?) → k + l.length = n → HeadInv md ops n ls →
    Region.lexHead md ops g l.length k ls = true → wpQuiet P ops C F l a → headQ P md ops C n (fun ls' a' => Region.seqB md ops g n ls' = true ∧ F a') l.length ls a
  | [], k, ls, a, _, hk, _, hB, h => by
    obtain rfl : k = n := by simpa using hk
    exact ⟨by simpa [Region.lexHead] using hB, h⟩
  | o :: l, k, ls, a, hl, hk, inv, hB, h => by
    have h0 : ops[k]? = some o := by simpa using (hl 0 (by simp)).symm
    simp only [List.length_cons, Region.lexHead, Bool.and_eq_true] at hB hk
    obtain ⟨⟨hr, hf⟩, hB'⟩ := hB
    have hr' : k ∈ Region.ready md ops ls := by simpa using hr
    obtain ⟨v, hy, hK⟩ := yieldsIn_of_qOp (K := wpQuiet P ops C F l) h0 (by unfold qOp; simp only [h0]; exact h)
    exact headQ_first h0 (Region.noSelect_spec hsel) hs hc hn (by omega) (fun ls' a' hL => seqB_ready hL.1) l.length ls a inv (Region.free_spec h0 hf) hr' hy
      (headQ_lex hsel hs hc hn l (k + 1) _ _ (fun j hj => by have := hl (j + 1) (by simp; omega); simpa [Nat.add_assoc, Nat.add_comm 1 j] using this) (by omega) (inv.set hr' (by omega)) hB' hK)
theorem wp_region_below_tail {id : Nat} {Q : Exit → Act → World → Prop} {a : Act} {w : World} {l : List Oper} (n : Nat) (hm : P.follows .mixedOrders = true) (hB : Region.lexTailB .any l.toArray n = true)
    (h : wpQuiet P l.toArray (fun w' => ∃ p : Regrown, w' = grow (redrawn w p.d) p.os) (fun a' => ∀ w', (∃ p : Regrown, w' = grow (redrawn w p.d) p.os) → wpList P l.toArray Q (l.drop n) a' w') (l.take n) a) : (Code.region id l.toArray true).wp P Q a w := by
  simp only [Region.lexTailB, Bool.and_eq_true, decide_eq_true_eq] at hB
  obtain ⟨⟨⟨⟨hsel, hn⟩, hs⟩, hc⟩, hlex⟩ := hB
  have hn' : n < l.length := by simpa using hn
  have htl : (l.take n).length = n := by simp; omega
  have hdl : (l.drop n).length = l.toArray.size - n := by simp
  have inv0 : HeadInv .any l.toArray n (Array.replicate l.toArray.size false) :=
    ⟨by simp, fun j oj _ hl => (by rw [getD_replicate_false] at hl; cases hl), fun t _ ht => getD_in (by simpa using ht) (getD_replicate_false _ _)⟩
  have H := headQ_lex (md := .any) (g := l.toArray.size - n) hsel hs hc hn (l.take n) 0 _ a (fun j hj => by
    have hj' : j < n := by rw [htl] at hj; exact hj
    simp [hj']) (by simpa using htl) inv0 (by rw [htl]; exact hlex) h
  refine wp_region_any hm ?_
  have := any_of_headQ (Q := Q) (g := l.toArray.size - n) (fun ls a' w' hw' hL => by
    have := wpAny_of_seq (md := .any) (Q' := Q) (l.drop n) n ls a' w' (fun j => by simp [List.getElem?_drop]) (by rw [hdl]; exact hL.1) (hL.2 w' hw')
    rwa [hdl] at this) _ _ _ _ (show ∃ p : Regrown, _ = grow (redrawn w p.d) p.os from ⟨⟨w.drawn + 1, #[]⟩, by rw [grow_empty]⟩) H
  rw [htl, show n + (l.toArray.size - n) = l.toArray.size by omega] at this
  exact this
end
section
variable {P : Program}
theorem wp_region_quiet_tail {id : Nat} {Q : Exit → Act → World → Prop} {a : Act} {w : World} {l : List Oper} (n : Nat) (hm : P.follows .mixedOrders = true) (hB : Region.lexTailB .any l.toArray n = true)
    (h : wpQuiet P l.toArray (fun w' => ∃ m : Nat, w' = w.drewN m) (fun a' => ∀ w', (∃ m : Nat, w' = w.drewN m) → wpList P l.toArray Q (l.drop n) a' w') (l.take n) a) : (Code.region id l.toArray true).wp P Q a w := by
  simp only [Region.lexTailB, Bool.and_eq_true, decide_eq_true_eq] at hB
  obtain ⟨⟨⟨⟨hsel, hn⟩, hs⟩, hc⟩, hlex⟩ := hB
  have hn' : n < l.length := by simpa using hn
  have htl : (l.take n).length = n := by simp; omega
  have hdl : (l.drop n).length = l.toArray.size - n := by simp
  have inv0 : HeadInv .any l.toArray n (Array.replicate l.toArray.size false) :=
    ⟨by simp, fun j oj _ hl => (by rw [getD_replicate_false] at hl; cases hl), fun t _ ht => getD_in (by simpa using ht) (getD_replicate_false _ _)⟩
  have H := headQ_lex (md := .any) (g := l.toArray.size - n) hsel hs hc hn (l.take n) 0 _ a (fun j hj => by
    have hj' : j < n := by rw [htl] at hj; exact hj
    simp [hj']) (by simpa using htl) inv0 (by rw [htl]; exact hlex) h
  refine wp_region_any hm ?_
  have := any_of_headQ (Q := Q) (g := l.toArray.size - n) (fun ls a' w' hw' hL => by
    have := wpAny_of_seq (md := .any) (Q' := Q) (l.drop n) n ls a' w' (fun j => by simp [List.getElem?_drop]) (by rw [hdl]; exact hL.1) (hL.2 w' hw')
    rwa [hdl] at this) _ _ _ _ (show ∃ m : Nat, w.drew = w.drewN m from ⟨1, rfl⟩) H
  rw [htl, show n + (l.toArray.size - n) = l.toArray.size by omega] at this
  exact this
end
theorem qd {f : FuncId} {args : Array Value} {w : World} {n : Nat} {v : Value} (h : ∀ w, Calls Tryz.prog f args w fun e w' => e = .returned v ∧ w' = w) : Calls Tryz.prog f args (w.drewN n) fun e w'' => e = .returned v ∧ ∃ m, w'' = w.drewN m :=
  (h _).mono fun _ _ h => ⟨h.1, n, h.2⟩
theorem qg {f : FuncId} {args : Array Value} {w : World} {d : Nat} {os : Array Obj} {v : Value} (h : ∀ w, Calls Tryz.prog f args w fun e w' => e = .returned v ∧ Below w.heap.size w w') :
    Calls Tryz.prog f args (grow (redrawn w d) os) fun e w'' => e = .returned v ∧ ∃ p : Regrown, w'' = grow (redrawn w p.d) p.os := Calls.regrown_of (h _)
end Go.Proofs.YtpggkfdijmnmiaaGreat
namespace Go.Proofs.YtpggkfdijmnmiaaGreat
open Go.RowKit Limbs
theorem times_det {a b c d : Nat} (ha : a < 18446744073709551616) (hb : b < 18446744073709551616) (hc : c < 18446744073709551616) (hd : d < 18446744073709551616) :
    ∃ l h : Nat, l < 18446744073709551616 ∧ h < 18446744073709551616 ∧ l + 18446744073709551616 * h = a * b + c + d ∧ ∀ w, Calls Tryz.prog 161 #[.int .u64 (a : Int), .int .u64 (b : Int), .int .u64 (c : Int), .int .u64 (d : Int)] w fun e w' => e = .returned (.tuple #[.int .u64 (l : Int), .int .u64 (h : Int)]) ∧ w' = w := by
  refine ⟨(a * b + c + d) % 18446744073709551616, (a * b + c + d) / 18446744073709551616, ?_, ?_, ?_, fun w => ?_⟩
  · omega
  · have hP : a * b ≤ 18446744073709551615 * 18446744073709551615 := Nat.mul_le_mul (by omega) (by omega)
    omega
  · omega
  · refine (times_any ha hb hc hd w).mono ?_
    rintro e w' ⟨⟨l, h, hl, hh, he, rfl⟩, hw⟩
    refine ⟨?_, hw⟩
    have e1 : (a * b + c + d) % 18446744073709551616 = l := by omega
    have e2 : (a * b + c + d) / 18446744073709551616 = h := by omega
    rw [e1, e2]
theorem row_arith {a b0 b1 b2 b3 c0 c1 c2 c3 n0 n1 n2 n3 k0 k1 k2 k3 : Nat} (e0 : n0 + 18446744073709551616 * k0 = a * b0 + c0 + 0) (e1 : n1 + 18446744073709551616 * k1 = a * b1 + c1 + k0) (e2 : n2 + 18446744073709551616 * k2 = a * b2 + c2 + k1) (e3 : n3 + 18446744073709551616 * k3 = a * b3 + c3 + k2) :
    v4 n0 n1 n2 n3 + W256 * k3 = a * v4 b0 b1 b2 b3 + v4 c0 c1 c2 c3 := by
  rw [mul_v4]
  generalize a * b0 = t0 at *
  generalize a * b1 = t1 at *
  generalize a * b2 = t2 at *
  generalize a * b3 = t3 at *
  unfold v4 W256
  omega
def num8 (a b c d e f g h : Nat) : Value := .agg #[.int .u64 (a : Int), .int .u64 (b : Int), .int .u64 (c : Int), .int .u64 (d : Int), .int .u64 (e : Int), .int .u64 (f : Int), .int .u64 (g : Int), .int .u64 (h : Int)]
theorem u56 : Tryz.prog.underlying 208 = some (.array 8 22) := by kernel_rfl
theorem i56 : (Tryz.prog.info? 208).map (·.size) = some 8 := by kernel_rfl
def findR : Code → Nat → Option (Array Oper)
  | .region id ops _, n => if id = n then some ops else none
  | .seq a b, n => (findR a n).or (findR b n)
  | .cond _ a b, n => (findR a n).or (findR b n)
  | .block _ a, n => findR a n
  | .loop a, n => findR a n
  | .scope a, n => findR a n
  | _, _ => none
noncomputable def ops39 (n : Nat) : Array Oper := (Tryz.f182.body.bind fun c => findR c n).getD #[]
set_option maxHeartbeats 8000000 in
theorem r9 (ga gb gl i j : Nat) (a b c d n k : Nat) (hi : i < 4) (hj : j < 4) (w : World) (ia : w.cell? ⟨ga, i, none⟩ = some (.int .u64 (a : Int))) (ib : w.cell? ⟨gb, j, none⟩ = some (.int .u64 (b : Int))) (ic : w.cell? ⟨gl, i + j, none⟩ = some (.int .u64 (c : Int))) (hf : w.frozen? ⟨gl, i + j, none⟩ = false)
    (HQ : Hid (∀ w, Calls Tryz.prog 161 #[.int .u64 (a : Int), .int .u64 (b : Int), .int .u64 (c : Int), .int .u64 (d : Int)] w fun e w' => e = .returned (.tuple #[.int .u64 (n : Int), .int .u64 (k : Int)]) ∧ w' = w))
    {t0 t1 t4 t9 t10 t11 t12 t13 t14 t15 t16 t17 t18 t19 t20 t21 t22 t23 t24 t25 t26 t27 t28 t29 t30 t31 t32 t33 t34 t35 t36 t37 t38 t39 t40 t41 : Value} {ds : List Deferred} {Q : Exit → Act → World → Prop}
    (h : ∀ (x15 x16 x17 x18 x19 x20 x21 x22 x23 x24 x25 x26 x27 x28 x29 x30 x31 x32 x33 x34 : Value), Q .normal { tmps := #[t0, t1, .pointer (some ⟨ga, 0, none⟩), .pointer (some ⟨gb, 0, none⟩), t4, .pointer (some ⟨gl, 0, none⟩), .int .i64 (i : Int), .int .u64 (k : Int), .int .i64 (j : Int), t9, t10, t11, t12, t13, t14, x15, x16, x17, x18, x19, x20, x21, x22, x23, x24, x25, x26, x27, x28, x29, x30, x31, x32, x33, x34, t35, t36, t37, t38, t39, t40, t41], defers := ds } (w.drew.setCell ⟨gl, i + j, none⟩ (.int .u64 (n : Int)))) :
    (Code.region 9 (ops39 9) true).wp Tryz.prog Q { tmps := #[t0, t1, .pointer (some ⟨ga, 0, none⟩), .pointer (some ⟨gb, 0, none⟩), t4, .pointer (some ⟨gl, 0, none⟩), .int .i64 (i : Int), .int .u64 (d : Int), .int .i64 (j : Int), t9, t10, t11, t12, t13, t14, t15, t16, t17, t18, t19, t20, t21, t22, t23, t24, t25, t26, t27, t28, t29, t30, t31, t32, t33, t34, t35, t36, t37, t38, t39, t40, t41], defers := ds } w := by
  simp only [ops39, findR, Tryz.f182, Option.bind_some, Option.or, Option.getD, Nat.reduceEqDiff, if_true, if_false, reduceIte]
  have b1 : ((i : Int) : Int) < 4 := by omega
  have b2 : ((j : Int) : Int) < 4 := by omega
  have e1 : IntKind.i64.wrap ((i : Int) + (j : Int)) = ((i + j : Nat) : Int) := by rw [IntKind.wrap_i64]; omega
  have e2 : ((i : Int) + (j : Int)).toNat = i + j := by omega
  have b3 : (i : Int) + (j : Int) < 8 := by omega
  have b4 : (0 : Int) ≤ (i : Int) + (j : Int) := by omega
  have HH := Lib.hid h
  clear h
  refine Code.wp_mono (Q := Exit.then (fun a w => Q .normal a w) (fun _ _ _ => False)) (fun e a w h => by cases e <;> first | exact h | exact h.elim) ?_
  go_region_law (go_simp; go_at_call 161; refine (HQ.out _).mono ?_; rintro e w' ⟨rfl, rfl⟩)
  all_goals exact HH.out _ _ _ _ _ _ _ _ _ _ _ _ _ _ _ _ _ _ _ _
end Go.Proofs.YtpggkfdijmnmiaaGreat
