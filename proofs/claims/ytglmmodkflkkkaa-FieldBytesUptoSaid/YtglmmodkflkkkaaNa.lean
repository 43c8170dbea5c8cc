/- Numbers of four limbs of 64 bits: sums, differences, what is left of one divided by a modulus whose highest bit is 1. No condition. -/
set_option linter.unusedVariables false
set_option linter.unusedSimpArgs false
namespace Go.Proofs.Ytglmmodkflkkkaa.Limbs

/-- four limbs, the lowest first -/
def v4 (a b c d : Nat) : Nat := a + 18446744073709551616 * (b + 18446744073709551616 * (c + 18446744073709551616 * d))
/-- 2 to the 256 -/
def W256 : Nat := 115792089237316195423570985008687907853269984665640564039457584007913129639936
theorem v4_lt {a b c d : Nat} (ha : a < 18446744073709551616) (hb : b < 18446744073709551616) (hc : c < 18446744073709551616) (hd : d < 18446744073709551616) : v4 a b c d < W256 := by
  unfold v4 W256; omega
def lb (x : Nat) : Nat → Nat
  | 0 => x % 18446744073709551616
  | 1 => x / 18446744073709551616 % 18446744073709551616
  | 2 => x / 340282366920938463463374607431768211456 % 18446744073709551616
  | _ => x / 6277101735386680763835789423207666416102355444464034512896 % 18446744073709551616
theorem lb_lt (x : Nat) (i : Nat) : lb x i < 18446744073709551616 := by
  unfold lb; split <;> exact Nat.mod_lt _ (by decide)
theorem v4_lb {x : Nat} (h : x < W256) : v4 (lb x 0) (lb x 1) (lb x 2) (lb x 3) = x := by
  unfold W256 at h
  simp only [v4, lb]
  omega
theorem lb_v4 {a b c d : Nat} (ha : a < 18446744073709551616) (hb : b < 18446744073709551616) (hc : c < 18446744073709551616) (hd : d < 18446744073709551616) :
    lb (v4 a b c d) 0 = a ∧ lb (v4 a b c d) 1 = b ∧ lb (v4 a b c d) 2 = c ∧ lb (v4 a b c d) 3 = d := by
  simp only [v4, lb]
  refine ⟨?_, ?_, ?_, ?_⟩ <;> omega
theorem v4_inj {a b c d a' b' c' d' : Nat} (ha : a < 18446744073709551616) (hb : b < 18446744073709551616) (hc : c < 18446744073709551616) (hd : d < 18446744073709551616)
    (ha' : a' < 18446744073709551616) (hb' : b' < 18446744073709551616) (hc' : c' < 18446744073709551616) (hd' : d' < 18446744073709551616) (h : v4 a b c d = v4 a' b' c' d') : a = a' ∧ b = b' ∧ c = c' ∧ d = d' := by
  unfold v4 at h
  omega

/-- how often mod goes into r with one limb behind it, or one or two too much -/
def quo (r3 r2 m3 : Nat) : Nat := if r3 = m3 then 18446744073709551615 else (r3 * 18446744073709551616 + r2) / m3
theorem quo_lt {r3 r2 m3 : Nat} (h : r3 ≤ m3) (h2 : r2 < 18446744073709551616) : quo r3 r2 m3 < 18446744073709551616 := by
  unfold quo
  split
  · omega
  · refine (Nat.div_lt_iff_lt_mul (by omega)).2 ?_
    have : (r3 + 1) * 18446744073709551616 ≤ m3 * 18446744073709551616 := Nat.mul_le_mul_right _ (by omega)
    omega
theorem up_top {r0 r1 r2 r3 l : Nat} (hr0 : r0 < 18446744073709551616) (hr1 : r1 < 18446744073709551616) (hl : l < 18446744073709551616) :
    v4 r0 r1 r2 r3 * 18446744073709551616 + l < (r3 * 18446744073709551616 + r2 + 1) * 6277101735386680763835789423207666416102355444464034512896 := by
  unfold v4; omega
theorem low_top (r0 r1 r2 r3 l : Nat) : (r3 * 18446744073709551616 + r2) * 6277101735386680763835789423207666416102355444464034512896 ≤ v4 r0 r1 r2 r3 * 18446744073709551616 + l := by
  unfold v4; omega
theorem q_top {q : Nat} (h : q < 18446744073709551616) : q * 6277101735386680763835789423207666416102355444464034512896 ≤ W256 := by
  unfold W256; omega
theorem quo_bounds {r0 r1 r2 r3 m0 m1 m2 m3 l : Nat} (hr0 : r0 < 18446744073709551616) (hr1 : r1 < 18446744073709551616) (hr2 : r2 < 18446744073709551616) (hr3 : r3 < 18446744073709551616)
    (hm0 : m0 < 18446744073709551616) (hm1 : m1 < 18446744073709551616) (hm2 : m2 < 18446744073709551616) (hm3 : m3 < 18446744073709551616) (hl : l < 18446744073709551616)
    (htop : 9223372036854775808 ≤ m3) (h : v4 r0 r1 r2 r3 < v4 m0 m1 m2 m3) :
    (v4 r0 r1 r2 r3 * 18446744073709551616 + l) / v4 m0 m1 m2 m3 ≤ quo r3 r2 m3 ∧ quo r3 r2 m3 ≤ (v4 r0 r1 r2 r3 * 18446744073709551616 + l) / v4 m0 m1 m2 m3 + 2 := by
  have hrm : r3 ≤ m3 := by unfold v4 at h; omega
  have hq := quo_lt (m3 := m3) hrm hr2
  have hMpos : 0 < v4 m0 m1 m2 m3 := Nat.lt_of_le_of_lt (Nat.zero_le _) h
  have hM2 : W256 ≤ 2 * v4 m0 m1 m2 m3 := by unfold v4 W256; omega
  -- the quotient's two bounds by the highest limbs
  have b1 : quo r3 r2 m3 * m3 ≤ r3 * 18446744073709551616 + r2 := by
    unfold quo
    split
    · subst_vars; omega
    · exact Nat.div_mul_le_self _ _
  have b2 : r3 = m3 ∨ r3 * 18446744073709551616 + r2 < (quo r3 r2 m3 + 1) * m3 := by
    unfold quo
    split
    · left; assumption
    · right
      have := Nat.lt_div_mul_add (a := r3 * 18446744073709551616 + r2) (b := m3) (by omega)
      rw [Nat.add_mul, Nat.one_mul]
      exact this
  have b3 : r3 = m3 → quo r3 r2 m3 = 18446744073709551615 := by
    intro e; unfold quo; rw [if_pos e]
  generalize quo r3 r2 m3 = q at *
  constructor
  · refine Nat.lt_succ_iff.1 ((Nat.div_lt_iff_lt_mul hMpos).2 ?_)
    have hs : q.succ = q + 1 := rfl
    rw [hs]
    rcases b2 with e | e
    · have e1 := b3 e
      have e2 : q + 1 = 18446744073709551616 := by omega
      rw [e2]
      have : (v4 r0 r1 r2 r3 + 1) * 18446744073709551616 ≤ v4 m0 m1 m2 m3 * 18446744073709551616 := Nat.mul_le_mul_right _ h
      omega
    · have e1 : (q + 1) * (m3 * 6277101735386680763835789423207666416102355444464034512896) ≤ (q + 1) * v4 m0 m1 m2 m3 := Nat.mul_le_mul_left _ (by unfold v4; omega)
      have e2 : (q + 1) * m3 * 6277101735386680763835789423207666416102355444464034512896 ≥ (r3 * 18446744073709551616 + r2 + 1) * 6277101735386680763835789423207666416102355444464034512896 := Nat.mul_le_mul_right _ e
      rw [Nat.mul_assoc] at e2
      exact Nat.lt_of_lt_of_le (up_top hr0 hr1 hl) (Nat.le_trans e2 e1)
  · rcases Nat.lt_or_ge q 2 with hq2 | hq2
    · exact Nat.le_trans (Nat.le_of_lt hq2) (Nat.le_add_left 2 _)
    · have : q - 2 ≤ (v4 r0 r1 r2 r3 * 18446744073709551616 + l) / v4 m0 m1 m2 m3 := by
        refine (Nat.le_div_iff_mul_le hMpos).2 ?_
        have e1 : q * v4 m0 m1 m2 m3 ≤ q * ((m3 + 1) * 6277101735386680763835789423207666416102355444464034512896) := Nat.mul_le_mul_left _ (by unfold v4; omega)
        have e2 : q * m3 * 6277101735386680763835789423207666416102355444464034512896 ≤ (r3 * 18446744073709551616 + r2) * 6277101735386680763835789423207666416102355444464034512896 := Nat.mul_le_mul_right _ b1
        have e3 : q * ((m3 + 1) * 6277101735386680763835789423207666416102355444464034512896) = q * m3 * 6277101735386680763835789423207666416102355444464034512896 + q * 6277101735386680763835789423207666416102355444464034512896 := by
          rw [Nat.add_mul, Nat.one_mul, Nat.mul_add, Nat.mul_assoc]
        have e4 : (q - 2) * v4 m0 m1 m2 m3 + 2 * v4 m0 m1 m2 m3 = q * v4 m0 m1 m2 m3 := by
          rw [← Nat.add_mul, Nat.sub_add_cancel hq2]
        have f1 : q * m3 * 6277101735386680763835789423207666416102355444464034512896 ≤ v4 r0 r1 r2 r3 * 18446744073709551616 + l := Nat.le_trans e2 (low_top _ _ _ _ _)
        have f2 : q * 6277101735386680763835789423207666416102355444464034512896 ≤ 2 * v4 m0 m1 m2 m3 := Nat.le_trans (q_top hq) hM2
        refine Nat.le_of_add_le_add_right (b := 2 * v4 m0 m1 m2 m3) ?_
        rw [e4]
        refine Nat.le_trans e1 ?_
        rw [e3]
        exact Nat.add_le_add f1 f2
      generalize (v4 r0 r1 r2 r3 * 18446744073709551616 + l) / v4 m0 m1 m2 m3 = Z at *
      omega
end Go.Proofs.Ytglmmodkflkkkaa.Limbs
