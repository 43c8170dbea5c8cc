/- N times any point is far out: by counting. No condition but that it is a point of the curve. -/
import Derived.Test.YtglmmodkflkkkaaMm
import Derived.Test.YtglmmodkflkkkaaMr
import Derived.Test.YtglmmodkflkkkaaMe
set_option linter.unusedVariables false
set_option linter.unusedSimpArgs false
set_option maxRecDepth 100000
namespace Go.Proofs.Ytglmmodkflkkkaa
open Curve

theorem pigeon : ∀ (m n : Nat) (f : Nat → Nat), (∀ i, i < n → f i < m) → (∀ i j, i < n → j < n → f i = f j → i = j) → n ≤ m
  | 0, n, f, h, _ => by
    rcases Nat.eq_zero_or_pos n with h0 | h0
    · omega
    · exact absurd (h 0 h0) (by omega)
  | m + 1, 0, f, h, inj => by omega
  | m + 1, n + 1, f, h, inj => by
    have := pigeon m n (fun i => if f i = m then f n else f i) (fun i hi => by
      show (if f i = m then f n else f i) < m
      have h1 := h i (by omega)
      have h2 := h n (by omega)
      by_cases h3 : f i = m
      · rw [if_pos h3]
        have : f n ≠ m := fun h4 => by
          have := inj i n (by omega) (by omega) (by rw [h3, h4])
          omega
        omega
      · rw [if_neg h3]; omega) (fun i j hi hj he => by
      have he' : (if f i = m then f n else f i) = (if f j = m then f n else f j) := he
      by_cases h3 : f i = m
      · by_cases h4 : f j = m
        · exact inj i j (by omega) (by omega) (by rw [h3, h4])
        · rw [if_pos h3, if_neg h4] at he'
          have := inj n j (by omega) (by omega) he'
          omega
      · by_cases h4 : f j = m
        · rw [if_neg h3, if_pos h4] at he'
          have := inj i n (by omega) (by omega) he'
          omega
        · rw [if_neg h3, if_neg h4] at he'
          exact inj i j (by omega) (by omega) he')
    omega
/-- a point's number among them all -/
def code : Pt (Fin PP) → Nat
  | .far => 2 * PP
  | .aff x y => 2 * x.val + y.val % 2
theorem code_lt (P : Pt (Fin PP)) : code P < 2 * PP + 1 := by
  cases P with
  | far => show 2 * PP < 2 * PP + 1; omega
  | aff x y =>
    have := x.isLt
    show 2 * x.val + y.val % 2 < 2 * PP + 1
    omega
theorem neg_val {y : Fin PP} (h : y ≠ 0) : (-y).val = PP - y.val := by
  have h0 : y.val ≠ 0 := fun h0 => h (Fin.ext h0)
  have := y.isLt
  show (PP - y.val) % PP = _
  exact Nat.mod_eq_of_lt (by omega)
theorem PP_odd : PP % 2 = 1 := by decide +kernel
theorem code_inj {P Q : Pt (Fin PP)} (hP : On aP bP P) (hQ : On aP bP Q) (h : code P = code Q) : P = Q := by
  cases P with
  | far =>
    cases Q with
    | far => rfl
    | aff x y =>
      have := x.isLt
      have h' : 2 * PP = 2 * x.val + y.val % 2 := h
      omega
  | aff x y =>
    cases Q with
    | far =>
      have := x.isLt
      have h' : 2 * x.val + y.val % 2 = 2 * PP := h
      omega
    | aff u v =>
      have h' : 2 * x.val + y.val % 2 = 2 * u.val + v.val % 2 := h
      have hx : x = u := Fin.ext (by omega)
      subst hx
      have hy : y.val % 2 = v.val % 2 := by omega
      rcases fit.mul_zero (sq_x hP hQ) with h5 | h5
      · rw [eq_of_sub h5]
      · have e := neg_of_add h5
        have hv := neg_val (fit.y hQ)
        rw [← e] at hv
        have := v.isLt
        have := PP_odd
        omega
/-- the base point -/
def GP : Pt (Fin PP) := toPt G
theorem GP_on : On aP bP GP := (on_iff G_on).1
theorem G_N : Po.mul mN G = ⟨0, 0, true⟩ := by
  have h : (J.begin G.x G.y G.i).mulN mN 64 = J.far := by decide +kernel
  unfold Po.mul
  rw [h]
  exact J.point_far rfl
theorem of_far_inj {P : Pt (Fin PP)} (h : ofPt P = ⟨0, 0, true⟩) : P = .far := by
  cases P with
  | far => rfl
  | aff x y => injection h with _ _ h; cases h
theorem GP_N : mul GP mN = .far := by
  have := mul_is (k := mN) (by decide +kernel) G_on
  rw [G_N] at this
  exact of_far_inj this.symm
theorem far_mul (n : Nat) : mul .far n = .far := by
  induction n with
  | zero => rfl
  | succ n ih => rw [mul_succ_p, ih]; rfl
theorem canc_p {P Q R : Pt (Fin PP)} (hP : On aP bP P) (hQ : On aP bP Q) (hR : On aP bP R) (h : sum inv aP P Q = sum inv aP P R) : Q = R := by
  have h1 := sum_back fit hP hQ
  rw [h, sum_back fit hP hR] at h1
  exact h1.symm
theorem mN_pos : 0 < mN := by decide +kernel
theorem GP_mod (n : Nat) : mul GP n = mul GP (n % mN) := by
  have e := Nat.div_add_mod n mN
  have := mul_add GP_on (mN * (n / mN)) (n % mN)
  rw [e] at this
  rw [this, Nat.mul_comm, ← mul_mul GP_on, GP_N, far_mul, far_sum]
theorem GP_ne : GP ≠ .far := by
  intro h
  have : toPt G = .far := h
  cases this
/-- no lesser multiple of the base point is far out -/
theorem GP_order {d : Nat} (h0 : 0 < d) (h1 : d < mN) : mul GP d ≠ .far := by
  intro h
  have hd : ¬ mN ∣ d := fun hd => by have := Nat.le_of_dvd h0 hd; omega
  have hpr : Primes.Prm mN := Primes.N256
  have hf := Primes.fermat hpr hd
  have e : mul GP (d ^ (mN - 1)) = .far := by
    rw [show mN - 1 = (mN - 2).succ by have : 2 < mN := by decide +kernel
                                       omega, Nat.pow_succ, ← mul_mul GP_on, h, far_mul]
  rw [GP_mod] at e
  rw [hf, mul_one_p] at e
  exact GP_ne e
theorem GP_inj {r s : Nat} (hr : r < mN) (hs : s < mN) (h : mul GP r = mul GP s) : r = s := by
  rcases Nat.lt_trichotomy r s with hlt | he | hlt
  · exfalso
    have e := mul_add GP_on r (s - r)
    rw [show r + (s - r) = s by omega, ← h] at e
    have := canc_p (mul_on GP_on r) on_far_p (mul_on GP_on (s - r)) (by rw [sum_far]; exact e)
    exact GP_order (by omega) (by omega) this.symm
  · exact he
  · exfalso
    have e := mul_add GP_on s (r - s)
    rw [show s + (r - s) = r by omega, h] at e
    have := canc_p (mul_on GP_on s) on_far_p (mul_on GP_on (r - s)) (by rw [sum_far]; exact e)
    exact GP_order (by omega) (by omega) this.symm
/-- Q's multiples by 0, 1, 2, each with all of the base point's -/
def three (Q : Pt (Fin PP)) (t : Nat) : Pt (Fin PP) := sum inv aP (mul Q (t / mN)) (mul GP (t % mN))
theorem three_on {Q : Pt (Fin PP)} (h : On aP bP Q) (t : Nat) : On aP bP (three Q t) := on_sum fit (mul_on h _) (mul_on GP_on _)
theorem three_step {Q : Pt (Fin PP)} (h : On aP bP Q) {a b r s : Nat} (hab : a < b) (hr : r < mN) (hs : s < mN) (he : sum inv aP (mul Q a) (mul GP r) = sum inv aP (mul Q b) (mul GP s)) : ∃ k, mul Q (b - a) = mul GP k := by
  have e := mul_add h a (b - a)
  rw [show a + (b - a) = b by omega] at e
  rw [e, sum_assoc fit (mul_on h a) (mul_on h (b - a)) (mul_on GP_on s)] at he
  have h2 := canc_p (mul_on h a) (mul_on GP_on r) (on_sum fit (mul_on h (b - a)) (mul_on GP_on s)) he
  refine ⟨r + (mN - s), ?_⟩
  rw [mul_add GP_on, h2, sum_assoc fit (mul_on h _) (mul_on GP_on s) (mul_on GP_on _), ← mul_add GP_on, show s + (mN - s) = mN by omega, GP_N, sum_far]
theorem c12 {a b : Nat} (h : a < b) (hb : b < 3) : b - a = 1 ∨ b - a = 2 := by omega
theorem half_or {Q : Pt (Fin PP)} (h : On aP bP Q) : ∃ c k, (c = 1 ∨ c = 2) ∧ mul Q c = mul GP k := by
  refine Classical.byContradiction fun hn => ?_
  have hle := pigeon (2 * PP + 1) (3 * mN) (fun t => code (three Q t)) (fun t _ => code_lt _) (fun t u ht hu he => by
    have he' := code_inj (three_on h t) (three_on h u) he
    unfold three at he'
    have hp := mN_pos
    have ht1 := Nat.mod_lt t hp
    have hu1 := Nat.mod_lt u hp
    have ht2 : t / mN < 3 := Nat.div_lt_of_lt_mul (by omega)
    have hu2 : u / mN < 3 := Nat.div_lt_of_lt_mul (by omega)
    rcases Nat.lt_trichotomy (t / mN) (u / mN) with hlt | heq | hlt
    · obtain ⟨k, hk⟩ := three_step h hlt ht1 hu1 he'
      exact absurd ⟨u / mN - t / mN, k, c12 hlt hu2, hk⟩ hn
    · rw [heq] at he'
      have h3 := GP_inj ht1 hu1 (canc_p (mul_on h _) (mul_on GP_on _) (mul_on GP_on _) he')
      rw [← Nat.div_add_mod t mN, ← Nat.div_add_mod u mN, heq, h3]
    · obtain ⟨k, hk⟩ := three_step h hlt hu1 ht1 he'.symm
      exact absurd ⟨t / mN - u / mN, k, c12 hlt ht2, hk⟩ hn)
  have : 2 * PP + 1 < 3 * mN := by decide +kernel
  omega
theorem no_half {T : Pt (Fin PP)} (h : On aP bP T) (h2 : sum inv aP T T = .far) : T = .far := by
  cases T with
  | far => rfl
  | aff x y =>
    exfalso
    have hy := fit.yy h
    simp only [sum] at h2
    rw [if_neg (fun hc => hy (opp_z hc.2))] at h2
    cases h2
/-- N times any point is far out -/
theorem mul_N {Q : Pt (Fin PP)} (h : On aP bP Q) : mul Q mN = .far := by
  obtain ⟨c, k, hc, hk⟩ := half_or h
  have h1 : mul (mul Q c) mN = .far := by
    rw [hk, mul_mul GP_on, Nat.mul_comm, ← mul_mul GP_on, GP_N, far_mul]
  rw [mul_mul h] at h1
  have hg : ∀ n, mul Q (n * c) = .far → mul Q n = .far := fun n hn => by
    rcases hc with rfl | rfl
    · rwa [Nat.mul_one] at hn
    · refine no_half (mul_on h n) ?_
      rw [mul_two h, Nat.mul_comm]
      exact hn
  exact hg mN h1
theorem mul_mod {Q : Pt (Fin PP)} (h : On aP bP Q) (n : Nat) : mul Q (n % mN) = mul Q n := by
  have e := Nat.div_add_mod n mN
  have := mul_add h (mN * (n / mN)) (n % mN)
  rw [e] at this
  rw [this, Nat.mul_comm, ← mul_mul h, mul_N h, far_mul, far_sum]
end Go.Proofs.Ytglmmodkflkkkaa
