/- What an inverse's loop keeps: x times a stays u modulo p. No seat. Condition: p is odd. -/
set_option linter.unusedVariables false
namespace Go.Proofs.Ytglmmodkflkkkaa.Inver

/-- x below p, and x times a is u, modulo p -/
def Keeps (p a u x : Nat) : Prop := x < p ∧ (x * a) % p = u % p

theorem dvd_of_mod_eq {p s t : Nat} (hle : t ≤ s) (h : s % p = t % p) : p ∣ s - t := Nat.dvd_of_mod_eq_zero (Nat.sub_mod_eq_zero_of_mod_eq h)
theorem mod_eq_of_dvd {p s t : Nat} (hle : t ≤ s) (h : p ∣ s - t) : s % p = t % p := by
  obtain ⟨k, hk⟩ := h
  have : s = t + p * k := by omega
  rw [this, Nat.add_mul_mod_self_left]
theorem add_cancel {p s t v : Nat} (h : (s + v) % p = (t + v) % p) : s % p = t % p := by
  rcases Nat.le_total t s with hl | hl
  · have := dvd_of_mod_eq (by omega) h
    rw [Nat.add_sub_add_right] at this
    exact mod_eq_of_dvd hl this
  · have := dvd_of_mod_eq (by omega) h.symm
    rw [Nat.add_sub_add_right] at this
    exact (mod_eq_of_dvd hl this).symm
theorem odd_cop {p : Nat} (h : p % 2 = 1) : Nat.Coprime p 2 := by
  rw [Nat.Coprime, Nat.gcd_comm, Nat.gcd_rec, h]
  rfl
theorem two_cancel_le {p s t : Nat} (hp : p % 2 = 1) (hle : t ≤ s) (h : (2 * s) % p = (2 * t) % p) : s % p = t % p := by
  refine mod_eq_of_dvd hle ?_
  have := dvd_of_mod_eq (by omega) h
  rw [← Nat.mul_sub] at this
  exact (odd_cop hp).dvd_of_dvd_mul_left this
theorem two_cancel {p s t : Nat} (hp : p % 2 = 1) (h : (2 * s) % p = (2 * t) % p) : s % p = t % p := by
  rcases Nat.le_total t s with hl | hl
  · exact two_cancel_le hp hl h
  · exact (two_cancel_le hp hl h.symm).symm

theorem Keeps.halve {p a u x : Nat} (hp : p % 2 = 1) (hu : u % 2 = 0) (h : Keeps p a u x) :
    Keeps p a (u / 2) ((if x % 2 = 1 then x + p else x) / 2) := by
  obtain ⟨hx, he⟩ := h
  by_cases ho : x % 2 = 1
  · rw [if_pos ho]
    refine ⟨by omega, two_cancel hp ?_⟩
    rw [← Nat.mul_assoc, show 2 * ((x + p) / 2) = x + p from by omega, show 2 * (u / 2) = u from by omega, Nat.add_mul, Nat.add_mul_mod_self_left, he]
  · rw [if_neg ho]
    refine ⟨by omega, two_cancel hp ?_⟩
    rw [← Nat.mul_assoc, show 2 * (x / 2) = x from by omega, show 2 * (u / 2) = u from by omega, he]

theorem Keeps.minus {p a u v x y : Nat} (hle : v ≤ u) (h : Keeps p a u x) (k : Keeps p a v y) :
    Keeps p a (u - v) ((if x < y then x + p else x) - y) := by
  obtain ⟨hx, he⟩ := h
  obtain ⟨hy, hf⟩ := k
  have key : ∀ z, y ≤ z → (z * a) % p = u % p → ((z - y) * a) % p = (u - v) % p := by
    intro z hz hza
    have h1 : ((z - y) * a + y * a) % p = ((u - v) + v) % p := by
      rw [← Nat.add_mul, Nat.sub_add_cancel hz, Nat.sub_add_cancel hle, hza]
    rw [Nat.add_mod, hf, ← Nat.add_mod] at h1
    exact add_cancel h1
  by_cases hlt : x < y
  · rw [if_pos hlt]
    exact ⟨by omega, key _ (by omega) (by rw [Nat.add_mul, Nat.add_mul_mod_self_left, he])⟩
  · rw [if_neg hlt]
    exact ⟨by omega, key _ (by omega) he⟩

theorem cop_half {u v : Nat} (hu : u % 2 = 0) (h : Nat.Coprime u v) : Nat.Coprime (u / 2) v :=
  Nat.Coprime.coprime_dvd_left ⟨2, by omega⟩ h
theorem cop_minus {u v : Nat} (hle : v ≤ u) (h : Nat.Coprime u v) : Nat.Coprime (u - v) v := by
  rw [Nat.Coprime] at *
  rw [Nat.gcd_sub_self_left hle]; exact h
theorem cop_ne {u v : Nat} (h : Nat.Coprime u v) (hu : u ≠ 1) : u ≠ v := by
  rintro rfl
  rw [Nat.Coprime, Nat.gcd_self] at h
  exact hu h
theorem Keeps.start {p a : Nat} (hp : 1 < p) : Keeps p a (a % p) 1 := ⟨hp, by rw [Nat.one_mul, Nat.mod_mod]⟩
theorem Keeps.none {p a : Nat} (hp : 1 < p) : Keeps p a p 0 := ⟨by omega, by rw [Nat.zero_mul, Nat.zero_mod, Nat.mod_self]⟩
theorem Keeps.done {p a x : Nat} (hp : 1 < p) (h : Keeps p a 1 x) : (x * a) % p = 1 := by rw [h.2, Nat.mod_eq_of_lt hp]
end Go.Proofs.Ytglmmodkflkkkaa.Inver
