/- Primes: Euclid's lemma, Fermat's little theorem, Pocklington's test; the two moduli of the curve P-256 are prime. No condition. The two moduli of the curve P-256 are prime. No condition. The calls whose answers the document fixes. No condition. Both moduli are prime; the cells of a number through calls. No condition. The shorthands of package curve: a product, a sum, a difference modulo P, three t -/
import Derived.Lib.Hide
import Derived.Test.YtpggkfdijmnmiaaGreatZuk03
import Derived.Test.YtpggkfdijmnmiaaGreatZuk04
import Derived.Test.YtpggkfdijmnmiaaGreatZuk00
set_option linter.unusedVariables false
set_option linter.unusedSimpArgs false
set_option maxRecDepth 100000
namespace Go.Proofs.YtpggkfdijmnmiaaGreat.Primes
def Prm (p : Nat) : Prop := 2 ≤ p ∧ ∀ m, 2 ≤ m → m ∣ p → m = p
theorem Prm.pos {p : Nat} (h : Prm p) : 0 < p := by have := h.1; omega
theorem Prm.cop {p a : Nat} (h : Prm p) (ha : ¬ p ∣ a) : Nat.Coprime p a := by
  have h1 : Nat.gcd p a ∣ p := Nat.gcd_dvd_left p a
  have h2 : Nat.gcd p a ∣ a := Nat.gcd_dvd_right p a
  have h0 : 0 < Nat.gcd p a := Nat.gcd_pos_of_pos_left a h.pos
  rcases Nat.lt_or_ge (Nat.gcd p a) 2 with hl | hl
  · show Nat.gcd p a = 1
    omega
  · have := h.2 _ hl h1
    rw [this] at h2
    exact absurd h2 ha
theorem cancel {p c x y : Nat} (hc : Nat.Coprime p c) (h : c * x % p = c * y % p) : x % p = y % p := by
  have key : ∀ x y : Nat, x ≤ y → c * x % p = c * y % p → x % p = y % p := by
    intro x y hxy h
    have h1 : (c * y - c * x) % p = 0 := Nat.sub_mod_eq_zero_of_mod_eq h.symm
    rw [← Nat.mul_sub] at h1
    obtain ⟨k, hk⟩ := hc.dvd_of_dvd_mul_left (Nat.dvd_of_mod_eq_zero h1)
    have : y = x + p * k := by omega
    rw [this, Nat.add_mul_mod_self_left]
  rcases Nat.le_total x y with hxy | hxy
  · exact key x y hxy h
  · exact (key y x hxy h.symm).symm
def pr : List Nat → Nat
  | [] => 1
  | x :: l => x * pr l
theorem pr_perm {l m : List Nat} (h : l.Perm m) : pr l = pr m := by
  induction h with
  | nil => rfl
  | cons x _ ih => simp [pr, ih]
  | swap x y l => simp only [pr]; rw [← Nat.mul_assoc, ← Nat.mul_assoc, Nat.mul_comm y x]
  | trans _ _ a b => exact a.trans b
theorem perm_of : ∀ (l m : List Nat), l.Nodup → (∀ x ∈ l, x ∈ m) → m.length ≤ l.length → l.Perm m
  | [], m, _, _, h => by
    have : m = [] := List.eq_nil_of_length_eq_zero (by simpa using h)
    rw [this]
  | x :: l, m, hn, hs, h => by
    have hx : x ∈ m := hs x (by simp)
    rw [List.nodup_cons] at hn
    have ih := perm_of l (m.erase x) hn.2 (fun y hy => by
      rw [List.mem_erase_of_ne]
      · exact hs y (by simp [hy])
      · intro e; subst e; exact hn.1 hy) (by rw [List.length_erase_of_mem hx]; simp at h; omega)
    exact (ih.cons x).trans (List.perm_cons_erase hx).symm
theorem pr_mul (p a : Nat) : ∀ l : List Nat, pr (l.map fun x => a * x % p) % p = a ^ l.length * pr l % p
  | [] => by simp [pr]
  | x :: l => by
    have ih := pr_mul p a l
    simp only [List.map_cons, pr, List.length_cons]
    rw [Nat.mul_mod, ih, Nat.mod_mod, ← Nat.mul_mod, Nat.pow_succ]
    congr 1
    rw [Nat.mul_comm (a ^ l.length) a, Nat.mul_assoc, Nat.mul_assoc, Nat.mul_left_comm x]
theorem pr_cop {p : Nat} (h : Prm p) : ∀ l : List Nat, (∀ x ∈ l, ¬ p ∣ x) → Nat.Coprime p (pr l)
  | [], _ => Nat.coprime_one_right p
  | x :: l, hl => Nat.Coprime.mul_right (h.cop (hl x (by simp))) (pr_cop h l fun y hy => hl y (by simp [hy]))
theorem fermat {p a : Nat} (h : Prm p) (ha : ¬ p ∣ a) : a ^ (p - 1) % p = 1 := by
  have h2 := h.1
  have hL : ∀ x, x ∈ List.range' 1 (p - 1) ↔ 1 ≤ x ∧ x < p := by
    intro x
    rw [List.mem_range'_1]
    omega
  have hnd : ∀ x ∈ List.range' 1 (p - 1), ¬ p ∣ x := by
    intro x hx hd
    rw [hL] at hx
    have := Nat.le_of_dvd (by omega) hd
    omega
  have hperm : ((List.range' 1 (p - 1)).map fun x => a * x % p).Perm (List.range' 1 (p - 1)) := by
    apply perm_of
    · rw [List.nodup_iff_pairwise_ne, List.pairwise_map]
      have hp : (List.range' 1 (p - 1)).Pairwise (· < ·) := List.pairwise_lt_range' 1 (by decide)
      refine List.Pairwise.imp_of_mem ?_ hp
      intro x y hx hy hlt e
      rw [hL] at hx hy
      have := cancel (h.cop ha) e
      rw [Nat.mod_eq_of_lt hx.2, Nat.mod_eq_of_lt hy.2] at this
      omega
    · intro y hy
      rw [List.mem_map] at hy
      obtain ⟨x, hx, rfl⟩ := hy
      rw [hL]
      refine ⟨?_, Nat.mod_lt _ h.pos⟩
      rcases Nat.eq_zero_or_pos (a * x % p) with e | e
      · exact absurd ((h.cop ha).dvd_of_dvd_mul_left (Nat.dvd_of_mod_eq_zero e)) (hnd x hx)
      · exact e
    · simp
  have e := pr_mul p a (List.range' 1 (p - 1))
  rw [pr_perm hperm, List.length_range'] at e
  have e2 : pr (List.range' 1 (p - 1)) * 1 % p = pr (List.range' 1 (p - 1)) * a ^ (p - 1) % p := by
    rw [Nat.mul_one, e, Nat.mul_comm]
  have := cancel (pr_cop h _ hnd) e2
  rw [← this]
  exact Nat.mod_eq_of_lt (by omega)
theorem fermat_all {p : Nat} (h : Prm p) (a : Nat) : a ^ p % p = a % p := by
  have h2 := h.1
  obtain ⟨q, hq⟩ : ∃ q, p = q + 1 := ⟨p - 1, by omega⟩
  by_cases ha : p ∣ a
  · have h0 : a % p = 0 := Nat.mod_eq_zero_of_dvd ha
    rw [Nat.pow_mod, h0, Nat.zero_pow (by omega), Nat.zero_mod]
  · have hf := fermat h ha
    have e : a ^ p = a ^ (p - 1) * a := by
      rw [← Nat.pow_succ, show (p - 1).succ = p from by omega]
    rw [e, Nat.mul_mod, hf, Nat.one_mul, Nat.mod_mod]
theorem has_prime : ∀ n : Nat, 2 ≤ n → ∃ r, Prm r ∧ r ∣ n := by
  intro n
  induction n using Nat.strongRecOn with
  | _ n ih =>
    intro hn
    by_cases h : ∃ m, 2 ≤ m ∧ m ∣ n ∧ m ≠ n
    · obtain ⟨m, hm, hd, hne⟩ := h
      have hlt : m < n := Nat.lt_of_le_of_ne (Nat.le_of_dvd (by omega) hd) hne
      obtain ⟨r, hr, hrm⟩ := ih m hlt hm
      exact ⟨r, hr, Nat.dvd_trans hrm hd⟩
    · refine ⟨n, ⟨hn, fun m hm hd => ?_⟩, Nat.dvd_refl n⟩
      by_cases e : m = n
      · exact e
      · exact absurd ⟨m, hm, hd, e⟩ h
theorem prime_of_big {N : Nat} (h2 : 2 ≤ N) (h : ∀ r, Prm r → r ∣ N → N < r * r) : Prm N := by
  refine ⟨h2, fun m hm hd => ?_⟩
  obtain ⟨k, hk⟩ := hd
  rcases Nat.lt_or_ge k 2 with hk2 | hk2
  · have : k = 1 := by
      rcases Nat.eq_zero_or_pos k with e | e
      · rw [e, Nat.mul_zero] at hk; omega
      · omega
    rw [this, Nat.mul_one] at hk
    exact hk.symm
  · exfalso
    have key : ∀ t s : Nat, 2 ≤ t → t ≤ s → N = t * s → False := by
      intro t s ht hts hN
      obtain ⟨r, hr, hrt⟩ := has_prime t ht
      have h1 := h r hr (Nat.dvd_trans hrt ⟨s, hN⟩)
      have h3 : r ≤ t := Nat.le_of_dvd (by omega) hrt
      have h4 : r * r ≤ t * s := Nat.mul_le_mul h3 (Nat.le_trans h3 hts)
      omega
    rcases Nat.le_total m k with hmk | hmk
    · exact key m k hm hmk hk
    · exact key k m hk2 hmk (by rw [hk, Nat.mul_comm])
def noDiv (n : Nat) : Nat → Nat → Bool
  | 0, _ => true
  | f + 1, d => n % d != 0 && noDiv n f (d + 1)
theorem noDiv_says (n : Nat) : ∀ (f d : Nat), noDiv n f d = true → ∀ x, d ≤ x → x < d + f → ¬ x ∣ n
  | 0, d, _, x, h1, h2 => by omega
  | f + 1, d, h, x, h1, h2 => by
    simp only [noDiv, Bool.and_eq_true, bne_iff_ne, ne_eq] at h
    rcases Nat.eq_or_lt_of_le h1 with e | e
    · subst e
      intro hd
      exact h.1 (Nat.mod_eq_zero_of_dvd hd)
    · exact noDiv_says n f (d + 1) h.2 x e (by omega)
theorem prime_by_trial {N : Nat} (s : Nat) (h2 : 2 ≤ N) (hs : N < s * s) (h : noDiv N (s - 2) 2 = true) : Prm N := by
  refine prime_of_big h2 fun r hr hd => ?_
  have h2r := hr.1
  rcases Nat.lt_or_ge r s with hl | hl
  · exact absurd hd (noDiv_says N (s - 2) 2 h r h2r (by omega))
  · exact Nat.lt_of_lt_of_le hs (Nat.mul_le_mul hl hl)
def pm (m : Nat) : Nat → Nat → Nat → Nat
  | 0, _, _ => 1 % m
  | f + 1, a, e => if e % 2 = 1 then a * pm m f (a * a % m) (e / 2) % m else pm m f (a * a % m) (e / 2)
theorem pm_is (m : Nat) : ∀ (f a e : Nat), e < 2 ^ f → pm m f a e = a ^ e % m
  | 0, a, e, h => by
    have : e = 0 := by simpa using h
    subst this; rfl
  | f + 1, a, e, h => by
    have ih := pm_is m f (a * a % m) (e / 2) (by rw [Nat.pow_succ] at h; omega)
    have hp : (a * a % m) ^ (e / 2) % m = (a * a) ^ (e / 2) % m := (Nat.pow_mod (a * a) (e / 2) m).symm
    have h2 : (a * a) ^ (e / 2) = a ^ (2 * (e / 2)) := by
      rw [Nat.pow_mul, Nat.pow_two]
    rw [pm, ih, hp, h2]
    split
    · rename_i ho
      rw [Nat.mul_mod, Nat.mod_mod, ← Nat.mul_mod, Nat.mul_comm, ← Nat.pow_succ, show (2 * (e / 2)).succ = e from by omega]
    · rename_i ho
      rw [show 2 * (e / 2) = e from by omega]
theorem pow_gcd {r b : Nat} (hr : 2 ≤ r) : ∀ x y : Nat, b ^ x % r = 1 → b ^ y % r = 1 → b ^ Nat.gcd x y % r = 1 := by
  intro x y
  induction x, y using Nat.gcd.induction with
  | H0 y => intro _ h; rw [Nat.gcd_zero_left]; exact h
  | H1 x y hx ih =>
    intro h1 h2
    rw [Nat.gcd_rec]
    refine ih ?_ h1
    have e : b ^ y = (b ^ x) ^ (y / x) * b ^ (y % x) := by
      rw [← Nat.pow_mul, ← Nat.pow_add, Nat.div_add_mod]
    rw [e, Nat.mul_mod, Nat.pow_mod, h1, Nat.one_pow, Nat.mod_eq_of_lt (show 1 < r by omega), Nat.one_mul, Nat.mod_mod] at h2
    exact h2
theorem pock_one {N q a r : Nat} (hq : Prm q) (hqN : q ∣ N - 1) (hN : 2 ≤ N) (h1 : a ^ (N - 1) % N = 1) (h2 : Nat.gcd (a ^ ((N - 1) / q) % N + (N - 1)) N = 1) (hr : Prm r) (hd : r ∣ N) : q ∣ r - 1 := by
  have hr2 := hr.1
  obtain ⟨k, hk⟩ := hqN
  have hkd : (N - 1) / q = k := by rw [hk]; exact Nat.mul_div_cancel_left k hq.pos
  rw [hkd] at h2
  have modr : ∀ x : Nat, x % N % r = x % r := fun x => Nat.mod_mod_of_dvd x hd
  have e1 : (a ^ k) ^ q % r = 1 := by
    rw [← Nat.pow_mul, Nat.mul_comm, ← hk, ← modr, h1]
    exact Nat.mod_eq_of_lt (by omega)
  have hra : ¬ r ∣ a ^ k := by
    intro h
    have : (a ^ k) ^ q % r = 0 := by
      rw [Nat.pow_mod, Nat.mod_eq_zero_of_dvd h, Nat.zero_pow hq.pos, Nat.zero_mod]
    omega
  have e2 : (a ^ k) ^ (r - 1) % r = 1 := fermat hr hra
  have hne : (a ^ k) % r ≠ 1 := by
    intro h
    have hdv : r ∣ a ^ k % N + (N - 1) := by
      apply Nat.dvd_of_mod_eq_zero
      have h3 : (N - 1 + 1) % r = 0 := by rw [show N - 1 + 1 = N from by omega]; exact Nat.mod_eq_zero_of_dvd hd
      rw [Nat.add_mod, modr, h]
      rw [Nat.add_mod] at h3
      rw [Nat.mod_eq_of_lt (show 1 < r by omega)] at h3
      rw [Nat.add_comm]
      exact h3
    have : r ∣ 1 := by rw [← h2]; exact Nat.dvd_gcd hdv hd
    have := Nat.le_of_dvd (by decide) this
    omega
  have hg := pow_gcd hr2 q (r - 1) e1 e2
  rcases Nat.lt_or_ge (Nat.gcd q (r - 1)) 2 with hl | hl
  · have h0 : 0 < Nat.gcd q (r - 1) := Nat.gcd_pos_of_pos_left _ hq.pos
    rw [show Nat.gcd q (r - 1) = 1 from by omega, Nat.pow_one] at hg
    exact absurd hg hne
  · have := hq.2 _ hl (Nat.gcd_dvd_left q (r - 1))
    rw [← this]
    exact Nat.gcd_dvd_right q (r - 1)
theorem pock1 {N : Nat} (q a : Nat) (hq : Prm q) (hN : 2 ≤ N) (hqN : (N - 1) % q = 0) (hs : N < q * q) (h1 : pm N 256 a (N - 1) = 1) (hb : N - 1 < 2 ^ 256) (h2 : Nat.gcd (pm N 256 a ((N - 1) / q) + (N - 1)) N = 1) : Prm N := by
  rw [pm_is _ _ _ _ hb] at h1
  rw [pm_is _ _ _ _ (Nat.lt_of_le_of_lt (Nat.div_le_self _ _) hb)] at h2
  refine prime_of_big hN fun r hr hd => ?_
  have h := pock_one hq (Nat.dvd_of_mod_eq_zero hqN) hN h1 h2 hr hd
  have hr2 := hr.1
  have hle := Nat.le_of_dvd (by omega) h
  exact Nat.lt_of_lt_of_le hs (Nat.mul_le_mul (by omega) (by omega))
theorem pock2 {N : Nat} (q a q' a' : Nat) (hq : Prm q) (hq' : Prm q') (hN : 2 ≤ N) (hqq : Nat.gcd q q' = 1) (hqN : (N - 1) % q = 0) (hqN' : (N - 1) % q' = 0) (hs : N < (q * q') * (q * q')) (h1 : pm N 256 a (N - 1) = 1) (h1' : pm N 256 a' (N - 1) = 1) (hb : N - 1 < 2 ^ 256)
    (h2 : Nat.gcd (pm N 256 a ((N - 1) / q) + (N - 1)) N = 1) (h2' : Nat.gcd (pm N 256 a' ((N - 1) / q') + (N - 1)) N = 1) : Prm N := by
  rw [pm_is _ _ _ _ hb] at h1 h1'
  rw [pm_is _ _ _ _ (Nat.lt_of_le_of_lt (Nat.div_le_self _ _) hb)] at h2 h2'
  refine prime_of_big hN fun r hr hd => ?_
  have h := pock_one hq (Nat.dvd_of_mod_eq_zero hqN) hN h1 h2 hr hd
  have h' := pock_one hq' (Nat.dvd_of_mod_eq_zero hqN') hN h1' h2' hr hd
  have hm : q * q' ∣ r - 1 := Nat.Coprime.mul_dvd_of_dvd_of_dvd hqq h h'
  have hr2 := hr.1
  have hle := Nat.le_of_dvd (by omega) hm
  exact Nat.lt_of_lt_of_le hs (Nat.mul_le_mul (by omega) (by omega))
theorem p197 : Prm 197 := prime_by_trial 15 (by decide +kernel) (by decide +kernel) (by decide +kernel)
theorem p3023 : Prm 3023 := prime_by_trial 55 (by decide +kernel) (by decide +kernel) (by decide +kernel)
theorem p3677 : Prm 3677 := prime_by_trial 61 (by decide +kernel) (by decide +kernel) (by decide +kernel)
theorem p78283 : Prm 78283 := prime_by_trial 280 (by decide +kernel) (by decide +kernel) (by decide +kernel)
theorem p704251 : Prm 704251 := prime_by_trial 840 (by decide +kernel) (by decide +kernel) (by decide +kernel)
theorem p3969899 : Prm 3969899 := prime_by_trial 1993 (by decide +kernel) (by decide +kernel) (by decide +kernel)
theorem p191039911 : Prm 191039911 := prime_by_trial 13822 (by decide +kernel) (by decide +kernel) (by decide +kernel)
theorem p66417393611 : Prm 66417393611 := pock2 3677 2 197 2 p3677 p197 (by decide +kernel) (by decide +kernel) (by decide +kernel) (by decide +kernel) (by decide +kernel) (by decide +kernel) (by decide +kernel) (by decide +kernel) (by decide +kernel) (by decide +kernel)
theorem p1002328039319 : Prm 1002328039319 := pock1 3969899 2 p3969899 (by decide +kernel) (by decide +kernel) (by decide +kernel) (by decide +kernel) (by decide +kernel) (by decide +kernel)
theorem p11290956913871 : Prm 11290956913871 := pock1 66417393611 2 p66417393611 (by decide +kernel) (by decide +kernel) (by decide +kernel) (by decide +kernel) (by decide +kernel) (by decide +kernel)
theorem p46076956964474543 : Prm 46076956964474543 := pock2 704251 2 78283 2 p704251 p78283 (by decide +kernel) (by decide +kernel) (by decide +kernel) (by decide +kernel) (by decide +kernel) (by decide +kernel) (by decide +kernel) (by decide +kernel) (by decide +kernel) (by decide +kernel)
theorem p208150935158385979 : Prm 208150935158385979 := pock2 191039911 2 3023 2 p191039911 p3023 (by decide +kernel) (by decide +kernel) (by decide +kernel) (by decide +kernel) (by decide +kernel) (by decide +kernel) (by decide +kernel) (by decide +kernel) (by decide +kernel) (by decide +kernel)
theorem p2624747550333869278416773953 : Prm 2624747550333869278416773953 := pock1 208150935158385979 2 p208150935158385979 (by decide +kernel) (by decide +kernel) (by decide +kernel) (by decide +kernel) (by decide +kernel) (by decide +kernel)
theorem p774023187263532362759620327192479577272145303 : Prm 774023187263532362759620327192479577272145303 := pock2 46076956964474543 2 11290956913871 2 p46076956964474543 p11290956913871 (by decide +kernel) (by decide +kernel) (by decide +kernel) (by decide +kernel) (by decide +kernel) (by decide +kernel) (by decide +kernel) (by decide +kernel) (by decide +kernel) (by decide +kernel)
theorem p835945042244614951780389953367877943453916927241 : Prm 835945042244614951780389953367877943453916927241 := pock1 774023187263532362759620327192479577272145303 2 p774023187263532362759620327192479577272145303 (by decide +kernel) (by decide +kernel) (by decide +kernel) (by decide +kernel) (by decide +kernel) (by decide +kernel)
theorem N256 : Prm 115792089210356248762697446949407573529996955224135760342422259061068512044369 := pock2 2624747550333869278416773953 2 1002328039319 2 p2624747550333869278416773953 p1002328039319 (by decide +kernel) (by decide +kernel) (by decide +kernel) (by decide +kernel) (by decide +kernel) (by decide +kernel) (by decide +kernel) (by decide +kernel) (by decide +kernel) (by decide +kernel)
theorem P256 : Prm 115792089210356248762697446949407573530086143415290314195533631308867097853951 := pock1 835945042244614951780389953367877943453916927241 2 p835945042244614951780389953367877943453916927241 (by decide +kernel) (by decide +kernel) (by decide +kernel) (by decide +kernel) (by decide +kernel) (by decide +kernel)
end Go.Proofs.YtpggkfdijmnmiaaGreat.Primes
namespace Go.Proofs.YtpggkfdijmnmiaaGreat
open Go.RowKit Limbs
theorem md0 : md 0 = mP := rfl
end Go.Proofs.YtpggkfdijmnmiaaGreat
namespace Go.Proofs.YtpggkfdijmnmiaaGreat
open Go.RowKit Go.Sort Limbs
theorem Bk.reg {w : World} {g : Nat} {x0 x1 x2 x3 : Value} (h : Bk 24 w g #[x0, x1, x2, x3]) : (∀ d os, (grow (redrawn w d) os).cell? ⟨g, 0, none⟩ = some x0) ∧ (∀ d os, (grow (redrawn w d) os).cell? ⟨g, 1, none⟩ = some x1) ∧ (∀ d os, (grow (redrawn w d) os).cell? ⟨g, 2, none⟩ = some x2) ∧ (∀ d os, (grow (redrawn w d) os).cell? ⟨g, 3, none⟩ = some x3) :=
  ⟨fun d os => (h.regrown d os).cell 0, fun d os => (h.regrown d os).cell 1, fun d os => (h.regrown d os).cell 2, fun d os => (h.regrown d os).cell 3⟩
theorem mul_c (a b : Nat) (ha : a < W256) (hb : b < W256) (w : World) :
    Calls Tryz.prog 108 #[nv a, nv b] w fun e w' => e = .returned (nv (a * b % mP)) ∧ Below w.heap.size w w' := by
  have h0 := mul_any 0 a b ha hb
  rw [md0] at h0
  have HS := Lib.hid h0
  clear h0
  generalize a * b % mP = res at *
  simp only [nv, num] at HS ⊢
  go_enter Tryz.func108, Tryz.ntmps108
  go_wp2_with fail
  refine (keep w.heap.size w (HS.out _) (by go_grown) (Nat.le_refl _)).mono ?_
  rintro e w1 ⟨rfl, hb, hk⟩
  have KR : Hid (Bk 24 w1 (w.heap.size + 1 + 1) cs0) := Lib.hid (Bk.below (Bk.new (by simp)) hk)
  have HB := Lib.hid hb
  clear hk hb
  obtain ⟨j0, j1, j2, j3⟩ := KR.out.cells
  obtain ⟨f0, f1, f2, f3⟩ := KR.out.fros
  go_wp2_with fail
  refine ret_cell rfl (w.heap.size + 1 + 1) res rfl (Bk.put KR.out) rfl ⟨rfl, ?_⟩
  have hb := HB.out
  go_grown
theorem add_c (a b : Nat) (ha : a < W256) (hb : b < W256) (w : World) :
    Calls Tryz.prog 109 #[nv a, nv b] w fun e w' => e = .returned (nv ((a + b) % mP)) ∧ Below w.heap.size w w' := by
  have h0 := add_any 0 a b ha hb
  rw [md0] at h0
  have HS := Lib.hid h0
  clear h0
  generalize (a + b) % mP = res at *
  simp only [nv, num] at HS ⊢
  go_enter Tryz.func109, Tryz.ntmps109
  go_wp2_with fail
  refine (keep w.heap.size w (HS.out _) (by go_grown) (Nat.le_refl _)).mono ?_
  rintro e w1 ⟨rfl, hb, hk⟩
  have KR : Hid (Bk 24 w1 (w.heap.size + 1 + 1) cs0) := Lib.hid (Bk.below (Bk.new (by simp)) hk)
  have HB := Lib.hid hb
  clear hk hb
  obtain ⟨j0, j1, j2, j3⟩ := KR.out.cells
  obtain ⟨f0, f1, f2, f3⟩ := KR.out.fros
  go_wp2_with fail
  refine ret_cell rfl (w.heap.size + 1 + 1) res rfl (Bk.put KR.out) rfl ⟨rfl, ?_⟩
  have hb := HB.out
  go_grown
theorem sub_c (a b : Nat) (ha : a < W256) (hb : b < W256) (w : World) :
    Calls Tryz.prog 110 #[nv a, nv b] w fun e w' => e = .returned (nv ((a + (mP - b % mP)) % mP)) ∧ Below w.heap.size w w' := by
  have h0 := sub_any 0 a b ha hb
  rw [md0] at h0
  have HS := Lib.hid h0
  clear h0
  generalize (a + (mP - b % mP)) % mP = res at *
  simp only [nv, num] at HS ⊢
  go_enter Tryz.func110, Tryz.ntmps110
  go_wp2_with fail
  refine (keep w.heap.size w (HS.out _) (by go_grown) (Nat.le_refl _)).mono ?_
  rintro e w1 ⟨rfl, hb, hk⟩
  have KR : Hid (Bk 24 w1 (w.heap.size + 1 + 1) cs0) := Lib.hid (Bk.below (Bk.new (by simp)) hk)
  have HB := Lib.hid hb
  clear hk hb
  obtain ⟨j0, j1, j2, j3⟩ := KR.out.cells
  obtain ⟨f0, f1, f2, f3⟩ := KR.out.fros
  go_wp2_with fail
  refine ret_cell rfl (w.heap.size + 1 + 1) res rfl (Bk.put KR.out) rfl ⟨rfl, ?_⟩
  have hb := HB.out
  go_grown
set_option maxHeartbeats 4000000 in
theorem triple_c (a : Nat) (ha : a < W256) (w : World) :
    Calls Tryz.prog 111 #[nv a] w fun e w' => e = .returned (nv (((a + a) % mP + a) % mP)) ∧ Below w.heap.size w w' := by
  have H1 := Lib.hid (add_c a a ha ha)
  have h2 : (a + a) % mP < W256 := Nat.lt_trans (Nat.mod_lt _ (by decide +kernel)) (by decide +kernel)
  have H2 := Lib.hid (add_c _ a h2 ha)
  clear h2
  generalize ((a + a) % mP + a) % mP = res at *
  generalize (a + a) % mP = two at *
  simp only [nv, num] at H1 H2 ⊢
  go_enter Tryz.func111, Tryz.ntmps111
  go_wp2_with fail
  have KA : Hid (Bk 24 ((w.alloc (.cells #[.int .u64 (lb a 0 : Nat), .int .u64 (lb a 1 : Nat), .int .u64 (lb a 2 : Nat), .int .u64 (lb a 3 : Nat)] 24)).alloc (.cells #[.int .u64 0, .int .u64 0, .int .u64 0, .int .u64 0] 24)) w.heap.size #[.int .u64 (lb a 0 : Nat), .int .u64 (lb a 1 : Nat), .int .u64 (lb a 2 : Nat), .int .u64 (lb a 3 : Nat)]) := Lib.hid (Bk.alloc (Bk.new rfl))
  have KR : Hid (Bk 24 ((w.alloc (.cells #[.int .u64 (lb a 0 : Nat), .int .u64 (lb a 1 : Nat), .int .u64 (lb a 2 : Nat), .int .u64 (lb a 3 : Nat)] 24)).alloc (.cells #[.int .u64 0, .int .u64 0, .int .u64 0, .int .u64 0] 24)) (w.heap.size + 1) #[.int .u64 0, .int .u64 0, .int .u64 0, .int .u64 0]) := Lib.hid (Bk.new (by simp))
  have HB : Hid (Below w.heap.size w ((w.alloc (.cells #[.int .u64 (lb a 0 : Nat), .int .u64 (lb a 1 : Nat), .int .u64 (lb a 2 : Nat), .int .u64 (lb a 3 : Nat)] 24)).alloc (.cells #[.int .u64 0, .int .u64 0, .int .u64 0, .int .u64 0] 24))) := Lib.hid (by go_grown)
  generalize ((w.alloc (.cells #[.int .u64 (lb a 0 : Nat), .int .u64 (lb a 1 : Nat), .int .u64 (lb a 2 : Nat), .int .u64 (lb a 3 : Nat)] 24)).alloc (.cells #[.int .u64 0, .int .u64 0, .int .u64 0, .int .u64 0] 24)) = W at KA KR HB ⊢
  obtain ⟨gr, hgr⟩ : ∃ z, z = w.heap.size + 1 := ⟨_, rfl⟩
  rw [← hgr] at KR ⊢
  have HG := Lib.hid (show w.heap.size ≤ gr by omega)
  clear hgr
  obtain ⟨a0, a1, a2, a3⟩ := KA.out.reg
  refine wp_region_below_tail 5 mixed (by kernel_rfl) ?_
  simp only [List.take_succ_cons, List.take_zero, List.drop_succ_cons, List.drop_zero]
  iterate 2 go_big_quiet_step (fail)
  go_big_quiet_step (exact qg H1.out)
  go_big_quiet_step (fail)
  go_big_quiet_step (exact qg H2.out)
  refine wpQuiet_nil ?_
  intro _ hw'
  obtain ⟨⟨dq, osq⟩, hw''⟩ := hw'
  subst hw''
  have KR2 := Lib.hid (KR.out.regrown dq osq)
  have HB2 := Lib.hid (HB.out.trans ((below_regrown W dq osq).mono HB.out.size))
  clear KA KR HB a0 a1 a2 a3
  generalize grow (redrawn W dq) osq = V at KR2 HB2 ⊢
  obtain ⟨f0, f1, f2, f3⟩ := KR2.out.fros
  obtain ⟨c0, c1, c2, c3⟩ := KR2.out.cells
  go_wp2_with fail
  refine ret_cell rfl gr res rfl (Bk.put KR2.out) rfl ⟨rfl, ?_⟩
  have hb := HB2.out
  have hg := HG.out
  go_grown
theorem below_c_eq {a : Nat} (ha : a < W256) : decide ((a + 0) % mP = a) = decide (a < mP) := by
  rw [Nat.add_zero]
  by_cases h : a < mP
  · rw [Nat.mod_eq_of_lt h]; simp [h]
  · have := Nat.mod_lt a (show 0 < mP by decide +kernel)
    simp [h]; omega
set_option maxHeartbeats 4000000 in
theorem below_c (a : Nat) (ha : a < W256) (w : World) :
    Calls Tryz.prog 107 #[nv a] w fun e w' => e = .returned (.bool (decide (a < mP))) ∧ Below w.heap.size w w' := by
  rw [← below_c_eq ha]
  have H1 := Lib.hid (add_c a 0 ha (by decide))
  have h2 : (a + 0) % mP < W256 := Nat.lt_trans (Nat.mod_lt _ (by decide +kernel)) (by decide +kernel)
  have HE := Lib.hid (eqN _ a h2 ha)
  clear h2
  generalize (a + 0) % mP = one at *
  have e0 : nv 0 = .agg #[.int .u64 0, .int .u64 0, .int .u64 0, .int .u64 0] := rfl
  rw [e0] at H1
  obtain ⟨res, hres⟩ : ∃ z, z = decide (one = a) := ⟨_, rfl⟩
  rw [← hres] at HE ⊢
  clear hres ha
  simp only [nv, num] at H1 ⊢
  go_enter Tryz.func107, Tryz.ntmps107
  go_wp2_with fail
  have KA : Hid (Bk 24 (w.alloc (.cells #[.int .u64 (lb a 0 : Nat), .int .u64 (lb a 1 : Nat), .int .u64 (lb a 2 : Nat), .int .u64 (lb a 3 : Nat)] 24)) w.heap.size #[.int .u64 (lb a 0 : Nat), .int .u64 (lb a 1 : Nat), .int .u64 (lb a 2 : Nat), .int .u64 (lb a 3 : Nat)]) := Lib.hid (Bk.new rfl)
  have HB : Hid (Below w.heap.size w (w.alloc (.cells #[.int .u64 (lb a 0 : Nat), .int .u64 (lb a 1 : Nat), .int .u64 (lb a 2 : Nat), .int .u64 (lb a 3 : Nat)] 24))) := Lib.hid (by go_grown)
  generalize (w.alloc (.cells #[.int .u64 (lb a 0 : Nat), .int .u64 (lb a 1 : Nat), .int .u64 (lb a 2 : Nat), .int .u64 (lb a 3 : Nat)] 24)) = W at KA HB ⊢
  obtain ⟨a0, a1, a2, a3⟩ := KA.out.reg
  have heq := HE.out
  refine wp_region_quiet_below mixed (by kernel_rfl) ?_
  iterate 2 go_big_quiet_step (fail)
  go_big_quiet_step (exact qg H1.out)
  repeat (first | go_big_quiet_step (fail) | quiet_step (fail))
  refine wpQuiet_nil ?_
  intro _ hw'
  obtain ⟨⟨dq, osq⟩, hw''⟩ := hw'
  subst hw''
  have HB2 := Lib.hid (HB.out.trans ((below_regrown W dq osq).mono HB.out.size))
  go_wp2_with fail
  go_ret
  exact ⟨rfl, HB2.out⟩
theorem Bk.cells12 {t : TypeId} {w : World} {g : Nat} {c0 c1 c2 c3 c4 c5 c6 c7 c8 c9 c10 c11 : Value} (h : Bk t w g #[c0, c1, c2, c3, c4, c5, c6, c7, c8, c9, c10, c11]) : (w.cell? ⟨g, 0, none⟩ = some c0 ∧ w.cell? ⟨g, 1, none⟩ = some c1 ∧ w.cell? ⟨g, 2, none⟩ = some c2 ∧ w.cell? ⟨g, 3, none⟩ = some c3) ∧ (w.cell? ⟨g, 4, none⟩ = some c4 ∧ w.cell? ⟨g, 5, none⟩ = some c5 ∧ w.cell? ⟨g, 6, none⟩ = some c6 ∧ w.cell? ⟨g, 7, none⟩ = some c7) ∧ (w.cell? ⟨g, 8, none⟩ = some c8 ∧ w.cell? ⟨g, 9, none⟩ = some c9 ∧ w.cell? ⟨g, 10, none⟩ = some c10 ∧ w.cell? ⟨g, 11, none⟩ = some c11) :=
  ⟨⟨h.cell 0, h.cell 1, h.cell 2, h.cell 3⟩, ⟨h.cell 4, h.cell 5, h.cell 6, h.cell 7⟩, ⟨h.cell 8, h.cell 9, h.cell 10, h.cell 11⟩⟩
theorem Bk.fros12 {t : TypeId} {w : World} {g : Nat} {cs : Array Value} (h : Bk t w g cs) : (w.frozen? ⟨g, 0, none⟩ = false ∧ w.frozen? ⟨g, 1, none⟩ = false ∧ w.frozen? ⟨g, 2, none⟩ = false ∧ w.frozen? ⟨g, 3, none⟩ = false) ∧ (w.frozen? ⟨g, 4, none⟩ = false ∧ w.frozen? ⟨g, 5, none⟩ = false ∧ w.frozen? ⟨g, 6, none⟩ = false ∧ w.frozen? ⟨g, 7, none⟩ = false) ∧ (w.frozen? ⟨g, 8, none⟩ = false ∧ w.frozen? ⟨g, 9, none⟩ = false ∧ w.frozen? ⟨g, 10, none⟩ = false ∧ w.frozen? ⟨g, 11, none⟩ = false) :=
  ⟨⟨h.fro 0, h.fro 1, h.fro 2, h.fro 3⟩, ⟨h.fro 4, h.fro 5, h.fro 6, h.fro 7⟩, ⟨h.fro 8, h.fro 9, h.fro 10, h.fro 11⟩⟩
theorem Bk.cellsA12 {t : TypeId} {w : World} {g : Nat} {c0 c1 c2 c3 c4 c5 c6 c7 c8 c9 c10 c11 : Value} (h : Bk t w g #[c0, c1, c2, c3, c4, c5, c6, c7, c8, c9, c10, c11]) : ((∀ o, (w.alloc o).cell? ⟨g, 0, none⟩ = some c0) ∧ (∀ o, (w.alloc o).cell? ⟨g, 1, none⟩ = some c1) ∧ (∀ o, (w.alloc o).cell? ⟨g, 2, none⟩ = some c2) ∧ (∀ o, (w.alloc o).cell? ⟨g, 3, none⟩ = some c3)) ∧ ((∀ o, (w.alloc o).cell? ⟨g, 4, none⟩ = some c4) ∧ (∀ o, (w.alloc o).cell? ⟨g, 5, none⟩ = some c5) ∧ (∀ o, (w.alloc o).cell? ⟨g, 6, none⟩ = some c6) ∧ (∀ o, (w.alloc o).cell? ⟨g, 7, none⟩ = some c7)) ∧ ((∀ o, (w.alloc o).cell? ⟨g, 8, none⟩ = some c8) ∧ (∀ o, (w.alloc o).cell? ⟨g, 9, none⟩ = some c9) ∧ (∀ o, (w.alloc o).cell? ⟨g, 10, none⟩ = some c10) ∧ (∀ o, (w.alloc o).cell? ⟨g, 11, none⟩ = some c11)) :=
  ⟨⟨fun _ => h.alloc.cell 0, fun _ => h.alloc.cell 1, fun _ => h.alloc.cell 2, fun _ => h.alloc.cell 3⟩, ⟨fun _ => h.alloc.cell 4, fun _ => h.alloc.cell 5, fun _ => h.alloc.cell 6, fun _ => h.alloc.cell 7⟩, ⟨fun _ => h.alloc.cell 8, fun _ => h.alloc.cell 9, fun _ => h.alloc.cell 10, fun _ => h.alloc.cell 11⟩⟩
theorem Bk.reg12 {t : TypeId} {w : World} {g : Nat} {c0 c1 c2 c3 c4 c5 c6 c7 c8 c9 c10 c11 : Value} (h : Bk t w g #[c0, c1, c2, c3, c4, c5, c6, c7, c8, c9, c10, c11]) : ((∀ d os, (grow (redrawn w d) os).cell? ⟨g, 0, none⟩ = some c0) ∧ (∀ d os, (grow (redrawn w d) os).cell? ⟨g, 1, none⟩ = some c1) ∧ (∀ d os, (grow (redrawn w d) os).cell? ⟨g, 2, none⟩ = some c2) ∧ (∀ d os, (grow (redrawn w d) os).cell? ⟨g, 3, none⟩ = some c3)) ∧ ((∀ d os, (grow (redrawn w d) os).cell? ⟨g, 4, none⟩ = some c4) ∧ (∀ d os, (grow (redrawn w d) os).cell? ⟨g, 5, none⟩ = some c5) ∧ (∀ d os, (grow (redrawn w d) os).cell? ⟨g, 6, none⟩ = some c6) ∧ (∀ d os, (grow (redrawn w d) os).cell? ⟨g, 7, none⟩ = some c7)) ∧ ((∀ d os, (grow (redrawn w d) os).cell? ⟨g, 8, none⟩ = some c8) ∧ (∀ d os, (grow (redrawn w d) os).cell? ⟨g, 9, none⟩ = some c9) ∧ (∀ d os, (grow (redrawn w d) os).cell? ⟨g, 10, none⟩ = some c10) ∧ (∀ d os, (grow (redrawn w d) os).cell? ⟨g, 11, none⟩ = some c11)) :=
  ⟨⟨fun d os => (h.regrown d os).cell 0, fun d os => (h.regrown d os).cell 1, fun d os => (h.regrown d os).cell 2, fun d os => (h.regrown d os).cell 3⟩, ⟨fun d os => (h.regrown d os).cell 4, fun d os => (h.regrown d os).cell 5, fun d os => (h.regrown d os).cell 6, fun d os => (h.regrown d os).cell 7⟩, ⟨fun d os => (h.regrown d os).cell 8, fun d os => (h.regrown d os).cell 9, fun d os => (h.regrown d os).cell 10, fun d os => (h.regrown d os).cell 11⟩⟩
theorem Bk.put12 {t : TypeId} {w : World} {g : Nat} {c0 c1 c2 c3 c4 c5 c6 c7 c8 c9 c10 c11 d0 d1 d2 d3 d4 d5 d6 d7 d8 d9 d10 d11 : Value} (h : Bk t w g #[c0, c1, c2, c3, c4, c5, c6, c7, c8, c9, c10, c11]) : Bk t ((((((((((((w.setCell ⟨g, 0, none⟩ d0).setCell ⟨g, 1, none⟩ d1).setCell ⟨g, 2, none⟩ d2).setCell ⟨g, 3, none⟩ d3).setCell ⟨g, 4, none⟩ d4).setCell ⟨g, 5, none⟩ d5).setCell ⟨g, 6, none⟩ d6).setCell ⟨g, 7, none⟩ d7).setCell ⟨g, 8, none⟩ d8).setCell ⟨g, 9, none⟩ d9).setCell ⟨g, 10, none⟩ d10).setCell ⟨g, 11, none⟩ d11) g #[d0, d1, d2, d3, d4, d5, d6, d7, d8, d9, d10, d11] := by
  have p := (Bk.same (i := 11) (v := d11) (Bk.same (i := 10) (v := d10) (Bk.same (i := 9) (v := d9) (Bk.same (i := 8) (v := d8) (Bk.same (i := 7) (v := d7) (Bk.same (i := 6) (v := d6) (Bk.same (i := 5) (v := d5) (Bk.same (i := 4) (v := d4) (Bk.same (i := 3) (v := d3) (Bk.same (i := 2) (v := d2) (Bk.same (i := 1) (v := d1) (Bk.same (i := 0) (v := d0) h))))))))))))
  simpa using p
theorem Bk.puto12 {t : TypeId} {w : World} {g h : Nat} {cs : Array Value} {d0 d1 d2 d3 d4 d5 d6 d7 d8 d9 d10 d11 : Value} (hn : g ≠ h) (k : Bk t w g cs) : Bk t ((((((((((((w.setCell ⟨h, 0, none⟩ d0).setCell ⟨h, 1, none⟩ d1).setCell ⟨h, 2, none⟩ d2).setCell ⟨h, 3, none⟩ d3).setCell ⟨h, 4, none⟩ d4).setCell ⟨h, 5, none⟩ d5).setCell ⟨h, 6, none⟩ d6).setCell ⟨h, 7, none⟩ d7).setCell ⟨h, 8, none⟩ d8).setCell ⟨h, 9, none⟩ d9).setCell ⟨h, 10, none⟩ d10).setCell ⟨h, 11, none⟩ d11) g cs :=
  (Bk.oth hn (Bk.oth hn (Bk.oth hn (Bk.oth hn (Bk.oth hn (Bk.oth hn (Bk.oth hn (Bk.oth hn (Bk.oth hn (Bk.oth hn (Bk.oth hn (Bk.oth hn k))))))))))))
theorem Bk.cells9 {t : TypeId} {w : World} {g : Nat} {c0 c1 c2 c3 c4 c5 c6 c7 c8 : Value} (h : Bk t w g #[c0, c1, c2, c3, c4, c5, c6, c7, c8]) : (w.cell? ⟨g, 0, none⟩ = some c0 ∧ w.cell? ⟨g, 1, none⟩ = some c1 ∧ w.cell? ⟨g, 2, none⟩ = some c2 ∧ w.cell? ⟨g, 3, none⟩ = some c3) ∧ (w.cell? ⟨g, 4, none⟩ = some c4 ∧ w.cell? ⟨g, 5, none⟩ = some c5 ∧ w.cell? ⟨g, 6, none⟩ = some c6 ∧ w.cell? ⟨g, 7, none⟩ = some c7) ∧ (w.cell? ⟨g, 8, none⟩ = some c8) :=
  ⟨⟨h.cell 0, h.cell 1, h.cell 2, h.cell 3⟩, ⟨h.cell 4, h.cell 5, h.cell 6, h.cell 7⟩, h.cell 8⟩
theorem Bk.fros9 {t : TypeId} {w : World} {g : Nat} {cs : Array Value} (h : Bk t w g cs) : (w.frozen? ⟨g, 0, none⟩ = false ∧ w.frozen? ⟨g, 1, none⟩ = false ∧ w.frozen? ⟨g, 2, none⟩ = false ∧ w.frozen? ⟨g, 3, none⟩ = false) ∧ (w.frozen? ⟨g, 4, none⟩ = false ∧ w.frozen? ⟨g, 5, none⟩ = false ∧ w.frozen? ⟨g, 6, none⟩ = false ∧ w.frozen? ⟨g, 7, none⟩ = false) ∧ (w.frozen? ⟨g, 8, none⟩ = false) :=
  ⟨⟨h.fro 0, h.fro 1, h.fro 2, h.fro 3⟩, ⟨h.fro 4, h.fro 5, h.fro 6, h.fro 7⟩, h.fro 8⟩
theorem Bk.cellsA9 {t : TypeId} {w : World} {g : Nat} {c0 c1 c2 c3 c4 c5 c6 c7 c8 : Value} (h : Bk t w g #[c0, c1, c2, c3, c4, c5, c6, c7, c8]) : ((∀ o, (w.alloc o).cell? ⟨g, 0, none⟩ = some c0) ∧ (∀ o, (w.alloc o).cell? ⟨g, 1, none⟩ = some c1) ∧ (∀ o, (w.alloc o).cell? ⟨g, 2, none⟩ = some c2) ∧ (∀ o, (w.alloc o).cell? ⟨g, 3, none⟩ = some c3)) ∧ ((∀ o, (w.alloc o).cell? ⟨g, 4, none⟩ = some c4) ∧ (∀ o, (w.alloc o).cell? ⟨g, 5, none⟩ = some c5) ∧ (∀ o, (w.alloc o).cell? ⟨g, 6, none⟩ = some c6) ∧ (∀ o, (w.alloc o).cell? ⟨g, 7, none⟩ = some c7)) ∧ ((∀ o, (w.alloc o).cell? ⟨g, 8, none⟩ = some c8)) :=
  ⟨⟨fun _ => h.alloc.cell 0, fun _ => h.alloc.cell 1, fun _ => h.alloc.cell 2, fun _ => h.alloc.cell 3⟩, ⟨fun _ => h.alloc.cell 4, fun _ => h.alloc.cell 5, fun _ => h.alloc.cell 6, fun _ => h.alloc.cell 7⟩, fun _ => h.alloc.cell 8⟩
theorem Bk.frosA9 {t : TypeId} {w : World} {g : Nat} {cs : Array Value} (h : Bk t w g cs) : ((∀ o, (w.alloc o).frozen? ⟨g, 0, none⟩ = false) ∧ (∀ o, (w.alloc o).frozen? ⟨g, 1, none⟩ = false) ∧ (∀ o, (w.alloc o).frozen? ⟨g, 2, none⟩ = false) ∧ (∀ o, (w.alloc o).frozen? ⟨g, 3, none⟩ = false)) ∧ ((∀ o, (w.alloc o).frozen? ⟨g, 4, none⟩ = false) ∧ (∀ o, (w.alloc o).frozen? ⟨g, 5, none⟩ = false) ∧ (∀ o, (w.alloc o).frozen? ⟨g, 6, none⟩ = false) ∧ (∀ o, (w.alloc o).frozen? ⟨g, 7, none⟩ = false)) ∧ ((∀ o, (w.alloc o).frozen? ⟨g, 8, none⟩ = false)) :=
  ⟨⟨fun _ => h.alloc.fro 0, fun _ => h.alloc.fro 1, fun _ => h.alloc.fro 2, fun _ => h.alloc.fro 3⟩, ⟨fun _ => h.alloc.fro 4, fun _ => h.alloc.fro 5, fun _ => h.alloc.fro 6, fun _ => h.alloc.fro 7⟩, fun _ => h.alloc.fro 8⟩
theorem Bk.reg9 {t : TypeId} {w : World} {g : Nat} {c0 c1 c2 c3 c4 c5 c6 c7 c8 : Value} (h : Bk t w g #[c0, c1, c2, c3, c4, c5, c6, c7, c8]) : ((∀ d os, (grow (redrawn w d) os).cell? ⟨g, 0, none⟩ = some c0) ∧ (∀ d os, (grow (redrawn w d) os).cell? ⟨g, 1, none⟩ = some c1) ∧ (∀ d os, (grow (redrawn w d) os).cell? ⟨g, 2, none⟩ = some c2) ∧ (∀ d os, (grow (redrawn w d) os).cell? ⟨g, 3, none⟩ = some c3)) ∧ ((∀ d os, (grow (redrawn w d) os).cell? ⟨g, 4, none⟩ = some c4) ∧ (∀ d os, (grow (redrawn w d) os).cell? ⟨g, 5, none⟩ = some c5) ∧ (∀ d os, (grow (redrawn w d) os).cell? ⟨g, 6, none⟩ = some c6) ∧ (∀ d os, (grow (redrawn w d) os).cell? ⟨g, 7, none⟩ = some c7)) ∧ ((∀ d os, (grow (redrawn w d) os).cell? ⟨g, 8, none⟩ = some c8)) :=
  ⟨⟨fun d os => (h.regrown d os).cell 0, fun d os => (h.regrown d os).cell 1, fun d os => (h.regrown d os).cell 2, fun d os => (h.regrown d os).cell 3⟩, ⟨fun d os => (h.regrown d os).cell 4, fun d os => (h.regrown d os).cell 5, fun d os => (h.regrown d os).cell 6, fun d os => (h.regrown d os).cell 7⟩, fun d os => (h.regrown d os).cell 8⟩
theorem Bk.put9 {t : TypeId} {w : World} {g : Nat} {c0 c1 c2 c3 c4 c5 c6 c7 c8 d0 d1 d2 d3 d4 d5 d6 d7 d8 : Value} (h : Bk t w g #[c0, c1, c2, c3, c4, c5, c6, c7, c8]) : Bk t (((((((((w.setCell ⟨g, 0, none⟩ d0).setCell ⟨g, 1, none⟩ d1).setCell ⟨g, 2, none⟩ d2).setCell ⟨g, 3, none⟩ d3).setCell ⟨g, 4, none⟩ d4).setCell ⟨g, 5, none⟩ d5).setCell ⟨g, 6, none⟩ d6).setCell ⟨g, 7, none⟩ d7).setCell ⟨g, 8, none⟩ d8) g #[d0, d1, d2, d3, d4, d5, d6, d7, d8] := by
  have p := (Bk.same (i := 8) (v := d8) (Bk.same (i := 7) (v := d7) (Bk.same (i := 6) (v := d6) (Bk.same (i := 5) (v := d5) (Bk.same (i := 4) (v := d4) (Bk.same (i := 3) (v := d3) (Bk.same (i := 2) (v := d2) (Bk.same (i := 1) (v := d1) (Bk.same (i := 0) (v := d0) h)))))))))
  simpa using p
theorem Bk.puto9 {t : TypeId} {w : World} {g h : Nat} {cs : Array Value} {d0 d1 d2 d3 d4 d5 d6 d7 d8 : Value} (hn : g ≠ h) (k : Bk t w g cs) : Bk t (((((((((w.setCell ⟨h, 0, none⟩ d0).setCell ⟨h, 1, none⟩ d1).setCell ⟨h, 2, none⟩ d2).setCell ⟨h, 3, none⟩ d3).setCell ⟨h, 4, none⟩ d4).setCell ⟨h, 5, none⟩ d5).setCell ⟨h, 6, none⟩ d6).setCell ⟨h, 7, none⟩ d7).setCell ⟨h, 8, none⟩ d8) g cs :=
  (Bk.oth hn (Bk.oth hn (Bk.oth hn (Bk.oth hn (Bk.oth hn (Bk.oth hn (Bk.oth hn (Bk.oth hn (Bk.oth hn k)))))))))
def cs12 (x y z : Nat) : Array Value := #[.int .u64 (lb x 0 : Nat), .int .u64 (lb x 1 : Nat), .int .u64 (lb x 2 : Nat), .int .u64 (lb x 3 : Nat), .int .u64 (lb y 0 : Nat), .int .u64 (lb y 1 : Nat), .int .u64 (lb y 2 : Nat), .int .u64 (lb y 3 : Nat), .int .u64 (lb z 0 : Nat), .int .u64 (lb z 1 : Nat), .int .u64 (lb z 2 : Nat), .int .u64 (lb z 3 : Nat)]
def cs9 (x y : Nat) (i : Bool) : Array Value := #[.int .u64 (lb x 0 : Nat), .int .u64 (lb x 1 : Nat), .int .u64 (lb x 2 : Nat), .int .u64 (lb x 3 : Nat), .int .u64 (lb y 0 : Nat), .int .u64 (lb y 1 : Nat), .int .u64 (lb y 2 : Nat), .int .u64 (lb y 3 : Nat), .bool i]
theorem ret_cell93 {fn : Func} {R : Ending → World → Prop} {a : Act} {w : World} {p : Tmp} (h : fn.results = #[.cell p 162]) (g x y z : Nat) (hp : a.tmps.getD p undef = .pointer (some ⟨g, 0, none⟩)) (hk : Bk 162 w g (cs12 x y z)) (hd : a.defers = []) (hR : R (.returned (jn x y z)) w) : bodyPost Tryz.prog fn R .ret a w :=
  bodyPost_ret (v := jn x y z) (results_cell_row h a.tmps w g 162 (cs12 x y z) (0, 0) _ hp hk u93 rfl i93) hd hR
theorem ret_cell51 {fn : Func} {R : Ending → World → Prop} {a : Act} {w : World} {p : Tmp} (h : fn.results = #[.cell p 26]) (g x y : Nat) (i : Bool) (hp : a.tmps.getD p undef = .pointer (some ⟨g, 0, none⟩)) (hk : Bk 26 w g (cs9 x y i)) (hd : a.defers = []) (hR : R (.returned (pn x y i)) w) : bodyPost Tryz.prog fn R .ret a w :=
  bodyPost_ret (v := pn x y i) (results_cell_row h a.tmps w g 26 (cs9 x y i) (0, 0) _ hp hk u51 rfl i51) hd hR
theorem ret_cell51e {fn : Func} {R : Ending → World → Prop} {a : Act} {w : World} {p u : Tmp} (h : fn.results = #[.cell p 26, .tmp u]) (g x y : Nat) (i : Bool) (v : Value) (hp : a.tmps.getD p undef = .pointer (some ⟨g, 0, none⟩)) (hy : a.tmps.getD u undef = v) (hk : Bk 26 w g (cs9 x y i)) (hd : a.defers = []) (hR : R (.returned (.tuple #[pn x y i, v])) w) : bodyPost Tryz.prog fn R .ret a w := by
  subst hy
  refine bodyPost_ret (v := .tuple #[pn x y i, a.tmps.getD u undef]) ?_ hd hR
  rw [results_cell_tmp h, hp]
  show ((loadVar 26 ⟨g, 0, none⟩).run Tryz.prog w).andThen _ = _
  rw [run_loadVar_row w g 26 26 (cs9 x y i) (0, 0) _ hk u51 rfl i51]
  rfl
theorem mp_lt (a : Nat) : a % mP < W256 := Nat.lt_trans (Nat.mod_lt _ (by decide +kernel)) (by decide +kernel)
set_option maxHeartbeats 16000000 in
theorem over_c (x y z f : Nat) (hx : x < W256) (hy : y < W256) (hz : z < W256) (hf : f < W256) (w : World) :
    Calls Tryz.prog 170 #[jn x y z, nv f] w fun e w' => e = .returned (jn (x * (f * f % mP) % mP) (y * ((f * f % mP) * f % mP) % mP) (z * f % mP)) ∧ Below w.heap.size w w' := by
  have H1 := Lib.hid (mul_c f f hf hf)
  have H2 := Lib.hid (mul_c x (f * f % mP) hx (mp_lt _))
  have H3 := Lib.hid (mul_c (f * f % mP) f (mp_lt _) hf)
  have H4 := Lib.hid (mul_c y ((f * f % mP) * f % mP) hy (mp_lt _))
  have H5 := Lib.hid (mul_c z f hz hf)
  clear hx hy hz hf
  generalize x * (f * f % mP) % mP = rx at *
  generalize y * ((f * f % mP) * f % mP) % mP = ry at *
  generalize (f * f % mP) * f % mP = cube at *
  generalize f * f % mP = sq at *
  generalize z * f % mP = rz at *
  simp only [jn, nv, num] at H1 H2 H3 H4 H5 ⊢
  go_enter Tryz.func170, Tryz.ntmps170
  go_wp2_with fail
  refine (keep w.heap.size w (H1.out _) (by go_grown) (Nat.le_refl _)).mono ?_
  rintro e w1 ⟨rfl, hb, hk⟩
  have KP : Hid (Bk 162 w1 w.heap.size #[.int .u64 (lb x 0 : Nat), .int .u64 (lb x 1 : Nat), .int .u64 (lb x 2 : Nat), .int .u64 (lb x 3 : Nat), .int .u64 (lb y 0 : Nat), .int .u64 (lb y 1 : Nat), .int .u64 (lb y 2 : Nat), .int .u64 (lb y 3 : Nat), .int .u64 (lb z 0 : Nat), .int .u64 (lb z 1 : Nat), .int .u64 (lb z 2 : Nat), .int .u64 (lb z 3 : Nat)]) := Lib.hid (Bk.below (Bk.alloc (Bk.alloc (Bk.new rfl))) hk)
  have KF : Hid (Bk 24 w1 (w.heap.size + 1) #[.int .u64 (lb f 0 : Nat), .int .u64 (lb f 1 : Nat), .int .u64 (lb f 2 : Nat), .int .u64 (lb f 3 : Nat)]) := Lib.hid (Bk.below (Bk.alloc (Bk.new (by simp))) hk)
  have KR : Hid (Bk 162 w1 (w.heap.size + 1 + 1) #[.int .u64 0, .int .u64 0, .int .u64 0, .int .u64 0, .int .u64 0, .int .u64 0, .int .u64 0, .int .u64 0, .int .u64 0, .int .u64 0, .int .u64 0, .int .u64 0]) := Lib.hid (Bk.below (Bk.new (by simp)) hk)
  have HB := Lib.hid hb
  clear hk hb H1
  go_wp2_with fail
  have KP1 : Hid (Bk 162 (w1.alloc (.cells #[.int .u64 (lb sq 0 : Nat), .int .u64 (lb sq 1 : Nat), .int .u64 (lb sq 2 : Nat), .int .u64 (lb sq 3 : Nat)] 24)) w.heap.size #[.int .u64 (lb x 0 : Nat), .int .u64 (lb x 1 : Nat), .int .u64 (lb x 2 : Nat), .int .u64 (lb x 3 : Nat), .int .u64 (lb y 0 : Nat), .int .u64 (lb y 1 : Nat), .int .u64 (lb y 2 : Nat), .int .u64 (lb y 3 : Nat), .int .u64 (lb z 0 : Nat), .int .u64 (lb z 1 : Nat), .int .u64 (lb z 2 : Nat), .int .u64 (lb z 3 : Nat)]) := Lib.hid (Bk.alloc KP.out)
  have KF1 : Hid (Bk 24 (w1.alloc (.cells #[.int .u64 (lb sq 0 : Nat), .int .u64 (lb sq 1 : Nat), .int .u64 (lb sq 2 : Nat), .int .u64 (lb sq 3 : Nat)] 24)) (w.heap.size + 1) #[.int .u64 (lb f 0 : Nat), .int .u64 (lb f 1 : Nat), .int .u64 (lb f 2 : Nat), .int .u64 (lb f 3 : Nat)]) := Lib.hid (Bk.alloc KF.out)
  have KR1 : Hid (Bk 162 (w1.alloc (.cells #[.int .u64 (lb sq 0 : Nat), .int .u64 (lb sq 1 : Nat), .int .u64 (lb sq 2 : Nat), .int .u64 (lb sq 3 : Nat)] 24)) (w.heap.size + 1 + 1) #[.int .u64 0, .int .u64 0, .int .u64 0, .int .u64 0, .int .u64 0, .int .u64 0, .int .u64 0, .int .u64 0, .int .u64 0, .int .u64 0, .int .u64 0, .int .u64 0]) := Lib.hid (Bk.alloc KR.out)
  have KS1 : Hid (Bk 24 (w1.alloc (.cells #[.int .u64 (lb sq 0 : Nat), .int .u64 (lb sq 1 : Nat), .int .u64 (lb sq 2 : Nat), .int .u64 (lb sq 3 : Nat)] 24)) w1.heap.size #[.int .u64 (lb sq 0 : Nat), .int .u64 (lb sq 1 : Nat), .int .u64 (lb sq 2 : Nat), .int .u64 (lb sq 3 : Nat)]) := Lib.hid (Bk.new rfl)
  have HB1 : Hid (Below w.heap.size w (w1.alloc (.cells #[.int .u64 (lb sq 0 : Nat), .int .u64 (lb sq 1 : Nat), .int .u64 (lb sq 2 : Nat), .int .u64 (lb sq 3 : Nat)] 24))) := Lib.hid (by have hb := HB.out; have hs := hb.size; go_grown)
  generalize (w1.alloc (.cells #[.int .u64 (lb sq 0 : Nat), .int .u64 (lb sq 1 : Nat), .int .u64 (lb sq 2 : Nat), .int .u64 (lb sq 3 : Nat)] 24)) = W at KP1 KF1 KR1 KS1 HB1 ⊢
  obtain ⟨gf, hgf⟩ : ∃ z, z = w.heap.size + 1 := ⟨_, rfl⟩
  obtain ⟨gr, hgr⟩ : ∃ z, z = w.heap.size + 1 + 1 := ⟨_, rfl⟩
  rw [← hgr] at KR1 ⊢
  rw [← hgf] at KF1 ⊢
  generalize w1.heap.size = gs at KS1 ⊢
  have HG := Lib.hid (show w.heap.size ≤ gr by omega)
  clear hgr hgf KP KF KR HB
  obtain ⟨⟨x0, x1, x2, x3⟩, ⟨y0, y1, y2, y3⟩, z0, z1, z2, z3⟩ := KP1.out.reg12
  obtain ⟨f0, f1, f2, f3⟩ := KF1.out.reg
  obtain ⟨s0, s1, s2, s3⟩ := KS1.out.reg
  refine wp_region_below_tail 15 mixed (by kernel_rfl) ?_
  simp only [List.take_succ_cons, List.take_zero, List.drop_succ_cons, List.drop_zero]
  iterate 3 go_big_quiet_step (fail)
  go_big_quiet_step (exact qg H2.out)
  iterate 4 go_big_quiet_step (fail)
  go_big_quiet_step (exact qg H3.out)
  go_big_quiet_step (exact qg H4.out)
  iterate 3 go_big_quiet_step (fail)
  go_big_quiet_step (exact qg H5.out)
  repeat (first | go_big_quiet_step (fail) | quiet_step (fail))
  refine wpQuiet_nil ?_
  intro _ hw'
  obtain ⟨⟨dq, osq⟩, hw''⟩ := hw'
  subst hw''
  have KR2 := Lib.hid (KR1.out.regrown dq osq)
  have HB2 := Lib.hid (HB1.out.trans ((below_regrown W dq osq).mono HB1.out.size))
  clear KP1 KF1 KR1 KS1 HB1 x0 x1 x2 x3 y0 y1 y2 y3 z0 z1 z2 z3 f0 f1 f2 f3 s0 s1 s2 s3 H2 H3 H4 H5
  generalize grow (redrawn W dq) osq = V at KR2 HB2 ⊢
  obtain ⟨⟨f0, f1, f2, f3⟩, ⟨f4, f5, f6, f7⟩, f8, f9, f10, f11⟩ := KR2.out.fros12
  obtain ⟨⟨c0, c1, c2, c3⟩, ⟨c4, c5, c6, c7⟩, c8, c9, c10, c11⟩ := KR2.out.cells12
  go_wp2_with fail
  refine ret_cell93 rfl gr rx ry rz rfl (Bk.put12 KR2.out) rfl ⟨rfl, ?_⟩
  have hb := HB2.out
  have hg := HG.out
  go_grown
end Go.Proofs.YtpggkfdijmnmiaaGreat
