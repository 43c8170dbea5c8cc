/- The numbers modulo P; the points of a curve are a group; P-256 has no point with Y 0; points under way stand for points. No condition but that the points are points of the curve. Multiples of points, and that the points are a group: the walks. No condition but that each number is below 2 to the 256. The reference's sums, differences and products modulo P, and which points there are (its On). No co -/
import Derived.Lib.Hide
import Derived.Test.YtpggkfdijmnmiaaGreatZup04
import Derived.Test.YtpggkfdijmnmiaaGreatZup07
set_option linter.unusedVariables false
set_option linter.unusedSimpArgs false
set_option maxRecDepth 100000
namespace Go.Proofs.YtpggkfdijmnmiaaGreat.Curve
def PP : Nat := 115792089210356248762697446949407573530086143415290314195533631308867097853951
theorem PP_prime : Primes.Prm PP := Primes.P256
theorem PP_pos : 0 < PP := by decide
instance : NeZero PP := ⟨by decide⟩
def c (n : Nat) : Fin PP := ⟨n % PP, Nat.mod_lt _ PP_pos⟩
theorem val_c (n : Nat) : (c n).val = n % PP := rfl
theorem c_val (x : Fin PP) : c x.val = x := Fin.ext (by rw [val_c, Nat.mod_eq_of_lt x.isLt])
theorem val_add (x y : Fin PP) : (x + y).val = (x.val + y.val) % PP := rfl
theorem val_mul (x y : Fin PP) : (x * y).val = x.val * y.val % PP := rfl
theorem c_eq {a b : Nat} : c a = c b ↔ a % PP = b % PP := ⟨fun h => congrArg Fin.val h, fun h => Fin.ext h⟩
theorem c_mod (a : Nat) : c (a % PP) = c a := c_eq.2 (Nat.mod_mod _ _)
theorem c_add (a b : Nat) : c (a + b) = c a + c b := Fin.ext (by rw [val_add, val_c, val_c, val_c, Nat.add_mod])
theorem c_mul (a b : Nat) : c (a * b) = c a * c b := Fin.ext (by rw [val_mul, val_c, val_c, val_c, Nat.mul_mod])
theorem c_one : c 1 = 1 := rfl
theorem c_three : c 3 = 3 := rfl
theorem neg_x {x y : Fin PP} (h : x + y = 0) : x = -y := by grobner
theorem c_opp (a : Nat) : c (PP - a % PP) = - c a := by
  refine neg_x ?_
  rw [← c_mod a, ← c_add, Nat.sub_add_cancel (Nat.le_of_lt (Nat.mod_lt _ PP_pos))]
  exact Fin.ext (by rw [val_c]; decide +kernel)
def inv (x : Fin PP) : Fin PP := c (x.val ^ (PP - 2) % PP)
theorem mul_inv (x : Fin PP) (h : x ≠ 0) : x * inv x = 1 := by
  have hv : x.val ≠ 0 := fun h0 => h (Fin.ext h0)
  have hd : ¬ PP ∣ x.val := fun hd => by
    have := Nat.le_of_dvd (Nat.pos_of_ne_zero hv) hd
    have := x.isLt
    omega
  have hf := Primes.fermat PP_prime hd
  apply Fin.ext
  rw [val_mul, inv, val_c, Nat.mod_mod, Nat.mul_mod, Nat.mod_mod, ← Nat.mul_mod, ← Nat.pow_succ', show (PP - 2).succ = PP - 1 by decide, hf]
  rfl
def np (x : Fin PP) : Nat → Fin PP
  | 0 => 1
  | n + 1 => np x n * x
theorem val_np (x : Fin PP) : ∀ n, (np x n).val = x.val ^ n % PP := by
  intro n
  induction n with
  | zero => rfl
  | succ n ih => rw [np, val_mul, ih, Nat.pow_succ, Nat.mod_mul_mod]
theorem np_PP (x : Fin PP) : np x PP = x := by
  apply Fin.ext
  rw [val_np, Primes.fermat_all PP_prime, Nat.mod_eq_of_lt x.isLt]
end Go.Proofs.YtpggkfdijmnmiaaGreat.Curve
set_option linter.unusedVariables false
namespace Go.Proofs.YtpggkfdijmnmiaaGreat.Curve
inductive Pt (K : Type) where
  | far : Pt K
  | aff : K → K → Pt K
section
variable {N : Nat} [NeZero N]
def On (a b : Fin N) : Pt (Fin N) → Prop
  | .far => True
  | .aff x y => y*y = x*x*x + a*x + b
def neg : Pt (Fin N) → Pt (Fin N)
  | .far => .far
  | .aff x y => .aff x (-y)
def Line (a b l n x1 x2 x3 : Fin N) : Prop := x1+x2+x3 = l*l ∧ x1*x2+x1*x3+x2*x3 = a - 2*l*n ∧ x1*x2*x3 = n*n - b
theorem Line.on1 {a b l n x1 x2 x3 : Fin N} (h : Line a b l n x1 x2 x3) : (l*x1+n)*(l*x1+n) = x1*x1*x1+a*x1+b := by
  obtain ⟨e1,e2,e3⟩ := h
  grobner
theorem line_of {a b l n x1 x2 x3 : Fin N} (h : (l*x1+n)*(l*x1+n) = x1*x1*x1+a*x1+b) (e1 : x1+x2+x3 = l*l) (e2 : x1*x2+x1*x3+x2*x3 = a - 2*l*n) : Line a b l n x1 x2 x3 := by
  refine ⟨e1, e2, ?_⟩
  grobner
theorem Line.swap {a b l n x1 x2 x3 : Fin N} (h : Line a b l n x1 x2 x3) : Line a b l n x2 x1 x3 := by
  obtain ⟨e1,e2,e3⟩ := h
  exact ⟨by clear e2 e3; grobner, by clear e1 e3; grobner, by clear e1 e2; grobner⟩
theorem Line.turn {a b l n x1 x2 x3 : Fin N} (h : Line a b l n x1 x2 x3) : Line a b l n x3 x1 x2 := by
  obtain ⟨e1,e2,e3⟩ := h
  exact ⟨by clear e2 e3; grobner, by clear e1 e3; grobner, by clear e1 e2; grobner⟩
theorem Line.opp {a b l n x1 x2 x3 : Fin N} (h : Line a b l n x1 x2 x3) : Line a b (-l) (-n) x1 x2 x3 := by
  obtain ⟨e1,e2,e3⟩ := h
  exact ⟨by clear e2 e3; grobner, by clear e1 e3; grobner, by clear e1 e2; grobner⟩
theorem canc {d e x y : Fin N} (h : d * e = 1) (hx : d * x = d * y) : x = y := by grobner
theorem sub3 {p q u l : Fin N} (e1 : p+q+u = l*l) : p = l*l - q - u := by grobner
theorem subv {r q v m : Fin N} (e1 : r+q+v = m*m) : v = m*m - r - q := by grobner
theorem subn {n l q m k : Fin N} (hq : l*q+n = m*q+k) : n = m*q+k-l*q := by grobner
theorem suba {a r q v m k : Fin N} (f2 : r*q+r*v+q*v = a - 2*m*k) : a = r*q+r*v+q*v + 2*m*k := by grobner
theorem h1x {q u r l m k s : Fin N} (hs : (l - m) * s = l*m - q - r - u)
   (e2 : (l*l - q - u) * q + (l*l - q - u) * u + q * u = r * q + r * (m*m - r - q) + q * (m*m - r - q) + 2 * m * k - 2 * l * (m*q+k-l*q)) : (l - m) * (s*u + ((m*r+k) - s*r)) = (l - m) * (-(l*u+(m*q+k-l*q))) := by grobner
theorem h2x {q u r l m k s : Fin N} (hs : (l - m) * s = l*m - q - r - u)
   (e2 : (l*l - q - u) * q + (l*l - q - u) * u + q * u = r * q + r * (m*m - r - q) + q * (m*m - r - q) + 2 * m * k - 2 * l * (m*q+k-l*q)) : (l - m) * ((l - m) * (r * u + r * (s * s - r - u) + u * (s * s - r - u))) = (l - m) * ((l - m) * (r * q + r * (m*m - r - q) + q * (m*m - r - q) + 2 * m * k - 2 * s * (m * r + k - s * r))) := by grobner
theorem h3x {q u r l m k s : Fin N} (hs : (l - m) * s = l*m - q - r - u)
   (e2 : (l*l - q - u) * q + (l*l - q - u) * u + q * u = r * q + r * (m*m - r - q) + q * (m*m - r - q) + 2 * m * k - 2 * l * (m*q+k-l*q)) : (l - m) * ((s + (l - m))*(m*m - r - q) + ((l*(l*l - q - u)+(m*q+k-l*q)) - (s + (l - m))*(l*l - q - u))) = (l - m) * (-(m*(m*m - r - q)+k)) := by grobner
theorem h4x {q u r l m k s : Fin N} (hs : (l - m) * s = l*m - q - r - u)
   (e2 : (l*l - q - u) * q + (l*l - q - u) * u + q * u = r * q + r * (m*m - r - q) + q * (m*m - r - q) + 2 * m * k - 2 * l * (m*q+k-l*q)) : (l - m) * ((s + (l - m))*(s * s - r - u) + ((l*(l*l - q - u)+(m*q+k-l*q)) - (s + (l - m))*(l*l - q - u))) = (l - m) * (s*(s * s - r - u) + ((m*r+k) - s*r)) := by grobner
theorem h5x {q u r l m k s : Fin N} (hs : (l - m) * s = l*m - q - r - u)
   (e2 : (l*l - q - u) * q + (l*l - q - u) * u + q * u = r * q + r * (m*m - r - q) + q * (m*m - r - q) + 2 * m * k - 2 * l * (m*q+k-l*q)) : (l - m) * ((l - m) * ((l*l - q - u)*(m*m - r - q) + (l*l - q - u) * (s * s - r - u) + (m*m - r - q) * (s * s - r - u))) = (l - m) * ((l - m) * (r * q + r * (m*m - r - q) + q * (m*m - r - q) + 2 * m * k - 2 * (s + (l - m)) * ((l*(l*l - q - u)+(m*q+k-l*q)) - (s + (l - m))*(l*l - q - u)))) := by grobner
theorem h6x {q u r l m s : Fin N} (hs : (l - m) * s = l*m - q - r - u) : (l*l - q - u) + (m*m - r - q) + (s * s - r - u) = (s + (l - m))*(s + (l - m)) := by grobner
theorem e2x {q u r l m k n v p a : Fin N} (e2 : p*q+p*u+q*u = a - 2*l*n) (f2 : r*q+r*v+q*v = a - 2*m*k) : p*q+p*u+q*u = r*q+r*v+q*v + 2*m*k - 2*l*n := by grobner
theorem k1x {r u s : Fin N} : r + u + (s*s - r - u) = s*s := by grobner
theorem k2x {m r k s : Fin N} : s*r + (m*r+k - s*r) = m*r+k := by grobner
theorem t2 {a b p q u r v l m n k s w e' : Fin N} (hd0 : (l - m) * e' = 1) (hq : l*q+n = m*q+k)
  (e : Line a b l n p q u) (f : Line a b m k r q v)
  (hs : (l - m) * s = l*m - q - r - u) (hw : w = s*s - r - u) :
  (Line a b s ((m*r+k) - s*r) r u w ∧ s*u + ((m*r+k) - s*r) = -(l*u+n)) ∧
  Line a b (s+(l - m)) ((l*p+n) - (s+(l - m))*p) p v w ∧ (s+(l - m))*v + ((l*p+n) - (s+(l - m))*p) = -(m*v+k) ∧ (s+(l - m))*w + ((l*p+n) - (s+(l - m))*p) = s*w + ((m*r+k) - s*r) := by
  have hR := f.on1
  have hP := e.on1
  obtain ⟨e1,e2,e3⟩ := e
  obtain ⟨f1,f2,f3⟩ := f
  have e2' := e2x e2 f2
  have hv := subv f1
  have hp := sub3 e1
  have hn := subn hq
  have ha := suba f2
  rw [hv, hp, hn] at e2'
  refine ⟨⟨line_of (by rw [k2x]; exact hR) (by rw [hw, k1x]) ?_, ?_⟩, line_of (by rw [k2x]; exact hP) (by rw [hw, hv, hp]; exact h6x hs) ?_, ?_, ?_⟩
  · rw [ha, hw, hv]; exact canc hd0 (canc hd0 (h2x hs e2'))
  · rw [hn]; exact canc hd0 (h1x hs e2')
  · rw [ha, hw, hv, hp, hn]; exact canc hd0 (canc hd0 (h5x hs e2'))
  · rw [hv, hp, hn]; exact canc hd0 (h3x hs e2')
  · rw [hw, hp, hn]; exact canc hd0 (h4x hs e2')
def slope (iv : Fin N → Fin N) (a x1 y1 x2 y2 : Fin N) : Fin N := if x1 = x2 then (3*(x1*x1) + a)*iv (y1+y1) else (y2-y1)*iv (x2-x1)
def sum (iv : Fin N → Fin N) (a : Fin N) : Pt (Fin N) → Pt (Fin N) → Pt (Fin N)
  | .far, q => q
  | .aff x1 y1, .far => .aff x1 y1
  | .aff x1 y1, .aff x2 y2 =>
    if x1 = x2 ∧ y1 = -y2 then .far
    else .aff (slope iv a x1 y1 x2 y2 * slope iv a x1 y1 x2 y2 - x1 - x2) (slope iv a x1 y1 x2 y2 * (x1 - (slope iv a x1 y1 x2 y2 * slope iv a x1 y1 x2 y2 - x1 - x2)) - y1)
variable {iv : Fin N → Fin N}
structure Fit (iv : Fin N → Fin N) (a b : Fin N) : Prop where
  inv : ∀ x : Fin N, x ≠ 0 → x * iv x = 1
  two : (2 : Fin N) ≠ 0
  odd : ∀ x : Fin N, x*x*x + a*x + b ≠ 0
theorem zero_of {x y e : Fin N} (h : x * y = 0) (he : x * e = 1) : y = 0 := by grobner
theorem Fit.mul_zero {a b : Fin N} (H : Fit iv a b) {x y : Fin N} (h : x * y = 0) : x = 0 ∨ y = 0 := by
  by_cases hx : x = 0
  · exact Or.inl hx
  · exact Or.inr (zero_of h (H.inv x hx))
theorem y0x {x a b : Fin N} (h : (0 : Fin N)*0 = x*x*x+a*x+b) : x*x*x+a*x+b = 0 := by grobner
theorem two_x {y : Fin N} (h : y + y = 0) : 2 * y = 0 := by grobner
theorem Fit.y {a b : Fin N} (H : Fit iv a b) {x y : Fin N} (h : y*y = x*x*x+a*x+b) : y ≠ 0 := by
  rintro rfl
  exact H.odd x (y0x h)
theorem Fit.yy {a b : Fin N} (H : Fit iv a b) {x y : Fin N} (h : y*y = x*x*x+a*x+b) : y + y ≠ 0 := by
  intro h2
  rcases H.mul_zero (x := 2) (y := y) (two_x h2) with h3 | h3
  · exact H.two h3
  · exact H.y h h3
theorem sq_x {y1 y2 z : Fin N} (h1 : y1*y1 = z) (h2 : y2*y2 = z) : (y1 - y2) * (y1 + y2) = 0 := by grobner
theorem eq_of_sub {x y : Fin N} (h : x - y = 0) : x = y := by grobner
theorem sub_of_ne {x y : Fin N} (h : x ≠ y) : y - x ≠ 0 := fun h0 => h (eq_of_sub h0).symm
theorem neg_of_add {x y : Fin N} (h : x + y = 0) : x = -y := by grobner
theorem same_y {a b : Fin N} (H : Fit iv a b) {x y1 y2 : Fin N} (h1 : y1*y1 = x*x*x+a*x+b) (h2 : y2*y2 = x*x*x+a*x+b) (hn : ¬ (x = x ∧ y1 = -y2)) : y1 = y2 := by
  rcases H.mul_zero (sq_x h1 h2) with h | h
  · exact eq_of_sub h
  · exact absurd ⟨rfl, neg_of_add h⟩ hn
theorem tan_s {x y a i : Fin N} (h0 : (y+y) * i = 1) : (3*(x*x) + a) * i * (y+y) = 3*(x*x)+a := by grobner
theorem cho_s {x1 x2 y1 y2 i : Fin N} (h0 : (x2-x1) * i = 1) : (y2-y1) * i * (x2-x1) = y2-y1 := by grobner
theorem tan_l {x y a b s : Fin N} (h : y*y = x*x*x+a*x+b) (hs : s * (y+y) = 3*(x*x)+a) : x*x + x*(s*s - x - x) + x*(s*s - x - x) = a - 2*s*(y - s*x) := by grobner
theorem cho_l {x1 x2 y1 y2 a b s e : Fin N} (h1 : y1*y1 = x1*x1*x1+a*x1+b) (h2 : y2*y2 = x2*x2*x2+a*x2+b) (hs : s * (x2-x1) = y2-y1) : (x2-x1)*(x1*x2 + x1*(s*s - x1 - x2) + x2*(s*s - x1 - x2)) = (x2-x1)*(a - 2*s*(y1 - s*x1)) := by grobner
theorem cho_y {x1 x2 y1 y2 s : Fin N} (hs : s * (x2-x1) = y2-y1) : y2 = s*x2+(y1 - s*x1) := by grobner
theorem on_x {x y s : Fin N} : s*x + (y - s*x) = y := by grobner
theorem sum_x {x1 x2 s : Fin N} : x1 + x2 + (s*s - x1 - x2) = s*s := by grobner
theorem line_ex {a b : Fin N} (H : Fit iv a b) {x1 y1 x2 y2 : Fin N} (h1 : y1*y1 = x1*x1*x1 + a*x1 + b) (h2 : y2*y2 = x2*x2*x2 + a*x2 + b) (hn : ¬ (x1 = x2 ∧ y1 = -y2)) :
    ∃ s n x, Line a b s n x1 x2 x ∧ y1 = s*x1+n ∧ y2 = s*x2+n := by
  refine ⟨slope iv a x1 y1 x2 y2, y1 - slope iv a x1 y1 x2 y2 * x1, slope iv a x1 y1 x2 y2 * slope iv a x1 y1 x2 y2 - x1 - x2, ?_⟩
  by_cases hx : x1 = x2
  · subst hx
    obtain rfl := same_y H h1 h2 hn
    have hs : slope iv a x1 y1 x1 y1 * (y1 + y1) = 3*(x1*x1)+a := by
      unfold slope
      rw [if_pos rfl]
      exact tan_s (H.inv _ (H.yy h1))
    generalize slope iv a x1 y1 x1 y1 = s at hs ⊢
    exact ⟨line_of (by rw [on_x]; exact h1) sum_x (tan_l h1 hs), on_x.symm, on_x.symm⟩
  · have hi := H.inv _ (sub_of_ne hx)
    have hs : slope iv a x1 y1 x2 y2 * (x2 - x1) = y2 - y1 := by
      unfold slope
      rw [if_neg hx]
      exact cho_s hi
    generalize slope iv a x1 y1 x2 y2 = s at hs ⊢
    exact ⟨line_of (by rw [on_x]; exact h1) sum_x (canc hi (cho_l (e := 0) h1 h2 hs)), on_x.symm, cho_y hs⟩
theorem opp_x {l n x : Fin N} (h : l*x+n = -(l*x+n)) : (l*x+n) + (l*x+n) = 0 := by grobner
theorem tan_u {a b l n x x3 : Fin N} (e1 : x+x+x3 = l*l) (e2 : x*x+x*x3+x*x3 = a - 2*l*n) : ((l*x+n)+(l*x+n)) * l = 3*(x*x)+a := by grobner
theorem cho_u {l n x1 x2 : Fin N} : (x2 - x1) * l = (l*x2+n) - (l*x1+n) := by grobner
theorem iv_l {d e l z : Fin N} (h0 : d * e = 1) (h : d * l = z) : z * e = l := by grobner
theorem third_x {x1 x2 x3 l : Fin N} (e1 : x1+x2+x3 = l*l) : l*l - x1 - x2 = x3 := by grobner
theorem third_y {x1 x3 l n : Fin N} : l*(x1 - x3) - (l*x1+n) = -(l*x3+n) := by grobner
theorem sum_line {a b : Fin N} (H : Fit iv a b) {l n x1 x2 x3 : Fin N} (h : Line a b l n x1 x2 x3) :
    sum iv a (.aff x1 (l*x1+n)) (.aff x2 (l*x2+n)) = .aff x3 (-(l*x3+n)) := by
  have o1 := h.on1
  have hn : ¬ (x1 = x2 ∧ l*x1+n = -(l*x2+n)) := by
    rintro ⟨rfl, h2⟩
    exact H.yy o1 (opp_x h2)
  have hs : slope iv a x1 (l*x1+n) x2 (l*x2+n) = l := by
    unfold slope
    by_cases hx : x1 = x2
    · subst hx
      rw [if_pos rfl]
      exact iv_l (H.inv _ (H.yy o1)) (tan_u (b := b) h.1 h.2.1)
    · rw [if_neg hx]
      exact iv_l (H.inv _ (sub_of_ne hx)) cho_u
  simp only [sum]
  rw [if_neg hn, hs, third_x h.1, third_y]
theorem neg2 (y : Fin N) : - -y = y := by grobner
theorem on_neg {a b : Fin N} {p : Pt (Fin N)} (h : On a b p) : On a b (neg p) := by
  cases p
  · trivial
  · rename_i x y
    have : -y * -y = y * y := by grobner
    simp only [On, neg] at h ⊢
    rw [this]; exact h
theorem neg_neg (p : Pt (Fin N)) : neg (neg p) = p := by
  cases p
  · rfl
  · simp only [neg, neg2]
theorem sum_far (iv : Fin N → Fin N) (a : Fin N) (p : Pt (Fin N)) : sum iv a p .far = p := by cases p <;> rfl
theorem far_sum (iv : Fin N → Fin N) (a : Fin N) (p : Pt (Fin N)) : sum iv a .far p = p := by cases p <;> rfl
theorem sum_neg (iv : Fin N → Fin N) (a : Fin N) (p : Pt (Fin N)) : sum iv a p (neg p) = .far := by
  cases p
  · rfl
  · simp only [neg, sum]
    rw [if_pos (by rw [neg2]; trivial)]
theorem neg_sum (iv : Fin N → Fin N) (a : Fin N) (p : Pt (Fin N)) : sum iv a (neg p) p = .far := by
  have := sum_neg iv a (neg p)
  rwa [neg_neg] at this
theorem two_points {a b : Fin N} (H : Fit iv a b) {p q : Pt (Fin N)} (hp : On a b p) (hq : On a b q) :
    p = .far ∨ q = .far ∨ q = neg p ∨ ∃ l n x1 x2 x3, Line a b l n x1 x2 x3 ∧ p = .aff x1 (l*x1+n) ∧ q = .aff x2 (l*x2+n) ∧ sum iv a p q = .aff x3 (-(l*x3+n)) := by
  cases p with
  | far => exact Or.inl rfl
  | aff x1 y1 =>
    cases q with
    | far => exact Or.inr (Or.inl rfl)
    | aff x2 y2 =>
      by_cases h : x1 = x2 ∧ y1 = -y2
      · refine Or.inr (Or.inr (Or.inl ?_))
        obtain ⟨rfl, rfl⟩ := h
        exact (neg_neg _).symm
      · obtain ⟨s, n, x, hl, e1, e2⟩ := line_ex H hp hq h
        refine Or.inr (Or.inr (Or.inr ⟨s, n, x1, x2, x, hl, ?_, ?_, ?_⟩))
        · rw [← e1]
        · rw [← e2]
        · rw [e1, e2]; exact sum_line H hl
theorem sum_comm {a b : Fin N} (H : Fit iv a b) {p q : Pt (Fin N)} (hp : On a b p) (hq : On a b q) : sum iv a p q = sum iv a q p := by
  rcases two_points H hp hq with rfl | rfl | rfl | ⟨l, n, x1, x2, x3, hl, rfl, rfl, hs⟩
  · rw [sum_far, far_sum]
  · rw [sum_far, far_sum]
  · rw [sum_neg, neg_sum]
  · rw [hs, sum_line H hl.swap]
theorem negsq {y z : Fin N} (h : y * y = z) : -y * -y = z := by grobner
theorem on_sum {a b : Fin N} (H : Fit iv a b) {p q : Pt (Fin N)} (hp : On a b p) (hq : On a b q) : On a b (sum iv a p q) := by
  rcases two_points H hp hq with rfl | rfl | rfl | ⟨l, n, x1, x2, x3, hl, rfl, rfl, hs⟩
  · rwa [far_sum]
  · rwa [sum_far]
  · rw [sum_neg]; trivial
  · rw [hs]
    exact negsq hl.turn.on1
theorem opp1 (l n x : Fin N) : -l*x + -n = -(l*x+n) := by grobner
theorem sum_back {a b : Fin N} (H : Fit iv a b) {p q : Pt (Fin N)} (hp : On a b p) (hq : On a b q) : sum iv a (neg p) (sum iv a p q) = q := by
  rcases two_points H hp hq with rfl | rfl | rfl | ⟨l, n, x1, x2, x3, hl, rfl, rfl, hs⟩
  · rw [far_sum]; exact far_sum _ _ _
  · rw [sum_far, neg_sum]
  · rw [sum_neg, sum_far]
  · rw [hs]
    have h := sum_line H (hl.turn.swap.opp)
    rw [opp1, opp1, opp1, neg2] at h
    exact h
theorem same_n {l q n k : Fin N} (h : l*q+n = l*q+k) : n = k := by grobner
theorem same_z {x1 x2 u x3 v l n a : Fin N} (e1 : x1+x2+u = l*l) (f1 : x2+x3+v = l*l) (e2 : x1*x2+x1*u+x2*u = a - 2*l*n) (f2 : x2*x3+x2*v+x3*v = a - 2*l*n) : (x1 - x3) * (x1 - v) = 0 := by grobner
theorem same_u {x1 x2 u v l : Fin N} (e1 : x1+x2+u = l*l) (f1 : x2+x1+v = l*l) : u = v := by grobner
theorem same_v {x1 x2 u x3 l : Fin N} (e1 : x1+x2+u = l*l) (f1 : x2+x3+x1 = l*l) : u = x3 := by grobner
theorem mul_iv {d i z : Fin N} (h : d * i = 1) : d * (z * i) = z := by grobner
theorem sum_assoc {a b : Fin N} (H : Fit iv a b) {p q r : Pt (Fin N)} (hp : On a b p) (hq : On a b q) (hr : On a b r) :
    sum iv a (sum iv a p q) r = sum iv a p (sum iv a q r) := by
  rcases two_points H hp hq with rfl | rfl | rfl | ⟨l, n, x1, x2, u, hl, rfl, hq2, hs⟩
  · rw [far_sum, far_sum]
  · rw [sum_far, far_sum]
  · rw [sum_neg, far_sum]
    have := sum_back H (on_neg hp) hr
    rw [neg_neg] at this
    exact this.symm
  · rcases two_points H hq hr with rfl | rfl | rfl | ⟨m, k, q', x3, v, hm, hq3, rfl, ht⟩
    · cases hq2
    · rw [sum_far, sum_far]
    · rw [sum_neg, sum_far, sum_comm H hp hq]
      have h1 := sum_back H hq hp
      rw [sum_comm H (on_sum H hq hp) (on_neg hq), h1]
    · rw [hs, ht]
      rw [hq2] at hq3
      injection hq3 with h1 h2
      subst h1
      by_cases hd : l - m = 0
      · obtain rfl := eq_of_sub hd
        obtain rfl := same_n h2
        have hP := hl
        obtain ⟨e1, e2, e3⟩ := hl
        obtain ⟨f1, f2, f3⟩ := hm
        rcases H.mul_zero (same_z e1 f1 e2 f2) with hz | hz
        · obtain rfl := eq_of_sub hz
          obtain rfl := same_u e1 f1
          exact sum_comm H (p := .aff u (-(l*u+n))) (q := .aff x1 (l*x1+n)) (a := a) (b := b) (negsq hP.turn.on1) hP.on1
        · obtain rfl := eq_of_sub hz
          obtain rfl := same_v e1 f1
          have h1 := neg_sum iv a (.aff u (l*u+n))
          have h2 := sum_neg iv a (.aff x1 (l*x1+n))
          simp only [neg] at h1 h2
          rw [h1, h2]
      · have hi := H.inv _ hd
        have hs' := mul_iv (z := l*m - x2 - x3 - u) hi
        obtain ⟨⟨g1, g2⟩, g3, g4, g5⟩ := t2 hi h2 hl hm.swap hs' rfl
        have j1 := sum_line H g1.swap
        have j2 := sum_line H g3
        rw [g2, k2x] at j1
        rw [g4, g5, k2x] at j2
        rw [j1, j2]
end
end Go.Proofs.YtpggkfdijmnmiaaGreat.Curve
set_option linter.unusedVariables false
namespace Go.Proofs.YtpggkfdijmnmiaaGreat.Curve
def BB : Nat := 41058363725152142129326129780047268409114441015993725554835256314039467401291
def aP : Fin PP := -3
def bP : Fin PP := c BB
theorem two_ne : (2 : Fin PP) ≠ 0 := by intro h; have := congrArg Fin.val h; revert this; decide +kernel
structure Tri where
  o : Nat
  l : Nat
  q : Nat
deriving DecidableEq
def NB : Nat := 74733725485204106633371317169360305120971702399296588640698374994827630452660
theorem c_NB : c NB = -bP := by
  refine neg_x ?_
  unfold bP
  rw [← c_add]
  exact Fin.ext (by rw [val_c]; decide +kernel)
def mulT (u v : Tri) : Tri :=
  ⟨(u.o*v.o + NB*(u.l*v.q+u.q*v.l)) % PP, (u.o*v.l+u.l*v.o + 3*(u.l*v.q+u.q*v.l) + NB*(u.q*v.q)) % PP, (u.o*v.q+u.l*v.l+u.q*v.o + 3*(u.q*v.q)) % PP⟩
def ev (r : Fin PP) (t : Tri) : Fin PP := c t.o + c t.l * r + c t.q * (r * r)
theorem ev_x0 {r a b u0 u1 u2 v0 v1 v2 : Fin PP} (h : r*r*r + a*r + b = 0) (ha : a = -3) :
    (u0*v0 + -b*(u1*v2+u2*v1)) + (u0*v1+u1*v0 + 3*(u1*v2+u2*v1) + -b*(u2*v2)) * r + (u0*v2+u1*v1+u2*v0 + 3*(u2*v2)) * (r*r) = (u0+u1*r+u2*(r*r))*(v0+v1*r+v2*(r*r)) := by grobner
theorem ev_mul {r : Fin PP} (h : r*r*r + aP*r + bP = 0) (u v : Tri) : ev r (mulT u v) = ev r u * ev r v := by
  unfold ev mulT
  simp only [c_mod, c_add, c_mul, c_NB, c_three]
  exact ev_x0 h rfl
def powT : Nat → Nat → Tri
  | 0, _ => ⟨1, 0, 0⟩
  | f + 1, e => if e % 2 = 1 then mulT (mulT (powT f (e / 2)) (powT f (e / 2))) ⟨0, 1, 0⟩ else mulT (powT f (e / 2)) (powT f (e / 2))
theorem one_y {r o z : Fin PP} (hz : z = 0) : o + z * r + z * (r * r) = o := by grobner
theorem x_y {r o z : Fin PP} (hz : z = 0) (ho : o = 1) : z + o * r + z * (r * r) = r := by grobner
theorem ev_one (r : Fin PP) : ev r ⟨1, 0, 0⟩ = 1 := one_y (o := 1) rfl
theorem ev_x (r : Fin PP) : ev r ⟨0, 1, 0⟩ = r := x_y (z := 0) (o := 1) rfl rfl
theorem np_step (r : Fin PP) (n : Nat) : np r (n + 1) = np r n * r := rfl
theorem mul_one_x (x : Fin PP) : x * 1 = x := by grobner
theorem mul_ass_x (x y z : Fin PP) : x * (y * z) = x * y * z := by grobner
theorem np_add (r : Fin PP) (m n : Nat) : np r (m + n) = np r m * np r n := by
  induction n with
  | zero => exact (mul_one_x _).symm
  | succ n ih => rw [← Nat.add_assoc, np_step, ih, np_step, mul_ass_x]
theorem ev_pow {r : Fin PP} (h : r*r*r + aP*r + bP = 0) : ∀ f e, e < 2 ^ f → ev r (powT f e) = np r e := by
  intro f
  induction f with
  | zero =>
    intro e he
    obtain rfl : e = 0 := by omega
    exact ev_one r
  | succ f ih =>
    intro e he
    have h2 : e / 2 < 2 ^ f := by rw [Nat.pow_succ] at he; omega
    have hi := ih _ h2
    unfold powT
    by_cases ho : e % 2 = 1
    · rw [if_pos ho, ev_mul h, ev_mul h, hi, ev_x, ← np_add, ← np_step]
      congr 1; omega
    · rw [if_neg ho, ev_mul h, hi, ← np_add]
      congr 1; omega
theorem powT_PP : powT 256 PP = ⟨66434390973925144466073271287821796038003695194169110494110089305650096453661, 12402202686218762177567235911775779164004716598278868847786114277539554646092, 24678849118215552148312087830792888746041224110560601850711771001608500700145⟩ := by decide +kernel
theorem bez : mulT ⟨76626890310466861426869089647039036757962535851890885406097439786770458211455, 74462945259064871768191128030512052509059297803194871526163573358218695456204, 34768139465301476436978405170953382516735956999154666452188405812258086013549⟩ ⟨66434390973925144466073271287821796038003695194169110494110089305650096453661, 12402202686218762177567235911775779164004716598278868847786114277539554646091, 24678849118215552148312087830792888746041224110560601850711771001608500700145⟩ = ⟨1, 0, 0⟩ := by decide +kernel
theorem h2_x {r g0 g1 g2 : Fin PP} (h : g0 + (g1 + 1) * r + g2 * (r*r) = r) : g0 + g1 * r + g2 * (r*r) = 0 := by grobner
theorem mul_zero_x (x : Fin PP) : x * 0 = 0 := by grobner
theorem no_root (r : Fin PP) : r*r*r + aP*r + bP ≠ 0 := by
  intro h
  have h1 := ev_pow h 256 PP (by decide +kernel)
  rw [np_PP, powT_PP] at h1
  have h2 : ev r ⟨66434390973925144466073271287821796038003695194169110494110089305650096453661, 12402202686218762177567235911775779164004716598278868847786114277539554646091, 24678849118215552148312087830792888746041224110560601850711771001608500700145⟩ = 0 := by
    have h3 : (12402202686218762177567235911775779164004716598278868847786114277539554646092 : Nat) = 12402202686218762177567235911775779164004716598278868847786114277539554646091 + 1 := by decide +kernel
    rw [h3] at h1
    unfold ev at h1 ⊢
    simp only [c_add, c_one] at h1 ⊢
    exact h2_x h1
  have h4 := ev_mul h ⟨76626890310466861426869089647039036757962535851890885406097439786770458211455, 74462945259064871768191128030512052509059297803194871526163573358218695456204, 34768139465301476436978405170953382516735956999154666452188405812258086013549⟩ ⟨66434390973925144466073271287821796038003695194169110494110089305650096453661, 12402202686218762177567235911775779164004716598278868847786114277539554646091, 24678849118215552148312087830792888746041224110560601850711771001608500700145⟩
  rw [bez, ev_one, h2, mul_zero_x] at h4
  have := congrArg Fin.val h4
  revert this
  decide +kernel
theorem fit : Fit inv aP bP := ⟨mul_inv, two_ne, no_root⟩
end Go.Proofs.YtpggkfdijmnmiaaGreat.Curve
set_option linter.unusedVariables false
set_option linter.unusedSimpArgs false
set_option maxRecDepth 100000
namespace Go.Proofs.YtpggkfdijmnmiaaGreat
open Curve
theorem mPP : mP = PP := rfl
theorem c_mj (a b : Nat) : c (mj a b) = c a * c b := by unfold mj; rw [mPP, c_mod, c_mul]
theorem c_aj (a b : Nat) : c (aj a b) = c a + c b := by unfold aj; rw [mPP, c_mod, c_add]
theorem sub_x (x y : Fin PP) : x + -y = x - y := by grobner
theorem c_sj (a b : Nat) : c (sj a b) = c a - c b := by unfold sj; rw [mPP, c_mod, c_add, c_opp, sub_x]
theorem three_x (x : Fin PP) : x + x + x = 3 * x := by grobner
theorem c_tj (a : Nat) : c (tj a) = 3 * c a := by unfold tj; rw [c_aj, c_aj, three_x]
theorem c_iN (z : Nat) : c (iN z) = inv (c z) := by
  unfold iN inv
  rw [mPP]
  apply c_eq.2
  rw [val_c, Nat.mod_mod, Nat.mod_mod, ← Nat.pow_mod]
theorem c_inj {a b : Nat} (ha : a < mP) (hb : b < mP) (h : c a = c b) : a = b := by
  have := c_eq.1 h
  rwa [← mPP, Nat.mod_eq_of_lt ha, Nat.mod_eq_of_lt hb] at this
theorem mj_p (a b : Nat) : mj a b < mP := Nat.mod_lt _ (by decide +kernel)
theorem aj_p (a b : Nat) : aj a b < mP := Nat.mod_lt _ (by decide +kernel)
theorem sj_p (a b : Nat) : sj a b < mP := Nat.mod_lt _ (by decide +kernel)
def J.lt (p : J) : Prop := p.x < mP ∧ p.y < mP ∧ p.z < mP
theorem J.lt.ok {p : J} (h : p.lt) : p.ok := ⟨Nat.lt_trans h.1 (by decide +kernel), Nat.lt_trans h.2.1 (by decide +kernel), Nat.lt_trans h.2.2 (by decide +kernel)⟩
theorem J.over_p (p : J) (f : Nat) : (p.over f).lt := ⟨mj_p _ _, mj_p _ _, mj_p _ _⟩
theorem J.along_p (p : J) (r o : Nat) (h : p.z < mP) : (p.along r o).lt := ⟨sj_p _ _, sj_p _ _, h⟩
def Near (p : J) (i X Y : Fin PP) : Prop := p.lt ∧ c p.z * i = 1 ∧ X = c p.x * (i * i) ∧ Y = c p.y * (i * i * i)
def Rep (p : J) (P : Pt (Fin PP)) : Prop := (p = J.far ∧ P = .far) ∨ ∃ i X Y, Near p i X Y ∧ P = .aff X Y
theorem one_ne : (1 : Fin PP) ≠ 0 := by intro h; have := congrArg Fin.val h; revert this; decide +kernel
theorem zero_mul_x (x : Fin PP) : 0 * x = 0 := by grobner
theorem Near.ne {p : J} {i X Y : Fin PP} (h : Near p i X Y) : p ≠ J.far := by
  rintro rfl
  have := h.2.1
  rw [show c J.far.z = 0 from rfl, zero_mul_x] at this
  exact one_ne this.symm
theorem over_z {z f i j : Fin PP} (h : z * i = 1) (hf : f * j = 1) : z * f * (i * j) = 1 := by grobner
theorem over_xx {x i f j : Fin PP} (hf : f * j = 1) : x * (f * f) * (i * j * (i * j)) = x * (i * i) := by grobner
theorem over_yy {y i f j : Fin PP} (hf : f * j = 1) : y * (f * f * f) * (i * j * (i * j) * (i * j)) = y * (i * i * i) := by grobner
theorem Near.over {p : J} {i X Y j : Fin PP} {f : Nat} (h : Near p i X Y) (hf : c f * j = 1) : Near (p.over f) (i * j) X Y := by
  obtain ⟨_, hz, hx, hy⟩ := h
  refine ⟨J.over_p _ _, ?_, ?_, ?_⟩
  · show c (mj p.z f) * (i * j) = 1
    rw [c_mj]; exact over_z hz hf
  · show X = c (mj p.x (mj f f)) * (i * j * (i * j))
    rw [c_mj, c_mj, over_xx hf]; exact hx
  · show Y = c (mj p.y (mj (mj f f) f)) * (i * j * (i * j) * (i * j))
    rw [c_mj, c_mj, c_mj, over_yy hf]; exact hy
theorem al_x {r x o i s X O : Fin PP} (hs : s = r * i) (hX : X = x * (i * i)) (hO : O = o * (i * i)) : (r * r - x - o) * (i * i) = s * s - X - O := by grobner
theorem al_y {r x y z i s X Y W : Fin PP} (hs : s = r * i) (hX : X = x * (i * i)) (hY : Y = y * (i * i * i)) (hW : W = z * (i * i)) : (r * (x - z) - y) * (i * i * i) = s * (X - W) - Y := by grobner
theorem Near.along {p : J} {i X Y s O : Fin PP} {r o : Nat} (h : Near p i X Y) (hs : s = c r * i) (hO : O = c o * (i * i)) :
    Near (p.along r o) i (s * s - X - O) (s * (X - (s * s - X - O)) - Y) := by
  obtain ⟨hp, hz, hx, hy⟩ := h
  refine ⟨J.along_p _ _ _ hp.2.2, hz, ?_, ?_⟩
  · show s * s - X - O = c (sj (sj (mj r r) p.x) o) * (i * i)
    rw [c_sj, c_sj, c_mj]
    exact (al_x hs hx hO).symm
  · show s * (X - (s * s - X - O)) - Y = c (sj (mj r (sj p.x (sj (sj (mj r r) p.x) o))) p.y) * (i * i * i)
    rw [c_sj, c_mj, c_sj, c_sj, c_sj, c_mj]
    exact (al_y hs hx hy (al_x hs hx hO).symm).symm
theorem iv_one {d a b : Fin PP} (h1 : d * a = 1) (h2 : d * b = 1) : a = b := by grobner
theorem dbl_s {x y z i j : Fin PP} (hz : z * i = 1) (hj : (y + y) * j = 1) : (y * (i * i * i) + y * (i * i * i)) * (3 * ((x - z * z) * (x + z * z)) * (i * j)) = 3 * (x * (i * i) * (x * (i * i))) + -3 := by grobner
theorem dbl_n {y i z : Fin PP} (hz : z * i = 1) (h : y + y = 0) : y * (i * i * i) + y * (i * i * i) = 0 := by grobner
theorem opp_z {y : Fin PP} (h : y = -y) : y + y = 0 := by grobner
theorem right_x {x a b : Fin PP} (ha : a = -3) : x * x * x - 3 * x + b = x * x * x + a * x + b := by grobner
theorem one_one : (1 : Fin PP) * 1 = 1 := by decide +kernel
theorem one_x2 {x : Fin PP} : x = x * (1 * 1) := by grobner
theorem one_x3 {x : Fin PP} : x = x * (1 * 1 * 1) := by grobner
theorem sl_x {d e s t : Fin PP} (h : d * e = 1) (hs : d * s = t) : t * e = s := by grobner
theorem Rep.twice {p : J} {P : Pt (Fin PP)} (h : Rep p P) (hP : On aP bP P) : Rep p.twice (sum inv aP P P) := by
  rcases h with ⟨rfl, rfl⟩ | ⟨i, X, Y, h, rfl⟩
  · rw [J.twice_far rfl]; exact Or.inl ⟨rfl, rfl⟩
  · have hyy := fit.yy hP
    rw [J.twice_not h.ne]
    have hz := h.2.1
    have hf : c p.y + c p.y ≠ 0 := fun h0 => hyy (by rw [h.2.2.2]; exact dbl_n hz h0)
    have hj := mul_inv _ hf
    have ho := h.over (f := aj p.y p.y) (j := inv (c p.y + c p.y)) (by rw [c_aj]; exact hj)
    have ha := ho.along (r := tj (mj (sj p.x (mj p.z p.z)) (aj p.x (mj p.z p.z)))) (o := (p.over (aj p.y p.y)).x) rfl rfl
    have hO : c (p.over (aj p.y p.y)).x * (i * inv (c p.y + c p.y) * (i * inv (c p.y + c p.y))) = X := ho.2.2.1.symm
    rw [hO] at ha
    have hs : c (tj (mj (sj p.x (mj p.z p.z)) (aj p.x (mj p.z p.z)))) * (i * inv (c p.y + c p.y)) = slope inv aP X Y X Y := by
      rw [c_tj, c_mj, c_sj, c_aj, c_mj]
      unfold slope
      rw [if_pos rfl]
      refine (sl_x (mul_inv _ hyy) ?_).symm
      rw [h.2.2.1, h.2.2.2]
      exact dbl_s hz hj
    rw [hs] at ha
    refine Or.inr ⟨_, _, _, ha, ?_⟩
    simp only [sum]
    rw [if_neg (fun hc => hyy (opp_z hc.2))]
theorem co_x {x x' k z : Fin PP} (hz : z * k = 1) (h : x * (k * k) = x' * (k * k)) : x = x' := by grobner
theorem co_y {y y' k z : Fin PP} (hz : z * k = 1) (h : y * (k * k * k) = y' * (k * k * k)) : y = y' := by grobner
theorem ch_s {x x' y y' k n : Fin PP} (hn : (x' - x) * n = 1) : (x' * (k * k) - x * (k * k)) * ((y' - y) * (k * n)) = y' * (k * k * k) - y * (k * k * k) := by grobner
theorem ch_o {x' k n d : Fin PP} (hn : d * n = 1) : x' * (d * d) * (k * n * (k * n)) = x' * (k * k) := by grobner
theorem com_x (x y : Fin PP) : x * y = y * x := by grobner
theorem Rep.plus {p q : J} {P Q : Pt (Fin PP)} (h : Rep p P) (k : Rep q Q) (hP : On aP bP P) (hQ : On aP bP Q) : Rep (p.plus q) (sum inv aP P Q) := by
  rcases h with ⟨rfl, rfl⟩ | ⟨i, X, Y, h, rfl⟩
  · rw [J.plus_1 rfl, far_sum]; exact k
  rcases k with ⟨rfl, rfl⟩ | ⟨j, U, V, k, rfl⟩
  · rw [J.plus_2 h.ne rfl, sum_far]; exact Or.inr ⟨i, X, Y, h, rfl⟩
  have h' := h.over k.2.1
  have k' := k.over h.2.1
  rw [com_x j i] at k'
  have ez : (p.over q.z).z = (q.over p.z).z := by show mj p.z q.z = mj q.z p.z; unfold mj; rw [Nat.mul_comm]
  have hz := h'.2.1
  by_cases h3 : p.over q.z = q.over p.z
  · rw [J.plus_3 h.ne k.ne h3]
    have e1 : U = X := by rw [h'.2.2.1, k'.2.2.1, h3]
    have e2 : V = Y := by rw [h'.2.2.2, k'.2.2.2, h3]
    rw [e1, e2]
    exact Rep.twice (Or.inr ⟨_, _, _, h', rfl⟩) hP
  by_cases h4 : (p.over q.z).x = (q.over p.z).x
  · rw [J.plus_4 h.ne k.ne h3 h4]
    refine Or.inl ⟨rfl, ?_⟩
    have e1 : X = U := by rw [h'.2.2.1, k'.2.2.1, h4]
    have e2 : Y ≠ V := by
      intro e2
      rw [h'.2.2.2, k'.2.2.2] at e2
      have e3 := c_inj (J.over_p p q.z).2.1 (J.over_p q p.z).2.1 (co_y hz e2)
      apply h3
      generalize p.over q.z = a at *
      generalize q.over p.z = b at *
      obtain ⟨a1, a2, a3⟩ := a
      obtain ⟨b1, b2, b3⟩ := b
      simp only [] at h4 e3 ez
      rw [h4, e3, ez]
    subst e1
    simp only [sum]
    refine if_pos ⟨trivial, ?_⟩
    rcases fit.mul_zero (sq_x hP hQ) with h5 | h5
    · exact absurd (eq_of_sub h5) e2
    · exact neg_of_add h5
  · rw [J.plus_5 h.ne k.ne h3 h4]
    have hXU : X ≠ U := by
      intro e
      rw [h'.2.2.1, k'.2.2.1] at e
      exact h4 (c_inj (J.over_p p q.z).1 (J.over_p q p.z).1 (co_x hz e))
    have hd : c (q.over p.z).x - c (p.over q.z).x ≠ 0 := fun h0 => h4 (c_inj (J.over_p p q.z).1 (J.over_p q p.z).1 (eq_of_sub h0).symm)
    have hn := mul_inv _ hd
    have ho := h'.over (f := sj (q.over p.z).x (p.over q.z).x) (j := inv (c (q.over p.z).x - c (p.over q.z).x)) (by rw [c_sj]; exact hn)
    have ha := ho.along (r := sj (q.over p.z).y (p.over q.z).y) (o := mj (q.over p.z).x (mj (sj (q.over p.z).x (p.over q.z).x) (sj (q.over p.z).x (p.over q.z).x))) rfl rfl
    have hO : c (mj (q.over p.z).x (mj (sj (q.over p.z).x (p.over q.z).x) (sj (q.over p.z).x (p.over q.z).x))) * (i * j * inv (c (q.over p.z).x - c (p.over q.z).x) * (i * j * inv (c (q.over p.z).x - c (p.over q.z).x))) = U := by
      rw [c_mj, c_mj, c_sj, ch_o hn]; exact k'.2.2.1.symm
    have hs : c (sj (q.over p.z).y (p.over q.z).y) * (i * j * inv (c (q.over p.z).x - c (p.over q.z).x)) = slope inv aP X Y U V := by
      rw [c_sj]
      unfold slope
      rw [if_neg hXU]
      refine (sl_x (mul_inv _ (sub_of_ne hXU)) ?_).symm
      rw [h'.2.2.1, h'.2.2.2, k'.2.2.1, k'.2.2.2]
      exact ch_s hn
    rw [hO, hs] at ha
    refine Or.inr ⟨_, _, _, ha, ?_⟩
    simp only [sum]
    rw [if_neg (fun hc => hXU hc.1)]
def toPt (p : Po) : Pt (Fin PP) := if p.i = true then .far else .aff (c p.x) (c p.y)
def ofPt : Pt (Fin PP) → Po
  | .far => ⟨0, 0, true⟩
  | .aff x y => ⟨x.val, y.val, false⟩
theorem val_of {n : Nat} {x : Fin PP} (hn : n < mP) (h : x = c n) : n = x.val := by
  rw [h, val_c, Nat.mod_eq_of_lt (show n < PP from hn)]
theorem end_x {x i j z : Fin PP} (h1 : z * i = 1) (h2 : z * j = 1) : x * (j * j) = x * (i * i) := by grobner
theorem end_y {y i j z : Fin PP} (h1 : z * i = 1) (h2 : z * j = 1) : y * (j * j * j) = y * (i * i * i) := by grobner
theorem ne_of_inv {z i : Fin PP} (h : z * i = 1) : z ≠ 0 := by
  rintro rfl
  rw [zero_mul_x] at h
  exact one_ne h.symm
theorem Rep.point {p : J} {P : Pt (Fin PP)} (h : Rep p P) : p.point = ofPt P := by
  rcases h with ⟨rfl, rfl⟩ | ⟨i, X, Y, h, rfl⟩
  · exact J.point_far rfl
  · rw [J.point_not h.ne]
    have hj := mul_inv _ (ne_of_inv h.2.1)
    have e1 : X = c (p.over (iN p.z)).x := by
      show X = c (mj p.x (mj (iN p.z) (iN p.z)))
      rw [c_mj, c_mj, c_iN, h.2.2.1, end_x h.2.1 hj]
    have e2 : Y = c (p.over (iN p.z)).y := by
      show Y = c (mj p.y (mj (mj (iN p.z) (iN p.z)) (iN p.z)))
      rw [c_mj, c_mj, c_mj, c_iN, h.2.2.2, end_y h.2.1 hj]
    rw [val_of (J.over_p p (iN p.z)).1 e1, val_of (J.over_p p (iN p.z)).2.1 e2]
    rfl
theorem c_BN : c BN = bP := rfl
theorem c_right (x : Nat) : c (rightN x) = c x * c x * c x + aP * c x + bP := by
  unfold rightN
  rw [c_aj, c_sj, c_mj, c_mj, c_tj, c_BN]
  exact right_x rfl
theorem on_iff {p : Po} : p.on = true → On aP bP (toPt p) ∧ ofPt (toPt p) = p ∧ Rep (J.begin p.x p.y p.i) (toPt p) := by
  intro h
  obtain ⟨x, y, i⟩ := p
  cases i
  · obtain ⟨hx, hy⟩ := on_lt h
    have e : (Po.mk x y false).on = decide (x < mP ∧ y < mP ∧ mj y y = rightN x) := rfl
    rw [e] at h
    have h3 := (of_decide_eq_true h).2.2
    have h4 := congrArg c h3
    rw [c_mj, c_right] at h4
    refine ⟨h4, ?_, Or.inr ⟨1, c x, c y, ⟨⟨hx, hy, by show 1 < mP; decide +kernel⟩, one_one, one_x2, one_x3⟩, rfl⟩⟩
    show Po.mk (c x).val (c y).val false = _
    rw [val_c, val_c, ← mPP, Nat.mod_eq_of_lt hx, Nat.mod_eq_of_lt hy]
  · obtain ⟨rfl, rfl⟩ := on_far h
    exact ⟨trivial, rfl, Or.inl ⟨rfl, rfl⟩⟩
theorem on_ofPt {P : Pt (Fin PP)} (h : On aP bP P) : (ofPt P).on = true ∧ toPt (ofPt P) = P ∧ (ofPt P).ok := by
  cases P with
  | far => exact ⟨by decide, rfl, by decide, by decide⟩
  | aff x y =>
    have hx := x.isLt
    have hy := y.isLt
    refine ⟨?_, ?_, Nat.lt_trans hx (by decide +kernel), Nat.lt_trans hy (by decide +kernel)⟩
    · have e : (Po.mk x.val y.val false).on = decide (x.val < mP ∧ y.val < mP ∧ mj y.val y.val = rightN x.val) := rfl
      show (Po.mk x.val y.val false).on = true
      rw [e]
      refine decide_eq_true ⟨hx, hy, c_inj (mj_p _ _) (aj_p _ _) ?_⟩
      rw [c_mj]
      show _ = c (rightN x.val)
      rw [c_right, c_val, c_val]
      exact h
    · show Pt.aff (c x.val) (c y.val) = _
      rw [c_val, c_val]
theorem add_is {p q : Po} (hp : p.on = true) (hq : q.on = true) : p.add q = ofPt (sum inv aP (toPt p) (toPt q)) := by
  obtain ⟨o1, _, r1⟩ := on_iff hp
  obtain ⟨o2, _, r2⟩ := on_iff hq
  exact (r1.plus r2 o1 o2).point
def mul (P : Pt (Fin PP)) : Nat → Pt (Fin PP)
  | 0 => .far
  | n + 1 => sum inv aP (mul P n) P
theorem mul_zero_p (P : Pt (Fin PP)) : mul P 0 = .far := rfl
theorem mul_succ_p (P : Pt (Fin PP)) (n : Nat) : mul P (n + 1) = sum inv aP (mul P n) P := rfl
theorem on_far_p : On aP bP .far := trivial
theorem mul_on {P : Pt (Fin PP)} (h : On aP bP P) (n : Nat) : On aP bP (mul P n) := by
  induction n with
  | zero => exact on_far_p
  | succ n ih => exact on_sum fit ih h
theorem mul_add {P : Pt (Fin PP)} (h : On aP bP P) (m n : Nat) : mul P (m + n) = sum inv aP (mul P m) (mul P n) := by
  induction n with
  | zero => rw [mul_zero_p, sum_far]; rfl
  | succ n ih => rw [← Nat.add_assoc, mul_succ_p, ih, mul_succ_p, sum_assoc fit (mul_on h m) (mul_on h n) h]
theorem mul_mul {P : Pt (Fin PP)} (h : On aP bP P) (m n : Nat) : mul (mul P n) m = mul P (m * n) := by
  induction m with
  | zero => rw [Nat.zero_mul]; rfl
  | succ m ih => rw [mul_succ_p, ih, Nat.succ_mul, mul_add h]
theorem mul_one_p {P : Pt (Fin PP)} : mul P 1 = P := far_sum _ _ _
theorem mul_two {P : Pt (Fin PP)} (h : On aP bP P) (n : Nat) : sum inv aP (mul P n) (mul P n) = mul P (2 * n) := by
  rw [← mul_add h, Nat.two_mul]
end Go.Proofs.YtpggkfdijmnmiaaGreat
namespace Go.Proofs.YtpggkfdijmnmiaaGreat
open Go.RowKit Go.Sort Limbs Curve
def Po.mul (k : Nat) (p : Po) : Po := ((J.begin p.x p.y p.i).mulN k 64).point
set_option maxHeartbeats 8000000 in
theorem mul_p (k : Nat) (p : Po) (hk : k < W256) (hp : p.ok) (w : World) :
    Calls Tryz.prog 93 #[nv k, p.v] w fun e w' => e = .returned (if p.on = true then .tuple #[(Po.mul k p).v, .int .i64 0] else .tuple #[Po.zero.v, .int .i64 70]) ∧ Below w.heap.size w w' := by
  have HOP := Lib.hid (onj hp)
  have hj := J.begin_ok (i := p.i) hp.1 hp.2
  have H1 := Lib.hid (fun w => begin_c p.x p.y p.i w)
  have H2 := Lib.hid (fun w => adders_c (J.begin p.x p.y p.i) hj w)
  have H3 := Lib.hid (fun w => multiple_c k (J.begin p.x p.y p.i) hk hj w)
  have H4 := Lib.hid (pointj (J.mulN_ok (k := k) hj 64))
  unfold Po.mul
  clear hp hk hj
  generalize ((J.begin p.x p.y p.i).mulN k 64).point = res at *
  generalize (J.begin p.x p.y p.i).mulN k 64 = pq at *
  generalize J.begin p.x p.y p.i = jp at *
  cases honp : p.on
  · rw [if_neg (by simp)]
    rw [honp] at HOP
    clear honp H1 H2 H3 H4
    obtain ⟨x, y, i⟩ := p
    simp only [Po.v, pn, nv, num] at HOP ⊢
    go_enter Tryz.func93, Tryz.ntmps93
    go_wp2_with fail
    refine (keep w.heap.size w (HOP.out _) (by go_grown) (Nat.le_refl _)).mono ?_
    rintro e w1 ⟨rfl, hb, hk⟩
    have KZ : Hid (Bk 26 w1 (w.heap.size + 1 + 1) #[.int .u64 0, .int .u64 0, .int .u64 0, .int .u64 0, .int .u64 0, .int .u64 0, .int .u64 0, .int .u64 0, .bool false]) := Lib.hid (Bk.below (Bk.new (by simp)) hk)
    have HB := Lib.hid hb
    clear hk hb HOP
    obtain ⟨⟨f0, f1, f2, f3⟩, ⟨f4, f5, f6, f7⟩, f8⟩ := KZ.out.fros9
    obtain ⟨⟨c0, c1, c2, c3⟩, ⟨c4, c5, c6, c7⟩, c8⟩ := KZ.out.cells9
    go_wp2_with fail
    refine ret_cell51e rfl (w.heap.size + 1 + 1) 0 0 false (.int .i64 70) rfl rfl (Bk.put9 KZ.out) rfl ⟨rfl, ?_⟩
    have hb := HB.out
    go_grown
  rw [if_pos rfl]
  rw [honp] at HOP
  clear honp
  obtain ⟨x, y, i⟩ := p
  obtain ⟨rx, ry, ri⟩ := res
  generalize hf : fv jp = F at *
  have HF : Hid (∃ cs, F = .agg cs) := Lib.hid ⟨_, hf.symm⟩
  clear hf
  obtain ⟨px, py, pz⟩ := jp
  obtain ⟨sx, sy, sz⟩ := pq
  simp only [Po.v, pn, J.v, jn, nv, num] at HOP H1 H2 H3 H4 ⊢
  go_enter Tryz.func93, Tryz.ntmps93
  go_wp2_with fail
  refine (keep w.heap.size w (HOP.out _) (by go_grown) (Nat.le_refl _)).mono ?_
  rintro e w1 ⟨rfl, hb, hk⟩
  have KK : Hid (Bk 24 w1 w.heap.size #[.int .u64 (lb k 0 : Nat), .int .u64 (lb k 1 : Nat), .int .u64 (lb k 2 : Nat), .int .u64 (lb k 3 : Nat)]) := Lib.hid (Bk.below (Bk.alloc (Bk.alloc (Bk.new rfl))) hk)
  have KP : Hid (Bk 26 w1 (w.heap.size + 1) #[.int .u64 (lb x 0 : Nat), .int .u64 (lb x 1 : Nat), .int .u64 (lb x 2 : Nat), .int .u64 (lb x 3 : Nat), .int .u64 (lb y 0 : Nat), .int .u64 (lb y 1 : Nat), .int .u64 (lb y 2 : Nat), .int .u64 (lb y 3 : Nat), .bool i]) := Lib.hid (Bk.below (Bk.alloc (Bk.new (by simp))) hk)
  have KZ : Hid (Bk 26 w1 (w.heap.size + 1 + 1) #[.int .u64 0, .int .u64 0, .int .u64 0, .int .u64 0, .int .u64 0, .int .u64 0, .int .u64 0, .int .u64 0, .bool false]) := Lib.hid (Bk.below (Bk.new (by simp)) hk)
  have HB := Lib.hid hb
  clear hk hb HOP
  go_wp2_with fail
  obtain ⟨⟨x0, x1, x2, x3⟩, ⟨y0, y1, y2, y3⟩, i0⟩ := KP.out.reg9
  obtain ⟨k0, k1, k2, k3⟩ := KK.out.reg
  refine wp_region_below_tail 6 mixed (by kernel_rfl) ?_
  simp only [List.take_succ_cons, List.take_zero, List.drop_succ_cons, List.drop_zero]
  iterate 2 go_big_quiet_step (fail)
  go_big_quiet_step (exact qg H1.out)
  go_big_quiet_step (exact qg H2.out)
  go_big_quiet_step (exact qg H3.out)
  go_big_quiet_step (exact qg H4.out)
  refine wpQuiet_nil ?_
  intro _ hw'
  obtain ⟨⟨dq, osq⟩, hw''⟩ := hw'
  subst hw''
  have KZ3 := Lib.hid (KZ.out.regrown dq osq)
  have HB3 := Lib.hid (HB.out.trans ((below_regrown w1 dq osq).mono HB.out.size))
  clear KK KP KZ HB x0 x1 x2 x3 y0 y1 y2 y3 i0 k0 k1 k2 k3 H1 H2 H3 H4
  generalize grow (redrawn w1 dq) osq = V at KZ3 HB3 ⊢
  obtain ⟨⟨f0, f1, f2, f3⟩, ⟨f4, f5, f6, f7⟩, f8⟩ := KZ3.out.fros9
  obtain ⟨⟨c0, c1, c2, c3⟩, ⟨c4, c5, c6, c7⟩, c8⟩ := KZ3.out.cells9
  go_wp2_with fail
  refine ret_cell51e rfl (w.heap.size + 1 + 1) rx ry ri (.int .i64 0) rfl rfl (Bk.put9 KZ3.out) rfl ⟨rfl, ?_⟩
  have hb := HB3.out
  go_grown
theorem mulp {k : Nat} {p : Po} (hk : k < W256) (hp : p.ok) : ∀ w, Calls Tryz.prog 93 #[nv k, p.v] w fun e w' => e = .returned (if p.on = true then .tuple #[(Po.mul k p).v, .int .i64 0] else .tuple #[Po.zero.v, .int .i64 70]) ∧ Below w.heap.size w w' := mul_p k p hk hp
theorem Rep.tim {p : J} {P : Pt (Fin PP)} (h : Rep p P) (hP : On aP bP P) : ∀ n, Rep (p.tim n) (mul P n)
  | 0 => Or.inl ⟨rfl, rfl⟩
  | n + 1 => (Rep.tim h hP n).plus h (mul_on hP n) hP
theorem Rep.four {q : J} {P : Pt (Fin PP)} (hP : On aP bP P) {n : Nat} (h : Rep q (mul P n)) : Rep q.twice.twice.twice.twice (mul P (16 * n)) := by
  have h1 := h.twice (mul_on hP n)
  rw [mul_two hP] at h1
  have h2 := h1.twice (mul_on hP _)
  rw [mul_two hP] at h2
  have h3 := h2.twice (mul_on hP _)
  rw [mul_two hP] at h3
  have h4 := h3.twice (mul_on hP _)
  rw [mul_two hP] at h4
  rw [show 16 * n = 2 * (2 * (2 * (2 * n))) by omega]
  exact h4
theorem Rep.mulN {p : J} {P : Pt (Fin PP)} (h : Rep p P) (hP : On aP bP P) {k : Nat} (hk : k < W256) : ∀ i, i ≤ 64 → Rep (p.mulN k i) (mul P (k / 16 ^ (64 - i)))
  | 0, _ => by
    have : k / 16 ^ (64 - 0) = 0 := Nat.div_eq_of_lt (by unfold W256 at hk; simpa using hk)
    rw [this]
    exact Or.inl ⟨rfl, rfl⟩
  | i + 1, hi => by
    have ih := Rep.four hP (Rep.mulN h hP hk i (by omega))
    have := (Rep.tim h hP (dg k i)).plus ih (mul_on hP _) (mul_on hP _)
    rw [← mul_add hP] at this
    have e : dg k i + 16 * (k / 16 ^ (64 - i)) = k / 16 ^ (64 - (i + 1)) := by
      unfold dg
      rw [show 64 - i = 63 - i + 1 by omega, show 64 - (i + 1) = 63 - i by omega, Nat.pow_succ, ← Nat.div_div_eq_div_mul]
      omega
    rw [e] at this
    exact this
theorem mul_is {k : Nat} {p : Po} (hk : k < W256) (hp : p.on = true) : Po.mul k p = ofPt (mul (toPt p) k) := by
  obtain ⟨o1, _, r1⟩ := on_iff hp
  have := (Rep.mulN r1 o1 hk 64 (Nat.le_refl _)).point
  rw [Nat.sub_self, Nat.pow_zero, Nat.div_one] at this
  exact this
end Go.Proofs.YtpggkfdijmnmiaaGreat
set_option linter.unusedVariables false
set_option linter.unusedSimpArgs false
set_option maxRecDepth 100000
namespace Go.Proofs.YtpggkfdijmnmiaaGreat
open Go.RowKit Go.Sort Limbs Curve
theorem mulP {k : Nat} {p : Po} (hk : k < W256) (hp : p.on = true) (okp : p.ok) : ∀ w, Calls Tryz.prog 93 #[nv k, p.v] w fun e w' => e = .returned (.tuple #[(Po.mul k p).v, .int .i64 0]) ∧ Below w.heap.size w w' := fun w => by
  have h := mulp hk okp w
  rw [if_pos hp] at h
  exact h
end Go.Proofs.YtpggkfdijmnmiaaGreat
namespace Go.Proofs.YtpggkfdijmnmiaaGreat.Ref
open Go.RowKit Go.Proofs.YtpggkfdijmnmiaaGreat.Digits Limbs Curve
theorem wpOp_skip {P : Program} {ops : Array Oper} {Q : Exit → Act → World → Prop} {i : Nat} {o : Oper} {K : Act → World → Prop} {a : Act} {w : World} (hi : ops[i]? = some o) (hw : Region.wanted o (yielded ops a.tmps) = false) (h : K (a.put o.dst undef) w) : wpOp P ops Q i K a w := by
  unfold wpOp
  simp only [hi]
  rw [if_neg (by rw [hw]; decide)]
  exact h
theorem mp_big {n : Nat} (h : n < mP) : n < big := Nat.lt_trans h (by decide +kernel)
theorem mj_b (a b : Nat) : mj a b < big := mp_big (mj_p a b)
theorem aj_b (a b : Nat) : aj a b < big := mp_big (aj_p a b)
theorem sj_b (a b : Nat) : sj a b < big := mp_big (sj_p a b)
theorem ngj_p (a : Nat) : ngj a < mP := Nat.mod_lt _ (by decide +kernel)
theorem times_nv (v u : Value) (w : World) (a b : Nat) (ha : a < big) (hb : b < big) (h : NV w v a) (k : NV w u b) : Calls Tryz.prog 117 #[v, u] w fun e w' => ∃ v', e = .returned v' ∧ Nr w w' v' (mj a b) := by
  have H := Lib.hid (prod_nv 0 v u w a b ha hb h k)
  rw [md0, show a * b % mP = mj a b from rfl] at H
  clear h k ha hb
  go_enter Tryz.func117, Tryz.ntmps117
  go_wp2_with fail
  refine H.out.mono ?_
  rintro e w1 ⟨v1, rfl, h1⟩
  have H1 := Lib.hid h1
  clear h1
  go_wp2_with fail
  go_ret
  exact ⟨_, rfl, H1.out⟩
theorem plus_nv' (v u : Value) (w : World) (a b : Nat) (ha : a < big) (hb : b < big) (h : NV w v a) (k : NV w u b) : Calls Tryz.prog 115 #[v, u] w fun e w' => ∃ v', e = .returned v' ∧ Nr w w' v' (aj a b) := by
  have H := Lib.hid (sum_nv 0 v u w a b ha hb h k)
  rw [md0, show (a + b) % mP = aj a b from rfl] at H
  clear h k ha hb
  go_enter Tryz.func115, Tryz.ntmps115
  go_wp2_with fail
  refine H.out.mono ?_
  rintro e w1 ⟨v1, rfl, h1⟩
  have H1 := Lib.hid h1
  clear h1
  go_wp2_with fail
  go_ret
  exact ⟨_, rfl, H1.out⟩
theorem opp_c (v : Value) (w : World) (a : Nat) (ha : a < big) (h : NV w v a) : Calls Tryz.prog 159 #[.int .i64 0, v] w fun e w' => ∃ v', e = .returned v' ∧ Nr w w' v' (ngj a) := by
  have := opp_nv 0 v w a ha h
  rwa [md0] at this
theorem minus_nv' (v u : Value) (w : World) (a b : Nat) (ha : a < big) (hb : b < big) (h : NV w v a) (k : NV w u b) : Calls Tryz.prog 116 #[v, u] w fun e w' => ∃ v', e = .returned v' ∧ Nr w w' v' (sj a b) := by
  have H := Lib.hid (opp_c u w b hb k)
  have HV := Lib.hid h
  have HA := Lib.hid ha
  have hs : (a + ngj b) % mP = sj a b := by unfold ngj sj; rw [Nat.add_mod_mod]
  have HS := Lib.hid (fun u' w' (hv : NV w' v a) k' => sum_nv 0 v u' w' a (ngj b) ha (mp_big (ngj_p b)) hv k')
  rw [md0, hs] at HS
  clear h k ha hb hs
  go_enter Tryz.func116, Tryz.ntmps116
  go_wp2_with fail
  refine (nk w.heap.size w H.out (Below.refl _ _) (Nat.le_refl _)).mono ?_
  rintro e w1 ⟨v1, rfl, h1, hb, hk⟩
  have HB := Lib.hid hb
  replace HV := Lib.hid (HV.out.below hk)
  have H1 := Lib.hid h1
  clear h1 hb hk H
  go_wp2_with fail
  refine (nk w.heap.size w (HS.out v1 w1 HV.out H1.out) HB.out (Nat.le_refl _)).mono ?_
  rintro e w2 ⟨v2, rfl, h2, hb, hk⟩
  replace HB := Lib.hid hb
  have H2 := Lib.hid h2
  clear h2 hb hk
  go_wp2_with fail
  go_ret
  exact ⟨_, rfl, ⟨H2.out, HB.out⟩⟩
theorem three_nv (w : World) : NV (w.alloc (.cells #[.int .u32 3] 111)) (.slice (some ⟨w.heap.size, 0, none⟩) 1 1) 3 :=
  ⟨[3], us_dr (l := [3]) (Go.heap_alloc_new w _) (by decide), by unfold Dig; decide, by unfold Trim; decide, rfl⟩
theorem cmp_eq0 (a b : Nat) : (cmpN a b == 0) = decide (a = b) := by
  unfold cmpN
  by_cases hab : a < b
  · rw [if_pos hab]; simp; omega
  · rw [if_neg hab]
    by_cases hba : b < a
    · rw [if_pos hba]; simp; omega
    · rw [if_neg hba]; simp; omega
theorem lb_at (x : Nat) {j : Nat} (hj : j < 4) : lb x j = x / 65536 ^ (4 * j) % 18446744073709551616 := by
  have : j = 0 ∨ j = 1 ∨ j = 2 ∨ j = 3 := by omega
  rcases this with rfl | rfl | rfl | rfl <;> simp [lb]
theorem pow_le (a b : Nat) (h : a ≤ b) : 65536 ^ a ≤ 65536 ^ b := Nat.pow_le_pow_right (by decide) h
theorem lb_own {V d q s : Nat} (hq : q < 4) (hs : s < 4) (hV : V < 65536 ^ (4 * q + s)) (hd : d < 65536) : lb V q < 65536 ^ s ∧ lb (V + 65536 ^ (4 * q + s) * d) q = lb V q + 65536 ^ s * d := by
  rw [lb_at _ hq, lb_at _ hq]
  have hp : 0 < 65536 ^ (4 * q) := Nat.pow_pos (by decide)
  rw [Nat.pow_add] at hV ⊢
  generalize 65536 ^ (4 * q) = P at *
  have h1 : V / P < 65536 ^ s := Nat.div_lt_of_lt_mul hV
  have h4 : (65536 : Nat) ^ s * 65536 ≤ 18446744073709551616 := by
    have := pow_le (s + 1) 4 (by omega)
    rwa [Nat.pow_succ] at this
  have h5 : 0 < (65536 : Nat) ^ s := Nat.pow_pos (by decide)
  rw [Nat.mul_assoc, Nat.add_mul_div_left _ _ hp]
  generalize (65536 : Nat) ^ s = R at *
  generalize V / P = x at *
  have h6 : R * d + R ≤ R * 65536 := by rw [← Nat.mul_succ]; exact Nat.mul_le_mul_left _ hd
  generalize R * d = y at *
  rw [Nat.mod_eq_of_lt (by omega), Nat.mod_eq_of_lt (by omega)]
  exact ⟨h1, rfl⟩
theorem lb_oth {V d q s j : Nat} (hj : j < 4) (hs : s < 4) (hV : V < 65536 ^ (4 * q + s)) (hd : d < 65536) (hn : j ≠ q) : lb (V + 65536 ^ (4 * q + s) * d) j = lb V j := by
  rw [lb_at _ hj, lb_at _ hj]
  rcases Nat.lt_or_ge j q with h | h
  · obtain ⟨e, he⟩ : ∃ e, 4 * q + s = 4 * j + (4 + e) := ⟨4 * q + s - 4 * j - 4, by omega⟩
    rw [he, Nat.pow_add, Nat.mul_assoc, Nat.add_mul_div_left _ _ (Nat.pow_pos (by decide)), Nat.pow_add, show (65536 : Nat) ^ 4 = 18446744073709551616 from rfl, Nat.mul_assoc, Nat.add_mul_mod_self_left]
  · have h1 : 65536 ^ (4 * q + s) * d + 65536 ^ (4 * q + s) ≤ 65536 ^ (4 * j) := by
      have h2 : 65536 ^ (4 * q + s) * d + 65536 ^ (4 * q + s) ≤ 65536 ^ (4 * q + s) * 65536 := by rw [← Nat.mul_succ]; exact Nat.mul_le_mul_left _ hd
      rw [← Nat.pow_succ] at h2
      exact Nat.le_trans h2 (pow_le _ _ (by omega))
    rw [Nat.div_eq_of_lt (by omega), Nat.div_eq_of_lt (by omega)]
theorem cs4_put {V d q s : Nat} (hq : q < 4) (hs : s < 4) (hV : V < 65536 ^ (4 * q + s)) (hd : d < 65536) :
    (cs4 V).setIfInBounds q (.int .u64 ((lb V q + 65536 ^ s * d : Nat) : Int)) = cs4 (V + 65536 ^ (4 * q + s) * d) := by
  have ho := (lb_own hq hs hV hd).2
  have hj := fun j hj hn => lb_oth (j := j) (q := q) hj hs hV hd hn
  generalize V + 65536 ^ (4 * q + s) * d = V' at *
  rw [← ho]
  have : q = 0 ∨ q = 1 ∨ q = 2 ∨ q = 3 := by omega
  unfold cs4
  rcases this with rfl | rfl | rfl | rfl
  · rw [hj 1 (by decide) (by decide), hj 2 (by decide) (by decide), hj 3 (by decide) (by decide)]; rfl
  · rw [hj 0 (by decide) (by decide), hj 2 (by decide) (by decide), hj 3 (by decide) (by decide)]; rfl
  · rw [hj 0 (by decide) (by decide), hj 1 (by decide) (by decide), hj 3 (by decide) (by decide)]; rfl
  · rw [hj 0 (by decide) (by decide), hj 1 (by decide) (by decide), hj 2 (by decide) (by decide)]; rfl
theorem cs4_get (V : Nat) {q : Nat} (hq : q < 4) : (cs4 V)[q]? = some (.int .u64 ((lb V q : Nat) : Int)) := by
  have : q = 0 ∨ q = 1 ∨ q = 2 ∨ q = 3 := by omega
  rcases this with rfl | rfl | rfl | rfl <;> rfl
noncomputable def out5O0 : Array Oper := (Tryz.f96.body.bind fun c => findR c 5).getD #[]
set_option maxHeartbeats 8000000 in
theorem out50 (g n cap gx q i d x : Nat) (hx : x < 1) (hd : d < 65536) (hi : i < n) (hn : n ≤ 100) (hc : n ≤ cap) (hq : q < 4) (hk : Int.tdiv (i : Int) 4 = (q : Int)) (hm : Int.tmod (i : Int) 4 = 0) (w : World) (ia : w.cell? ⟨g, i, none⟩ = some (.int .u32 (d : Int))) (ix : w.cell? ⟨gx, q, none⟩ = some (.int .u64 (x : Int))) (fo : w.frozen? ⟨gx, q, none⟩ = false)
    {t1 t2 t5 t6 t7 t8 t9 t10 t11 t12 t13 t14 t15 t16 t17 t18 t19 t20 t21 t22 t23 t24 t25 t26 t27 : Value} {ds : List Deferred} {Q : Exit → Act → World → Prop}
    (h : ∀ (x12 x13 x14 x15 x16 x17 x18 x19 x20 x21 x22 x23 x24 x25 x26 : Value) (w' wm : World), Sm w wm → w' = wm.setCell ⟨gx, q, none⟩ (.int .u64 ((x + 1 * d : Nat) : Int)) → Q .normal { tmps := #[.slice (some ⟨g, 0, none⟩) n cap, t1, t2, .pointer (some ⟨gx, 0, none⟩), .int .i64 (i : Int), t5, t6, t7, t8, t9, t10, t11, x12, x13, x14, x15, x16, x17, x18, x19, x20, x21, x22, x23, x24, x25, x26, t27], defers := ds } w') :
    (Code.region 5 out5O0 true).wp Tryz.prog Q { tmps := #[.slice (some ⟨g, 0, none⟩) n cap, t1, t2, .pointer (some ⟨gx, 0, none⟩), .int .i64 (i : Int), t5, t6, t7, t8, t9, t10, t11, t12, t13, t14, t15, t16, t17, t18, t19, t20, t21, t22, t23, t24, t25, t26, t27], defers := ds } w := by
  simp only [out5O0, findR, Tryz.f96, Option.bind_some, Option.or, Option.getD, Nat.reduceEqDiff, if_true, if_false, reduceIte]
  have hor : bits .or .u64 (x : Int) ((d * 1 : Nat) : Int) = ((x + 1 * d : Nat) : Int) := by
    rw [u64_or_nat x (d * 1) (by omega) (by omega), Nat.or_comm, show d * 1 = d <<< 0 from by rw [Nat.shiftLeft_eq], ← Nat.shiftLeft_add_eq_or_of_lt (by omega), Nat.shiftLeft_eq]
    congr 1
    omega
  have HO := Lib.hid hor
  have HH := Lib.hid h
  have hq4 : (q : Int) < 4 := by omega
  clear h hor
  refine wp_region_quiet_tail 15 mixed (by kernel_rfl) ?_
  simp only [List.take_succ_cons, List.take_zero, List.drop_succ_cons, List.drop_zero]
  iterate 15 go_big_quiet_step (fail)
  refine wpQuiet_nil ?_
  intro _ hw'
  obtain ⟨nq, hw''⟩ := hw'
  subst hw''
  have f2 : (w.drewN nq).frozen? ⟨gx, q, none⟩ = false := fo
  have c2 : (w.drewN nq).cell? ⟨gx, q, none⟩ = some (.int .u64 (x : Int)) := ix
  go_wp2_with fail
  refine HH.out _ _ _ _ _ _ _ _ _ _ _ _ _ _ _ _ _ (Sm.drewN w nq) (congrArg (fun z => (w.drewN nq).setCell ⟨gx, q, none⟩ (.int .u64 z)) ?_)
  refine Eq.trans ?_ HO.out
  congr 1 <;> omega
noncomputable def out5O1 : Array Oper := (Tryz.f96.body.bind fun c => findR c 5).getD #[]
set_option maxHeartbeats 8000000 in
theorem out51 (g n cap gx q i d x : Nat) (hx : x < 65536) (hd : d < 65536) (hi : i < n) (hn : n ≤ 100) (hc : n ≤ cap) (hq : q < 4) (hk : Int.tdiv (i : Int) 4 = (q : Int)) (hm : Int.tmod (i : Int) 4 = 1) (w : World) (ia : w.cell? ⟨g, i, none⟩ = some (.int .u32 (d : Int))) (ix : w.cell? ⟨gx, q, none⟩ = some (.int .u64 (x : Int))) (fo : w.frozen? ⟨gx, q, none⟩ = false)
    {t1 t2 t5 t6 t7 t8 t9 t10 t11 t12 t13 t14 t15 t16 t17 t18 t19 t20 t21 t22 t23 t24 t25 t26 t27 : Value} {ds : List Deferred} {Q : Exit → Act → World → Prop}
    (h : ∀ (x12 x13 x14 x15 x16 x17 x18 x19 x20 x21 x22 x23 x24 x25 x26 : Value) (w' wm : World), Sm w wm → w' = wm.setCell ⟨gx, q, none⟩ (.int .u64 ((x + 65536 * d : Nat) : Int)) → Q .normal { tmps := #[.slice (some ⟨g, 0, none⟩) n cap, t1, t2, .pointer (some ⟨gx, 0, none⟩), .int .i64 (i : Int), t5, t6, t7, t8, t9, t10, t11, x12, x13, x14, x15, x16, x17, x18, x19, x20, x21, x22, x23, x24, x25, x26, t27], defers := ds } w') :
    (Code.region 5 out5O1 true).wp Tryz.prog Q { tmps := #[.slice (some ⟨g, 0, none⟩) n cap, t1, t2, .pointer (some ⟨gx, 0, none⟩), .int .i64 (i : Int), t5, t6, t7, t8, t9, t10, t11, t12, t13, t14, t15, t16, t17, t18, t19, t20, t21, t22, t23, t24, t25, t26, t27], defers := ds } w := by
  simp only [out5O1, findR, Tryz.f96, Option.bind_some, Option.or, Option.getD, Nat.reduceEqDiff, if_true, if_false, reduceIte]
  have hor : bits .or .u64 (x : Int) ((d * 65536 : Nat) : Int) = ((x + 65536 * d : Nat) : Int) := by
    rw [u64_or_nat x (d * 65536) (by omega) (by omega), Nat.or_comm, show d * 65536 = d <<< 16 from by rw [Nat.shiftLeft_eq], ← Nat.shiftLeft_add_eq_or_of_lt (by omega), Nat.shiftLeft_eq]
    congr 1
    omega
  have HO := Lib.hid hor
  have HH := Lib.hid h
  have hq4 : (q : Int) < 4 := by omega
  clear h hor
  refine wp_region_quiet_tail 15 mixed (by kernel_rfl) ?_
  simp only [List.take_succ_cons, List.take_zero, List.drop_succ_cons, List.drop_zero]
  iterate 15 go_big_quiet_step (fail)
  refine wpQuiet_nil ?_
  intro _ hw'
  obtain ⟨nq, hw''⟩ := hw'
  subst hw''
  have f2 : (w.drewN nq).frozen? ⟨gx, q, none⟩ = false := fo
  have c2 : (w.drewN nq).cell? ⟨gx, q, none⟩ = some (.int .u64 (x : Int)) := ix
  go_wp2_with fail
  refine HH.out _ _ _ _ _ _ _ _ _ _ _ _ _ _ _ _ _ (Sm.drewN w nq) (congrArg (fun z => (w.drewN nq).setCell ⟨gx, q, none⟩ (.int .u64 z)) ?_)
  refine Eq.trans ?_ HO.out
  congr 1 <;> omega
noncomputable def out5O2 : Array Oper := (Tryz.f96.body.bind fun c => findR c 5).getD #[]
set_option maxHeartbeats 8000000 in
theorem out52 (g n cap gx q i d x : Nat) (hx : x < 4294967296) (hd : d < 65536) (hi : i < n) (hn : n ≤ 100) (hc : n ≤ cap) (hq : q < 4) (hk : Int.tdiv (i : Int) 4 = (q : Int)) (hm : Int.tmod (i : Int) 4 = 2) (w : World) (ia : w.cell? ⟨g, i, none⟩ = some (.int .u32 (d : Int))) (ix : w.cell? ⟨gx, q, none⟩ = some (.int .u64 (x : Int))) (fo : w.frozen? ⟨gx, q, none⟩ = false)
    {t1 t2 t5 t6 t7 t8 t9 t10 t11 t12 t13 t14 t15 t16 t17 t18 t19 t20 t21 t22 t23 t24 t25 t26 t27 : Value} {ds : List Deferred} {Q : Exit → Act → World → Prop}
    (h : ∀ (x12 x13 x14 x15 x16 x17 x18 x19 x20 x21 x22 x23 x24 x25 x26 : Value) (w' wm : World), Sm w wm → w' = wm.setCell ⟨gx, q, none⟩ (.int .u64 ((x + 4294967296 * d : Nat) : Int)) → Q .normal { tmps := #[.slice (some ⟨g, 0, none⟩) n cap, t1, t2, .pointer (some ⟨gx, 0, none⟩), .int .i64 (i : Int), t5, t6, t7, t8, t9, t10, t11, x12, x13, x14, x15, x16, x17, x18, x19, x20, x21, x22, x23, x24, x25, x26, t27], defers := ds } w') :
    (Code.region 5 out5O2 true).wp Tryz.prog Q { tmps := #[.slice (some ⟨g, 0, none⟩) n cap, t1, t2, .pointer (some ⟨gx, 0, none⟩), .int .i64 (i : Int), t5, t6, t7, t8, t9, t10, t11, t12, t13, t14, t15, t16, t17, t18, t19, t20, t21, t22, t23, t24, t25, t26, t27], defers := ds } w := by
  simp only [out5O2, findR, Tryz.f96, Option.bind_some, Option.or, Option.getD, Nat.reduceEqDiff, if_true, if_false, reduceIte]
  have hor : bits .or .u64 (x : Int) ((d * 4294967296 : Nat) : Int) = ((x + 4294967296 * d : Nat) : Int) := by
    rw [u64_or_nat x (d * 4294967296) (by omega) (by omega), Nat.or_comm, show d * 4294967296 = d <<< 32 from by rw [Nat.shiftLeft_eq], ← Nat.shiftLeft_add_eq_or_of_lt (by omega), Nat.shiftLeft_eq]
    congr 1
    omega
  have HO := Lib.hid hor
  have HH := Lib.hid h
  have hq4 : (q : Int) < 4 := by omega
  clear h hor
  refine wp_region_quiet_tail 15 mixed (by kernel_rfl) ?_
  simp only [List.take_succ_cons, List.take_zero, List.drop_succ_cons, List.drop_zero]
  iterate 15 go_big_quiet_step (fail)
  refine wpQuiet_nil ?_
  intro _ hw'
  obtain ⟨nq, hw''⟩ := hw'
  subst hw''
  have f2 : (w.drewN nq).frozen? ⟨gx, q, none⟩ = false := fo
  have c2 : (w.drewN nq).cell? ⟨gx, q, none⟩ = some (.int .u64 (x : Int)) := ix
  go_wp2_with fail
  refine HH.out _ _ _ _ _ _ _ _ _ _ _ _ _ _ _ _ _ (Sm.drewN w nq) (congrArg (fun z => (w.drewN nq).setCell ⟨gx, q, none⟩ (.int .u64 z)) ?_)
  refine Eq.trans ?_ HO.out
  congr 1 <;> omega
noncomputable def out5O3 : Array Oper := (Tryz.f96.body.bind fun c => findR c 5).getD #[]
set_option maxHeartbeats 8000000 in
theorem out53 (g n cap gx q i d x : Nat) (hx : x < 281474976710656) (hd : d < 65536) (hi : i < n) (hn : n ≤ 100) (hc : n ≤ cap) (hq : q < 4) (hk : Int.tdiv (i : Int) 4 = (q : Int)) (hm : Int.tmod (i : Int) 4 = 3) (w : World) (ia : w.cell? ⟨g, i, none⟩ = some (.int .u32 (d : Int))) (ix : w.cell? ⟨gx, q, none⟩ = some (.int .u64 (x : Int))) (fo : w.frozen? ⟨gx, q, none⟩ = false)
    {t1 t2 t5 t6 t7 t8 t9 t10 t11 t12 t13 t14 t15 t16 t17 t18 t19 t20 t21 t22 t23 t24 t25 t26 t27 : Value} {ds : List Deferred} {Q : Exit → Act → World → Prop}
    (h : ∀ (x12 x13 x14 x15 x16 x17 x18 x19 x20 x21 x22 x23 x24 x25 x26 : Value) (w' wm : World), Sm w wm → w' = wm.setCell ⟨gx, q, none⟩ (.int .u64 ((x + 281474976710656 * d : Nat) : Int)) → Q .normal { tmps := #[.slice (some ⟨g, 0, none⟩) n cap, t1, t2, .pointer (some ⟨gx, 0, none⟩), .int .i64 (i : Int), t5, t6, t7, t8, t9, t10, t11, x12, x13, x14, x15, x16, x17, x18, x19, x20, x21, x22, x23, x24, x25, x26, t27], defers := ds } w') :
    (Code.region 5 out5O3 true).wp Tryz.prog Q { tmps := #[.slice (some ⟨g, 0, none⟩) n cap, t1, t2, .pointer (some ⟨gx, 0, none⟩), .int .i64 (i : Int), t5, t6, t7, t8, t9, t10, t11, t12, t13, t14, t15, t16, t17, t18, t19, t20, t21, t22, t23, t24, t25, t26, t27], defers := ds } w := by
  simp only [out5O3, findR, Tryz.f96, Option.bind_some, Option.or, Option.getD, Nat.reduceEqDiff, if_true, if_false, reduceIte]
  have hor : bits .or .u64 (x : Int) ((d * 281474976710656 : Nat) : Int) = ((x + 281474976710656 * d : Nat) : Int) := by
    rw [u64_or_nat x (d * 281474976710656) (by omega) (by omega), Nat.or_comm, show d * 281474976710656 = d <<< 48 from by rw [Nat.shiftLeft_eq], ← Nat.shiftLeft_add_eq_or_of_lt (by omega), Nat.shiftLeft_eq]
    congr 1
    omega
  have HO := Lib.hid hor
  have HH := Lib.hid h
  have hq4 : (q : Int) < 4 := by omega
  clear h hor
  refine wp_region_quiet_tail 15 mixed (by kernel_rfl) ?_
  simp only [List.take_succ_cons, List.take_zero, List.drop_succ_cons, List.drop_zero]
  iterate 15 go_big_quiet_step (fail)
  refine wpQuiet_nil ?_
  intro _ hw'
  obtain ⟨nq, hw''⟩ := hw'
  subst hw''
  have f2 : (w.drewN nq).frozen? ⟨gx, q, none⟩ = false := fo
  have c2 : (w.drewN nq).cell? ⟨gx, q, none⟩ = some (.int .u64 (x : Int)) := ix
  go_wp2_with fail
  refine HH.out _ _ _ _ _ _ _ _ _ _ _ _ _ _ _ _ _ (Sm.drewN w nq) (congrArg (fun z => (w.drewN nq).setCell ⟨gx, q, none⟩ (.int .u64 z)) ?_)
  refine Eq.trans ?_ HO.out
  congr 1 <;> omega
set_option maxHeartbeats 8000000 in
theorem out_nv (v : Value) (w : World) (x : Nat) (hx : x < W256) (h : NV w v x) : Calls Tryz.prog 96 #[v] w fun e w' => e = .returned (nv x) ∧ Below w.heap.size w w' := by
  obtain ⟨r, ⟨g, cap, rfl, hc, hcm, hg, hcell⟩, hdig, htrim, hv⟩ := h
  have hlen : r.length ≤ 16 := len_pow htrim hv (by rw [show (65536 : Nat) ^ 16 = W256 from by decide +kernel]; exact hx)
  have HC := Lib.hid hcell
  have HD := Lib.hid hdig
  have HV := Lib.hid hv
  have HG := Lib.hid hg
  obtain ⟨L, hL⟩ : ∃ L, L = r.length := ⟨_, rfl⟩
  have HL := Lib.hid hL
  rw [← hL] at hc hlen ⊢
  clear hcell hdig htrim hv hg hx hL
  go_enter Tryz.func96, Tryz.ntmps96
  go_wp2_with fail
  have KR0 : Hid (Bk 24 ((w.alloc (.cells cs0 24)).alloc (.cells cs0 24)) w.heap.size cs0) := Lib.hid (Bk.alloc (Bk.new rfl))
  have KX0 : Hid (Bk 24 ((w.alloc (.cells cs0 24)).alloc (.cells cs0 24)) (w.heap.size + 1) (cs4 (val (r.take 0)))) := Lib.hid (by
    have e0 : cs4 (val (r.take 0)) = cs0 := by simp [cs4, cs0, val, lb]
    rw [e0]
    exact Bk.new (by simp))
  have HB0 : Hid (Below w.heap.size w ((w.alloc (.cells cs0 24)).alloc (.cells cs0 24))) := Lib.hid (by go_grown)
  have ec : cs0 = #[.int .u64 0, .int .u64 0, .int .u64 0, .int .u64 0] := rfl
  rw [ec] at KR0 KX0 HB0
  obtain ⟨gx, hgx⟩ : ∃ g, g = w.heap.size + 1 := ⟨_, rfl⟩
  rw [← hgx] at KX0 ⊢
  have HGX := Lib.hid hgx
  clear ec hgx
  generalize ((w.alloc (.cells #[.int .u64 0, .int .u64 0, .int .u64 0, .int .u64 0] 24)).alloc (.cells #[.int .u64 0, .int .u64 0, .int .u64 0, .int .u64 0] 24)) = w0 at KR0 KX0 HB0 ⊢
  go_loopw [4] (fun i wr => ∃ k : Nat, k ≤ L ∧ i = .int .i64 (k : Int) ∧ Bk 24 wr gx (cs4 (val (r.take k))) ∧ Bk 24 wr w.heap.size #[.int .u64 0, .int .u64 0, .int .u64 0, .int .u64 0] ∧ Below w.heap.size w wr) (fun i _ => L - (intOf i).toNat)
  case atStart => exact ⟨0, Nat.zero_le _, rfl, KX0.out, KR0.out, HB0.out⟩
  case round =>
    clear KX0 KR0 HB0
    obtain ⟨k, hk, rfl, hx, hr, hb⟩ := hrel
    have KX := Lib.hid hx
    have KR := Lib.hid hr
    have HB := Lib.hid hb
    clear hx hr hb
    by_cases hkL : k < L
    · have hkr : k < r.length := by have := HL.out; omega
      have ia := (HB.out.cell (p := ⟨g, k, none⟩) HG.out).trans (HC.out k hkr)
      have hd := HD.out _ (List.getElem_mem hkr)
      have HT := Lib.hid (take_val hkr)
      have hVl : val (r.take k) < 65536 ^ k := by
        have := val_lt (r.take k) (dig_take HD.out k)
        rwa [List.length_take, Nat.min_eq_left (by omega)] at this
      generalize r[k] = d at ia hd HT
      generalize hVV : val (r.take k) = V at KX HT hVl
      clear hVV
      obtain ⟨q, hq⟩ : ∃ q, q = k / 4 := ⟨_, rfl⟩
      have hq4 : q < 4 := by omega
      have t1 : Int.tdiv (k : Int) 4 = (q : Int) := by rw [Int.tdiv_eq_ediv_of_nonneg (by omega)]; omega
      have ix := (KX.out.cell q).trans (cs4_get V hq4)
      have fo := KX.out.fro q
      have IX := Lib.hid (And.intro ia (And.intro ix fo))
      clear ia ix fo
      have hs4 : k % 4 = 0 ∨ k % 4 = 1 ∨ k % 4 = 2 ∨ k % 4 = 3 := by omega
      rcases hs4 with hs | hs | hs | hs
      · have e4 : k = 4 * q + 0 := by omega
        have t2 : Int.tmod (k : Int) 4 = 0 := by rw [Int.tmod_eq_emod_of_nonneg (by omega)]; omega
        have hV2 : V < 65536 ^ (4 * q + 0) := by rw [← e4]; exact hVl
        obtain ⟨hxl, _⟩ := lb_own (s := 0) hq4 (by decide) hV2 hd
        have HP := Lib.hid (cs4_put (s := 0) hq4 (by decide) hV2 hd)
        rw [← e4, ← HT.out, show (65536 : Nat) ^ 0 = 1 from rfl] at HP
        rw [show (65536 : Nat) ^ 0 = 1 from rfl] at hxl
        clear e4 hV2 hVl HT hq hs
        go_wp2_with fail
        refine out50 g L cap gx q k d (lb V q) hxl hd hkL (by omega) hc hq4 t1 t2 wr IX.out.1 IX.out.2.1 IX.out.2.2 ?_
        intros
        rename_i wn wm hsm hwn
        subst hwn
        have KX2 : Hid (Bk 24 (wm.setCell ⟨gx, q, none⟩ (.int .u64 ((lb V q + 1 * d : Nat) : Int))) gx (cs4 (val (r.take (k + 1))))) := Lib.hid (by
          rw [← HP.out]
          exact Bk.same (KX.out.below hsm.below0))
        have KR2 : Hid (Bk 24 (wm.setCell ⟨gx, q, none⟩ (.int .u64 ((lb V q + 1 * d : Nat) : Int))) w.heap.size #[.int .u64 0, .int .u64 0, .int .u64 0, .int .u64 0]) := Lib.hid (Bk.oth (by show w.heap.size ≠ gx; have := HGX.out; omega) (KR.out.below hsm.below0))
        have HB2 : Hid (Below w.heap.size w (wm.setCell ⟨gx, q, none⟩ (.int .u64 ((lb V q + 1 * d : Nat) : Int)))) := Lib.hid ((hsm.below HB.out).setCell (p := ⟨gx, q, none⟩) (by show w.heap.size ≤ gx; have := HGX.out; omega) _)
        clear hsm KX KR HB IX
        generalize (wm.setCell ⟨gx, q, none⟩ (.int .u64 ((lb V q + 1 * d : Nat) : Int))) = wq at KX2 KR2 HB2 ⊢
        go_wp2_with fail
        go_roundw
        case rel => exact ⟨k + 1, by omega, by go_num, KX2.out, KR2.out, HB2.out⟩
        case measure => simp [intOf] <;> omega
      · have e4 : k = 4 * q + 1 := by omega
        have t2 : Int.tmod (k : Int) 4 = 1 := by rw [Int.tmod_eq_emod_of_nonneg (by omega)]; omega
        have hV2 : V < 65536 ^ (4 * q + 1) := by rw [← e4]; exact hVl
        obtain ⟨hxl, _⟩ := lb_own (s := 1) hq4 (by decide) hV2 hd
        have HP := Lib.hid (cs4_put (s := 1) hq4 (by decide) hV2 hd)
        rw [← e4, ← HT.out, show (65536 : Nat) ^ 1 = 65536 from rfl] at HP
        rw [show (65536 : Nat) ^ 1 = 65536 from rfl] at hxl
        clear e4 hV2 hVl HT hq hs
        go_wp2_with fail
        refine out51 g L cap gx q k d (lb V q) hxl hd hkL (by omega) hc hq4 t1 t2 wr IX.out.1 IX.out.2.1 IX.out.2.2 ?_
        intros
        rename_i wn wm hsm hwn
        subst hwn
        have KX2 : Hid (Bk 24 (wm.setCell ⟨gx, q, none⟩ (.int .u64 ((lb V q + 65536 * d : Nat) : Int))) gx (cs4 (val (r.take (k + 1))))) := Lib.hid (by
          rw [← HP.out]
          exact Bk.same (KX.out.below hsm.below0))
        have KR2 : Hid (Bk 24 (wm.setCell ⟨gx, q, none⟩ (.int .u64 ((lb V q + 65536 * d : Nat) : Int))) w.heap.size #[.int .u64 0, .int .u64 0, .int .u64 0, .int .u64 0]) := Lib.hid (Bk.oth (by show w.heap.size ≠ gx; have := HGX.out; omega) (KR.out.below hsm.below0))
        have HB2 : Hid (Below w.heap.size w (wm.setCell ⟨gx, q, none⟩ (.int .u64 ((lb V q + 65536 * d : Nat) : Int)))) := Lib.hid ((hsm.below HB.out).setCell (p := ⟨gx, q, none⟩) (by show w.heap.size ≤ gx; have := HGX.out; omega) _)
        clear hsm KX KR HB IX
        generalize (wm.setCell ⟨gx, q, none⟩ (.int .u64 ((lb V q + 65536 * d : Nat) : Int))) = wq at KX2 KR2 HB2 ⊢
        go_wp2_with fail
        go_roundw
        case rel => exact ⟨k + 1, by omega, by go_num, KX2.out, KR2.out, HB2.out⟩
        case measure => simp [intOf] <;> omega
      · have e4 : k = 4 * q + 2 := by omega
        have t2 : Int.tmod (k : Int) 4 = 2 := by rw [Int.tmod_eq_emod_of_nonneg (by omega)]; omega
        have hV2 : V < 65536 ^ (4 * q + 2) := by rw [← e4]; exact hVl
        obtain ⟨hxl, _⟩ := lb_own (s := 2) hq4 (by decide) hV2 hd
        have HP := Lib.hid (cs4_put (s := 2) hq4 (by decide) hV2 hd)
        rw [← e4, ← HT.out, show (65536 : Nat) ^ 2 = 4294967296 from rfl] at HP
        rw [show (65536 : Nat) ^ 2 = 4294967296 from rfl] at hxl
        clear e4 hV2 hVl HT hq hs
        go_wp2_with fail
        refine out52 g L cap gx q k d (lb V q) hxl hd hkL (by omega) hc hq4 t1 t2 wr IX.out.1 IX.out.2.1 IX.out.2.2 ?_
        intros
        rename_i wn wm hsm hwn
        subst hwn
        have KX2 : Hid (Bk 24 (wm.setCell ⟨gx, q, none⟩ (.int .u64 ((lb V q + 4294967296 * d : Nat) : Int))) gx (cs4 (val (r.take (k + 1))))) := Lib.hid (by
          rw [← HP.out]
          exact Bk.same (KX.out.below hsm.below0))
        have KR2 : Hid (Bk 24 (wm.setCell ⟨gx, q, none⟩ (.int .u64 ((lb V q + 4294967296 * d : Nat) : Int))) w.heap.size #[.int .u64 0, .int .u64 0, .int .u64 0, .int .u64 0]) := Lib.hid (Bk.oth (by show w.heap.size ≠ gx; have := HGX.out; omega) (KR.out.below hsm.below0))
        have HB2 : Hid (Below w.heap.size w (wm.setCell ⟨gx, q, none⟩ (.int .u64 ((lb V q + 4294967296 * d : Nat) : Int)))) := Lib.hid ((hsm.below HB.out).setCell (p := ⟨gx, q, none⟩) (by show w.heap.size ≤ gx; have := HGX.out; omega) _)
        clear hsm KX KR HB IX
        generalize (wm.setCell ⟨gx, q, none⟩ (.int .u64 ((lb V q + 4294967296 * d : Nat) : Int))) = wq at KX2 KR2 HB2 ⊢
        go_wp2_with fail
        go_roundw
        case rel => exact ⟨k + 1, by omega, by go_num, KX2.out, KR2.out, HB2.out⟩
        case measure => simp [intOf] <;> omega
      · have e4 : k = 4 * q + 3 := by omega
        have t2 : Int.tmod (k : Int) 4 = 3 := by rw [Int.tmod_eq_emod_of_nonneg (by omega)]; omega
        have hV2 : V < 65536 ^ (4 * q + 3) := by rw [← e4]; exact hVl
        obtain ⟨hxl, _⟩ := lb_own (s := 3) hq4 (by decide) hV2 hd
        have HP := Lib.hid (cs4_put (s := 3) hq4 (by decide) hV2 hd)
        rw [← e4, ← HT.out, show (65536 : Nat) ^ 3 = 281474976710656 from rfl] at HP
        rw [show (65536 : Nat) ^ 3 = 281474976710656 from rfl] at hxl
        clear e4 hV2 hVl HT hq hs
        go_wp2_with fail
        refine out53 g L cap gx q k d (lb V q) hxl hd hkL (by omega) hc hq4 t1 t2 wr IX.out.1 IX.out.2.1 IX.out.2.2 ?_
        intros
        rename_i wn wm hsm hwn
        subst hwn
        have KX2 : Hid (Bk 24 (wm.setCell ⟨gx, q, none⟩ (.int .u64 ((lb V q + 281474976710656 * d : Nat) : Int))) gx (cs4 (val (r.take (k + 1))))) := Lib.hid (by
          rw [← HP.out]
          exact Bk.same (KX.out.below hsm.below0))
        have KR2 : Hid (Bk 24 (wm.setCell ⟨gx, q, none⟩ (.int .u64 ((lb V q + 281474976710656 * d : Nat) : Int))) w.heap.size #[.int .u64 0, .int .u64 0, .int .u64 0, .int .u64 0]) := Lib.hid (Bk.oth (by show w.heap.size ≠ gx; have := HGX.out; omega) (KR.out.below hsm.below0))
        have HB2 : Hid (Below w.heap.size w (wm.setCell ⟨gx, q, none⟩ (.int .u64 ((lb V q + 281474976710656 * d : Nat) : Int)))) := Lib.hid ((hsm.below HB.out).setCell (p := ⟨gx, q, none⟩) (by show w.heap.size ≤ gx; have := HGX.out; omega) _)
        clear hsm KX KR HB IX
        generalize (wm.setCell ⟨gx, q, none⟩ (.int .u64 ((lb V q + 281474976710656 * d : Nat) : Int))) = wq at KX2 KR2 HB2 ⊢
        go_wp2_with fail
        go_roundw
        case rel => exact ⟨k + 1, by omega, by go_num, KX2.out, KR2.out, HB2.out⟩
        case measure => simp [intOf] <;> omega
    · obtain rfl : k = L := by omega
      have htt : r.take k = r := List.take_of_length_le (by have := HL.out; omega)
      rw [htt, HV.out] at KX
      obtain ⟨a0, a1, a2, a3⟩ := Bk.cells (show Bk 24 wr gx #[.int .u64 (lb x 0 : Nat), .int .u64 (lb x 1 : Nat), .int .u64 (lb x 2 : Nat), .int .u64 (lb x 3 : Nat)] from KX.out)
      obtain ⟨b0, b1, b2, b3⟩ := KR.out.cells
      obtain ⟨f0, f1, f2, f3⟩ := KR.out.fros
      clear htt
      go_wp2_with fail
      refine ret_cell rfl w.heap.size x rfl (Bk.put KR.out) rfl ⟨rfl, ?_⟩
      have hb := HB.out
      go_grown
def Nw (B : Nat) (t : TypeId) (cs : Array Value) (w : World) (x : Value) : Prop := ∃ g, x = .pointer (some ⟨g, 0, none⟩) ∧ B ≤ g ∧ Bk t w g cs
theorem Nw.below {B : Nat} {t : TypeId} {cs : Array Value} {w w' : World} {x : Value} (h : Nw B t cs w x) (hb : Below w.heap.size w w') : Nw B t cs w' x := by
  obtain ⟨g, h1, h2, h3⟩ := h
  exact ⟨g, h1, h2, h3.below hb⟩
end Go.Proofs.YtpggkfdijmnmiaaGreat.Ref
