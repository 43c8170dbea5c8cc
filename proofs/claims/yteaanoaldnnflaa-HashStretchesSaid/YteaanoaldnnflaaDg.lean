/- Numbers in digits of sixteen bits: products, comparisons, roots, as plain mathematics. Nothing of the program; no condition. -/
import Derived.Test.YteaanoaldnnflaaA
set_option linter.unusedVariables false
namespace Go.Proofs.Yteaanoaldnnflaa

/-- the number that the digits are, the lowest first -/
def val : List Nat → Nat
  | [] => 0
  | x :: l => x + 65536 * val l
def Dig (l : List Nat) : Prop := ∀ x, x ∈ l → x < 65536
theorem val_lt : ∀ {l : List Nat}, Dig l → val l < 65536 ^ l.length
  | [], _ => by simp [val]
  | x :: l, h => by
    have h1 := h x (by simp)
    have h2 := val_lt (l := l) fun y hy => h y (by simp [hy])
    simp only [val, List.length_cons, Nat.pow_succ]
    omega
theorem val_set : ∀ (l : List Nat) (j x : Nat) (h : j < l.length), val (l.set j x) + l[j] * 65536 ^ j = val l + x * 65536 ^ j
  | y :: l, 0, x, _ => by simp [val]; omega
  | y :: l, j + 1, x, h => by
    have ih := val_set l j x (by simpa using h)
    simp only [List.set_cons_succ, val, List.getElem_cons_succ, Nat.pow_succ]
    have e1 : l[j]'(by simpa using h) * (65536 ^ j * 65536) = 65536 * (l[j]'(by simpa using h) * 65536 ^ j) := by rw [Nat.mul_comm (65536 ^ j), Nat.mul_left_comm]
    have e2 : x * (65536 ^ j * 65536) = 65536 * (x * 65536 ^ j) := by rw [Nat.mul_comm (65536 ^ j), Nat.mul_left_comm]
    rw [e1, e2]
    omega
theorem val_take_succ : ∀ (l : List Nat) (j : Nat) (h : j < l.length), val (l.take (j + 1)) = val (l.take j) + l[j] * 65536 ^ j
  | y :: l, 0, _ => by simp [val]
  | y :: l, j + 1, h => by
    have ih := val_take_succ l j (by simpa using h)
    simp only [List.take_succ_cons, val, List.getElem_cons_succ, Nat.pow_succ] at ih ⊢
    have e1 : l[j]'(by simpa using h) * (65536 ^ j * 65536) = 65536 * (l[j]'(by simpa using h) * 65536 ^ j) := by rw [Nat.mul_comm (65536 ^ j), Nat.mul_left_comm]
    rw [ih, e1]; omega
theorem val_zero (n : Nat) : val (List.replicate n 0) = 0 := by
  induction n with
  | zero => rfl
  | succ n ih => simp [List.replicate_succ, val, ih]
theorem dig_set {l : List Nat} (h : Dig l) (j x : Nat) (hx : x < 65536) : Dig (l.set j x) := by
  intro y hy
  rcases List.mem_or_eq_of_mem_set hy with h1 | h1
  · exact h y h1
  · rw [h1]; exact hx
theorem dig_get {l : List Nat} (h : Dig l) (j : Nat) (hj : j < l.length) : l[j] < 65536 := h _ (List.getElem_mem hj)

/-- what the inner loop holds: the digits so far and the carry -/
structure Inn (S ai : Nat) (b out : List Nat) (i k c : Nat) : Prop where
  dig : Dig out
  carry : c < 65536
  sum : val out + c * 65536 ^ (i + k) = S + ai * val (b.take k) * 65536 ^ i
  rest : ∀ j, (h : j < out.length) → i + b.length ≤ j → out[j] = 0
theorem inn_step {S ai : Nat} {b out : List Nat} {i k c : Nat} (x : Inn S ai b out i k c) (hai : ai < 65536) (hb : Dig b) (hk : k < b.length) (ho : i + b.length < out.length) :
    Inn S ai b (out.set (i + k) ((c + (out[i + k]'(by omega) + ai * b[k])) % 65536)) i (k + 1) ((c + (out[i + k]'(by omega) + ai * b[k])) / 65536) := by
  have hbk := dig_get hb k hk
  have hok := dig_get x.dig (i + k) (by omega)
  have hm : ai * b[k] ≤ 65535 * 65535 := Nat.mul_le_mul (by omega) (by omega)
  have hcr := x.carry
  have hvs := val_set out (i + k) ((c + (out[i + k]'(by omega) + ai * b[k])) % 65536) (by omega)
  have hsum := x.sum
  have hts := val_take_succ b k hk
  generalize hT : c + (out[i + k]'(by omega) + ai * b[k]) = T at hvs ⊢
  refine ⟨dig_set x.dig _ _ (Nat.mod_lt _ (by decide)), by omega, ?_, fun j hj hle => ?_⟩
  · have e0 : 65536 * (T / 65536) + T % 65536 = T := Nat.div_add_mod T 65536
    have e1 : T / 65536 * 65536 ^ (i + (k + 1)) + T % 65536 * 65536 ^ (i + k) = T * 65536 ^ (i + k) := by
      rw [← Nat.add_assoc, Nat.pow_succ, Nat.mul_comm (65536 ^ (i + k)) 65536, ← Nat.mul_assoc, ← Nat.add_mul, Nat.mul_comm (T / 65536), e0]
    have e2 : T * 65536 ^ (i + k) = c * 65536 ^ (i + k) + (out[i + k]'(by omega) * 65536 ^ (i + k) + ai * b[k] * 65536 ^ (i + k)) := by
      rw [← hT, Nat.add_mul, Nat.add_mul]
    have e3 : ai * val (b.take (k + 1)) * 65536 ^ i = ai * val (b.take k) * 65536 ^ i + ai * b[k] * 65536 ^ (i + k) := by
      rw [hts, Nat.mul_add, Nat.add_mul, Nat.pow_add, Nat.mul_comm (65536 ^ i) (65536 ^ k)]
      simp only [Nat.mul_assoc]
    rw [e3]
    omega
  · have : (out.set (i + k) (T % 65536))[j]'hj = out[j]'(by simpa using hj) := List.getElem_set_ne (by omega) _
    rw [this]
    exact x.rest j _ hle
/-- what the outer loop holds -/
structure Out (a b out : List Nat) (i : Nat) : Prop where
  dig : Dig out
  len : out.length = a.length + b.length
  sum : val out = val (a.take i) * val b
  rest : ∀ j, (h : j < out.length) → i + b.length ≤ j → out[j] = 0
theorem out_start (a b : List Nat) : Out a b (List.replicate (a.length + b.length) 0) 0 :=
  ⟨fun x hx => by have := List.eq_of_mem_replicate hx; omega, by simp, by rw [val_zero]; simp [val], fun j h _ => by simp⟩
theorem out_in {a b out : List Nat} {i : Nat} (x : Out a b out i) (hi : i < a.length) : Inn (val out) a[i] b out i 0 0 :=
  ⟨x.dig, by omega, by simp [val], fun j h hle => x.rest j h hle⟩
theorem in_out {a b out out' : List Nat} {i c : Nat} (x : Out a b out i) (hi : i < a.length) (y : Inn (val out) a[i] b out' i b.length c) (hl : out'.length = out.length) :
    Out a b (out'.set (i + b.length) c) (i + 1) := by
  have hlt : i + b.length < out'.length := by rw [hl, x.len]; omega
  have h0 := y.rest (i + b.length) hlt (Nat.le_refl _)
  have hvs := val_set out' (i + b.length) c hlt
  rw [h0, Nat.zero_mul, Nat.add_zero] at hvs
  refine ⟨dig_set y.dig _ _ y.carry, by rw [List.length_set, hl, x.len], ?_, fun j h hle => ?_⟩
  · rw [hvs, y.sum, x.sum, val_take_succ a i hi, Nat.add_mul, List.take_length]
    congr 1
    rw [Nat.mul_assoc, Nat.mul_assoc, Nat.mul_comm (val b)]
  · have : (out'.set (i + b.length) c)[j]'h = out'[j]'(by simpa using h) := List.getElem_set_ne (by omega) _
    rw [this]
    exact y.rest j _ (by omega)
theorem out_end {a b out : List Nat} (x : Out a b out a.length) : val out = val a * val b := by
  have := x.sum
  rwa [List.take_length] at this

/-- p at the place m, 0 elsewhere -/
def spot (p m j : Nat) : Nat := if j = m then p else 0
/-- what the comparison from the top holds: from j on the digits are p's -/
def Top (a : List Nat) (p m j : Nat) : Prop := ∀ i, (h : i < a.length) → j ≤ i → a[i] = spot p m i
def spots (p m n : Nat) : List Nat := (List.range n).map (spot p m)
theorem val_snoc : ∀ (l : List Nat) (x : Nat), val (l ++ [x]) = val l + x * 65536 ^ l.length
  | [], x => by simp [val]
  | y :: l, x => by
    simp only [List.cons_append, val, val_snoc l x, List.length_cons, Nat.pow_succ]
    have e2 : x * (65536 ^ l.length * 65536) = 65536 * (x * 65536 ^ l.length) := by rw [Nat.mul_comm (65536 ^ l.length), Nat.mul_left_comm]
    rw [e2]; omega
theorem val_spots (p m : Nat) : ∀ n, val (spots p m n) = if m < n then p * 65536 ^ m else 0
  | 0 => by simp [spots, val]
  | n + 1 => by
    have e : spots p m (n + 1) = spots p m n ++ [spot p m n] := by simp [spots, List.range_succ]
    rw [e, val_snoc, val_spots p m n]
    have hl : (spots p m n).length = n := by simp [spots]
    rw [hl]
    unfold spot
    by_cases h1 : n = m
    · subst h1; rw [if_neg (by omega), if_pos rfl, if_pos (by omega)]; omega
    · rw [if_neg h1]
      by_cases h2 : m < n
      · rw [if_pos h2, if_pos (by omega)]; omega
      · rw [if_neg h2, if_neg (by omega)]; omega
theorem spots_get (p m n j : Nat) (h : j < (spots p m n).length) : (spots p m n)[j] = spot p m j := by simp [spots]
/-- the part from j on -/
theorem val_split : ∀ (l : List Nat) (j : Nat), val l = val (l.take j) + 65536 ^ j * val (l.drop j)
  | l, 0 => by simp [val]
  | [], j + 1 => by simp [val]
  | y :: l, j + 1 => by
    simp only [List.take_succ_cons, List.drop_succ_cons, val, Nat.pow_succ]
    rw [val_split l j, Nat.mul_add, Nat.mul_comm (65536 ^ j) 65536, Nat.mul_assoc]; omega
theorem top_drop {a : List Nat} {p m j : Nat} (h : Top a p m j) : a.drop j = (spots p m a.length).drop j := by
  apply List.ext_getElem (by simp [spots])
  intro i h1 h2
  rw [List.getElem_drop, List.getElem_drop, spots_get]
  exact h _ _ (by omega)
theorem dig_take {l : List Nat} (h : Dig l) (j : Nat) : Dig (l.take j) := fun x hx => h x (List.mem_of_mem_take hx)
theorem top_end {a : List Nat} {p m : Nat} (h : Top a p m 0) (hm : m < a.length) : val a = p * 65536 ^ m := by
  have := top_drop h
  simp only [List.drop_zero] at this
  rw [this, val_spots, if_pos hm]
theorem top_found {a : List Nat} {p m j : Nat} (ha : Dig a) (hp : p < 65536) (h : Top a p m (j + 1)) (hj : j < a.length) (hm : m < a.length) (hne : a[j] ≠ spot p m j) : (spot p m j < a[j]) ↔ p * 65536 ^ m < val a := by
  have e1 := val_split a j
  have e2 := val_split (spots p m a.length) j
  rw [val_spots, if_pos hm] at e2
  have hjs : j < (spots p m a.length).length := by simp [spots, hj]
  rw [List.drop_eq_getElem_cons hj] at e1
  rw [List.drop_eq_getElem_cons hjs, spots_get, ← top_drop h] at e2
  simp only [val] at e1 e2
  have hs : Dig (spots p m a.length) := fun x hx => by
    obtain ⟨i, _, rfl⟩ := List.mem_map.1 hx
    unfold spot; split <;> omega
  have l1 := val_lt (dig_take ha j)
  have l2 := val_lt (dig_take hs j)
  rw [List.length_take, Nat.min_eq_left (by omega)] at l1 l2
  generalize val (a.take j) = x at e1 l1
  generalize val ((spots p m a.length).take j) = y at e2 l2
  generalize val (a.drop (j + 1)) = z at e1 e2
  generalize spot p m j = q at *
  generalize a[j] = r at *
  generalize 65536 ^ j = P at *
  rw [e1, e2]
  have f1 : P * (r + 65536 * z) = P * r + P * (65536 * z) := Nat.mul_add _ _ _
  have f2 : P * (q + 65536 * z) = P * q + P * (65536 * z) := Nat.mul_add _ _ _
  rw [f1, f2]
  constructor
  · intro hlt
    have : P * (q + 1) ≤ P * r := Nat.mul_le_mul_left _ hlt
    rw [Nat.mul_add] at this
    omega
  · intro hlt
    rcases Nat.lt_or_ge q r with h | h
    · exact h
    · have : r + 1 ≤ q := by omega
      have : P * (r + 1) ≤ P * q := Nat.mul_le_mul_left _ this
      rw [Nat.mul_add] at this
      omega

/-- the n-th root of p 2^(32 n), its highest k bits beyond x -/
def rootN (p n : Nat) : Nat → Nat → Nat
  | 0, x => x
  | k + 1, x => rootN p n k (if p * 65536 ^ (2 * n) < (x + 2 ^ k) ^ n then x else x + 2 ^ k)
def prStep (l : List Nat) (p : Nat) : List Nat := if l.all fun q => decide (p % q ≠ 0) then l ++ [p] else l
/-- the primes below p -/
def prL (p : Nat) : List Nat := (List.range' 2 (p - 2)).foldl prStep []
theorem keys_ok : (prL 312).map (fun p => UInt32.ofNat (rootN p 3 41 0 % 4294967296)) = kL := by decide +kernel
theorem first_ok : (prL 20).map (fun p => UInt32.ofNat (rootN p 2 41 0 % 4294967296)) = firstL := by decide +kernel
end Go.Proofs.Yteaanoaldnnflaa
