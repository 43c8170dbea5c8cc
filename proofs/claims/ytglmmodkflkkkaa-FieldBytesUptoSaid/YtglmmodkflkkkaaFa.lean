/- Digits of sixteen bits: values, without noughts on top, how two stand. No condition. -/
import Derived.Lib.Hide
set_option linter.unusedVariables false
set_option linter.unusedSimpArgs false
namespace Go.Proofs.Ytglmmodkflkkkaa.Digits

/-- the value of digits, the lowest first -/
def val : List Nat → Nat
  | [] => 0
  | x :: l => x + 65536 * val l
def Dig (l : List Nat) : Prop := ∀ x ∈ l, x < 65536
theorem val_append : ∀ l m : List Nat, val (l ++ m) = val l + 65536 ^ l.length * val m
  | [], m => by simp [val]
  | x :: l, m => by
    rw [List.cons_append, val, val, val_append l m, List.length_cons, Nat.pow_succ, Nat.mul_add, ← Nat.mul_assoc, Nat.mul_comm 65536 (65536 ^ l.length)]
    omega
theorem val_snoc (l : List Nat) (x : Nat) : val (l ++ [x]) = val l + 65536 ^ l.length * x := by
  rw [val_append]; simp [val]
theorem val_lt : ∀ l : List Nat, Dig l → val l < 65536 ^ l.length
  | [], _ => by simp [val]
  | x :: l, h => by
    have h1 := h x (by simp)
    have h2 := val_lt l fun y hy => h y (by simp [hy])
    rw [val, List.length_cons, Nat.pow_succ]
    omega
theorem dig_take {l : List Nat} (h : Dig l) (n : Nat) : Dig (l.take n) := fun x hx => h x (List.mem_of_mem_take hx)
theorem dig_snoc {l : List Nat} {x : Nat} (h : Dig l) (hx : x < 65536) : Dig (l ++ [x]) := by
  intro y hy
  rcases List.mem_append.1 hy with hy | hy
  · exact h y hy
  · simp at hy; omega

/-- how many digits stay without the noughts on top -/
def top (l : List Nat) : Nat → Nat
  | 0 => 0
  | n + 1 => if l.getD n 0 = 0 then top l n else n + 1
theorem top_le (l : List Nat) : ∀ n, top l n ≤ n
  | 0 => Nat.le_refl _
  | n + 1 => by
    rw [top]
    split
    · exact Nat.le_trans (top_le l n) (Nat.le_succ n)
    · exact Nat.le_refl _
theorem top_val (l : List Nat) : ∀ n, n ≤ l.length → val (l.take (top l n)) = val (l.take n)
  | 0, _ => rfl
  | n + 1, h => by
    rw [top]
    split
    · rename_i h0
      rw [top_val l n (by omega), List.take_succ_eq_append_getElem (by omega), val_snoc]
      have : l[n]'(by omega) = 0 := by simpa [List.getD, show n < l.length by omega] using h0
      rw [this]; simp
    · rfl
theorem top_last (l : List Nat) : ∀ n, 0 < top l n → l.getD (top l n - 1) 0 ≠ 0
  | 0, h => by simp [top] at h
  | n + 1, h => by
    rw [top] at h ⊢
    split
    · rename_i h0
      rw [if_pos h0] at h
      exact top_last l n h
    · rename_i h0
      simpa using h0
def trimL (l : List Nat) : List Nat := l.take (top l l.length)
theorem trim_val (l : List Nat) : val (trimL l) = val l := by
  unfold trimL
  rw [top_val l _ (Nat.le_refl _), List.take_length]
theorem trim_dig {l : List Nat} (h : Dig l) : Dig (trimL l) := dig_take h _
/-- no nought on top -/
def Trim (l : List Nat) : Prop := l = [] ∨ l.getD (l.length - 1) 0 ≠ 0
theorem trim_trim (l : List Nat) : Trim (trimL l) := by
  have hle := top_le l l.length
  have hlen : (trimL l).length = top l l.length := by unfold trimL; rw [List.length_take]; omega
  rcases Nat.eq_zero_or_pos (top l l.length) with h | h
  · left
    unfold trimL; rw [h]; rfl
  · right
    have := top_last l l.length h
    rw [hlen]
    unfold trimL
    have hi : top l l.length - 1 < l.length := by omega
    simpa [List.getD, List.getElem?_take, show top l l.length - 1 < top l l.length by omega] using this
theorem val_ge {l : List Nat} (h : Trim l) (hl : l ≠ []) : 65536 ^ (l.length - 1) ≤ val l := by
  rcases h with h | h
  · exact absurd h hl
  · have hp : 0 < l.length := List.length_pos_iff.2 hl
    have e : l = l.take (l.length - 1) ++ [l[l.length - 1]'(by omega)] := by
      rw [← List.take_succ_eq_append_getElem (by omega), show l.length - 1 + 1 = l.length from by omega, List.take_length]
    have h1 : l[l.length - 1]'(by omega) ≠ 0 := by
      simpa [List.getD, show l.length - 1 < l.length by omega] using h
    have h2 : val l = val (l.take (l.length - 1)) + 65536 ^ (l.length - 1) * l[l.length - 1]'(by omega) := by
      have := val_snoc (l.take (l.length - 1)) (l[l.length - 1]'(by omega))
      rw [← e, List.length_take, Nat.min_eq_left (by omega)] at this
      exact this
    rw [h2]
    have h3 : 65536 ^ (l.length - 1) * 1 ≤ 65536 ^ (l.length - 1) * l[l.length - 1]'(by omega) := Nat.mul_le_mul_left _ (by omega)
    omega
theorem lt_of_len {a b : List Nat} (ha : Dig a) (hb : Trim b) (h : a.length < b.length) : val a < val b := by
  have h1 := val_lt a ha
  have h2 := val_ge hb (by intro e; rw [e] at h; simp at h)
  have h3 : 65536 ^ a.length ≤ 65536 ^ (b.length - 1) := Nat.pow_le_pow_right (by decide) (by omega)
  omega
/-- of two of one length that agree from place i on, the digit below decides -/
theorem lt_of_digit {a b : List Nat} (ha : Dig a) (hb : Dig b) (hl : a.length = b.length) (i : Nat) (hi : i < a.length) (hs : ∀ k, i < k → k < a.length → a.getD k 0 = b.getD k 0) (hd : a.getD i 0 < b.getD i 0) : val a < val b := by
  have ea : a = a.take i ++ a[i] :: a.drop (i + 1) := by rw [← List.drop_eq_getElem_cons hi, List.take_append_drop]
  have eb : b = b.take i ++ b[i]'(by omega) :: b.drop (i + 1) := by rw [← List.drop_eq_getElem_cons (by omega), List.take_append_drop]
  have hdr : a.drop (i + 1) = b.drop (i + 1) := by
    apply List.ext_getElem
    · simp [hl]
    · intro k h1 h2
      have h3 : i + 1 + k < a.length := by rw [List.length_drop] at h1; omega
      have := hs (i + 1 + k) (by omega) h3
      rw [List.getElem_drop, List.getElem_drop]
      simpa [List.getD, h3, show i + 1 + k < b.length by omega] using this
  have va : val a = val (a.take i) + 65536 ^ i * (a[i] + 65536 * val (a.drop (i + 1))) := by
    conv => lhs; rw [ea]
    rw [val_append, val, List.length_take, Nat.min_eq_left (by omega)]
  have vb : val b = val (b.take i) + 65536 ^ i * (b[i]'(by omega) + 65536 * val (b.drop (i + 1))) := by
    conv => lhs; rw [eb]
    rw [val_append, val, List.length_take, Nat.min_eq_left (by omega)]
  have hd' : a[i] + 1 ≤ b[i]'(by omega) := by
    have : a[i] < b[i]'(by omega) := by simpa [List.getD, hi, show i < b.length by omega] using hd
    omega
  have h1 := val_lt (a.take i) (dig_take ha i)
  rw [List.length_take, Nat.min_eq_left (by omega)] at h1
  rw [va, vb, hdr]
  have h2 : 65536 ^ i * (a[i] + 1 + 65536 * val (b.drop (i + 1))) ≤ 65536 ^ i * (b[i]'(by omega) + 65536 * val (b.drop (i + 1))) := Nat.mul_le_mul_left _ (by omega)
  have h3 : 65536 ^ i * (a[i] + 1 + 65536 * val (b.drop (i + 1))) = 65536 ^ i + 65536 ^ i * (a[i] + 65536 * val (b.drop (i + 1))) := by
    rw [show a[i] + 1 + 65536 * val (b.drop (i + 1)) = 1 + (a[i] + 65536 * val (b.drop (i + 1))) from by omega, Nat.mul_add, Nat.mul_one]
  omega
end Go.Proofs.Ytglmmodkflkkkaa.Digits
