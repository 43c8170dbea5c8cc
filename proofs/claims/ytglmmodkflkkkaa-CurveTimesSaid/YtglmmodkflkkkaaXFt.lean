import Derived.Test.YtglmmodkflkkkaaXFo
set_option linter.unusedVariables false
set_option linter.unusedSimpArgs false
set_option maxRecDepth 100000
namespace Go.Proofs.Ytglmmodkflkkkaa.Ref
open Go.RowKit Go.Proofs.Ytglmmodkflkkkaa.Digits
theorem dig_at {r : List Nat} (h : Dig r) {q : Nat} (hq : q < r.length) : val r / 65536 ^ q % 65536 = r[q] := by
  have e := val_append (r.take q) (r.drop q)
  rw [List.take_append_drop, List.length_take, Nat.min_eq_left (by omega), drop_val hq] at e
  have hlt := val_lt (r.take q) (dig_take h q)
  rw [List.length_take, Nat.min_eq_left (by omega)] at hlt
  have hd := h _ (List.getElem_mem hq)
  rw [e, Nat.add_mul_div_left _ _ (Nat.pow_pos (by decide)), Nat.div_eq_of_lt hlt]
  omega
theorem bit_at {r : List Nat} (h : Dig r) {k : Nat} (hk : k / 16 < r.length) : r[k / 16] / 2 ^ (k % 16) % 2 = val r / 2 ^ k % 2 := by
  rw [← dig_at h hk]
  have hs : k % 16 < 16 := Nat.mod_lt _ (by decide)
  generalize hx : val r / 65536 ^ (k / 16) = x
  have e : val r / 2 ^ k = x / 2 ^ (k % 16) := by
    rw [← hx, Nat.div_div_eq_div_mul]
    congr 1
    rw [show (65536 : Nat) = 2 ^ 16 from rfl, ← Nat.pow_mul, ← Nat.pow_add]
    congr 1
    omega
  rw [e, ← Nat.mod_mul_right_div_self, ← Nat.mod_mul_right_div_self (m := x)]
  congr 1
  refine Nat.mod_mod_of_dvd _ ?_
  rw [show (65536 : Nat) = 2 ^ (k % 16) * 2 ^ (16 - k % 16) from by rw [← Nat.pow_add, show k % 16 + (16 - k % 16) = 16 by omega]]
  exact Nat.mul_dvd_mul_left _ (Nat.pow_dvd_pow 2 (show 1 ≤ 16 - k % 16 by omega))
end Go.Proofs.Ytglmmodkflkkkaa.Ref
