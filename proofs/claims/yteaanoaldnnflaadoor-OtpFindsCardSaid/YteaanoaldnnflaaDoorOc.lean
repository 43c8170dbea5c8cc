/- Codes of six digits: the plain ones. No condition. -/
import Derived.Test.YteaanoaldnnflaaDoorA
import Derived.Lib.ItoaMem
set_option linter.unusedVariables false
set_option linter.unusedSimpArgs false
namespace Go.Proofs.YteaanoaldnnflaaDoor

/-- a number's 64 bits -/
def u64n (s : Int) : Nat := (s % 18446744073709551616).toNat
theorem u64n_lt (s : Int) : u64n s < 18446744073709551616 := by unfold u64n; omega
def byteN (n j : Nat) : UInt8 := UInt8.ofNat (n / 2 ^ (56 - 8 * j))
/-- as eight bytes, the highest first: the first j of them, the others 0 -/
def eightTo (n j : Nat) : List UInt8 := (List.range 8).map fun i => if i < j then byteN n i else 0
def eightL (n : Nat) : List UInt8 := (List.range 8).map fun i => byteN n i
theorem eight_0 (n : Nat) : eightTo n 0 = List.replicate 8 0 := by
  unfold eightTo; rfl
theorem eight_8 (n : Nat) : eightTo n 8 = eightL n := by
  unfold eightTo eightL
  apply List.map_congr_left
  intro i hi
  rw [List.mem_range] at hi
  rw [if_pos hi]
theorem eightTo_length (n j : Nat) : (eightTo n j).length = 8 := by simp [eightTo]
theorem eightL_length (n : Nat) : (eightL n).length = 8 := by simp [eightL]
theorem eight_set (n j : Nat) (h : j < 8) : (eightTo n j).set j (byteN n j) = eightTo n (j + 1) := by
  apply List.ext_getElem
  · simp [eightTo]
  · intro i h1 h2
    rw [List.getElem_set]
    simp only [eightTo, List.getElem_map, List.getElem_range]
    by_cases e : j = i
    · subst e; rw [if_pos rfl, if_pos (by omega)]
    · rw [if_neg e]
      by_cases e2 : i < j
      · rw [if_pos e2, if_pos (by omega)]
      · rw [if_neg e2, if_neg (by omega)]
theorem byteN_val (n j : Nat) : ((byteN n j).toNat : Int) = (n : Int) / 2 ^ (56 - 8 * j) % 256 := by
  unfold byteN
  rw [UInt8.toNat_ofNat']
  simp

/-- the place in a mac that its last byte tells; the bytes from there on -/
def atL (m : List UInt8) : Nat := (m.getD 31 0).toNat % 16
theorem atL_lt (m : List UInt8) : atL m < 16 := Nat.mod_lt _ (by decide)
def numTo (m : List UInt8) : Nat → Nat
  | 0 => 0
  | k + 1 => numTo m k * 256 + (m.getD (atL m + k) 0).toNat
theorem numTo_lt (m : List UInt8) : ∀ k, numTo m k < 256 ^ k
  | 0 => by simp [numTo]
  | k + 1 => by
    have h1 := numTo_lt m k
    have h2 := (m.getD (atL m + k) 0).toNat_lt
    rw [numTo, Nat.pow_succ]
    omega
def numN (m : List UInt8) : Nat := numTo m 4 % 2147483648
def digs (n : Nat) : List UInt8 := [100000, 10000, 1000, 100, 10, 1].map fun p => UInt8.ofNat (48 + n / p % 10)
theorem itoa_digs (n : Nat) : (Lib.itoa ((1000000 + n % 1000000 : Nat) : Int)).drop 1 = digs n := by
  rw [Lib.itoa_nonneg, Lib.decDigits_eq, Lib.nDigits_unique 6 _ (by omega) (by omega)]
  simp only [digs, List.range, List.range.loop, List.map, List.drop, Lib.dg, Nat.reducePow, Nat.reduceAdd, Nat.reduceSub, List.cons.injEq, and_true]
  refine ⟨?_, ?_, ?_, ?_, ?_, ?_⟩ <;> congr 2 <;> omega
theorem itoa_length7 (n : Nat) : (Lib.itoa ((1000000 + n % 1000000 : Nat) : Int)).length = 7 := by
  rw [Lib.itoa_nonneg, Lib.decDigits_length, Lib.nDigits_unique 6 _ (by omega) (by omega)]
theorem digs_length (n : Nat) : (digs n).length = 6 := by simp [digs]
theorem digs_digit (n : Nat) : ∀ x ∈ digs n, 48 ≤ x.toNat ∧ x.toNat ≤ 57 := by
  intro x hx
  simp only [digs, List.mem_map] at hx
  obtain ⟨p, _, rfl⟩ := hx
  rw [UInt8.toNat_ofNat']
  omega
end Go.Proofs.YteaanoaldnnflaaDoor
