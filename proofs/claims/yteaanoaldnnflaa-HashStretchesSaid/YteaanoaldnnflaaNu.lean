/- A block's sixteen numbers, word by word. No condition but the block's length. -/
import Derived.Test.YteaanoaldnnflaaRn
set_option linter.unusedVariables false
namespace Go.Proofs.Yteaanoaldnnflaa

theorem numsTo_succ (b : List UInt8) (n : Nat) : numsTo b (n + 1) = nstep b (numsTo b n) n := by
  simp [numsTo, List.range_succ]
theorem numsTo_len (b : List UInt8) (n : Nat) : (numsTo b n).length = 16 := by
  induction n with
  | zero => simp [numsTo]
  | succ n ih => rw [numsTo_succ, nstep, List.length_set, ih]
theorem nums_zero (b : List UInt8) (k : Nat) : ∀ n, n ≤ 4 * k → (numsTo b n).getD k 0 = 0
  | 0, _ => by
    simp only [numsTo, List.range_zero, List.foldl_nil]
    rw [List.getD_eq_getElem?_getD, List.getElem?_replicate]
    split <;> rfl
  | n + 1, h => by
    rw [numsTo_succ, nstep, List.getD_eq_getElem?_getD, List.getElem?_set_ne (by omega), ← List.getD_eq_getElem?_getD]
    exact nums_zero b k n (by omega)
/-- four bytes as a word -/
def word4 (a b c d : UInt8) : UInt32 := UInt32.ofNat (a.toNat * 16777216 + b.toNat * 65536 + c.toNat * 256 + d.toNat)
theorem sh8_4 (a b c d : UInt8) : sh8 (sh8 (sh8 (sh8 0 a) b) c) d = word4 a b c d := by
  have ha := a.toNat_lt
  have hb := b.toNat_lt
  have hc := c.toNat_lt
  have hd := d.toNat_lt
  apply UInt32.toNat_inj.1
  simp only [sh8, word4, UInt32.toNat_ofNat', UInt32.toNat_zero]
  omega
theorem word4_nat (a b c d : UInt8) : (word4 a b c d).toNat = a.toNat * 16777216 + b.toNat * 65536 + c.toNat * 256 + d.toNat := by
  have ha := a.toNat_lt
  have hb := b.toNat_lt
  have hc := c.toNat_lt
  have hd := d.toNat_lt
  rw [word4, UInt32.toNat_ofNat']
  omega
theorem nums_word (b : List UInt8) (i : Nat) (hi : i < 16) : numsTo b (4 * (i + 1)) = (numsTo b (4 * i)).set i (word4 (b.getD (4 * i) 0) (b.getD (4 * i + 1) 0) (b.getD (4 * i + 2) 0) (b.getD (4 * i + 3) 0)) := by
  have h0 := nums_zero b i (4 * i) (Nat.le_refl _)
  have hl := numsTo_len b (4 * i)
  rw [show 4 * (i + 1) = 4 * i + 3 + 1 from by omega, numsTo_succ, show 4 * i + 3 = 4 * i + 2 + 1 from by omega, numsTo_succ, show 4 * i + 2 = 4 * i + 1 + 1 from by omega, numsTo_succ, numsTo_succ]
  simp only [nstep]
  rw [show (4 * i + 1 + 1 + 1) / 4 = i from by omega, show (4 * i + 1 + 1) / 4 = i from by omega, show (4 * i + 1) / 4 = i from by omega, show 4 * i / 4 = i from by omega]
  generalize numsTo b (4 * i) = l at h0 hl
  have hg : ∀ (m : List UInt32) (x : UInt32), m.length = 16 → (m.set i x).getD i 0 = x := fun m x hm => by
    rw [List.getD_eq_getElem?_getD, List.getElem?_set_self (by omega)]; rfl
  simp only [List.set_set]
  rw [hg _ _ hl, hg _ _ hl, hg _ _ hl, h0]
  rw [sh8_4]
/-- the sixty-four, the first i laid -/
def wTo (b : List UInt8) (i : Nat) : List UInt32 := numsTo b (4 * i) ++ List.replicate 48 0
theorem wTo_len (b : List UInt8) (i : Nat) : (wTo b i).length = 64 := by simp [wTo, numsTo_len]
theorem wTo_0 (b : List UInt8) : wTo b 0 = List.replicate 64 0 := by
  simp only [wTo, numsTo, Nat.mul_zero, List.range_zero, List.foldl_nil]
  rw [List.replicate_append_replicate]
theorem wTo_succ (b : List UInt8) (i : Nat) (hi : i < 16) : (wTo b i).set i (word4 (b.getD (4 * i) 0) (b.getD (4 * i + 1) 0) (b.getD (4 * i + 2) 0) (b.getD (4 * i + 3) 0)) = wTo b (i + 1) := by
  unfold wTo
  rw [nums_word b i hi, List.set_append_left _ _ (by rw [numsTo_len]; exact hi)]
theorem wTo_16 (b : List UInt8) : wTo b 16 = spreadTo (numsL b) 16 := by
  simp [wTo, spreadTo, numsL]
theorem chunk_get (p : List UInt8) (o i : Nat) (hi : i < 64) (h : o + i < p.length) : ((p.drop o).take 64).getD i 0 = p[o + i]'h := by
  rw [List.getD_eq_getElem?_getD, List.getElem?_take, if_pos hi, List.getElem?_drop, List.getElem?_eq_getElem h]
  rfl
/-- the four bytes as the program joins them -/
theorem join4 (a b c d : UInt8) : bits .or .u32 (bits .or .u32 (bits .or .u32 ((a.toNat : Int) * 16777216) ((b.toNat : Int) * 65536)) ((c.toNat : Int) * 256)) (d.toNat : Int) = ((word4 a b c d).toNat : Int) := by
  have ha := a.toNat_lt
  have hb := b.toNat_lt
  have hc := c.toNat_lt
  have hd := d.toNat_lt
  rw [word4_nat]
  rw [show (a.toNat : Int) * 16777216 = ((a.toNat * 16777216 : Nat) : Int) from by omega, show (b.toNat : Int) * 65536 = ((b.toNat * 65536 : Nat) : Int) from by omega, show (c.toNat : Int) * 256 = ((c.toNat * 256 : Nat) : Int) from by omega]
  rw [u32_or_nat _ _ (by omega) (by omega), nat_join 24 _ _ (by omega) (by omega)]
  rw [u32_or_nat _ _ (by omega) (by omega), nat_join 16 _ _ (by omega) (by omega)]
  rw [u32_or_nat _ _ (by omega) (by omega), nat_join 8 _ _ (by omega) (by omega)]
theorem ch_w (e f g : UInt32) : e &&& f ^^^ (4294967295 ^^^ e) &&& g = Ch e f g := by
  unfold Ch
  have h : ∀ (x y z : BitVec 32), x &&& y ^^^ (4294967295#32 ^^^ x) &&& z = x &&& y ^^^ z &&& ~~~x := by
    intro x y z
    apply BitVec.eq_of_getLsbD_eq
    intro i hi
    have h1 : (4294967295#32).getLsbD i = true := by
      rw [show (4294967295#32) = BitVec.allOnes 32 from rfl, BitVec.getLsbD_allOnes]; simpa using hi
    simp only [BitVec.getLsbD_xor, BitVec.getLsbD_and, BitVec.getLsbD_not, h1, hi, decide_true, Bool.true_and]
    cases x.getLsbD i <;> cases y.getLsbD i <;> cases z.getLsbD i <;> rfl
  apply UInt32.toBitVec_inj.1
  simp only [UInt32.toBitVec_xor, UInt32.toBitVec_and, UInt32.toBitVec_not]
  exact h _ _ _
end Go.Proofs.Yteaanoaldnnflaa
