/- The two ways of writing base64url, six bits at a time and byte by byte, are one; and its length. No condition. -/
import Derived.Test.YtlifnfchemiipaaDoorI
namespace Go.Proofs.YtlifnfchemiipaaDoor

theorem bitAt_shift (a b c : UInt8) (l : List UInt8) (k : Nat) : bitAt (a :: b :: c :: l) (k + 24) = bitAt l k := by
  have e1 : (k + 24) / 8 = k / 8 + 1 + 1 + 1 := by omega
  have e2 : (k + 24) % 8 = k % 8 := by omega
  simp only [bitAt, e1, e2, List.getD_cons_succ]
theorem vb_shift {f g : Nat → Nat} {d : Nat} (h : ∀ k, f (k + d) = g k) (k : Nat) : ∀ n, vb f (k + d) n = vb g k n
  | 0 => rfl
  | n + 1 => by
    rw [vb_succ, vb_succ, vb_shift h k n]
    have e : k + d + n = k + n + d := by omega
    rw [e, h]
theorem chr_shift (a b c : UInt8) (l : List UInt8) (q : Nat) : chr (a :: b :: c :: l) (4 + q) = chr l q := by
  have e : 6 * (4 + q) = 6 * q + 24 := by omega
  rw [chr, e, vb_shift (bitAt_shift a b c l), chr]

theorem chr0 (a : UInt8) (l : List UInt8) : vb (bitAt (a :: l)) 0 6 = a.toNat / 4 := by
  have := a.toNat_lt
  simp only [vb, bitAt]
  simp
  omega
theorem chr1 (a b : UInt8) (l : List UInt8) : vb (bitAt (a :: b :: l)) 6 6 = a.toNat % 4 * 16 + b.toNat / 16 := by
  have := a.toNat_lt
  have := b.toNat_lt
  simp only [vb, bitAt]
  simp
  omega
theorem chr1' (a : UInt8) : vb (bitAt [a]) 6 6 = a.toNat % 4 * 16 := by
  have := a.toNat_lt
  simp only [vb, bitAt]
  simp
  omega
theorem chr2 (a b c : UInt8) (l : List UInt8) : vb (bitAt (a :: b :: c :: l)) 12 6 = b.toNat % 16 * 4 + c.toNat / 64 := by
  have := b.toNat_lt
  have := c.toNat_lt
  simp only [vb, bitAt]
  simp
  omega
theorem chr2' (a b : UInt8) : vb (bitAt [a, b]) 12 6 = b.toNat % 16 * 4 := by
  have := b.toNat_lt
  simp only [vb, bitAt]
  simp
  omega
theorem chr3 (a b c : UInt8) (l : List UInt8) : vb (bitAt (a :: b :: c :: l)) 18 6 = c.toNat % 64 := by
  have := c.toNat_lt
  simp only [vb, bitAt]
  simp
  omega

theorem q2 (x y : Nat) : (x % 4 * 256 + y) / 16 = x % 4 * 16 + y / 16 := by omega
theorem q3a (x y : Nat) : (x % 4 * 256 + y) % 16 = y % 16 := by omega
theorem q3 (y z : Nat) : (y % 16 * 256 + z) / 64 = y % 16 * 4 + z / 64 := by omega
theorem q4 (y z : Nat) : (y % 16 * 256 + z) % 64 = z % 64 := by omega

/-- by threes -/
theorem enc3 (a b c : UInt8) (l : List UInt8) : enc 0 0 (a :: b :: c :: l) = six (a.toNat / 4) :: six (a.toNat % 4 * 16 + b.toNat / 16) :: six (b.toNat % 16 * 4 + c.toNat / 64) :: six (c.toNat % 64) :: enc 0 0 l := by
  show six ((0 * 256 + a.toNat) / 4) :: six (((0 * 256 + a.toNat) % 4 * 256 + b.toNat) / 16) :: six ((((0 * 256 + a.toNat) % 4 * 256 + b.toNat) % 16 * 256 + c.toNat) / 64) :: six ((((0 * 256 + a.toNat) % 4 * 256 + b.toNat) % 16 * 256 + c.toNat) % 64 / 1) :: enc ((((0 * 256 + a.toNat) % 4 * 256 + b.toNat) % 16 * 256 + c.toNat) % 64 % 1) 0 l = _
  rw [Nat.zero_mul, Nat.zero_add, q2, q3a, q3, q4, Nat.div_one, Nat.mod_one]
theorem enc2 (a b : UInt8) : enc 0 0 [a, b] = [six (a.toNat / 4), six (a.toNat % 4 * 16 + b.toNat / 16), six (b.toNat % 16 * 4)] := by
  show [six ((0 * 256 + a.toNat) / 4), six (((0 * 256 + a.toNat) % 4 * 256 + b.toNat) / 16), six (((0 * 256 + a.toNat) % 4 * 256 + b.toNat) % 16 * 4)] = _
  rw [Nat.zero_mul, Nat.zero_add, q2, q3a]
theorem enc1 (a : UInt8) : enc 0 0 [a] = [six (a.toNat / 4), six (a.toNat % 4 * 16)] := by
  show [six ((0 * 256 + a.toNat) / 4), six ((0 * 256 + a.toNat) % 4 * 16)] = _
  rw [Nat.zero_mul, Nat.zero_add]

/-- the two ways of writing base64url are one -/
theorem r64_eq : ∀ l : List UInt8, r64 l = b64L l
  | [] => rfl
  | [a] => by
    have h : r64 [a] = [chr [a] 0, chr [a] 1] := by
      rw [r64, show (8 * [a].length + 5) / 6 = 2 by simp]; rfl
    rw [h, b64L, enc1, chr, chr, show 6 * 0 = 0 from rfl, show 6 * 1 = 6 from rfl, chr0, chr1']
  | [a, b] => by
    have h : r64 [a, b] = [chr [a, b] 0, chr [a, b] 1, chr [a, b] 2] := by
      rw [r64, show (8 * [a, b].length + 5) / 6 = 3 by simp]; rfl
    rw [h, b64L, enc2, chr, chr, chr, show 6 * 0 = 0 from rfl, show 6 * 1 = 6 from rfl, show 6 * 2 = 12 from rfl, chr0, chr1, chr2']
  | a :: b :: c :: l => by
    have ih := r64_eq l
    rw [b64L] at ih ⊢
    rw [enc3, ← ih, r64]
    have e : (8 * (a :: b :: c :: l).length + 5) / 6 = 4 + (8 * l.length + 5) / 6 := by simp; omega
    rw [e, List.range_add, List.map_append, List.map_map]
    have e2 : (chr (a :: b :: c :: l) ∘ fun x => 4 + x) = chr l := by funext q; exact chr_shift a b c l q
    rw [e2]
    show [chr (a :: b :: c :: l) 0, chr (a :: b :: c :: l) 1, chr (a :: b :: c :: l) 2, chr (a :: b :: c :: l) 3] ++ r64 l = _
    rw [chr, chr, chr, chr, show 6 * 0 = 0 from rfl, show 6 * 1 = 6 from rfl, show 6 * 2 = 12 from rfl, show 6 * 3 = 18 from rfl, chr0, chr1, chr2, chr3]
    rfl
theorem b64L_length (l : List UInt8) : (b64L l).length = (4 * l.length + 2) / 3 := by
  rw [← r64_eq, r64]; simp; omega
end Go.Proofs.YtlifnfchemiipaaDoor
