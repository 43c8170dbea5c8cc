/- Sums, macs and stretched bytes as plain functions on lists of bytes and of words. Nothing of the program; no condition. -/
import Derived.Test.YteaanoaldnnflaaRows
import Derived.Lib.Hide
set_option linter.unusedVariables false
namespace Go.Proofs.Yteaanoaldnnflaa

/-- x turned right by n bits -/
def rorW (x : UInt32) (n : Nat) : UInt32 := UInt32.ofNat (x.toNat * 2 ^ (32 - n) % 4294967296 ||| x.toNat / 2 ^ n)
/-- x shifted right by n bits -/
def shrW (x : UInt32) (n : Nat) : UInt32 := UInt32.ofNat (x.toNat / 2 ^ n)
/-- a number as four bytes, the highest first -/
def fourL (x : UInt32) : List UInt8 := [UInt8.ofNat (x.toNat / 16777216), UInt8.ofNat (x.toNat / 65536), UInt8.ofNat (x.toNat / 256), UInt8.ofNat x.toNat]
/-- eight bits more at the low end -/
def sh8 (x : UInt32) (c : UInt8) : UInt32 := UInt32.ofNat (x.toNat * 256 + c.toNat)
def nstep (b : List UInt8) (l : List UInt32) (i : Nat) : List UInt32 := l.set (i / 4) (sh8 (l.getD (i / 4) 0) (b.getD i 0))
/-- a block's first i bytes laid into sixteen numbers -/
def numsTo (b : List UInt8) (i : Nat) : List UInt32 := (List.range i).foldl (nstep b) (List.replicate 16 0)
def numsL (b : List UInt8) : List UInt32 := numsTo b 64
def sig0 (x : UInt32) : UInt32 := rorW x 7 ^^^ rorW x 18 ^^^ shrW x 3
def sig1 (x : UInt32) : UInt32 := rorW x 17 ^^^ rorW x 19 ^^^ shrW x 10
def sstep (l : List UInt32) (i : Nat) : List UInt32 := l.set i (l.getD (i - 16) 0 + sig0 (l.getD (i - 15) 0) + l.getD (i - 7) 0 + sig1 (l.getD (i - 2) 0))
/-- the first i of the sixty-four numbers -/
def spreadTo (l : List UInt32) (i : Nat) : List UInt32 := (List.range' 16 (i - 16)).foldl sstep (l ++ List.replicate 48 0)
def spreadL (l : List UInt32) : List UInt32 := spreadTo l 64
def S1 (e : UInt32) : UInt32 := rorW e 6 ^^^ rorW e 11 ^^^ rorW e 25
def S0 (a : UInt32) : UInt32 := rorW a 2 ^^^ rorW a 13 ^^^ rorW a 22
def Ch (e f g : UInt32) : UInt32 := e &&& f ^^^ g &&& ~~~e
def Maj (a b c : UInt32) : UInt32 := a &&& b ^^^ a &&& c ^^^ b &&& c
def turnL : List UInt32 → UInt32 → List UInt32
  | [a, b, c, d, e, f, g, h], n => [(h + S1 e + Ch e f g + n) + (S0 a + Maj a b c), a, b, c, d + (h + S1 e + Ch e f g + n), e, f, g]
  | l, _ => l
def firstL : List UInt32 := [0x6a09e667, 0xbb67ae85, 0x3c6ef372, 0xa54ff53a, 0x510e527f, 0x9b05688c, 0x1f83d9ab, 0x5be0cd19]
def kL : List UInt32 := [
  0x428a2f98, 0x71374491, 0xb5c0fbcf, 0xe9b5dba5, 0x3956c25b, 0x59f111f1, 0x923f82a4, 0xab1c5ed5,
  0xd807aa98, 0x12835b01, 0x243185be, 0x550c7dc3, 0x72be5d74, 0x80deb1fe, 0x9bdc06a7, 0xc19bf174,
  0xe49b69c1, 0xefbe4786, 0x0fc19dc6, 0x240ca1cc, 0x2de92c6f, 0x4a7484aa, 0x5cb0a9dc, 0x76f988da,
  0x983e5152, 0xa831c66d, 0xb00327c8, 0xbf597fc7, 0xc6e00bf3, 0xd5a79147, 0x06ca6351, 0x14292967,
  0x27b70a85, 0x2e1b2138, 0x4d2c6dfc, 0x53380d13, 0x650a7354, 0x766a0abb, 0x81c2c92e, 0x92722c85,
  0xa2bfe8a1, 0xa81a664b, 0xc24b8b70, 0xc76c51a3, 0xd192e819, 0xd6990624, 0xf40e3585, 0x106aa070,
  0x19a4c116, 0x1e376c08, 0x2748774c, 0x34b0bcb5, 0x391c0cb3, 0x4ed8aa4a, 0x5b9cca4f, 0x682e6ff3,
  0x748f82ee, 0x78a5636f, 0x84c87814, 0x8cc70208, 0x90befffa, 0xa4506ceb, 0xbef9a3f7, 0xc67178f2]
/-- the state behind the first i numbers of a block -/
def turnsTo (w : List UInt32) (h : List UInt32) (i : Nat) : List UInt32 := (List.range i).foldl (fun v i => turnL v (kL.getD i 0 + w.getD i 0)) h
def nextL (h : List UInt32) (b : List UInt8) : List UInt32 := List.zipWith (· + ·) (turnsTo (spreadL (numsL b)) h 64) h
/-- the state behind n blocks -/
def thrL : Nat → List UInt32 → List UInt8 → List UInt32
  | 0, h, _ => h
  | n + 1, h, s => thrL n (nextL h (s.take 64)) (s.drop 64)
def textL (h : List UInt32) : List UInt8 := h.flatMap fourL
/-- what stands behind n bytes -/
def behindL (n : Nat) : List UInt8 := 128 :: List.replicate ((119 - n % 64) % 64) 0 ++ fourL (UInt32.ofNat (n * 8 / 4294967296)) ++ fourL (UInt32.ofNat (n * 8))
def sumL (s : List UInt8) : List UInt8 := textL (thrL ((s.length + 72) / 64) firstL (s ++ behindL s.length))
/-- a key as one block -/
def fillL (key : List UInt8) : List UInt8 :=
  (if 64 < key.length then sumL key else key) ++ List.replicate (64 - (if 64 < key.length then sumL key else key).length) 0
def turnedL (k : List UInt8) (by' : UInt8) : List UInt8 := k.map (· ^^^ by')
def macK (k s : List UInt8) : List UInt8 := sumL (turnedL k 92 ++ sumL (turnedL k 54 ++ s))
def macL (key s : List UInt8) : List UInt8 := macK (fillL key) s
/-- r rounds more: the last mac, and the block -/
def strTo (k : List UInt8) : Nat → List UInt8 → List UInt8 → List UInt8 × List UInt8
  | 0, s, b => (s, b)
  | r + 1, s, b => ((macK k (strTo k r s b).1), List.zipWith (· ^^^ ·) (strTo k r s b).2 (macK k (strTo k r s b).1))
def strL (k s : List UInt8) (r : Nat) : List UInt8 := (strTo k r s (List.replicate 32 0)).2
def blocksL (k salt : List UInt8) (r m : Nat) : List UInt8 := (List.range m).flatMap fun j => strL k (salt ++ fourL (UInt32.ofNat (j + 1))) r
/-- what Stretch tells -/
def stretchR (pass salt : List UInt8) (r n : Int) : List UInt8 × Int :=
  if r < 1 ∨ 64 < r then ([], 40) else if n < 1 ∨ 96 < n then ([], 41) else ((blocksL (fillL pass) salt r.toNat 3).take n.toNat, 0)

theorem be_hex : sumL [97, 98, 99] = [0xba, 0x78, 0x16, 0xbf, 0x8f, 0x01, 0xcf, 0xea, 0x41, 0x41, 0x40, 0xde, 0x5d, 0xae, 0x22, 0x23, 0xb0, 0x03, 0x61, 0xa3, 0x96, 0x17, 0x7a, 0x9c, 0xb4, 0x10, 0xff, 0x61, 0xf2, 0x00, 0x15, 0xad] := by decide +kernel
end Go.Proofs.Yteaanoaldnnflaa
