/- What the document's own bit and Base64 answer: six bits at a time. Condition: at most 2097152 bytes. -/
import Derived.Test.YtlifnfchemiipaaDoorH
namespace Go.Proofs.YtlifnfchemiipaaDoor
open Go.RowKit

/-- the k-th bit of bytes; 0 behind them -/
def bitAt (l : List UInt8) (k : Nat) : Nat := (l.getD (k / 8) 0).toNat / 2 ^ (7 - k % 8) % 2
/-- the number of n bits from k on -/
def vb (f : Nat → Nat) (k : Nat) : Nat → Nat
  | 0 => 0
  | n + 1 => 2 * vb f k n + f (k + n)
theorem vb_succ (f : Nat → Nat) (k n : Nat) : vb f k (n + 1) = 2 * vb f k n + f (k + n) := rfl
theorem bitAt_le (l : List UInt8) (k : Nat) : bitAt l k ≤ 1 := by unfold bitAt; omega
theorem vb_lt (f : Nat → Nat) (hf : ∀ k, f k ≤ 1) (k n : Nat) : vb f k n < 2 ^ n := by
  induction n with
  | zero => simp [vb]
  | succ n ih => have := hf (k + n); rw [vb, Nat.pow_succ]; omega

theorem getD_at (s : ByteArray) (q : Nat) (h : q < s.size) : s.data.toList.getD q 0 = s[q] := by
  rw [List.getD_eq_getElem?_getD, List.getElem?_eq_getElem (by simpa using h)]; rfl
theorem getD_no (s : ByteArray) (q : Nat) (h : s.size ≤ q) : s.data.toList.getD q 0 = 0 := by
  rw [List.getD_eq_getElem?_getD, List.getElem?_eq_none (by simpa using h)]; rfl

theorem bitAt_at (s : ByteArray) (k q j : Nat) (h : k / 8 = q) (hj : k % 8 = j) (hq : q < s.size) : bitAt s.data.toList k = s[q].toNat / 2 ^ (7 - j) % 2 := by
  subst h; subst hj
  rw [bitAt, getD_at s _ hq]

set_option maxHeartbeats 2000000 in
set_option maxRecDepth 100000 in
theorem bit_any (s : ByteArray) (k : Nat) (w : World) (hs : s.size ≤ 67108864) (hk : k ≤ 1073741824) :
    Calls Tryd.prog 35 #[.string s, .int .i64 k] w fun e w' => e = .returned (.int .i64 (bitAt s.data.toList k)) ∧ w = w' := by
  by_cases h : 8 * s.size ≤ k
  · have hB : bitAt s.data.toList k = 0 := by rw [bitAt, getD_no s _ (by omega)]; simp
    have HB := Lib.hid hB
    clear hB
    go_enter Tryd.func35, Tryd.ntmps35
    go_wp2
    go_ret
    exact ⟨by rw [HB.out]; rfl, rfl⟩
  · obtain ⟨q, j, hlt, hd, hm, hj8, HB⟩ : ∃ q j : Nat, ∃ h : q < s.size, (k : Int) / 8 = (q : Int) ∧ (k : Int) % 8 = (j : Int) ∧ j < 8 ∧ Hid (bitAt s.data.toList k = s[q].toNat / 2 ^ (7 - j) % 2) :=
      ⟨k / 8, k % 8, by omega, by omega, by omega, by omega, bitAt_at s k _ _ rfl rfl (by omega)⟩
    have h8 := s[q].toNat_lt
    obtain rfl | rfl | rfl | rfl | rfl | rfl | rfl | rfl : j = 0 ∨ j = 1 ∨ j = 2 ∨ j = 3 ∨ j = 4 ∨ j = 5 ∨ j = 6 ∨ j = 7 := by omega
    · have ham : bits BinOp.and IntKind.i64 ((s[q].toNat : Int) / 128) 1 = ((s[q].toNat : Int) / 128) % 2 := and_int 1 _ _ (by omega) rfl (by omega) (by omega)
      go_enter Tryd.func35, Tryd.ntmps35
      go_wp2
      go_ret
      exact ⟨ret_int (by rw [HB.out]; simp), rfl⟩
    · have ham : bits BinOp.and IntKind.i64 ((s[q].toNat : Int) / 64) 1 = ((s[q].toNat : Int) / 64) % 2 := and_int 1 _ _ (by omega) rfl (by omega) (by omega)
      go_enter Tryd.func35, Tryd.ntmps35
      go_wp2
      go_ret
      exact ⟨ret_int (by rw [HB.out]; simp), rfl⟩
    · have ham : bits BinOp.and IntKind.i64 ((s[q].toNat : Int) / 32) 1 = ((s[q].toNat : Int) / 32) % 2 := and_int 1 _ _ (by omega) rfl (by omega) (by omega)
      go_enter Tryd.func35, Tryd.ntmps35
      go_wp2
      go_ret
      exact ⟨ret_int (by rw [HB.out]; simp), rfl⟩
    · have ham : bits BinOp.and IntKind.i64 ((s[q].toNat : Int) / 16) 1 = ((s[q].toNat : Int) / 16) % 2 := and_int 1 _ _ (by omega) rfl (by omega) (by omega)
      go_enter Tryd.func35, Tryd.ntmps35
      go_wp2
      go_ret
      exact ⟨ret_int (by rw [HB.out]; simp), rfl⟩
    · have ham : bits BinOp.and IntKind.i64 ((s[q].toNat : Int) / 8) 1 = ((s[q].toNat : Int) / 8) % 2 := and_int 1 _ _ (by omega) rfl (by omega) (by omega)
      go_enter Tryd.func35, Tryd.ntmps35
      go_wp2
      go_ret
      exact ⟨ret_int (by rw [HB.out]; simp), rfl⟩
    · have ham : bits BinOp.and IntKind.i64 ((s[q].toNat : Int) / 4) 1 = ((s[q].toNat : Int) / 4) % 2 := and_int 1 _ _ (by omega) rfl (by omega) (by omega)
      go_enter Tryd.func35, Tryd.ntmps35
      go_wp2
      go_ret
      exact ⟨ret_int (by rw [HB.out]; simp), rfl⟩
    · have ham : bits BinOp.and IntKind.i64 ((s[q].toNat : Int) / 2) 1 = ((s[q].toNat : Int) / 2) % 2 := and_int 1 _ _ (by omega) rfl (by omega) (by omega)
      go_enter Tryd.func35, Tryd.ntmps35
      go_wp2
      go_ret
      exact ⟨ret_int (by rw [HB.out]; simp), rfl⟩
    · have ham : bits BinOp.and IntKind.i64 ((s[q].toNat : Int)) 1 = ((s[q].toNat : Int)) % 2 := and_int 1 _ _ (by omega) rfl (by omega) (by omega)
      go_enter Tryd.func35, Tryd.ntmps35
      go_wp2
      go_ret
      exact ⟨ret_int (by rw [HB.out]; simp), rfl⟩

theorem bit_add (s : ByteArray) (k m : Nat) (w : World) (hs : s.size ≤ 67108864) (hk : k + m ≤ 1073741824) :
    Calls Tryd.prog 35 #[.string s, .int .i64 ((k : Int) + (m : Int))] w fun e w' => e = .returned (.int .i64 (bitAt s.data.toList (k + m))) ∧ w = w' := bit_any s (k + m) w hs hk

/-- the q-th character -/
def chr (l : List UInt8) (q : Nat) : UInt8 := six (vb (bitAt l) (6 * q) 6)
def r64 (l : List UInt8) : List UInt8 := (List.range ((8 * l.length + 5) / 6)).map (chr l)

set_option maxHeartbeats 2000000 in
set_option maxRecDepth 100000 in
theorem rbase64_any (s : ByteArray) (w : World) (hs : s.size ≤ 2097152) :
    Calls Tryd.prog 19 #[.string s] w fun e w' => e = .returned (.string ⟨(r64 s.data.toList).toArray⟩) ∧ Below w.heap.size w w' := by
  go_enter Tryd.func19, Tryd.ntmps19
  go_wp2
  go_loopw [3, 4] (fun v i wr => ∃ q : Nat, 6 * q ≤ 8 * s.size + 5 ∧ i = .int .i64 (6 * q : Nat) ∧ Rw w.heap.size v ((List.range q).map (chr s.data.toList)) wr ∧ Below w.heap.size w wr) (fun _ i _ => 8 * s.size + 6 - (intOf i).toNat)
  case atStart => exact ⟨0, by omega, rfl, Rw.start w, (Below.refl _ _).alloc (Nat.le_refl _) _⟩
  case round =>
    obtain ⟨q, hq, rfl, hI, hb⟩ := hrel
    obtain ⟨k, hk⟩ : ∃ k, 6 * q = k := ⟨_, rfl⟩
    rw [hk]
    have HK := Lib.hid hk
    clear hk
    obtain ⟨wo, rfl⟩ : ∃ wo : World, wo = wr := ⟨_, rfl⟩
    by_cases hlt : k < 8 * s.size
    · have hlt' : (k : Int) < 8 * (s.size : Int) := by omega
      go_wp2_with (fail)
      go_loop [5, 6] (fun n j => ∃ m : Nat, m ≤ 6 ∧ j = .int .i64 m ∧ n = .int .i64 (vb (bitAt s.data.toList) k m)) (fun _ j => 6 - (intOf j).toNat)
      case atStart => exact ⟨0, by omega, rfl, rfl⟩
      case round =>
        obtain ⟨m, hm, rfl, rfl⟩ := hrel
        have hv := vb_lt (bitAt s.data.toList) (bitAt_le _) k m
        have hv2 : 2 ^ m ≤ 2 ^ 6 := Nat.pow_le_pow_right (by omega) hm
        have hv3 : vb (bitAt s.data.toList) k m ≤ 64 := by omega
        have hbl := bitAt_le s.data.toList (k + m)
        clear hv hv2
        by_cases hlm : m < 6
        · go_wp2_with (go_at_call 35; refine (bit_add _ _ _ _ (by omega) (by omega)).mono ?_; rintro e w' ⟨rfl, rfl⟩)
          go_round
          case rel => exact ⟨m + 1, by omega, by go_num, by rw [vb_succ]; go_num⟩
          case measure => simp [intOf]; omega
        · obtain rfl : m = 6 := by omega
          have hc : six (vb (bitAt s.data.toList) k 6) = chr s.data.toList q := by rw [chr, HK.out]
          have HC := Lib.hid hc
          have hv4 : vb (bitAt s.data.toList) k 6 < 64 := vb_lt (bitAt s.data.toList) (bitAt_le _) k 6
          clear hc
          have hl3 : ((List.range q).map (chr s.data.toList)).length ≤ 281474976710 := by simp; omega
          have hcast : ((({ data := #[65, 66, 67, 68, 69, 70, 71, 72, 73, 74, 75, 76, 77, 78, 79, 80, 81, 82, 83, 84, 85, 86, 87, 88, 89, 90, 97, 98, 99, 100, 101, 102, 103, 104, 105, 106, 107, 108, 109, 110, 111, 112, 113, 114, 115, 116, 117, 118, 119, 120, 121, 122, 48, 49, 50, 51, 52, 53, 54, 55, 56, 57, 45, 95] } : ByteArray)[vb (bitAt s.data.toList) k 6]'hv4).toNat : Int) = ((chr s.data.toList q).toNat : Int) := by rw [six_at _ hv4, HC.out]
          have HX := Lib.hid hcast
          clear hcast
          go_wp2_with (at_builtin; refine app1 _ (chr s.data.toList q) HX.out _ _ rfl rfl rfl rfl hI hb (Nat.le_refl _) hl3 ?_)
          intro v3 w3 h3 hb3
          go_wp2
          go_roundw
          case rel =>
            refine ⟨q + 1, by have := HK.out; omega, ?_, by rw [List.range_succ, List.map_append]; exact h3, hb3⟩
            have := HK.out
            congr 1; omega
          case measure => simp [intOf]; omega
    · have hcv := hI.conv
      have hn : q = (8 * s.data.toList.length + 5) / 6 := by have := HK.out; simp; omega
      have HN := Lib.hid hn
      clear hn
      go_wp2
      go_ret
      refine ⟨?_, hb⟩
      rw [r64, ← HN.out]
      rfl
end Go.Proofs.YtlifnfchemiipaaDoor
