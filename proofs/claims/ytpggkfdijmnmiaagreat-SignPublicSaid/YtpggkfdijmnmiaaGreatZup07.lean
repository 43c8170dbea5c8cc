/- A digit of a number; a multiple of a point under way: the walks. No condition but that each number is below 2 to the 256. The bytes of points: the walks. No condition but that each number is below 2 to the 256. The point of bytes: the walk. No condition but the length of the bytes. The point of bytes, and the bytes of points. No condition but the length of the bytes. The calls whose answers the do -/
import Derived.Test.YtpggkfdijmnmiaaGreatZup06
import Derived.Test.YtpggkfdijmnmiaaGreatZup02
import Derived.Test.YtpggkfdijmnmiaaGreatZup04
import Derived.Test.YtpggkfdijmnmiaaGreatZup03
import Derived.Test.YtpggkfdijmnmiaaGreatZup01
set_option linter.unusedVariables false
set_option linter.unusedSimpArgs false
set_option maxRecDepth 100000
namespace Go.Proofs.YtpggkfdijmnmiaaGreat
open Go.RowKit Go.Sort Limbs
theorem dig_of (a s : Nat) (hs : s ≤ 60) : a % 18446744073709551616 / 2 ^ s % 16 = a / 2 ^ s % 16 := by
  rw [← Nat.mod_mul_right_div_self, ← Nat.mod_mul_right_div_self (m := a)]
  congr 1
  refine Nat.mod_mod_of_dvd _ ?_
  rw [show (18446744073709551616 : Nat) = 2 ^ s * 2 ^ (64 - s) from by rw [← Nat.pow_add, show s + (64 - s) = 64 by omega]]
  refine Nat.mul_dvd_mul_left _ ?_
  rw [show (16 : Nat) = 2 ^ 4 from rfl]
  exact Nat.pow_dvd_pow 2 (by omega)
theorem dig_int (a m : Nat) : ((a : Int) / 2 ^ m).tmod 16 = ((a / 2 ^ m % 16 : Nat) : Int) := by
  have e : (a : Int) / 2 ^ m = ((a / 2 ^ m : Nat) : Int) := by
    rw [Int.natCast_ediv, Int.natCast_pow]; rfl
  rw [e]
  generalize a / 2 ^ m = q
  rw [Int.tmod_eq_emod_of_nonneg (by omega)]
  omega
theorem dig_int2 (a m : Nat) : (a : Int) / 2 ^ m % 16 = ((a / 2 ^ m % 16 : Nat) : Int) := by
  have e : (a : Int) / 2 ^ m = ((a / 2 ^ m : Nat) : Int) := by
    rw [Int.natCast_ediv, Int.natCast_pow]; rfl
  rw [e]
  generalize a / 2 ^ m = q
  omega
set_option maxHeartbeats 4000000 in
theorem digit_0 (k r : Nat) (hr : r < 16) (w : World) :
    Calls Tryz.prog 169 #[nv k, .int .i64 ((r : Nat) : Int)] w fun e w' => e = .returned (.int .u64 ((lb k 0 / 2 ^ (r * 4) % 16 : Nat) : Int)) ∧ Below w.heap.size w w' := by
  have hl := lb_lt k 0
  have hq1 : Int.tdiv ((r : Nat) : Int) 16 = 0 := by rw [Int.tdiv_eq_ediv_of_nonneg (by omega)]; omega
  have hq2 : Int.tmod ((r : Nat) : Int) 16 = (r : Int) := by rw [Int.tmod_eq_emod_of_nonneg (by omega)]; omega
  simp only [nv, num]
  go_enter Tryz.func169, Tryz.ntmps169
  go_wp2_with fail
  go_ret
  refine ⟨by simp only [dig_int, dig_int2]; rfl, ?_⟩
  go_grown
set_option maxHeartbeats 4000000 in
theorem digit_1 (k r : Nat) (hr : r < 16) (w : World) :
    Calls Tryz.prog 169 #[nv k, .int .i64 ((16 + r : Nat) : Int)] w fun e w' => e = .returned (.int .u64 ((lb k 1 / 2 ^ (r * 4) % 16 : Nat) : Int)) ∧ Below w.heap.size w w' := by
  have hl := lb_lt k 1
  have hq1 : Int.tdiv ((16 + r : Nat) : Int) 16 = 1 := by rw [Int.tdiv_eq_ediv_of_nonneg (by omega)]; omega
  have hq2 : Int.tmod ((16 + r : Nat) : Int) 16 = (r : Int) := by rw [Int.tmod_eq_emod_of_nonneg (by omega)]; omega
  obtain ⟨pl, hpl⟩ : ∃ z : Int, z = ((16 + r : Nat) : Int) := ⟨_, rfl⟩
  rw [← hpl] at hq1 hq2 ⊢
  have hp0 : 0 ≤ pl := by omega
  clear hpl
  simp only [nv, num]
  go_enter Tryz.func169, Tryz.ntmps169
  go_wp2_with fail
  go_ret
  refine ⟨by simp only [dig_int, dig_int2]; rfl, ?_⟩
  go_grown
set_option maxHeartbeats 4000000 in
theorem digit_2 (k r : Nat) (hr : r < 16) (w : World) :
    Calls Tryz.prog 169 #[nv k, .int .i64 ((32 + r : Nat) : Int)] w fun e w' => e = .returned (.int .u64 ((lb k 2 / 2 ^ (r * 4) % 16 : Nat) : Int)) ∧ Below w.heap.size w w' := by
  have hl := lb_lt k 2
  have hq1 : Int.tdiv ((32 + r : Nat) : Int) 16 = 2 := by rw [Int.tdiv_eq_ediv_of_nonneg (by omega)]; omega
  have hq2 : Int.tmod ((32 + r : Nat) : Int) 16 = (r : Int) := by rw [Int.tmod_eq_emod_of_nonneg (by omega)]; omega
  obtain ⟨pl, hpl⟩ : ∃ z : Int, z = ((32 + r : Nat) : Int) := ⟨_, rfl⟩
  rw [← hpl] at hq1 hq2 ⊢
  have hp0 : 0 ≤ pl := by omega
  clear hpl
  simp only [nv, num]
  go_enter Tryz.func169, Tryz.ntmps169
  go_wp2_with fail
  go_ret
  refine ⟨by simp only [dig_int, dig_int2]; rfl, ?_⟩
  go_grown
set_option maxHeartbeats 4000000 in
theorem digit_3 (k r : Nat) (hr : r < 16) (w : World) :
    Calls Tryz.prog 169 #[nv k, .int .i64 ((48 + r : Nat) : Int)] w fun e w' => e = .returned (.int .u64 ((lb k 3 / 2 ^ (r * 4) % 16 : Nat) : Int)) ∧ Below w.heap.size w w' := by
  have hl := lb_lt k 3
  have hq1 : Int.tdiv ((48 + r : Nat) : Int) 16 = 3 := by rw [Int.tdiv_eq_ediv_of_nonneg (by omega)]; omega
  have hq2 : Int.tmod ((48 + r : Nat) : Int) 16 = (r : Int) := by rw [Int.tmod_eq_emod_of_nonneg (by omega)]; omega
  obtain ⟨pl, hpl⟩ : ∃ z : Int, z = ((48 + r : Nat) : Int) := ⟨_, rfl⟩
  rw [← hpl] at hq1 hq2 ⊢
  have hp0 : 0 ≤ pl := by omega
  clear hpl
  simp only [nv, num]
  go_enter Tryz.func169, Tryz.ntmps169
  go_wp2_with fail
  go_ret
  refine ⟨by simp only [dig_int, dig_int2]; rfl, ?_⟩
  go_grown
theorem digit_c (k pl : Nat) (h : pl < 64) (w : World) :
    Calls Tryz.prog 169 #[nv k, .int .i64 (pl : Int)] w fun e w' => e = .returned (.int .u64 ((k / 16 ^ pl % 16 : Nat) : Int)) ∧ Below w.heap.size w w' := by
  have e (q r : Nat) (hr : r < 16) (hp : pl = 16 * q + r) : lb k q / 2 ^ (r * 4) % 16 = k / 16 ^ pl % 16 := by
    have hq : q = 0 ∨ q = 1 ∨ q = 2 ∨ q = 3 := by omega
    have p (n : Nat) (hn : n + r * 4 = 4 * pl) : k / 2 ^ n / 2 ^ (r * 4) % 16 = k / 16 ^ pl % 16 := by
      rw [Nat.div_div_eq_div_mul, ← Nat.pow_add, hn, Nat.pow_mul]
    rcases hq with rfl | rfl | rfl | rfl
    · show k % 18446744073709551616 / 2 ^ (r * 4) % 16 = _
      rw [dig_of _ _ (by omega)]
      have := p 0 (by omega)
      rwa [Nat.pow_zero, Nat.div_one] at this
    · show k / 2 ^ 64 % 18446744073709551616 / 2 ^ (r * 4) % 16 = _
      rw [dig_of _ _ (by omega)]; exact p 64 (by omega)
    · show k / 2 ^ 128 % 18446744073709551616 / 2 ^ (r * 4) % 16 = _
      rw [dig_of _ _ (by omega)]; exact p 128 (by omega)
    · show k / 2 ^ 192 % 18446744073709551616 / 2 ^ (r * 4) % 16 = _
      rw [dig_of _ _ (by omega)]; exact p 192 (by omega)
  obtain ⟨q, r, hr, hp⟩ : ∃ q r, r < 16 ∧ pl = 16 * q + r := ⟨pl / 16, pl % 16, Nat.mod_lt _ (by decide), by omega⟩
  have hq : q = 0 ∨ q = 1 ∨ q = 2 ∨ q = 3 := by omega
  rcases hq with rfl | rfl | rfl | rfl
  · have := digit_0 k r hr w
    rw [e 0 r hr hp] at this
    rw [show pl = r by omega] at this ⊢
    exact this
  · have := digit_1 k r hr w
    rw [e 1 r hr hp] at this
    rw [show pl = 16 + r by omega] at this ⊢
    exact this
  · have := digit_2 k r hr w
    rw [e 2 r hr hp] at this
    rw [show pl = 32 + r by omega] at this ⊢
    exact this
  · have := digit_3 k r hr w
    rw [e 3 r hr hp] at this
    rw [show pl = 48 + r by omega] at this ⊢
    exact this
end Go.Proofs.YtpggkfdijmnmiaaGreat
set_option linter.unusedVariables false
set_option linter.unusedSimpArgs false
set_option maxRecDepth 100000
namespace Go.Proofs.YtpggkfdijmnmiaaGreat
open Go.RowKit Go.Sort Limbs
def dg (k i : Nat) : Nat := k / 16 ^ (63 - i) % 16
def J.mulN (k : Nat) (p : J) : Nat → J
  | 0 => J.far
  | i + 1 => (p.tim (dg k i)).plus (J.mulN k p i).twice.twice.twice.twice
theorem J.mulN_ok {k : Nat} {p : J} (hp : p.ok) : ∀ i, (p.mulN k i).ok
  | 0 => J.far_ok
  | i + 1 => J.plus_ok (J.tim_ok hp _) (J.twice_ok (J.twice_ok (J.twice_ok (J.twice_ok (J.mulN_ok hp i)))))
theorem mulN_0 (k : Nat) (p : J) : cs12 (p.mulN k 0).x (p.mulN k 0).y (p.mulN k 0).z = #[.int .u64 0, .int .u64 0, .int .u64 0, .int .u64 0, .int .u64 0, .int .u64 0, .int .u64 0, .int .u64 0, .int .u64 0, .int .u64 0, .int .u64 0, .int .u64 0] := by simp [J.mulN, J.far, cs12, lb]
set_option maxHeartbeats 32000000 in
theorem multiple_c (k : Nat) (p : J) (hk : k < W256) (hp : p.ok) (w : World) :
    Calls Tryz.prog 142 #[nv k, fv p] w fun e w' => e = .returned (p.mulN k 64).v ∧ Below w.heap.size w w' := by
  have HTW := Lib.hid (fun (q : J) (hq : q.ok) => twicej hq)
  have HOK := Lib.hid (fun i => J.mulN_ok (k := k) hp i)
  have HPL := Lib.hid (fun (d : Nat) (q : J) (hq : q.ok) => plusj (J.tim_ok hp d) hq)
  have HDG := Lib.hid (fun pl (h : pl < 64) => digit_c k pl h)
  clear hk hp
  obtain ⟨res, hres⟩ : ∃ z, z = p.mulN k 64 := ⟨_, rfl⟩
  rw [← hres]
  have HRES := Lib.hid hres
  clear hres
  obtain ⟨tx, ty, tz⟩ := res
  have e : (J.mk tx ty tz).v = jn tx ty tz := rfl
  rw [e]
  clear e
  simp only [nv, num] at HDG ⊢
  unfold fv
  go_enter Tryz.func142, Tryz.ntmps142
  go_wp2_with fail
  have K2 : Hid (Bk 24 ((((w.alloc (.cells #[.int .u64 (lb k 0 : Nat), .int .u64 (lb k 1 : Nat), .int .u64 (lb k 2 : Nat), .int .u64 (lb k 3 : Nat)] 24)).alloc (.cells #[FV p 0, FV p 1, FV p 2, FV p 3, FV p 4, FV p 5, FV p 6, FV p 7, FV p 8, FV p 9, FV p 10, FV p 11, FV p 12, FV p 13, FV p 14, FV p 15] 165)).alloc (.cells #[.int .u64 0, .int .u64 0, .int .u64 0, .int .u64 0, .int .u64 0, .int .u64 0, .int .u64 0, .int .u64 0, .int .u64 0, .int .u64 0, .int .u64 0, .int .u64 0] 162)).alloc (.cells #[.int .u64 0, .int .u64 0, .int .u64 0, .int .u64 0, .int .u64 0, .int .u64 0, .int .u64 0, .int .u64 0, .int .u64 0, .int .u64 0, .int .u64 0, .int .u64 0] 162)) w.heap.size #[.int .u64 (lb k 0 : Nat), .int .u64 (lb k 1 : Nat), .int .u64 (lb k 2 : Nat), .int .u64 (lb k 3 : Nat)]) := Lib.hid (Bk.alloc (Bk.alloc (Bk.alloc (Bk.new rfl))))
  have K3 : Hid (Bk 165 ((((w.alloc (.cells #[.int .u64 (lb k 0 : Nat), .int .u64 (lb k 1 : Nat), .int .u64 (lb k 2 : Nat), .int .u64 (lb k 3 : Nat)] 24)).alloc (.cells #[FV p 0, FV p 1, FV p 2, FV p 3, FV p 4, FV p 5, FV p 6, FV p 7, FV p 8, FV p 9, FV p 10, FV p 11, FV p 12, FV p 13, FV p 14, FV p 15] 165)).alloc (.cells #[.int .u64 0, .int .u64 0, .int .u64 0, .int .u64 0, .int .u64 0, .int .u64 0, .int .u64 0, .int .u64 0, .int .u64 0, .int .u64 0, .int .u64 0, .int .u64 0] 162)).alloc (.cells #[.int .u64 0, .int .u64 0, .int .u64 0, .int .u64 0, .int .u64 0, .int .u64 0, .int .u64 0, .int .u64 0, .int .u64 0, .int .u64 0, .int .u64 0, .int .u64 0] 162)) (w.heap.size + 1) (fa p 16)) := Lib.hid (Bk.alloc (Bk.alloc (Bk.new (by simp))))
  have K4 : Hid (Bk 162 ((((w.alloc (.cells #[.int .u64 (lb k 0 : Nat), .int .u64 (lb k 1 : Nat), .int .u64 (lb k 2 : Nat), .int .u64 (lb k 3 : Nat)] 24)).alloc (.cells #[FV p 0, FV p 1, FV p 2, FV p 3, FV p 4, FV p 5, FV p 6, FV p 7, FV p 8, FV p 9, FV p 10, FV p 11, FV p 12, FV p 13, FV p 14, FV p 15] 165)).alloc (.cells #[.int .u64 0, .int .u64 0, .int .u64 0, .int .u64 0, .int .u64 0, .int .u64 0, .int .u64 0, .int .u64 0, .int .u64 0, .int .u64 0, .int .u64 0, .int .u64 0] 162)).alloc (.cells #[.int .u64 0, .int .u64 0, .int .u64 0, .int .u64 0, .int .u64 0, .int .u64 0, .int .u64 0, .int .u64 0, .int .u64 0, .int .u64 0, .int .u64 0, .int .u64 0] 162)) (w.heap.size + 1 + 1) #[.int .u64 0, .int .u64 0, .int .u64 0, .int .u64 0, .int .u64 0, .int .u64 0, .int .u64 0, .int .u64 0, .int .u64 0, .int .u64 0, .int .u64 0, .int .u64 0]) := Lib.hid (Bk.alloc (Bk.new (by simp)))
  have K5 : Hid (Bk 162 ((((w.alloc (.cells #[.int .u64 (lb k 0 : Nat), .int .u64 (lb k 1 : Nat), .int .u64 (lb k 2 : Nat), .int .u64 (lb k 3 : Nat)] 24)).alloc (.cells #[FV p 0, FV p 1, FV p 2, FV p 3, FV p 4, FV p 5, FV p 6, FV p 7, FV p 8, FV p 9, FV p 10, FV p 11, FV p 12, FV p 13, FV p 14, FV p 15] 165)).alloc (.cells #[.int .u64 0, .int .u64 0, .int .u64 0, .int .u64 0, .int .u64 0, .int .u64 0, .int .u64 0, .int .u64 0, .int .u64 0, .int .u64 0, .int .u64 0, .int .u64 0] 162)).alloc (.cells #[.int .u64 0, .int .u64 0, .int .u64 0, .int .u64 0, .int .u64 0, .int .u64 0, .int .u64 0, .int .u64 0, .int .u64 0, .int .u64 0, .int .u64 0, .int .u64 0] 162)) (w.heap.size + 1 + 1 + 1) (cs12 (p.mulN k 0).x (p.mulN k 0).y (p.mulN k 0).z)) := Lib.hid (by rw [mulN_0]; exact Bk.new (by simp))
  have HB : Hid (Below w.heap.size w ((((w.alloc (.cells #[.int .u64 (lb k 0 : Nat), .int .u64 (lb k 1 : Nat), .int .u64 (lb k 2 : Nat), .int .u64 (lb k 3 : Nat)] 24)).alloc (.cells #[FV p 0, FV p 1, FV p 2, FV p 3, FV p 4, FV p 5, FV p 6, FV p 7, FV p 8, FV p 9, FV p 10, FV p 11, FV p 12, FV p 13, FV p 14, FV p 15] 165)).alloc (.cells #[.int .u64 0, .int .u64 0, .int .u64 0, .int .u64 0, .int .u64 0, .int .u64 0, .int .u64 0, .int .u64 0, .int .u64 0, .int .u64 0, .int .u64 0, .int .u64 0] 162)).alloc (.cells #[.int .u64 0, .int .u64 0, .int .u64 0, .int .u64 0, .int .u64 0, .int .u64 0, .int .u64 0, .int .u64 0, .int .u64 0, .int .u64 0, .int .u64 0, .int .u64 0] 162))) := Lib.hid (by go_grown)
  generalize ((((w.alloc (.cells #[.int .u64 (lb k 0 : Nat), .int .u64 (lb k 1 : Nat), .int .u64 (lb k 2 : Nat), .int .u64 (lb k 3 : Nat)] 24)).alloc (.cells #[FV p 0, FV p 1, FV p 2, FV p 3, FV p 4, FV p 5, FV p 6, FV p 7, FV p 8, FV p 9, FV p 10, FV p 11, FV p 12, FV p 13, FV p 14, FV p 15] 165)).alloc (.cells #[.int .u64 0, .int .u64 0, .int .u64 0, .int .u64 0, .int .u64 0, .int .u64 0, .int .u64 0, .int .u64 0, .int .u64 0, .int .u64 0, .int .u64 0, .int .u64 0] 162)).alloc (.cells #[.int .u64 0, .int .u64 0, .int .u64 0, .int .u64 0, .int .u64 0, .int .u64 0, .int .u64 0, .int .u64 0, .int .u64 0, .int .u64 0, .int .u64 0, .int .u64 0] 162)) = W at K2 K3 K4 K5 HB ⊢
  obtain ⟨g3, hg3⟩ : ∃ z, z = w.heap.size + 1 := ⟨_, rfl⟩
  obtain ⟨g4, hg4⟩ : ∃ z, z = w.heap.size + 1 + 1 := ⟨_, rfl⟩
  obtain ⟨g5, hg5⟩ : ∃ z, z = w.heap.size + 1 + 1 + 1 := ⟨_, rfl⟩
  rw [← hg3] at K3
  rw [← hg4] at K4
  rw [← hg5] at K5
  rw [← hg5, ← hg4, ← hg3]
  obtain ⟨g2, hg2⟩ : ∃ z, z = w.heap.size := ⟨_, rfl⟩
  have e : (Value.pointer (some ⟨w.heap.size, 0, none⟩)) = .pointer (some ⟨g2, 0, none⟩) := by rw [hg2]
  rw [e]
  rw [← hg2] at K2
  have HG : Hid ((w.heap.size ≤ g4 ∧ w.heap.size ≤ g5) ∧ (g2 ≠ g5 ∧ g3 ≠ g5 ∧ g4 ≠ g5)) := Lib.hid ⟨⟨by omega, by omega⟩, by omega, by omega, by omega⟩
  clear e hg3 hg4 hg5 hg2
  go_loopw [7] (fun b wr => ∃ i : Nat, i ≤ 64 ∧ b = .int .i64 (i : Int) ∧ Bk 24 wr g2 #[.int .u64 (lb k 0 : Nat), .int .u64 (lb k 1 : Nat), .int .u64 (lb k 2 : Nat), .int .u64 (lb k 3 : Nat)] ∧ Bk 165 wr g3 (fa p 16) ∧ Bk 162 wr g4 #[.int .u64 0, .int .u64 0, .int .u64 0, .int .u64 0, .int .u64 0, .int .u64 0, .int .u64 0, .int .u64 0, .int .u64 0, .int .u64 0, .int .u64 0, .int .u64 0] ∧ Bk 162 wr g5 (cs12 (p.mulN k i).x (p.mulN k i).y (p.mulN k i).z) ∧ Below w.heap.size w wr) (fun b _ => 64 - (intOf b).toNat)
  case atStart => exact ⟨0, by omega, rfl, K2.out, K3.out, K4.out, K5.out, HB.out⟩
  case round =>
    clear K2 K3 K4 K5 HB
    obtain ⟨i, hi, rfl, k2, k3, k4, k5, hb⟩ := hrel
    have K2 := Lib.hid k2
    have K3 := Lib.hid k3
    have K4 := Lib.hid k4
    have K5 := Lib.hid k5
    have HB := Lib.hid hb
    clear k2 k3 k4 k5 hb
    by_cases hlt : i < 64
    · go_wp2_with fail
      refine wp_loop_rounds 5 ?_
      have HO0 := Lib.hid (HOK.out i)
      obtain ⟨T0, hT0⟩ : ∃ z, z = p.mulN k i := ⟨_, rfl⟩
      rw [← hT0] at HO0 K5
      obtain ⟨a0x, a0y, a0z⟩ := T0
      have HT0 := Lib.hid hT0
      clear hT0
      simp only [] at K5
      have HO1 := Lib.hid (J.twice_ok HO0.out)
      have HC := Lib.hid (HTW.out ⟨a0x, a0y, a0z⟩ HO0.out)
      obtain ⟨T1, hT1⟩ : ∃ z, z = (J.mk a0x a0y a0z).twice := ⟨_, rfl⟩
      rw [← hT1] at HC HO1
      obtain ⟨a1x, a1y, a1z⟩ := T1
      have HT1 := Lib.hid hT1
      clear hT1 HO0
      simp only [J.v, jn] at HC
      obtain ⟨⟨x0, x1, x2, x3⟩, ⟨y0, y1, y2, y3⟩, z0, z1, z2, z3⟩ := K5.out.cells12
      rw [rounds_succ]
      go_wp2_with fail
      refine (keep w.heap.size w (HC.out _) HB.out (Nat.le_refl _)).mono ?_
      rintro e w1 ⟨rfl, hb, hkk⟩
      have K2' := Lib.hid (K2.out.below hkk)
      have K3' := Lib.hid (K3.out.below hkk)
      have K4' := Lib.hid (K4.out.below hkk)
      have K5' := Lib.hid (K5.out.below hkk)
      have HB' := Lib.hid hb
      clear hb hkk K2 K3 K4 K5 HB HC x0 x1 x2 x3 y0 y1 y2 y3 z0 z1 z2 z3
      obtain ⟨⟨f0, f1, f2, f3⟩, ⟨f4, f5, f6, f7⟩, f8, f9, f10, f11⟩ := K5'.out.fros12
      obtain ⟨⟨c0, c1, c2, c3⟩, ⟨c4, c5, c6, c7⟩, c8, c9, c10, c11⟩ := K5'.out.cells12
      go_wp2_with fail
      clear f0 f1 f2 f3 f4 f5 f6 f7 f8 f9 f10 f11 c0 c1 c2 c3 c4 c5 c6 c7 c8 c9 c10 c11
      have K2 : Hid (Bk 24 ((((((((((((w1.setCell ⟨g5, 0, none⟩ (.int .u64 (lb a1x 0 : Nat))).setCell ⟨g5, 1, none⟩ (.int .u64 (lb a1x 1 : Nat))).setCell ⟨g5, 2, none⟩ (.int .u64 (lb a1x 2 : Nat))).setCell ⟨g5, 3, none⟩ (.int .u64 (lb a1x 3 : Nat))).setCell ⟨g5, 4, none⟩ (.int .u64 (lb a1y 0 : Nat))).setCell ⟨g5, 5, none⟩ (.int .u64 (lb a1y 1 : Nat))).setCell ⟨g5, 6, none⟩ (.int .u64 (lb a1y 2 : Nat))).setCell ⟨g5, 7, none⟩ (.int .u64 (lb a1y 3 : Nat))).setCell ⟨g5, 8, none⟩ (.int .u64 (lb a1z 0 : Nat))).setCell ⟨g5, 9, none⟩ (.int .u64 (lb a1z 1 : Nat))).setCell ⟨g5, 10, none⟩ (.int .u64 (lb a1z 2 : Nat))).setCell ⟨g5, 11, none⟩ (.int .u64 (lb a1z 3 : Nat))) g2 #[.int .u64 (lb k 0 : Nat), .int .u64 (lb k 1 : Nat), .int .u64 (lb k 2 : Nat), .int .u64 (lb k 3 : Nat)]) := Lib.hid (Bk.puto12 HG.out.2.1 K2'.out)
      have K3 : Hid (Bk 165 ((((((((((((w1.setCell ⟨g5, 0, none⟩ (.int .u64 (lb a1x 0 : Nat))).setCell ⟨g5, 1, none⟩ (.int .u64 (lb a1x 1 : Nat))).setCell ⟨g5, 2, none⟩ (.int .u64 (lb a1x 2 : Nat))).setCell ⟨g5, 3, none⟩ (.int .u64 (lb a1x 3 : Nat))).setCell ⟨g5, 4, none⟩ (.int .u64 (lb a1y 0 : Nat))).setCell ⟨g5, 5, none⟩ (.int .u64 (lb a1y 1 : Nat))).setCell ⟨g5, 6, none⟩ (.int .u64 (lb a1y 2 : Nat))).setCell ⟨g5, 7, none⟩ (.int .u64 (lb a1y 3 : Nat))).setCell ⟨g5, 8, none⟩ (.int .u64 (lb a1z 0 : Nat))).setCell ⟨g5, 9, none⟩ (.int .u64 (lb a1z 1 : Nat))).setCell ⟨g5, 10, none⟩ (.int .u64 (lb a1z 2 : Nat))).setCell ⟨g5, 11, none⟩ (.int .u64 (lb a1z 3 : Nat))) g3 (fa p 16)) := Lib.hid (Bk.puto12 HG.out.2.2.1 K3'.out)
      have K4 : Hid (Bk 162 ((((((((((((w1.setCell ⟨g5, 0, none⟩ (.int .u64 (lb a1x 0 : Nat))).setCell ⟨g5, 1, none⟩ (.int .u64 (lb a1x 1 : Nat))).setCell ⟨g5, 2, none⟩ (.int .u64 (lb a1x 2 : Nat))).setCell ⟨g5, 3, none⟩ (.int .u64 (lb a1x 3 : Nat))).setCell ⟨g5, 4, none⟩ (.int .u64 (lb a1y 0 : Nat))).setCell ⟨g5, 5, none⟩ (.int .u64 (lb a1y 1 : Nat))).setCell ⟨g5, 6, none⟩ (.int .u64 (lb a1y 2 : Nat))).setCell ⟨g5, 7, none⟩ (.int .u64 (lb a1y 3 : Nat))).setCell ⟨g5, 8, none⟩ (.int .u64 (lb a1z 0 : Nat))).setCell ⟨g5, 9, none⟩ (.int .u64 (lb a1z 1 : Nat))).setCell ⟨g5, 10, none⟩ (.int .u64 (lb a1z 2 : Nat))).setCell ⟨g5, 11, none⟩ (.int .u64 (lb a1z 3 : Nat))) g4 #[.int .u64 0, .int .u64 0, .int .u64 0, .int .u64 0, .int .u64 0, .int .u64 0, .int .u64 0, .int .u64 0, .int .u64 0, .int .u64 0, .int .u64 0, .int .u64 0]) := Lib.hid (Bk.puto12 HG.out.2.2.2 K4'.out)
      have K5 : Hid (Bk 162 ((((((((((((w1.setCell ⟨g5, 0, none⟩ (.int .u64 (lb a1x 0 : Nat))).setCell ⟨g5, 1, none⟩ (.int .u64 (lb a1x 1 : Nat))).setCell ⟨g5, 2, none⟩ (.int .u64 (lb a1x 2 : Nat))).setCell ⟨g5, 3, none⟩ (.int .u64 (lb a1x 3 : Nat))).setCell ⟨g5, 4, none⟩ (.int .u64 (lb a1y 0 : Nat))).setCell ⟨g5, 5, none⟩ (.int .u64 (lb a1y 1 : Nat))).setCell ⟨g5, 6, none⟩ (.int .u64 (lb a1y 2 : Nat))).setCell ⟨g5, 7, none⟩ (.int .u64 (lb a1y 3 : Nat))).setCell ⟨g5, 8, none⟩ (.int .u64 (lb a1z 0 : Nat))).setCell ⟨g5, 9, none⟩ (.int .u64 (lb a1z 1 : Nat))).setCell ⟨g5, 10, none⟩ (.int .u64 (lb a1z 2 : Nat))).setCell ⟨g5, 11, none⟩ (.int .u64 (lb a1z 3 : Nat))) g5 #[.int .u64 (lb a1x 0 : Nat), .int .u64 (lb a1x 1 : Nat), .int .u64 (lb a1x 2 : Nat), .int .u64 (lb a1x 3 : Nat), .int .u64 (lb a1y 0 : Nat), .int .u64 (lb a1y 1 : Nat), .int .u64 (lb a1y 2 : Nat), .int .u64 (lb a1y 3 : Nat), .int .u64 (lb a1z 0 : Nat), .int .u64 (lb a1z 1 : Nat), .int .u64 (lb a1z 2 : Nat), .int .u64 (lb a1z 3 : Nat)]) := Lib.hid (Bk.put12 K5'.out)
      have HB : Hid (Below w.heap.size w ((((((((((((w1.setCell ⟨g5, 0, none⟩ (.int .u64 (lb a1x 0 : Nat))).setCell ⟨g5, 1, none⟩ (.int .u64 (lb a1x 1 : Nat))).setCell ⟨g5, 2, none⟩ (.int .u64 (lb a1x 2 : Nat))).setCell ⟨g5, 3, none⟩ (.int .u64 (lb a1x 3 : Nat))).setCell ⟨g5, 4, none⟩ (.int .u64 (lb a1y 0 : Nat))).setCell ⟨g5, 5, none⟩ (.int .u64 (lb a1y 1 : Nat))).setCell ⟨g5, 6, none⟩ (.int .u64 (lb a1y 2 : Nat))).setCell ⟨g5, 7, none⟩ (.int .u64 (lb a1y 3 : Nat))).setCell ⟨g5, 8, none⟩ (.int .u64 (lb a1z 0 : Nat))).setCell ⟨g5, 9, none⟩ (.int .u64 (lb a1z 1 : Nat))).setCell ⟨g5, 10, none⟩ (.int .u64 (lb a1z 2 : Nat))).setCell ⟨g5, 11, none⟩ (.int .u64 (lb a1z 3 : Nat)))) := Lib.hid (by have hb := HB'.out; have hg := HG.out.1.2; go_grown)
      generalize ((((((((((((w1.setCell ⟨g5, 0, none⟩ (.int .u64 (lb a1x 0 : Nat))).setCell ⟨g5, 1, none⟩ (.int .u64 (lb a1x 1 : Nat))).setCell ⟨g5, 2, none⟩ (.int .u64 (lb a1x 2 : Nat))).setCell ⟨g5, 3, none⟩ (.int .u64 (lb a1x 3 : Nat))).setCell ⟨g5, 4, none⟩ (.int .u64 (lb a1y 0 : Nat))).setCell ⟨g5, 5, none⟩ (.int .u64 (lb a1y 1 : Nat))).setCell ⟨g5, 6, none⟩ (.int .u64 (lb a1y 2 : Nat))).setCell ⟨g5, 7, none⟩ (.int .u64 (lb a1y 3 : Nat))).setCell ⟨g5, 8, none⟩ (.int .u64 (lb a1z 0 : Nat))).setCell ⟨g5, 9, none⟩ (.int .u64 (lb a1z 1 : Nat))).setCell ⟨g5, 10, none⟩ (.int .u64 (lb a1z 2 : Nat))).setCell ⟨g5, 11, none⟩ (.int .u64 (lb a1z 3 : Nat))) = V1 at K2 K3 K4 K5 HB ⊢
      clear K2' K3' K4' K5' HB'
      have HO2 := Lib.hid (J.twice_ok HO1.out)
      have HC := Lib.hid (HTW.out ⟨a1x, a1y, a1z⟩ HO1.out)
      obtain ⟨T2, hT2⟩ : ∃ z, z = (J.mk a1x a1y a1z).twice := ⟨_, rfl⟩
      rw [← hT2] at HC HO2
      obtain ⟨a2x, a2y, a2z⟩ := T2
      have HT2 := Lib.hid hT2
      clear hT2 HO1
      simp only [J.v, jn] at HC
      obtain ⟨⟨x0, x1, x2, x3⟩, ⟨y0, y1, y2, y3⟩, z0, z1, z2, z3⟩ := K5.out.cells12
      rw [rounds_succ]
      go_wp2_with fail
      refine (keep w.heap.size w (HC.out _) HB.out (Nat.le_refl _)).mono ?_
      rintro e w2 ⟨rfl, hb, hkk⟩
      have K2' := Lib.hid (K2.out.below hkk)
      have K3' := Lib.hid (K3.out.below hkk)
      have K4' := Lib.hid (K4.out.below hkk)
      have K5' := Lib.hid (K5.out.below hkk)
      have HB' := Lib.hid hb
      clear hb hkk K2 K3 K4 K5 HB HC x0 x1 x2 x3 y0 y1 y2 y3 z0 z1 z2 z3
      obtain ⟨⟨f0, f1, f2, f3⟩, ⟨f4, f5, f6, f7⟩, f8, f9, f10, f11⟩ := K5'.out.fros12
      obtain ⟨⟨c0, c1, c2, c3⟩, ⟨c4, c5, c6, c7⟩, c8, c9, c10, c11⟩ := K5'.out.cells12
      go_wp2_with fail
      clear f0 f1 f2 f3 f4 f5 f6 f7 f8 f9 f10 f11 c0 c1 c2 c3 c4 c5 c6 c7 c8 c9 c10 c11
      have K2 : Hid (Bk 24 ((((((((((((w2.setCell ⟨g5, 0, none⟩ (.int .u64 (lb a2x 0 : Nat))).setCell ⟨g5, 1, none⟩ (.int .u64 (lb a2x 1 : Nat))).setCell ⟨g5, 2, none⟩ (.int .u64 (lb a2x 2 : Nat))).setCell ⟨g5, 3, none⟩ (.int .u64 (lb a2x 3 : Nat))).setCell ⟨g5, 4, none⟩ (.int .u64 (lb a2y 0 : Nat))).setCell ⟨g5, 5, none⟩ (.int .u64 (lb a2y 1 : Nat))).setCell ⟨g5, 6, none⟩ (.int .u64 (lb a2y 2 : Nat))).setCell ⟨g5, 7, none⟩ (.int .u64 (lb a2y 3 : Nat))).setCell ⟨g5, 8, none⟩ (.int .u64 (lb a2z 0 : Nat))).setCell ⟨g5, 9, none⟩ (.int .u64 (lb a2z 1 : Nat))).setCell ⟨g5, 10, none⟩ (.int .u64 (lb a2z 2 : Nat))).setCell ⟨g5, 11, none⟩ (.int .u64 (lb a2z 3 : Nat))) g2 #[.int .u64 (lb k 0 : Nat), .int .u64 (lb k 1 : Nat), .int .u64 (lb k 2 : Nat), .int .u64 (lb k 3 : Nat)]) := Lib.hid (Bk.puto12 HG.out.2.1 K2'.out)
      have K3 : Hid (Bk 165 ((((((((((((w2.setCell ⟨g5, 0, none⟩ (.int .u64 (lb a2x 0 : Nat))).setCell ⟨g5, 1, none⟩ (.int .u64 (lb a2x 1 : Nat))).setCell ⟨g5, 2, none⟩ (.int .u64 (lb a2x 2 : Nat))).setCell ⟨g5, 3, none⟩ (.int .u64 (lb a2x 3 : Nat))).setCell ⟨g5, 4, none⟩ (.int .u64 (lb a2y 0 : Nat))).setCell ⟨g5, 5, none⟩ (.int .u64 (lb a2y 1 : Nat))).setCell ⟨g5, 6, none⟩ (.int .u64 (lb a2y 2 : Nat))).setCell ⟨g5, 7, none⟩ (.int .u64 (lb a2y 3 : Nat))).setCell ⟨g5, 8, none⟩ (.int .u64 (lb a2z 0 : Nat))).setCell ⟨g5, 9, none⟩ (.int .u64 (lb a2z 1 : Nat))).setCell ⟨g5, 10, none⟩ (.int .u64 (lb a2z 2 : Nat))).setCell ⟨g5, 11, none⟩ (.int .u64 (lb a2z 3 : Nat))) g3 (fa p 16)) := Lib.hid (Bk.puto12 HG.out.2.2.1 K3'.out)
      have K4 : Hid (Bk 162 ((((((((((((w2.setCell ⟨g5, 0, none⟩ (.int .u64 (lb a2x 0 : Nat))).setCell ⟨g5, 1, none⟩ (.int .u64 (lb a2x 1 : Nat))).setCell ⟨g5, 2, none⟩ (.int .u64 (lb a2x 2 : Nat))).setCell ⟨g5, 3, none⟩ (.int .u64 (lb a2x 3 : Nat))).setCell ⟨g5, 4, none⟩ (.int .u64 (lb a2y 0 : Nat))).setCell ⟨g5, 5, none⟩ (.int .u64 (lb a2y 1 : Nat))).setCell ⟨g5, 6, none⟩ (.int .u64 (lb a2y 2 : Nat))).setCell ⟨g5, 7, none⟩ (.int .u64 (lb a2y 3 : Nat))).setCell ⟨g5, 8, none⟩ (.int .u64 (lb a2z 0 : Nat))).setCell ⟨g5, 9, none⟩ (.int .u64 (lb a2z 1 : Nat))).setCell ⟨g5, 10, none⟩ (.int .u64 (lb a2z 2 : Nat))).setCell ⟨g5, 11, none⟩ (.int .u64 (lb a2z 3 : Nat))) g4 #[.int .u64 0, .int .u64 0, .int .u64 0, .int .u64 0, .int .u64 0, .int .u64 0, .int .u64 0, .int .u64 0, .int .u64 0, .int .u64 0, .int .u64 0, .int .u64 0]) := Lib.hid (Bk.puto12 HG.out.2.2.2 K4'.out)
      have K5 : Hid (Bk 162 ((((((((((((w2.setCell ⟨g5, 0, none⟩ (.int .u64 (lb a2x 0 : Nat))).setCell ⟨g5, 1, none⟩ (.int .u64 (lb a2x 1 : Nat))).setCell ⟨g5, 2, none⟩ (.int .u64 (lb a2x 2 : Nat))).setCell ⟨g5, 3, none⟩ (.int .u64 (lb a2x 3 : Nat))).setCell ⟨g5, 4, none⟩ (.int .u64 (lb a2y 0 : Nat))).setCell ⟨g5, 5, none⟩ (.int .u64 (lb a2y 1 : Nat))).setCell ⟨g5, 6, none⟩ (.int .u64 (lb a2y 2 : Nat))).setCell ⟨g5, 7, none⟩ (.int .u64 (lb a2y 3 : Nat))).setCell ⟨g5, 8, none⟩ (.int .u64 (lb a2z 0 : Nat))).setCell ⟨g5, 9, none⟩ (.int .u64 (lb a2z 1 : Nat))).setCell ⟨g5, 10, none⟩ (.int .u64 (lb a2z 2 : Nat))).setCell ⟨g5, 11, none⟩ (.int .u64 (lb a2z 3 : Nat))) g5 #[.int .u64 (lb a2x 0 : Nat), .int .u64 (lb a2x 1 : Nat), .int .u64 (lb a2x 2 : Nat), .int .u64 (lb a2x 3 : Nat), .int .u64 (lb a2y 0 : Nat), .int .u64 (lb a2y 1 : Nat), .int .u64 (lb a2y 2 : Nat), .int .u64 (lb a2y 3 : Nat), .int .u64 (lb a2z 0 : Nat), .int .u64 (lb a2z 1 : Nat), .int .u64 (lb a2z 2 : Nat), .int .u64 (lb a2z 3 : Nat)]) := Lib.hid (Bk.put12 K5'.out)
      have HB : Hid (Below w.heap.size w ((((((((((((w2.setCell ⟨g5, 0, none⟩ (.int .u64 (lb a2x 0 : Nat))).setCell ⟨g5, 1, none⟩ (.int .u64 (lb a2x 1 : Nat))).setCell ⟨g5, 2, none⟩ (.int .u64 (lb a2x 2 : Nat))).setCell ⟨g5, 3, none⟩ (.int .u64 (lb a2x 3 : Nat))).setCell ⟨g5, 4, none⟩ (.int .u64 (lb a2y 0 : Nat))).setCell ⟨g5, 5, none⟩ (.int .u64 (lb a2y 1 : Nat))).setCell ⟨g5, 6, none⟩ (.int .u64 (lb a2y 2 : Nat))).setCell ⟨g5, 7, none⟩ (.int .u64 (lb a2y 3 : Nat))).setCell ⟨g5, 8, none⟩ (.int .u64 (lb a2z 0 : Nat))).setCell ⟨g5, 9, none⟩ (.int .u64 (lb a2z 1 : Nat))).setCell ⟨g5, 10, none⟩ (.int .u64 (lb a2z 2 : Nat))).setCell ⟨g5, 11, none⟩ (.int .u64 (lb a2z 3 : Nat)))) := Lib.hid (by have hb := HB'.out; have hg := HG.out.1.2; go_grown)
      generalize ((((((((((((w2.setCell ⟨g5, 0, none⟩ (.int .u64 (lb a2x 0 : Nat))).setCell ⟨g5, 1, none⟩ (.int .u64 (lb a2x 1 : Nat))).setCell ⟨g5, 2, none⟩ (.int .u64 (lb a2x 2 : Nat))).setCell ⟨g5, 3, none⟩ (.int .u64 (lb a2x 3 : Nat))).setCell ⟨g5, 4, none⟩ (.int .u64 (lb a2y 0 : Nat))).setCell ⟨g5, 5, none⟩ (.int .u64 (lb a2y 1 : Nat))).setCell ⟨g5, 6, none⟩ (.int .u64 (lb a2y 2 : Nat))).setCell ⟨g5, 7, none⟩ (.int .u64 (lb a2y 3 : Nat))).setCell ⟨g5, 8, none⟩ (.int .u64 (lb a2z 0 : Nat))).setCell ⟨g5, 9, none⟩ (.int .u64 (lb a2z 1 : Nat))).setCell ⟨g5, 10, none⟩ (.int .u64 (lb a2z 2 : Nat))).setCell ⟨g5, 11, none⟩ (.int .u64 (lb a2z 3 : Nat))) = V2 at K2 K3 K4 K5 HB ⊢
      clear K2' K3' K4' K5' HB'
      have HO3 := Lib.hid (J.twice_ok HO2.out)
      have HC := Lib.hid (HTW.out ⟨a2x, a2y, a2z⟩ HO2.out)
      obtain ⟨T3, hT3⟩ : ∃ z, z = (J.mk a2x a2y a2z).twice := ⟨_, rfl⟩
      rw [← hT3] at HC HO3
      obtain ⟨a3x, a3y, a3z⟩ := T3
      have HT3 := Lib.hid hT3
      clear hT3 HO2
      simp only [J.v, jn] at HC
      obtain ⟨⟨x0, x1, x2, x3⟩, ⟨y0, y1, y2, y3⟩, z0, z1, z2, z3⟩ := K5.out.cells12
      rw [rounds_succ]
      go_wp2_with fail
      refine (keep w.heap.size w (HC.out _) HB.out (Nat.le_refl _)).mono ?_
      rintro e w3 ⟨rfl, hb, hkk⟩
      have K2' := Lib.hid (K2.out.below hkk)
      have K3' := Lib.hid (K3.out.below hkk)
      have K4' := Lib.hid (K4.out.below hkk)
      have K5' := Lib.hid (K5.out.below hkk)
      have HB' := Lib.hid hb
      clear hb hkk K2 K3 K4 K5 HB HC x0 x1 x2 x3 y0 y1 y2 y3 z0 z1 z2 z3
      obtain ⟨⟨f0, f1, f2, f3⟩, ⟨f4, f5, f6, f7⟩, f8, f9, f10, f11⟩ := K5'.out.fros12
      obtain ⟨⟨c0, c1, c2, c3⟩, ⟨c4, c5, c6, c7⟩, c8, c9, c10, c11⟩ := K5'.out.cells12
      go_wp2_with fail
      clear f0 f1 f2 f3 f4 f5 f6 f7 f8 f9 f10 f11 c0 c1 c2 c3 c4 c5 c6 c7 c8 c9 c10 c11
      have K2 : Hid (Bk 24 ((((((((((((w3.setCell ⟨g5, 0, none⟩ (.int .u64 (lb a3x 0 : Nat))).setCell ⟨g5, 1, none⟩ (.int .u64 (lb a3x 1 : Nat))).setCell ⟨g5, 2, none⟩ (.int .u64 (lb a3x 2 : Nat))).setCell ⟨g5, 3, none⟩ (.int .u64 (lb a3x 3 : Nat))).setCell ⟨g5, 4, none⟩ (.int .u64 (lb a3y 0 : Nat))).setCell ⟨g5, 5, none⟩ (.int .u64 (lb a3y 1 : Nat))).setCell ⟨g5, 6, none⟩ (.int .u64 (lb a3y 2 : Nat))).setCell ⟨g5, 7, none⟩ (.int .u64 (lb a3y 3 : Nat))).setCell ⟨g5, 8, none⟩ (.int .u64 (lb a3z 0 : Nat))).setCell ⟨g5, 9, none⟩ (.int .u64 (lb a3z 1 : Nat))).setCell ⟨g5, 10, none⟩ (.int .u64 (lb a3z 2 : Nat))).setCell ⟨g5, 11, none⟩ (.int .u64 (lb a3z 3 : Nat))) g2 #[.int .u64 (lb k 0 : Nat), .int .u64 (lb k 1 : Nat), .int .u64 (lb k 2 : Nat), .int .u64 (lb k 3 : Nat)]) := Lib.hid (Bk.puto12 HG.out.2.1 K2'.out)
      have K3 : Hid (Bk 165 ((((((((((((w3.setCell ⟨g5, 0, none⟩ (.int .u64 (lb a3x 0 : Nat))).setCell ⟨g5, 1, none⟩ (.int .u64 (lb a3x 1 : Nat))).setCell ⟨g5, 2, none⟩ (.int .u64 (lb a3x 2 : Nat))).setCell ⟨g5, 3, none⟩ (.int .u64 (lb a3x 3 : Nat))).setCell ⟨g5, 4, none⟩ (.int .u64 (lb a3y 0 : Nat))).setCell ⟨g5, 5, none⟩ (.int .u64 (lb a3y 1 : Nat))).setCell ⟨g5, 6, none⟩ (.int .u64 (lb a3y 2 : Nat))).setCell ⟨g5, 7, none⟩ (.int .u64 (lb a3y 3 : Nat))).setCell ⟨g5, 8, none⟩ (.int .u64 (lb a3z 0 : Nat))).setCell ⟨g5, 9, none⟩ (.int .u64 (lb a3z 1 : Nat))).setCell ⟨g5, 10, none⟩ (.int .u64 (lb a3z 2 : Nat))).setCell ⟨g5, 11, none⟩ (.int .u64 (lb a3z 3 : Nat))) g3 (fa p 16)) := Lib.hid (Bk.puto12 HG.out.2.2.1 K3'.out)
      have K4 : Hid (Bk 162 ((((((((((((w3.setCell ⟨g5, 0, none⟩ (.int .u64 (lb a3x 0 : Nat))).setCell ⟨g5, 1, none⟩ (.int .u64 (lb a3x 1 : Nat))).setCell ⟨g5, 2, none⟩ (.int .u64 (lb a3x 2 : Nat))).setCell ⟨g5, 3, none⟩ (.int .u64 (lb a3x 3 : Nat))).setCell ⟨g5, 4, none⟩ (.int .u64 (lb a3y 0 : Nat))).setCell ⟨g5, 5, none⟩ (.int .u64 (lb a3y 1 : Nat))).setCell ⟨g5, 6, none⟩ (.int .u64 (lb a3y 2 : Nat))).setCell ⟨g5, 7, none⟩ (.int .u64 (lb a3y 3 : Nat))).setCell ⟨g5, 8, none⟩ (.int .u64 (lb a3z 0 : Nat))).setCell ⟨g5, 9, none⟩ (.int .u64 (lb a3z 1 : Nat))).setCell ⟨g5, 10, none⟩ (.int .u64 (lb a3z 2 : Nat))).setCell ⟨g5, 11, none⟩ (.int .u64 (lb a3z 3 : Nat))) g4 #[.int .u64 0, .int .u64 0, .int .u64 0, .int .u64 0, .int .u64 0, .int .u64 0, .int .u64 0, .int .u64 0, .int .u64 0, .int .u64 0, .int .u64 0, .int .u64 0]) := Lib.hid (Bk.puto12 HG.out.2.2.2 K4'.out)
      have K5 : Hid (Bk 162 ((((((((((((w3.setCell ⟨g5, 0, none⟩ (.int .u64 (lb a3x 0 : Nat))).setCell ⟨g5, 1, none⟩ (.int .u64 (lb a3x 1 : Nat))).setCell ⟨g5, 2, none⟩ (.int .u64 (lb a3x 2 : Nat))).setCell ⟨g5, 3, none⟩ (.int .u64 (lb a3x 3 : Nat))).setCell ⟨g5, 4, none⟩ (.int .u64 (lb a3y 0 : Nat))).setCell ⟨g5, 5, none⟩ (.int .u64 (lb a3y 1 : Nat))).setCell ⟨g5, 6, none⟩ (.int .u64 (lb a3y 2 : Nat))).setCell ⟨g5, 7, none⟩ (.int .u64 (lb a3y 3 : Nat))).setCell ⟨g5, 8, none⟩ (.int .u64 (lb a3z 0 : Nat))).setCell ⟨g5, 9, none⟩ (.int .u64 (lb a3z 1 : Nat))).setCell ⟨g5, 10, none⟩ (.int .u64 (lb a3z 2 : Nat))).setCell ⟨g5, 11, none⟩ (.int .u64 (lb a3z 3 : Nat))) g5 #[.int .u64 (lb a3x 0 : Nat), .int .u64 (lb a3x 1 : Nat), .int .u64 (lb a3x 2 : Nat), .int .u64 (lb a3x 3 : Nat), .int .u64 (lb a3y 0 : Nat), .int .u64 (lb a3y 1 : Nat), .int .u64 (lb a3y 2 : Nat), .int .u64 (lb a3y 3 : Nat), .int .u64 (lb a3z 0 : Nat), .int .u64 (lb a3z 1 : Nat), .int .u64 (lb a3z 2 : Nat), .int .u64 (lb a3z 3 : Nat)]) := Lib.hid (Bk.put12 K5'.out)
      have HB : Hid (Below w.heap.size w ((((((((((((w3.setCell ⟨g5, 0, none⟩ (.int .u64 (lb a3x 0 : Nat))).setCell ⟨g5, 1, none⟩ (.int .u64 (lb a3x 1 : Nat))).setCell ⟨g5, 2, none⟩ (.int .u64 (lb a3x 2 : Nat))).setCell ⟨g5, 3, none⟩ (.int .u64 (lb a3x 3 : Nat))).setCell ⟨g5, 4, none⟩ (.int .u64 (lb a3y 0 : Nat))).setCell ⟨g5, 5, none⟩ (.int .u64 (lb a3y 1 : Nat))).setCell ⟨g5, 6, none⟩ (.int .u64 (lb a3y 2 : Nat))).setCell ⟨g5, 7, none⟩ (.int .u64 (lb a3y 3 : Nat))).setCell ⟨g5, 8, none⟩ (.int .u64 (lb a3z 0 : Nat))).setCell ⟨g5, 9, none⟩ (.int .u64 (lb a3z 1 : Nat))).setCell ⟨g5, 10, none⟩ (.int .u64 (lb a3z 2 : Nat))).setCell ⟨g5, 11, none⟩ (.int .u64 (lb a3z 3 : Nat)))) := Lib.hid (by have hb := HB'.out; have hg := HG.out.1.2; go_grown)
      generalize ((((((((((((w3.setCell ⟨g5, 0, none⟩ (.int .u64 (lb a3x 0 : Nat))).setCell ⟨g5, 1, none⟩ (.int .u64 (lb a3x 1 : Nat))).setCell ⟨g5, 2, none⟩ (.int .u64 (lb a3x 2 : Nat))).setCell ⟨g5, 3, none⟩ (.int .u64 (lb a3x 3 : Nat))).setCell ⟨g5, 4, none⟩ (.int .u64 (lb a3y 0 : Nat))).setCell ⟨g5, 5, none⟩ (.int .u64 (lb a3y 1 : Nat))).setCell ⟨g5, 6, none⟩ (.int .u64 (lb a3y 2 : Nat))).setCell ⟨g5, 7, none⟩ (.int .u64 (lb a3y 3 : Nat))).setCell ⟨g5, 8, none⟩ (.int .u64 (lb a3z 0 : Nat))).setCell ⟨g5, 9, none⟩ (.int .u64 (lb a3z 1 : Nat))).setCell ⟨g5, 10, none⟩ (.int .u64 (lb a3z 2 : Nat))).setCell ⟨g5, 11, none⟩ (.int .u64 (lb a3z 3 : Nat))) = V3 at K2 K3 K4 K5 HB ⊢
      clear K2' K3' K4' K5' HB'
      have HO4 := Lib.hid (J.twice_ok HO3.out)
      have HC := Lib.hid (HTW.out ⟨a3x, a3y, a3z⟩ HO3.out)
      obtain ⟨T4, hT4⟩ : ∃ z, z = (J.mk a3x a3y a3z).twice := ⟨_, rfl⟩
      rw [← hT4] at HC HO4
      obtain ⟨a4x, a4y, a4z⟩ := T4
      have HT4 := Lib.hid hT4
      clear hT4 HO3
      simp only [J.v, jn] at HC
      obtain ⟨⟨x0, x1, x2, x3⟩, ⟨y0, y1, y2, y3⟩, z0, z1, z2, z3⟩ := K5.out.cells12
      rw [rounds_succ]
      go_wp2_with fail
      refine (keep w.heap.size w (HC.out _) HB.out (Nat.le_refl _)).mono ?_
      rintro e w4 ⟨rfl, hb, hkk⟩
      have K2' := Lib.hid (K2.out.below hkk)
      have K3' := Lib.hid (K3.out.below hkk)
      have K4' := Lib.hid (K4.out.below hkk)
      have K5' := Lib.hid (K5.out.below hkk)
      have HB' := Lib.hid hb
      clear hb hkk K2 K3 K4 K5 HB HC x0 x1 x2 x3 y0 y1 y2 y3 z0 z1 z2 z3
      obtain ⟨⟨f0, f1, f2, f3⟩, ⟨f4, f5, f6, f7⟩, f8, f9, f10, f11⟩ := K5'.out.fros12
      obtain ⟨⟨c0, c1, c2, c3⟩, ⟨c4, c5, c6, c7⟩, c8, c9, c10, c11⟩ := K5'.out.cells12
      go_wp2_with fail
      clear f0 f1 f2 f3 f4 f5 f6 f7 f8 f9 f10 f11 c0 c1 c2 c3 c4 c5 c6 c7 c8 c9 c10 c11
      have K2 : Hid (Bk 24 ((((((((((((w4.setCell ⟨g5, 0, none⟩ (.int .u64 (lb a4x 0 : Nat))).setCell ⟨g5, 1, none⟩ (.int .u64 (lb a4x 1 : Nat))).setCell ⟨g5, 2, none⟩ (.int .u64 (lb a4x 2 : Nat))).setCell ⟨g5, 3, none⟩ (.int .u64 (lb a4x 3 : Nat))).setCell ⟨g5, 4, none⟩ (.int .u64 (lb a4y 0 : Nat))).setCell ⟨g5, 5, none⟩ (.int .u64 (lb a4y 1 : Nat))).setCell ⟨g5, 6, none⟩ (.int .u64 (lb a4y 2 : Nat))).setCell ⟨g5, 7, none⟩ (.int .u64 (lb a4y 3 : Nat))).setCell ⟨g5, 8, none⟩ (.int .u64 (lb a4z 0 : Nat))).setCell ⟨g5, 9, none⟩ (.int .u64 (lb a4z 1 : Nat))).setCell ⟨g5, 10, none⟩ (.int .u64 (lb a4z 2 : Nat))).setCell ⟨g5, 11, none⟩ (.int .u64 (lb a4z 3 : Nat))) g2 #[.int .u64 (lb k 0 : Nat), .int .u64 (lb k 1 : Nat), .int .u64 (lb k 2 : Nat), .int .u64 (lb k 3 : Nat)]) := Lib.hid (Bk.puto12 HG.out.2.1 K2'.out)
      have K3 : Hid (Bk 165 ((((((((((((w4.setCell ⟨g5, 0, none⟩ (.int .u64 (lb a4x 0 : Nat))).setCell ⟨g5, 1, none⟩ (.int .u64 (lb a4x 1 : Nat))).setCell ⟨g5, 2, none⟩ (.int .u64 (lb a4x 2 : Nat))).setCell ⟨g5, 3, none⟩ (.int .u64 (lb a4x 3 : Nat))).setCell ⟨g5, 4, none⟩ (.int .u64 (lb a4y 0 : Nat))).setCell ⟨g5, 5, none⟩ (.int .u64 (lb a4y 1 : Nat))).setCell ⟨g5, 6, none⟩ (.int .u64 (lb a4y 2 : Nat))).setCell ⟨g5, 7, none⟩ (.int .u64 (lb a4y 3 : Nat))).setCell ⟨g5, 8, none⟩ (.int .u64 (lb a4z 0 : Nat))).setCell ⟨g5, 9, none⟩ (.int .u64 (lb a4z 1 : Nat))).setCell ⟨g5, 10, none⟩ (.int .u64 (lb a4z 2 : Nat))).setCell ⟨g5, 11, none⟩ (.int .u64 (lb a4z 3 : Nat))) g3 (fa p 16)) := Lib.hid (Bk.puto12 HG.out.2.2.1 K3'.out)
      have K4 : Hid (Bk 162 ((((((((((((w4.setCell ⟨g5, 0, none⟩ (.int .u64 (lb a4x 0 : Nat))).setCell ⟨g5, 1, none⟩ (.int .u64 (lb a4x 1 : Nat))).setCell ⟨g5, 2, none⟩ (.int .u64 (lb a4x 2 : Nat))).setCell ⟨g5, 3, none⟩ (.int .u64 (lb a4x 3 : Nat))).setCell ⟨g5, 4, none⟩ (.int .u64 (lb a4y 0 : Nat))).setCell ⟨g5, 5, none⟩ (.int .u64 (lb a4y 1 : Nat))).setCell ⟨g5, 6, none⟩ (.int .u64 (lb a4y 2 : Nat))).setCell ⟨g5, 7, none⟩ (.int .u64 (lb a4y 3 : Nat))).setCell ⟨g5, 8, none⟩ (.int .u64 (lb a4z 0 : Nat))).setCell ⟨g5, 9, none⟩ (.int .u64 (lb a4z 1 : Nat))).setCell ⟨g5, 10, none⟩ (.int .u64 (lb a4z 2 : Nat))).setCell ⟨g5, 11, none⟩ (.int .u64 (lb a4z 3 : Nat))) g4 #[.int .u64 0, .int .u64 0, .int .u64 0, .int .u64 0, .int .u64 0, .int .u64 0, .int .u64 0, .int .u64 0, .int .u64 0, .int .u64 0, .int .u64 0, .int .u64 0]) := Lib.hid (Bk.puto12 HG.out.2.2.2 K4'.out)
      have K5 : Hid (Bk 162 ((((((((((((w4.setCell ⟨g5, 0, none⟩ (.int .u64 (lb a4x 0 : Nat))).setCell ⟨g5, 1, none⟩ (.int .u64 (lb a4x 1 : Nat))).setCell ⟨g5, 2, none⟩ (.int .u64 (lb a4x 2 : Nat))).setCell ⟨g5, 3, none⟩ (.int .u64 (lb a4x 3 : Nat))).setCell ⟨g5, 4, none⟩ (.int .u64 (lb a4y 0 : Nat))).setCell ⟨g5, 5, none⟩ (.int .u64 (lb a4y 1 : Nat))).setCell ⟨g5, 6, none⟩ (.int .u64 (lb a4y 2 : Nat))).setCell ⟨g5, 7, none⟩ (.int .u64 (lb a4y 3 : Nat))).setCell ⟨g5, 8, none⟩ (.int .u64 (lb a4z 0 : Nat))).setCell ⟨g5, 9, none⟩ (.int .u64 (lb a4z 1 : Nat))).setCell ⟨g5, 10, none⟩ (.int .u64 (lb a4z 2 : Nat))).setCell ⟨g5, 11, none⟩ (.int .u64 (lb a4z 3 : Nat))) g5 #[.int .u64 (lb a4x 0 : Nat), .int .u64 (lb a4x 1 : Nat), .int .u64 (lb a4x 2 : Nat), .int .u64 (lb a4x 3 : Nat), .int .u64 (lb a4y 0 : Nat), .int .u64 (lb a4y 1 : Nat), .int .u64 (lb a4y 2 : Nat), .int .u64 (lb a4y 3 : Nat), .int .u64 (lb a4z 0 : Nat), .int .u64 (lb a4z 1 : Nat), .int .u64 (lb a4z 2 : Nat), .int .u64 (lb a4z 3 : Nat)]) := Lib.hid (Bk.put12 K5'.out)
      have HB : Hid (Below w.heap.size w ((((((((((((w4.setCell ⟨g5, 0, none⟩ (.int .u64 (lb a4x 0 : Nat))).setCell ⟨g5, 1, none⟩ (.int .u64 (lb a4x 1 : Nat))).setCell ⟨g5, 2, none⟩ (.int .u64 (lb a4x 2 : Nat))).setCell ⟨g5, 3, none⟩ (.int .u64 (lb a4x 3 : Nat))).setCell ⟨g5, 4, none⟩ (.int .u64 (lb a4y 0 : Nat))).setCell ⟨g5, 5, none⟩ (.int .u64 (lb a4y 1 : Nat))).setCell ⟨g5, 6, none⟩ (.int .u64 (lb a4y 2 : Nat))).setCell ⟨g5, 7, none⟩ (.int .u64 (lb a4y 3 : Nat))).setCell ⟨g5, 8, none⟩ (.int .u64 (lb a4z 0 : Nat))).setCell ⟨g5, 9, none⟩ (.int .u64 (lb a4z 1 : Nat))).setCell ⟨g5, 10, none⟩ (.int .u64 (lb a4z 2 : Nat))).setCell ⟨g5, 11, none⟩ (.int .u64 (lb a4z 3 : Nat)))) := Lib.hid (by have hb := HB'.out; have hg := HG.out.1.2; go_grown)
      generalize ((((((((((((w4.setCell ⟨g5, 0, none⟩ (.int .u64 (lb a4x 0 : Nat))).setCell ⟨g5, 1, none⟩ (.int .u64 (lb a4x 1 : Nat))).setCell ⟨g5, 2, none⟩ (.int .u64 (lb a4x 2 : Nat))).setCell ⟨g5, 3, none⟩ (.int .u64 (lb a4x 3 : Nat))).setCell ⟨g5, 4, none⟩ (.int .u64 (lb a4y 0 : Nat))).setCell ⟨g5, 5, none⟩ (.int .u64 (lb a4y 1 : Nat))).setCell ⟨g5, 6, none⟩ (.int .u64 (lb a4y 2 : Nat))).setCell ⟨g5, 7, none⟩ (.int .u64 (lb a4y 3 : Nat))).setCell ⟨g5, 8, none⟩ (.int .u64 (lb a4z 0 : Nat))).setCell ⟨g5, 9, none⟩ (.int .u64 (lb a4z 1 : Nat))).setCell ⟨g5, 10, none⟩ (.int .u64 (lb a4z 2 : Nat))).setCell ⟨g5, 11, none⟩ (.int .u64 (lb a4z 3 : Nat))) = V4 at K2 K3 K4 K5 HB ⊢
      clear K2' K3' K4' K5' HB'
      have HD := Lib.hid (HDG.out (63 - i) (by omega))
      have hdd : k / 16 ^ (63 - i) % 16 < 16 := Nat.mod_lt _ (by decide)
      have HS := Lib.hid (HPL.out (dg k i) ⟨a4x, a4y, a4z⟩ HO4.out)
      have hD : Hid (p.mulN k (i + 1) = (p.tim (dg k i)).plus ⟨a4x, a4y, a4z⟩) := Lib.hid (by rw [HT4.out, HT3.out, HT2.out, HT1.out, HT0.out]; rfl)
      have e63 : (((63 - i : Nat) : Nat) : Int) = 63 - (i : Int) := by omega
      rw [e63] at HD
      clear e63
      have edg : k / 16 ^ (63 - i) % 16 = dg k i := rfl
      rw [edg] at HD hdd
      clear edg
      generalize dg k i = d at *
      obtain ⟨R, hR⟩ : ∃ z, z = (p.tim d).plus ⟨a4x, a4y, a4z⟩ := ⟨_, rfl⟩
      rw [← hR] at HS hD
      obtain ⟨rx, ry, rz⟩ := R
      clear hR HT0 HT1 HT2 HT3 HT4 HO4 HTW HOK HPL HDG
      simp only [J.v, jn] at HS
      have q0 : (d : Int) < 16 := by omega
      have q1 : ((d : Nat) : Int).toNat = d := by omega
      have qd : ∀ e os, (grow (redrawn V4 e) os).cell? ⟨g3, d, none⟩ = some (.func (.func 158) #[.agg #[.int .u64 (lb (p.tim d).x 0 : Nat), .int .u64 (lb (p.tim d).x 1 : Nat), .int .u64 (lb (p.tim d).x 2 : Nat), .int .u64 (lb (p.tim d).x 3 : Nat), .int .u64 (lb (p.tim d).y 0 : Nat), .int .u64 (lb (p.tim d).y 1 : Nat), .int .u64 (lb (p.tim d).y 2 : Nat), .int .u64 (lb (p.tim d).y 3 : Nat), .int .u64 (lb (p.tim d).z 0 : Nat), .int .u64 (lb (p.tim d).z 1 : Nat), .int .u64 (lb (p.tim d).z 2 : Nat), .int .u64 (lb (p.tim d).z 3 : Nat)]] #[]) := fun e os => ((K3.out.regrown e os).cell d).trans ((fa_get p 16 d hdd).trans (by unfold fk; rw [if_pos hdd]; rfl))
      obtain ⟨⟨x0, x1, x2, x3⟩, ⟨y0, y1, y2, y3⟩, z0, z1, z2, z3⟩ := K5.out.reg12
      obtain ⟨k0, k1, k2, k3⟩ := K2.out.reg
      rw [rounds_succ]
      go_wp2_with fail
      refine wp_region_below_tail 8 mixed (by kernel_rfl) ?_
      simp only [List.take_succ_cons, List.take_zero, List.drop_succ_cons, List.drop_zero]
      iterate 3 go_big_quiet_step (fail)
      go_big_quiet_step (exact qg HD.out)
      iterate 3 (first | go_big_quiet_step (fail) | quiet_step (fail))
      go_big_quiet_step (exact qg HS.out)
      refine wpQuiet_nil ?_
      intro _ hw'
      obtain ⟨⟨dq, osq⟩, hw''⟩ := hw'
      subst hw''
      have K2' := Lib.hid (K2.out.regrown dq osq)
      have K3' := Lib.hid (K3.out.regrown dq osq)
      have K4' := Lib.hid (K4.out.regrown dq osq)
      have K5' := Lib.hid (K5.out.regrown dq osq)
      have HB' := Lib.hid (HB.out.trans ((below_regrown V4 dq osq).mono HB.out.size))
      clear K2 K3 K4 K5 HB x0 x1 x2 x3 y0 y1 y2 y3 z0 z1 z2 z3 k0 k1 k2 k3 HD HS qd
      generalize grow (redrawn V4 dq) osq = V at K2' K3' K4' K5' HB' ⊢
      obtain ⟨⟨f0, f1, f2, f3⟩, ⟨f4, f5, f6, f7⟩, f8, f9, f10, f11⟩ := K5'.out.fros12
      obtain ⟨⟨c0, c1, c2, c3⟩, ⟨c4, c5, c6, c7⟩, c8, c9, c10, c11⟩ := K5'.out.cells12
      go_wp2_with fail
      go_round
      case rel =>
        refine ⟨i + 1, by omega, by go_num, Bk.puto12 HG.out.2.1 K2'.out, Bk.puto12 HG.out.2.2.1 K3'.out, Bk.puto12 HG.out.2.2.2 K4'.out, ?_, ?_⟩
        · rw [hD.out]; exact Bk.put12 K5'.out
        · have hb := HB'.out
          have hg := HG.out.1.2
          go_grown
      case measure => simp [intOf]; omega
    · obtain rfl : i = 64 := by omega
      rw [← HRES.out] at K5
      simp only [] at K5
      obtain ⟨⟨x0, x1, x2, x3⟩, ⟨y0, y1, y2, y3⟩, z0, z1, z2, z3⟩ := K5.out.cells12
      obtain ⟨⟨f0, f1, f2, f3⟩, ⟨f4, f5, f6, f7⟩, f8, f9, f10, f11⟩ := K4.out.fros12
      obtain ⟨⟨c0, c1, c2, c3⟩, ⟨c4, c5, c6, c7⟩, c8, c9, c10, c11⟩ := K4.out.cells12
      go_wp2_with fail
      refine ret_cell93 rfl g4 tx ty tz rfl (Bk.put12 K4.out) rfl ⟨rfl, ?_⟩
      have hb := HB.out
      have hg := HG.out.1.1
      go_grown
def Po.bytes (p : Po) : List UInt8 := if p.i = true then [0] else 4 :: (nb p.x ++ nb p.y)
theorem ext_ba (l : List UInt8) (a n : Nat) : (⟨l.toArray⟩ : ByteArray).extract a (a + n) = ⟨((l.drop a).take n).toArray⟩ := by
  apply ByteArray.ext
  simp [ByteArray.data_extract, List.extract_eq_take_drop]
def xOf (s : List UInt8) : Nat := bv ((s.drop 1).take 32)
def yOf (s : List UInt8) : Nat := bv (s.drop 33)
def Po.of (s : List UInt8) : Option Po :=
  if s = [0] then some ⟨0, 0, true⟩
  else if s.length = 65 ∧ s.take 1 = [4] ∧ xOf s < mP ∧ yOf s < mP ∧ (Po.mk (xOf s) (yOf s) false).on = true then some ⟨xOf s, yOf s, false⟩ else none
def Po.ret : Option Po → Value
  | some p => .tuple #[p.v, .int .i64 0]
  | none => .tuple #[pn 0 0 false, .int .i64 71]
theorem on_lt {x y : Nat} (h : (Po.mk x y false).on = true) : x < mP ∧ y < mP := by
  have e : (Po.mk x y false).on = decide (x < mP ∧ y < mP ∧ mj y y = rightN x) := rfl
  rw [e] at h
  have := of_decide_eq_true h
  exact ⟨this.1, this.2.1⟩
theorem on_far {x y : Nat} (h : (Po.mk x y true).on = true) : x = 0 ∧ y = 0 := by
  have e : (Po.mk x y true).on = decide (x = 0 ∧ y = 0) := rfl
  rw [e] at h
  exact of_decide_eq_true h
theorem lG : pn 48439561293906451759052585252797914202762949526041747995844080717082404635286 36134250956749795798585127919587881956611106672985015071877198253568414405109 false = .agg #[.int .u64 17627433388654248598, .int .u64 8575836109218198432, .int .u64 17923454489921339634, .int .u64 7716867327612699207, .int .u64 14678990851816772085, .int .u64 3156516839386865358, .int .u64 10297457778147434006, .int .u64 5756518291402817435, .bool false] := by
  have h : lb 48439561293906451759052585252797914202762949526041747995844080717082404635286 0 = 17627433388654248598 ∧ lb 48439561293906451759052585252797914202762949526041747995844080717082404635286 1 = 8575836109218198432 ∧ lb 48439561293906451759052585252797914202762949526041747995844080717082404635286 2 = 17923454489921339634 ∧ lb 48439561293906451759052585252797914202762949526041747995844080717082404635286 3 = 7716867327612699207 ∧ lb 36134250956749795798585127919587881956611106672985015071877198253568414405109 0 = 14678990851816772085 ∧ lb 36134250956749795798585127919587881956611106672985015071877198253568414405109 1 = 3156516839386865358 ∧ lb 36134250956749795798585127919587881956611106672985015071877198253568414405109 2 = 10297457778147434006 ∧ lb 36134250956749795798585127919587881956611106672985015071877198253568414405109 3 = 5756518291402817435 := by decide +kernel
  unfold pn
  rw [h.1]
  rw [h.2.1]
  rw [h.2.2.1]
  rw [h.2.2.2.1]
  rw [h.2.2.2.2.1]
  rw [h.2.2.2.2.2.1]
  rw [h.2.2.2.2.2.2.1]
  rw [h.2.2.2.2.2.2.2]
  rfl
def G : Po := ⟨48439561293906451759052585252797914202762949526041747995844080717082404635286, 36134250956749795798585127919587881956611106672985015071877198253568414405109, false⟩
theorem G_ok : G.ok := ⟨by decide +kernel, by decide +kernel⟩
theorem G_on : G.on = true := by decide +kernel
theorem vG : G.v = .agg #[.int .u64 17627433388654248598, .int .u64 8575836109218198432, .int .u64 17923454489921339634, .int .u64 7716867327612699207, .int .u64 14678990851816772085, .int .u64 3156516839386865358, .int .u64 10297457778147434006, .int .u64 5756518291402817435, .bool false] := lG
theorem kBase : ∀ w, Calls Tryz.prog 48 #[] w fun e w' => e = .returned (.agg #[.int .u64 17627433388654248598, .int .u64 8575836109218198432, .int .u64 17923454489921339634, .int .u64 7716867327612699207, .int .u64 14678990851816772085, .int .u64 3156516839386865358, .int .u64 10297457778147434006, .int .u64 5756518291402817435, .bool false]) ∧ Below w.heap.size w w' := fun w => by
  go_enter Tryz.func48, Tryz.ntmps48
  go_wp2_with fail
  rw [← lG]
  refine ret_cell51 rfl w.heap.size 48439561293906451759052585252797914202762949526041747995844080717082404635286 36134250956749795798585127919587881956611106672985015071877198253568414405109 false rfl ?_ rfl ⟨rfl, ?_⟩
  · have h := lG
    unfold pn at h
    injection h with h
    unfold cs9
    rw [h]
    exact Bk.new rfl
  · go_grown
theorem kRBase : ∀ w, Calls Tryz.prog 94 #[] w fun e w' => e = .returned (.agg #[.int .u64 17627433388654248598, .int .u64 8575836109218198432, .int .u64 17923454489921339634, .int .u64 7716867327612699207, .int .u64 14678990851816772085, .int .u64 3156516839386865358, .int .u64 10297457778147434006, .int .u64 5756518291402817435, .bool false]) ∧ Below w.heap.size w w' := fun w => by
  go_enter Tryz.func94, Tryz.ntmps94
  go_wp2_with fail
  rw [← lG]
  refine ret_cell51 rfl w.heap.size 48439561293906451759052585252797914202762949526041747995844080717082404635286 36134250956749795798585127919587881956611106672985015071877198253568414405109 false rfl ?_ rfl ⟨rfl, ?_⟩
  · have h := lG
    unfold pn at h
    injection h with h
    unfold cs9
    rw [h]
    exact Bk.new rfl
  · go_grown
end Go.Proofs.YtpggkfdijmnmiaaGreat
set_option linter.unusedVariables false
set_option linter.unusedSimpArgs false
set_option maxRecDepth 100000
namespace Go.Proofs.YtpggkfdijmnmiaaGreat
open Go.RowKit Go.Sort Limbs
end Go.Proofs.YtpggkfdijmnmiaaGreat
set_option linter.unusedVariables false
set_option linter.unusedSimpArgs false
set_option maxRecDepth 100000
namespace Go.Proofs.YtpggkfdijmnmiaaGreat
open Go.RowKit Go.Sort Limbs
theorem eq_same {p : Po} (hp : p.ok) : ∀ w, (Op.equalIn 10000 26 p.v p.v).run Tryz.prog w = .ok true w := fun w => by
  have h := eqP p.x p.y p.x p.y p.i p.i hp.1 hp.2 hp.1 hp.2 w
  have h2 : (Op.equalIn 10000 26 (pn p.x p.y p.i) (pn p.x p.y p.i)).run Tryz.prog w = .ok true w := by simpa using h
  exact h2
end Go.Proofs.YtpggkfdijmnmiaaGreat
namespace Go.Proofs.YtpggkfdijmnmiaaGreat.Ref
open Go.RowKit Go.Proofs.YtpggkfdijmnmiaaGreat.Digits Inver
theorem md_odd (m : Int) : md m % 2 = 1 := by
  rcases md_or m with h | h <;> rw [h] <;> decide +kernel
theorem md_one (m : Int) : 1 < md m := by
  rcases md_or m with h | h <;> rw [h] <;> decide +kernel
structure Inv4 (w wr : World) (p a : Nat) (vp u v x y : Value) (U V X Y : Nat) : Prop where
  np : NV wr vp p
  nu : NV wr u U
  nv : NV wr v V
  nx : NV wr x X
  ny : NV wr y Y
  kx : Keeps p a U X
  ky : Keeps p a V Y
  cop : Nat.Coprime U V
  lu : U ≤ p
  lv : V ≤ p
  b : Below w.heap.size w wr
theorem Inv4.keep {w wr w' : World} {p a : Nat} {vp u v x y : Value} {U V X Y : Nat} (h : Inv4 w wr p a vp u v x y U V X Y) (hb : Below wr.heap.size wr w') : Inv4 w w' p a vp u v x y U V X Y :=
  ⟨h.np.below hb, h.nu.below hb, h.nv.below hb, h.nx.below hb, h.ny.below hb, h.kx, h.ky, h.cop, h.lu, h.lv, h.b.trans (hb.mono h.b.size)⟩
theorem half_pos {u : Nat} (h : 0 < u) (he : u % 2 = 0) : 0 < u / 2 := by omega
theorem half_lt {u : Nat} (h : 0 < u) : u / 2 < u := by omega
set_option maxHeartbeats 16000000 in
theorem inverse_nv (m : Int) (v : Value) (w : World) (a : Nat) (ha : a < big) (h0 : a % md m ≠ 0) (h : NV w v a) :
    Calls Tryz.prog 64 #[.int .i64 m, v] w fun e w' => ∃ v' z, e = .returned v' ∧ Nr w w' v' z ∧ z < md m ∧ z * a % md m = 1 := by
  have HM := Lib.hid (modref_any m w)
  have HL := Lib.hid (fun u w' k => left_nv v u w' a (md m) (Nat.lt_of_lt_of_le ha big_sq) (md_big m) (md_pos m) k)
  have HH := Lib.hid h
  have hodd := md_odd m
  have h1p := md_one m
  have hbig := md_big m
  have hcop : Nat.Coprime (a % md m) (md m) := by
    have := (md_prime (md_or m)).cop (a := a) (fun hd => h0 (Nat.mod_eq_zero_of_dvd hd))
    rw [Nat.Coprime, ← Nat.gcd_rec]
    exact this
  have hap := Nat.mod_lt a (md_pos m)
  generalize md m = p at *
  have HK : Hid (p % 2 = 1 ∧ 1 < p ∧ p < big) := Lib.hid ⟨hodd, h1p, hbig⟩
  have HC := Lib.hid hcop
  have HAP := Lib.hid (Nat.le_of_lt hap)
  have K1 : Hid (Keeps p a (a % p) 1) := Lib.hid (Keeps.start h1p)
  have K2 : Hid (Keeps p a p 0) := Lib.hid (Keeps.none h1p)
  clear h h0 hodd h1p hbig hcop hap ha
  go_enter Tryz.func64, Tryz.ntmps64
  go_wp2_with fail
  refine (nk w.heap.size w HM.out (Below.refl _ _) (Nat.le_refl _)).mono ?_
  rintro e w1 ⟨vp, rfl, n1, hb1, hk1⟩
  have N1 := Lib.hid n1
  have HB1 := Lib.hid hb1
  clear n1 hb1 hk1 HM
  go_wp2_with fail
  refine (nk w.heap.size w (HL.out vp w1 (HH.out.below HB1.out) N1.out) HB1.out (Nat.le_refl _)).mono ?_
  rintro e w2 ⟨v2, rfl, n2, hb2, hk2⟩
  have NP := Lib.hid (N1.out.below hk2)
  have NU := Lib.hid n2
  have HB2 := Lib.hid hb2
  clear n2 hb2 hk2 HB1 N1
  go_wp2_with fail
  have I0 : Hid (Inv4 w ((w2.alloc (.cells #[.int .u32 1] 111)).alloc (.cells #[] 111)) p a vp v2 vp (.slice (some ⟨w2.heap.size, 0, none⟩) 1 1) (.slice (some ⟨w2.heap.size + 1, 0, none⟩) 0 0) (a % p) p 1 0) := Lib.hid
    ⟨(NP.out.al _).al _, (NU.out.al _).al _, (NP.out.al _).al _, (nv_one w2).al _, by have := nv_nil (w2.alloc (.cells #[.int .u32 1] 111)); simpa using this, K1.out, K2.out, HC.out, HAP.out, Nat.le_refl _, HB2.out.trans (((al_below _ _).trans ((al_below _ _).mono (by simp))).mono HB2.out.size)⟩
  clear NP NU HB2 K1 K2 HC HAP HH
  generalize ((w2.alloc (.cells #[.int .u32 1] 111)).alloc (.cells #[] 111)) = wz at I0 ⊢
  go_loopw [6, 7, 8, 9] (fun u v x y wr => ∃ U V X Y, Inv4 w wr p a vp u v x y U V X Y) (fun u v _ _ wr => sval wr u + sval wr v)
  case atStart => exact ⟨_, _, _, _, I0.out⟩
  case round =>
    clear I0
    obtain ⟨U, V, X, Y, hI⟩ := hrel
    have HI := Lib.hid hI
    clear hI
    have C1 := Lib.hid (cmp_nv _ _ _ U 1 (HI.out.nu.al _) (nv_one wr))
    have E1 : (cmpN U 1 != 0) = decide (U ≠ 1) := cmp_one
    by_cases hU : U = 1
    · subst hU
      have E2 : (cmpN 1 1 == 0) = true := rfl
      have E3 : cmpN 1 1 = 0 := rfl
      rw [E3] at C1
      clear E1 E2 E3
      go_wp2_with fail
      refine C1.out.mono ?_
      rintro e w3 ⟨rfl, s3⟩
      have I3 := Lib.hid (HI.out.keep ((al_below wr _).trans (s3.below0.mono (by simp))))
      clear s3 C1 HI
      go_wp2_with fail
      have C3 := Lib.hid (cmp_nv _ _ _ 1 1 (I3.out.nu.al _) (nv_one w3))
      have E3 : cmpN 1 1 = 0 := rfl
      rw [E3] at C3
      clear E3
      refine C3.out.mono ?_
      rintro e w4 ⟨rfl, s4⟩
      have I4 := Lib.hid (I3.out.keep ((al_below w3 _).trans (s4.below0.mono (by simp))))
      clear s4 C3 I3
      go_wp2_with fail
      go_ret
      exact ⟨_, X, rfl, ⟨I4.out.nx, I4.out.b⟩, I4.out.kx.1, I4.out.kx.done HK.out.2.1⟩
    · have E1' : (cmpN U 1 != 0) = true := by rw [E1]; simpa using hU
      have E1n : (cmpN U 1 == 0) = false := by rw [cmp_one']; simpa using hU
      have HU1 := Lib.hid hU
      obtain ⟨c1, hc1⟩ : ∃ c, c = cmpN U 1 := ⟨_, rfl⟩
      rw [← hc1] at C1 E1' E1n
      have EC := Lib.hid E1n
      have HC1 := Lib.hid hc1
      clear E1 hU E1n hc1
      go_wp2_with fail
      refine C1.out.mono ?_
      rintro e w3 ⟨rfl, s3⟩
      have I3 := Lib.hid (HI.out.keep ((al_below wr _).trans (s3.below0.mono (by simp))))
      have HMU : Hid (sval wr u6 + sval wr u7 = U + V) := Lib.hid (by rw [sval_nv HI.out.nu, sval_nv HI.out.nv])
      clear s3 C1 HI
      go_wp2_with fail
      have C3 := Lib.hid (cmp_nv _ _ _ V 1 (I3.out.nv.al _) (nv_one w3))
      by_cases hV : V = 1
      · subst hV
        have E3 : cmpN 1 1 = 0 := rfl
        rw [E3] at C3
        clear E3
        refine C3.out.mono ?_
        rintro e w4 ⟨rfl, s4⟩
        have I4 := Lib.hid (I3.out.keep ((al_below w3 _).trans (s4.below0.mono (by simp))))
        clear s4 C3 I3
        go_wp2_with fail
        have C5 := Lib.hid (cmp_nv _ _ _ U 1 (I4.out.nu.al _) (nv_one w4))
        rw [← HC1.out] at C5
        have EE := EC.out
        refine C5.out.mono ?_
        rintro e w5 ⟨rfl, s5⟩
        have I5 := Lib.hid (I4.out.keep ((al_below w4 _).trans (s5.below0.mono (by simp))))
        clear s5 C5 I4
        go_wp2_with fail
        go_ret
        exact ⟨_, Y, rfl, ⟨I5.out.ny, I5.out.b⟩, I5.out.ky.1, I5.out.ky.done HK.out.2.1⟩
      · have E3 : (cmpN V 1 != 0) = true := by rw [cmp_one]; simpa using hV
        have HV1 := Lib.hid hV
        generalize cmpN V 1 = c3 at E3 C3
        clear hV
        refine C3.out.mono ?_
        rintro e w4 ⟨rfl, s4⟩
        have I4 := Lib.hid (I3.out.keep ((al_below w3 _).trans (s4.below0.mono (by simp))))
        clear s4 C3 I3 E1'
        go_wp2_with fail
        clear E3
        have P0 : Hid (0 < U ∧ 0 < V) := Lib.hid (by
          have hc := I4.out.cop
          refine ⟨Nat.pos_of_ne_zero fun h => ?_, Nat.pos_of_ne_zero fun h => ?_⟩
          · subst h; rw [Nat.Coprime, Nat.gcd_zero_left] at hc; exact HV1.out hc
          · subst h; rw [Nat.Coprime, Nat.gcd_zero_right] at hc; exact HU1.out hc)
        go_loopw [6, 8] (fun u x wr => ∃ U' X', Inv4 w wr p a vp u u7 x u9 U' V X' Y ∧ 0 < U' ∧ U' ≤ U) (fun u _ wr => sval wr u)
        case atStart => exact ⟨_, _, I4.out, P0.out.1, Nat.le_refl _⟩
        case round =>
          clear I4
          obtain ⟨U', X', hI, hp, hle⟩ := hrel
          have HI := Lib.hid hI
          have HP := Lib.hid (And.intro hp hle)
          clear hI hp hle
          have C5 := Lib.hid (odd_nv _ _ _ HI.out.nu)
          by_cases ho : U' % 2 = 1
          · rw [decide_eq_true ho] at C5
            have HO := Lib.hid ho
            clear ho
            go_wp2_with fail
            refine C5.out.mono ?_
            rintro e w5 ⟨rfl, s5⟩
            have I5 := Lib.hid (HI.out.keep s5.below0)
            clear s5 C5 HI
            go_wp2_with fail
            go_loopw [7, 9] (fun v y wr => ∃ V' Y', Inv4 w wr p a vp u6 v u8 y U' V' X' Y' ∧ 0 < V' ∧ V' ≤ V) (fun v _ wr => sval wr v)
            case atStart => exact ⟨_, _, I5.out, P0.out.2, Nat.le_refl _⟩
            case round =>
              clear I5
              obtain ⟨V', Y', hI, hp, hle⟩ := hrel
              have HI := Lib.hid hI
              have HPV := Lib.hid (And.intro hp hle)
              clear hI hp hle
              have C7 := Lib.hid (odd_nv _ _ _ HI.out.nv)
              by_cases ho : V' % 2 = 1
              · rw [decide_eq_true ho] at C7
                clear ho
                go_wp2_with fail
                refine C7.out.mono ?_
                rintro e w6 ⟨rfl, s6⟩
                have I6 := Lib.hid (HI.out.keep s6.below0)
                clear s6 C7 HI
                go_wp2_with fail
                have C8 := Lib.hid (cmp_nv _ _ _ _ _ I6.out.nu I6.out.nv)
                by_cases hge : V' ≤ U'
                · have hcm : 0 ≤ cmpN U' V' := by unfold cmpN; rw [if_neg (by omega)]; split <;> omega
                  generalize cmpN U' V' = cm at hcm C8
                  have HGE := Lib.hid hge
                  clear hge
                  refine C8.out.mono ?_
                  rintro e w7 ⟨rfl, s7⟩
                  have I7 := Lib.hid (I6.out.keep s7.below0)
                  clear s7 C8 I6
                  go_wp2_with fail
                  refine (nk w.heap.size w (sub_nv' _ _ w7 U' V' (Nat.lt_of_le_of_lt I7.out.lu HK.out.2.2) HGE.out I7.out.nu I7.out.nv) I7.out.b (Nat.le_refl _)).mono ?_
                  rintro e w8 ⟨z8, rfl, n8, hb8, hk8⟩
                  have I8 := Lib.hid (I7.out.keep hk8)
                  have N8 := Lib.hid n8
                  clear n8 hb8 hk8 I7
                  go_wp2_with fail
                  refine (nk w.heap.size w (less_nv _ _ _ w8 X' Y' p (Nat.lt_trans I8.out.kx.1 HK.out.2.2) (Nat.lt_trans I8.out.ky.1 HK.out.2.2) HK.out.2.2 (by have := I8.out.ky.1; omega) I8.out.nx I8.out.ny I8.out.np) I8.out.b (Nat.le_refl _)).mono ?_
                  rintro e w9 ⟨z9, rfl, n9, hb9, hk9⟩
                  have I9 := Lib.hid (I8.out.keep hk9)
                  have N89 := Lib.hid (N8.out.below hk9)
                  have N9 := Lib.hid n9
                  clear n9 hb9 hk9 I8 N8
                  have HF : Hid (Inv4 w w9 p a vp z8 u7 z9 u9 (U' - V') V' ((if X' < Y' then X' + p else X') - Y') Y') := Lib.hid
                    ⟨I9.out.np, N89.out, I9.out.nv, N9.out, I9.out.ny, I9.out.kx.minus HGE.out I9.out.ky, I9.out.ky, cop_minus HGE.out I9.out.cop, Nat.le_trans (Nat.sub_le _ _) I9.out.lu, I9.out.lv, I9.out.b⟩
                  clear I9 N89 N9
                  go_wp2_with fail
                  go_roundw
                  case rel => exact ⟨_, _, _, _, HF.out⟩
                  case measure =>
                    rw [HMU.out, sval_nv HF.out.nu, sval_nv HF.out.nv]
                    have := HP.out
                    have := HPV.out
                    omega
                · have hcm : cmpN U' V' = -1 := by unfold cmpN; rw [if_pos (by omega)]
                  rw [hcm] at C8
                  have HGE : Hid (U' ≤ V') := Lib.hid (by omega)
                  clear hge hcm
                  refine C8.out.mono ?_
                  rintro e w7 ⟨rfl, s7⟩
                  have I7 := Lib.hid (I6.out.keep s7.below0)
                  clear s7 C8 I6
                  go_wp2_with fail
                  refine (nk w.heap.size w (sub_nv' _ _ w7 V' U' (Nat.lt_of_le_of_lt I7.out.lv HK.out.2.2) HGE.out I7.out.nv I7.out.nu) I7.out.b (Nat.le_refl _)).mono ?_
                  rintro e w8 ⟨z8, rfl, n8, hb8, hk8⟩
                  have I8 := Lib.hid (I7.out.keep hk8)
                  have N8 := Lib.hid n8
                  clear n8 hb8 hk8 I7
                  go_wp2_with fail
                  refine (nk w.heap.size w (less_nv _ _ _ w8 Y' X' p (Nat.lt_trans I8.out.ky.1 HK.out.2.2) (Nat.lt_trans I8.out.kx.1 HK.out.2.2) HK.out.2.2 (by have := I8.out.kx.1; omega) I8.out.ny I8.out.nx I8.out.np) I8.out.b (Nat.le_refl _)).mono ?_
                  rintro e w9 ⟨z9, rfl, n9, hb9, hk9⟩
                  have I9 := Lib.hid (I8.out.keep hk9)
                  have N89 := Lib.hid (N8.out.below hk9)
                  have N9 := Lib.hid n9
                  clear n9 hb9 hk9 I8 N8
                  have HF : Hid (Inv4 w w9 p a vp u6 z8 u8 z9 U' (V' - U') X' ((if Y' < X' then Y' + p else Y') - X')) := Lib.hid
                    ⟨I9.out.np, I9.out.nu, N89.out, I9.out.nx, N9.out, I9.out.kx, I9.out.ky.minus HGE.out I9.out.kx, (cop_minus HGE.out I9.out.cop.symm).symm, I9.out.lu, Nat.le_trans (Nat.sub_le _ _) I9.out.lv, I9.out.b⟩
                  clear I9 N89 N9
                  go_wp2_with fail
                  go_roundw
                  case rel => exact ⟨_, _, _, _, HF.out⟩
                  case measure =>
                    rw [HMU.out, sval_nv HF.out.nu, sval_nv HF.out.nv]
                    have := HP.out
                    have := HPV.out
                    omega
              · rw [decide_eq_false ho] at C7
                have HE : Hid (V' % 2 = 0) := Lib.hid (by omega)
                clear ho
                go_wp2_with fail
                refine C7.out.mono ?_
                rintro e w6 ⟨rfl, s6⟩
                have I6 := Lib.hid (HI.out.keep s6.below0)
                have HMV : Hid (sval wr u7 = V') := Lib.hid (sval_nv HI.out.nv)
                clear s6 C7 HI
                go_wp2_with fail
                refine (nk w.heap.size w (half_nv _ w6 V' (Nat.lt_of_le_of_lt I6.out.lv HK.out.2.2) I6.out.nv) I6.out.b (Nat.le_refl _)).mono ?_
                rintro e w8 ⟨z8, rfl, n8, hb8, hk8⟩
                have I8 := Lib.hid (I6.out.keep hk8)
                have N8 := Lib.hid n8
                clear n8 hb8 hk8 I6
                go_wp2_with fail
                refine (nk w.heap.size w (halved_nv _ _ w8 Y' p (Nat.lt_trans I8.out.ky.1 HK.out.2.2) HK.out.2.2 I8.out.ny I8.out.np) I8.out.b (Nat.le_refl _)).mono ?_
                rintro e w9 ⟨z9, rfl, n9, hb9, hk9⟩
                have I9 := Lib.hid (I8.out.keep hk9)
                have N89 := Lib.hid (N8.out.below hk9)
                have N9 := Lib.hid n9
                clear n9 hb9 hk9 I8 N8
                have HF : Hid (Inv4 w w9 p a vp u6 z8 u8 z9 U' (V' / 2) X' ((if Y' % 2 = 1 then Y' + p else Y') / 2)) := Lib.hid
                  ⟨I9.out.np, I9.out.nu, N89.out, I9.out.nx, N9.out, I9.out.kx, I9.out.ky.halve HK.out.1 HE.out, (cop_half HE.out I9.out.cop.symm).symm, I9.out.lu, Nat.le_trans (Nat.div_le_self _ _) I9.out.lv, I9.out.b⟩
                clear I9 N89 N9
                go_wp2_with fail
                go_roundw
                case rel => exact ⟨_, _, HF.out, half_pos HPV.out.1 HE.out, Nat.le_trans (Nat.div_le_self _ _) HPV.out.2⟩
                case measure =>
                  rw [HMV.out, sval_nv HF.out.nv]
                  exact half_lt HPV.out.1
          · rw [decide_eq_false ho] at C5
            have HE : Hid (U' % 2 = 0) := Lib.hid (by omega)
            clear ho
            go_wp2_with fail
            refine C5.out.mono ?_
            rintro e w6 ⟨rfl, s6⟩
            have I6 := Lib.hid (HI.out.keep s6.below0)
            have HMV : Hid (sval wr u6 = U') := Lib.hid (sval_nv HI.out.nu)
            clear s6 C5 HI
            go_wp2_with fail
            refine (nk w.heap.size w (half_nv _ w6 U' (Nat.lt_of_le_of_lt I6.out.lu HK.out.2.2) I6.out.nu) I6.out.b (Nat.le_refl _)).mono ?_
            rintro e w8 ⟨z8, rfl, n8, hb8, hk8⟩
            have I8 := Lib.hid (I6.out.keep hk8)
            have N8 := Lib.hid n8
            clear n8 hb8 hk8 I6
            go_wp2_with fail
            refine (nk w.heap.size w (halved_nv _ _ w8 X' p (Nat.lt_trans I8.out.kx.1 HK.out.2.2) HK.out.2.2 I8.out.nx I8.out.np) I8.out.b (Nat.le_refl _)).mono ?_
            rintro e w9 ⟨z9, rfl, n9, hb9, hk9⟩
            have I9 := Lib.hid (I8.out.keep hk9)
            have N89 := Lib.hid (N8.out.below hk9)
            have N9 := Lib.hid n9
            clear n9 hb9 hk9 I8 N8
            have HF : Hid (Inv4 w w9 p a vp z8 u7 z9 u9 (U' / 2) V ((if X' % 2 = 1 then X' + p else X') / 2) Y) := Lib.hid
              ⟨I9.out.np, N89.out, I9.out.nv, N9.out, I9.out.ny, I9.out.kx.halve HK.out.1 HE.out, I9.out.ky, cop_half HE.out I9.out.cop, Nat.le_trans (Nat.div_le_self _ _) I9.out.lu, I9.out.lv, I9.out.b⟩
            clear I9 N89 N9
            go_wp2_with fail
            go_roundw
            case rel => exact ⟨_, _, HF.out, half_pos HP.out.1 HE.out, Nat.le_trans (Nat.div_le_self _ _) HP.out.2⟩
            case measure =>
              rw [HMV.out, sval_nv HF.out.nu]
              exact half_lt HP.out.1
end Go.Proofs.YtpggkfdijmnmiaaGreat.Ref
namespace Go.Proofs.YtpggkfdijmnmiaaGreat.Ref
open Go.RowKit Go.Proofs.YtpggkfdijmnmiaaGreat.Digits Limbs
theorem wpOp_want {P : Program} {ops : Array Oper} {Q : Exit → Act → World → Prop} {i : Nat} {o : Oper} {K : Act → World → Prop} {a : Act} {w : World} (hi : ops[i]? = some o) (hw : Region.wanted o (yielded ops a.tmps) = true) (h : o.wp P a w K Q) : wpOp P ops Q i K a w := by
  unfold wpOp
  simp only [hi]
  rw [if_pos hw]
  exact .inl h
theorem w_big {n : Nat} (h : n < W256) : n < big := Nat.lt_trans h (by decide +kernel)
theorem inv_one {m : Int} {a z : Nat} (h0 : a % md m ≠ 0) (hz : z < md m) (h : z * a % md m = 1) : z = a ^ (md m - 2) % md m := by
  have hp := md_prime (md_or m)
  have hnd : ¬ md m ∣ a := fun hd => h0 (Nat.mod_eq_zero_of_dvd hd)
  have hc := hp.cop hnd
  have hf := Primes.fermat hp hnd
  have h2 : 2 ≤ md m := hp.1
  have e : a * (a ^ (md m - 2) % md m) % md m = 1 := by
    rw [Nat.mul_mod_mod, Nat.mul_comm, ← Nat.pow_succ, show (md m - 2).succ = md m - 1 by omega]
    exact hf
  have := Primes.cancel hc (x := z) (y := a ^ (md m - 2) % md m) (by rw [e, Nat.mul_comm]; exact h)
  rwa [Nat.mod_eq_of_lt hz, Nat.mod_mod] at this
theorem inverse_is (m : Int) (v : Value) (w : World) (a : Nat) (ha : a < big) (h0 : a % md m ≠ 0) (h : NV w v a) :
    Calls Tryz.prog 64 #[.int .i64 m, v] w fun e w' => ∃ v', e = .returned v' ∧ Nr w w' v' (a ^ (md m - 2) % md m) :=
  (inverse_nv m v w a ha h0 h).mono fun e w' ⟨v', z, h1, h2, h3, h4⟩ => ⟨v', h1, by rw [← inv_one h0 h3 h4]; exact h2⟩
theorem row_len {r : List Nat} (ht : Trim r) : (((r.length : Nat) : Int) == 0) = decide (val r = 0) := by
  by_cases h : r = []
  · subst h; rfl
  · have h1 := val_ge ht h
    have h2 : 0 < 65536 ^ (r.length - 1) := Nat.pow_pos (by decide)
    have h3 : 0 < r.length := List.length_pos_iff.2 h
    rw [decide_eq_false (by omega)]
    simp
    exact h
def bl (l : List UInt8) : List Value := l.map fun x => Value.int .u8 (x.toNat : Int)
def Rb (B : Nat) (v : Value) (l : List UInt8) (w : World) : Prop := w.ownsRow B 5 1 v l.length (bl l)
theorem Rb.snoc {B : Nat} {v : Value} {l : List UInt8} {w : World} {x : UInt8} (h : w.ownsRow B 5 1 v (l.length + 1) (bl l ++ [.int .u8 (x.toNat : Int)])) : Rb B v (l ++ [x]) w := by
  have e : bl (l ++ [x]) = bl l ++ [.int .u8 (x.toNat : Int)] := by simp [bl]
  unfold Rb
  rw [e]
  simpa using h
theorem Rb.below {B : Nat} {v : Value} {l : List UInt8} {w w' : World} (h : Rb B v l w) (hb : Below w.heap.size w w') : Rb B v l w' := by
  refine ⟨h.1, ?_⟩
  rcases h.2 with hn | ⟨g, cap, cur, hv, hg, hh, rest⟩
  · exact .inl hn
  · exact .inr ⟨g, cap, cur, hv, hg, (hb.block _ (Array.getElem?_eq_some_iff.1 hh).1).trans hh, rest⟩
theorem Rb.nil (w : World) : Rb w.heap.size (.slice (some ⟨w.heap.size, 0, none⟩) 0 0) [] (w.alloc (.cells #[] 5)) :=
  ⟨rfl, .inr ⟨w.heap.size, 0, #[], rfl, Nat.le_refl _, Go.heap_alloc_new w _, Nat.le_refl _, Nat.zero_le _, rfl, rfl⟩⟩
theorem Rd.set {B : Nat} {g n cap : Nat} {l : List Nat} {w : World} (h : Rd B (.slice (some ⟨g, 0, none⟩) n cap) l w) (j x : Nat) (hj : j < l.length) : Rd B (.slice (some ⟨g, 0, none⟩) n cap) (l.set j x) (w.setCell ⟨g, j, none⟩ (.int .u32 ((x : Nat) : Int))) := by
  have H := h
  have hl := h.1
  rcases h.2 with ⟨hv, _⟩ | ⟨g', cap', cur, hv, hg, hh, h1, h2, h3, h4⟩
  · cases hv
  · injection hv with e1 e2 e3
    injection e1 with e1
    injection e1 with e1
    subst e1
    subst e3
    have e5 : cd (l.set j x) = (cd l).set j (.int .u32 ((x : Nat) : Int)) := by simp [cd, List.map_set]
    refine ⟨by rw [List.length_set, e5, List.length_set]; exact hl, .inr ⟨g, cap, cur.setIfInBounds j (.int .u32 ((x : Nat) : Int)), by rw [List.length_set]; rw [← e2], hg, heap_setCell_same w g j cur 111 _ hh, by rw [List.length_set]; exact h1, h2, by simpa using h3, ?_⟩⟩
    rw [List.length_set, e5, ← h4, Array.toList_setIfInBounds, List.take_set]
theorem Rd.open {B : Nat} {v : Value} {l : List Nat} {w : World} (h : Rd B v l w) (hl : l ≠ []) (hm : l.length ≤ 10000000000001) :
    ∃ g cap, v = .slice (some ⟨g, 0, none⟩) l.length cap ∧ l.length ≤ cap ∧ cap ≤ 9223372036854775807 ∧ B ≤ g ∧ (∀ i (hi : i < l.length), w.cell? ⟨g, i, none⟩ = some (.int .u32 ((l[i] : Nat) : Int))) ∧ (∀ i, w.frozen? ⟨g, i, none⟩ = false) := by
  have H := h
  rcases h.2 with ⟨rfl, h0⟩ | ⟨g, cap, cur, rfl, hg, hh, h1, h2, h3, _⟩
  · exact absurd (List.eq_nil_of_length_eq_zero h0) hl
  · refine ⟨g, cap, rfl, h1, by unfold maxLen at h2; omega, hg, fun i hi => ?_, fun i => Lib.frozen_of_heap hh i⟩
    have := World.ownsRow.cells H (g := g) rfl i (.int .u32 ((l[i] : Nat) : Int)) (by simp [cd, hi])
    rwa [at0] at this
end Go.Proofs.YtpggkfdijmnmiaaGreat.Ref
