/- A digit of a number; a multiple of a point under way: the walks. No condition but that each number is below 2 to the 256. Multiples of points, and that the points are a group: the walks. No condition but that each number is below 2 to the 256. N times any point is far out: by counting. No condition but that it is a point of the curve. -/
import Derived.Test.YtpggkfdijmnmiaaGreatZuf08
import Derived.Test.YtpggkfdijmnmiaaGreatZuf09
set_option linter.unusedVariables false
set_option linter.unusedSimpArgs false
set_option maxRecDepth 100000
namespace Go.Proofs.YtpggkfdijmnmiaaGreat
open Go.RowKit Go.Sort Limbs
theorem dig_of (a s : Nat) (hs : s ≤ 60) : a % 18446744073709551616 / 2 ^ s % 16 = a / 2 ^ s % 16 := by
  rw [← Nat.mod_mul_right_div_self, ← Nat.mod_mul_right_div_self (m := a)]
  congr 1
  refine Nat.mod_mod_of_dvd _ ?_
  rw [show (18446744073709551616 : Nat) = 2 ^ s * 2 ^ (64 - s) from by rw [← Nat.pow_add, show s + (64 - s) = 64 by omega]]
  refine Nat.mul_dvd_mul_left _ ?_
  rw [show (16 : Nat) = 2 ^ 4 from rfl]
  exact Nat.pow_dvd_pow 2 (by omega)
theorem dig_int (a m : Nat) : ((a : Int) / 2 ^ m).tmod 16 = ((a / 2 ^ m % 16 : Nat) : Int) := by
  have e : (a : Int) / 2 ^ m = ((a / 2 ^ m : Nat) : Int) := by
    rw [Int.natCast_ediv, Int.natCast_pow]; rfl
  rw [e]
  generalize a / 2 ^ m = q
  rw [Int.tmod_eq_emod_of_nonneg (by omega)]
  omega
theorem dig_int2 (a m : Nat) : (a : Int) / 2 ^ m % 16 = ((a / 2 ^ m % 16 : Nat) : Int) := by
  have e : (a : Int) / 2 ^ m = ((a / 2 ^ m : Nat) : Int) := by
    rw [Int.natCast_ediv, Int.natCast_pow]; rfl
  rw [e]
  generalize a / 2 ^ m = q
  omega
set_option maxHeartbeats 4000000 in
theorem digit_0 (k r : Nat) (hr : r < 16) (w : World) :
    Calls Tryz.prog 169 #[nv k, .int .i64 ((r : Nat) : Int)] w fun e w' => e = .returned (.int .u64 ((lb k 0 / 2 ^ (r * 4) % 16 : Nat) : Int)) ∧ Below w.heap.size w w' := by
  have hl := lb_lt k 0
  have hq1 : Int.tdiv ((r : Nat) : Int) 16 = 0 := by rw [Int.tdiv_eq_ediv_of_nonneg (by omega)]; omega
  have hq2 : Int.tmod ((r : Nat) : Int) 16 = (r : Int) := by rw [Int.tmod_eq_emod_of_nonneg (by omega)]; omega
  simp only [nv, num]
  go_enter Tryz.func169, Tryz.ntmps169
  go_wp2_with fail
  go_ret
  refine ⟨by simp only [dig_int, dig_int2]; rfl, ?_⟩
  go_grown
set_option maxHeartbeats 4000000 in
theorem digit_1 (k r : Nat) (hr : r < 16) (w : World) :
    Calls Tryz.prog 169 #[nv k, .int .i64 ((16 + r : Nat) : Int)] w fun e w' => e = .returned (.int .u64 ((lb k 1 / 2 ^ (r * 4) % 16 : Nat) : Int)) ∧ Below w.heap.size w w' := by
  have hl := lb_lt k 1
  have hq1 : Int.tdiv ((16 + r : Nat) : Int) 16 = 1 := by rw [Int.tdiv_eq_ediv_of_nonneg (by omega)]; omega
  have hq2 : Int.tmod ((16 + r : Nat) : Int) 16 = (r : Int) := by rw [Int.tmod_eq_emod_of_nonneg (by omega)]; omega
  obtain ⟨pl, hpl⟩ : ∃ z : Int, z = ((16 + r : Nat) : Int) := ⟨_, rfl⟩
  rw [← hpl] at hq1 hq2 ⊢
  have hp0 : 0 ≤ pl := by omega
  clear hpl
  simp only [nv, num]
  go_enter Tryz.func169, Tryz.ntmps169
  go_wp2_with fail
  go_ret
  refine ⟨by simp only [dig_int, dig_int2]; rfl, ?_⟩
  go_grown
set_option maxHeartbeats 4000000 in
theorem digit_2 (k r : Nat) (hr : r < 16) (w : World) :
    Calls Tryz.prog 169 #[nv k, .int .i64 ((32 + r : Nat) : Int)] w fun e w' => e = .returned (.int .u64 ((lb k 2 / 2 ^ (r * 4) % 16 : Nat) : Int)) ∧ Below w.heap.size w w' := by
  have hl := lb_lt k 2
  have hq1 : Int.tdiv ((32 + r : Nat) : Int) 16 = 2 := by rw [Int.tdiv_eq_ediv_of_nonneg (by omega)]; omega
  have hq2 : Int.tmod ((32 + r : Nat) : Int) 16 = (r : Int) := by rw [Int.tmod_eq_emod_of_nonneg (by omega)]; omega
  obtain ⟨pl, hpl⟩ : ∃ z : Int, z = ((32 + r : Nat) : Int) := ⟨_, rfl⟩
  rw [← hpl] at hq1 hq2 ⊢
  have hp0 : 0 ≤ pl := by omega
  clear hpl
  simp only [nv, num]
  go_enter Tryz.func169, Tryz.ntmps169
  go_wp2_with fail
  go_ret
  refine ⟨by simp only [dig_int, dig_int2]; rfl, ?_⟩
  go_grown
set_option maxHeartbeats 4000000 in
theorem digit_3 (k r : Nat) (hr : r < 16) (w : World) :
    Calls Tryz.prog 169 #[nv k, .int .i64 ((48 + r : Nat) : Int)] w fun e w' => e = .returned (.int .u64 ((lb k 3 / 2 ^ (r * 4) % 16 : Nat) : Int)) ∧ Below w.heap.size w w' := by
  have hl := lb_lt k 3
  have hq1 : Int.tdiv ((48 + r : Nat) : Int) 16 = 3 := by rw [Int.tdiv_eq_ediv_of_nonneg (by omega)]; omega
  have hq2 : Int.tmod ((48 + r : Nat) : Int) 16 = (r : Int) := by rw [Int.tmod_eq_emod_of_nonneg (by omega)]; omega
  obtain ⟨pl, hpl⟩ : ∃ z : Int, z = ((48 + r : Nat) : Int) := ⟨_, rfl⟩
  rw [← hpl] at hq1 hq2 ⊢
  have hp0 : 0 ≤ pl := by omega
  clear hpl
  simp only [nv, num]
  go_enter Tryz.func169, Tryz.ntmps169
  go_wp2_with fail
  go_ret
  refine ⟨by simp only [dig_int, dig_int2]; rfl, ?_⟩
  go_grown
theorem digit_c (k pl : Nat) (h : pl < 64) (w : World) :
    Calls Tryz.prog 169 #[nv k, .int .i64 (pl : Int)] w fun e w' => e = .returned (.int .u64 ((k / 16 ^ pl % 16 : Nat) : Int)) ∧ Below w.heap.size w w' := by
  have e (q r : Nat) (hr : r < 16) (hp : pl = 16 * q + r) : lb k q / 2 ^ (r * 4) % 16 = k / 16 ^ pl % 16 := by
    have hq : q = 0 ∨ q = 1 ∨ q = 2 ∨ q = 3 := by omega
    have p (n : Nat) (hn : n + r * 4 = 4 * pl) : k / 2 ^ n / 2 ^ (r * 4) % 16 = k / 16 ^ pl % 16 := by
      rw [Nat.div_div_eq_div_mul, ← Nat.pow_add, hn, Nat.pow_mul]
    rcases hq with rfl | rfl | rfl | rfl
    · show k % 18446744073709551616 / 2 ^ (r * 4) % 16 = _
      rw [dig_of _ _ (by omega)]
      have := p 0 (by omega)
      rwa [Nat.pow_zero, Nat.div_one] at this
    · show k / 2 ^ 64 % 18446744073709551616 / 2 ^ (r * 4) % 16 = _
      rw [dig_of _ _ (by omega)]; exact p 64 (by omega)
    · show k / 2 ^ 128 % 18446744073709551616 / 2 ^ (r * 4) % 16 = _
      rw [dig_of _ _ (by omega)]; exact p 128 (by omega)
    · show k / 2 ^ 192 % 18446744073709551616 / 2 ^ (r * 4) % 16 = _
      rw [dig_of _ _ (by omega)]; exact p 192 (by omega)
  obtain ⟨q, r, hr, hp⟩ : ∃ q r, r < 16 ∧ pl = 16 * q + r := ⟨pl / 16, pl % 16, Nat.mod_lt _ (by decide), by omega⟩
  have hq : q = 0 ∨ q = 1 ∨ q = 2 ∨ q = 3 := by omega
  rcases hq with rfl | rfl | rfl | rfl
  · have := digit_0 k r hr w
    rw [e 0 r hr hp] at this
    rw [show pl = r by omega] at this ⊢
    exact this
  · have := digit_1 k r hr w
    rw [e 1 r hr hp] at this
    rw [show pl = 16 + r by omega] at this ⊢
    exact this
  · have := digit_2 k r hr w
    rw [e 2 r hr hp] at this
    rw [show pl = 32 + r by omega] at this ⊢
    exact this
  · have := digit_3 k r hr w
    rw [e 3 r hr hp] at this
    rw [show pl = 48 + r by omega] at this ⊢
    exact this
end Go.Proofs.YtpggkfdijmnmiaaGreat
set_option linter.unusedVariables false
set_option linter.unusedSimpArgs false
set_option maxRecDepth 100000
namespace Go.Proofs.YtpggkfdijmnmiaaGreat
open Go.RowKit Go.Sort Limbs
def dg (k i : Nat) : Nat := k / 16 ^ (63 - i) % 16
def J.mulN (k : Nat) (p : J) : Nat → J
  | 0 => J.far
  | i + 1 => (p.tim (dg k i)).plus (J.mulN k p i).twice.twice.twice.twice
theorem J.mulN_ok {k : Nat} {p : J} (hp : p.ok) : ∀ i, (p.mulN k i).ok
  | 0 => J.far_ok
  | i + 1 => J.plus_ok (J.tim_ok hp _) (J.twice_ok (J.twice_ok (J.twice_ok (J.twice_ok (J.mulN_ok hp i)))))
theorem mulN_0 (k : Nat) (p : J) : cs12 (p.mulN k 0).x (p.mulN k 0).y (p.mulN k 0).z = #[.int .u64 0, .int .u64 0, .int .u64 0, .int .u64 0, .int .u64 0, .int .u64 0, .int .u64 0, .int .u64 0, .int .u64 0, .int .u64 0, .int .u64 0, .int .u64 0] := by simp [J.mulN, J.far, cs12, lb]
set_option maxHeartbeats 32000000 in
theorem multiple_c (k : Nat) (p : J) (hk : k < W256) (hp : p.ok) (w : World) :
    Calls Tryz.prog 142 #[nv k, fv p] w fun e w' => e = .returned (p.mulN k 64).v ∧ Below w.heap.size w w' := by
  have HTW := Lib.hid (fun (q : J) (hq : q.ok) => twicej hq)
  have HOK := Lib.hid (fun i => J.mulN_ok (k := k) hp i)
  have HPL := Lib.hid (fun (d : Nat) (q : J) (hq : q.ok) => plusj (J.tim_ok hp d) hq)
  have HDG := Lib.hid (fun pl (h : pl < 64) => digit_c k pl h)
  clear hk hp
  obtain ⟨res, hres⟩ : ∃ z, z = p.mulN k 64 := ⟨_, rfl⟩
  rw [← hres]
  have HRES := Lib.hid hres
  clear hres
  obtain ⟨tx, ty, tz⟩ := res
  have e : (J.mk tx ty tz).v = jn tx ty tz := rfl
  rw [e]
  clear e
  simp only [nv, num] at HDG ⊢
  unfold fv
  go_enter Tryz.func142, Tryz.ntmps142
  go_wp2_with fail
  have K2 : Hid (Bk 24 ((((w.alloc (.cells #[.int .u64 (lb k 0 : Nat), .int .u64 (lb k 1 : Nat), .int .u64 (lb k 2 : Nat), .int .u64 (lb k 3 : Nat)] 24)).alloc (.cells #[FV p 0, FV p 1, FV p 2, FV p 3, FV p 4, FV p 5, FV p 6, FV p 7, FV p 8, FV p 9, FV p 10, FV p 11, FV p 12, FV p 13, FV p 14, FV p 15] 165)).alloc (.cells #[.int .u64 0, .int .u64 0, .int .u64 0, .int .u64 0, .int .u64 0, .int .u64 0, .int .u64 0, .int .u64 0, .int .u64 0, .int .u64 0, .int .u64 0, .int .u64 0] 162)).alloc (.cells #[.int .u64 0, .int .u64 0, .int .u64 0, .int .u64 0, .int .u64 0, .int .u64 0, .int .u64 0, .int .u64 0, .int .u64 0, .int .u64 0, .int .u64 0, .int .u64 0] 162)) w.heap.size #[.int .u64 (lb k 0 : Nat), .int .u64 (lb k 1 : Nat), .int .u64 (lb k 2 : Nat), .int .u64 (lb k 3 : Nat)]) := Lib.hid (Bk.alloc (Bk.alloc (Bk.alloc (Bk.new rfl))))
  have K3 : Hid (Bk 165 ((((w.alloc (.cells #[.int .u64 (lb k 0 : Nat), .int .u64 (lb k 1 : Nat), .int .u64 (lb k 2 : Nat), .int .u64 (lb k 3 : Nat)] 24)).alloc (.cells #[FV p 0, FV p 1, FV p 2, FV p 3, FV p 4, FV p 5, FV p 6, FV p 7, FV p 8, FV p 9, FV p 10, FV p 11, FV p 12, FV p 13, FV p 14, FV p 15] 165)).alloc (.cells #[.int .u64 0, .int .u64 0, .int .u64 0, .int .u64 0, .int .u64 0, .int .u64 0, .int .u64 0, .int .u64 0, .int .u64 0, .int .u64 0, .int .u64 0, .int .u64 0] 162)).alloc (.cells #[.int .u64 0, .int .u64 0, .int .u64 0, .int .u64 0, .int .u64 0, .int .u64 0, .int .u64 0, .int .u64 0, .int .u64 0, .int .u64 0, .int .u64 0, .int .u64 0] 162)) (w.heap.size + 1) (fa p 16)) := Lib.hid (Bk.alloc (Bk.alloc (Bk.new (by simp))))
  have K4 : Hid (Bk 162 ((((w.alloc (.cells #[.int .u64 (lb k 0 : Nat), .int .u64 (lb k 1 : Nat), .int .u64 (lb k 2 : Nat), .int .u64 (lb k 3 : Nat)] 24)).alloc (.cells #[FV p 0, FV p 1, FV p 2, FV p 3, FV p 4, FV p 5, FV p 6, FV p 7, FV p 8, FV p 9, FV p 10, FV p 11, FV p 12, FV p 13, FV p 14, FV p 15] 165)).alloc (.cells #[.int .u64 0, .int .u64 0, .int .u64 0, .int .u64 0, .int .u64 0, .int .u64 0, .int .u64 0, .int .u64 0, .int .u64 0, .int .u64 0, .int .u64 0, .int .u64 0] 162)).alloc (.cells #[.int .u64 0, .int .u64 0, .int .u64 0, .int .u64 0, .int .u64 0, .int .u64 0, .int .u64 0, .int .u64 0, .int .u64 0, .int .u64 0, .int .u64 0, .int .u64 0] 162)) (w.heap.size + 1 + 1) #[.int .u64 0, .int .u64 0, .int .u64 0, .int .u64 0, .int .u64 0, .int .u64 0, .int .u64 0, .int .u64 0, .int .u64 0, .int .u64 0, .int .u64 0, .int .u64 0]) := Lib.hid (Bk.alloc (Bk.new (by simp)))
  have K5 : Hid (Bk 162 ((((w.alloc (.cells #[.int .u64 (lb k 0 : Nat), .int .u64 (lb k 1 : Nat), .int .u64 (lb k 2 : Nat), .int .u64 (lb k 3 : Nat)] 24)).alloc (.cells #[FV p 0, FV p 1, FV p 2, FV p 3, FV p 4, FV p 5, FV p 6, FV p 7, FV p 8, FV p 9, FV p 10, FV p 11, FV p 12, FV p 13, FV p 14, FV p 15] 165)).alloc (.cells #[.int .u64 0, .int .u64 0, .int .u64 0, .int .u64 0, .int .u64 0, .int .u64 0, .int .u64 0, .int .u64 0, .int .u64 0, .int .u64 0, .int .u64 0, .int .u64 0] 162)).alloc (.cells #[.int .u64 0, .int .u64 0, .int .u64 0, .int .u64 0, .int .u64 0, .int .u64 0, .int .u64 0, .int .u64 0, .int .u64 0, .int .u64 0, .int .u64 0, .int .u64 0] 162)) (w.heap.size + 1 + 1 + 1) (cs12 (p.mulN k 0).x (p.mulN k 0).y (p.mulN k 0).z)) := Lib.hid (by rw [mulN_0]; exact Bk.new (by simp))
  have HB : Hid (Below w.heap.size w ((((w.alloc (.cells #[.int .u64 (lb k 0 : Nat), .int .u64 (lb k 1 : Nat), .int .u64 (lb k 2 : Nat), .int .u64 (lb k 3 : Nat)] 24)).alloc (.cells #[FV p 0, FV p 1, FV p 2, FV p 3, FV p 4, FV p 5, FV p 6, FV p 7, FV p 8, FV p 9, FV p 10, FV p 11, FV p 12, FV p 13, FV p 14, FV p 15] 165)).alloc (.cells #[.int .u64 0, .int .u64 0, .int .u64 0, .int .u64 0, .int .u64 0, .int .u64 0, .int .u64 0, .int .u64 0, .int .u64 0, .int .u64 0, .int .u64 0, .int .u64 0] 162)).alloc (.cells #[.int .u64 0, .int .u64 0, .int .u64 0, .int .u64 0, .int .u64 0, .int .u64 0, .int .u64 0, .int .u64 0, .int .u64 0, .int .u64 0, .int .u64 0, .int .u64 0] 162))) := Lib.hid (by go_grown)
  generalize ((((w.alloc (.cells #[.int .u64 (lb k 0 : Nat), .int .u64 (lb k 1 : Nat), .int .u64 (lb k 2 : Nat), .int .u64 (lb k 3 : Nat)] 24)).alloc (.cells #[FV p 0, FV p 1, FV p 2, FV p 3, FV p 4, FV p 5, FV p 6, FV p 7, FV p 8, FV p 9, FV p 10, FV p 11, FV p 12, FV p 13, FV p 14, FV p 15] 165)).alloc (.cells #[.int .u64 0, .int .u64 0, .int .u64 0, .int .u64 0, .int .u64 0, .int .u64 0, .int .u64 0, .int .u64 0, .int .u64 0, .int .u64 0, .int .u64 0, .int .u64 0] 162)).alloc (.cells #[.int .u64 0, .int .u64 0, .int .u64 0, .int .u64 0, .int .u64 0, .int .u64 0, .int .u64 0, .int .u64 0, .int .u64 0, .int .u64 0, .int .u64 0, .int .u64 0] 162)) = W at K2 K3 K4 K5 HB ⊢
  obtain ⟨g3, hg3⟩ : ∃ z, z = w.heap.size + 1 := ⟨_, rfl⟩
  obtain ⟨g4, hg4⟩ : ∃ z, z = w.heap.size + 1 + 1 := ⟨_, rfl⟩
  obtain ⟨g5, hg5⟩ : ∃ z, z = w.heap.size + 1 + 1 + 1 := ⟨_, rfl⟩
  rw [← hg3] at K3
  rw [← hg4] at K4
  rw [← hg5] at K5
  rw [← hg5, ← hg4, ← hg3]
  obtain ⟨g2, hg2⟩ : ∃ z, z = w.heap.size := ⟨_, rfl⟩
  have e : (Value.pointer (some ⟨w.heap.size, 0, none⟩)) = .pointer (some ⟨g2, 0, none⟩) := by rw [hg2]
  rw [e]
  rw [← hg2] at K2
  have HG : Hid ((w.heap.size ≤ g4 ∧ w.heap.size ≤ g5) ∧ (g2 ≠ g5 ∧ g3 ≠ g5 ∧ g4 ≠ g5)) := Lib.hid ⟨⟨by omega, by omega⟩, by omega, by omega, by omega⟩
  clear e hg3 hg4 hg5 hg2
  go_loopw [7] (fun b wr => ∃ i : Nat, i ≤ 64 ∧ b = .int .i64 (i : Int) ∧ Bk 24 wr g2 #[.int .u64 (lb k 0 : Nat), .int .u64 (lb k 1 : Nat), .int .u64 (lb k 2 : Nat), .int .u64 (lb k 3 : Nat)] ∧ Bk 165 wr g3 (fa p 16) ∧ Bk 162 wr g4 #[.int .u64 0, .int .u64 0, .int .u64 0, .int .u64 0, .int .u64 0, .int .u64 0, .int .u64 0, .int .u64 0, .int .u64 0, .int .u64 0, .int .u64 0, .int .u64 0] ∧ Bk 162 wr g5 (cs12 (p.mulN k i).x (p.mulN k i).y (p.mulN k i).z) ∧ Below w.heap.size w wr) (fun b _ => 64 - (intOf b).toNat)
  case atStart => exact ⟨0, by omega, rfl, K2.out, K3.out, K4.out, K5.out, HB.out⟩
  case round =>
    clear K2 K3 K4 K5 HB
    obtain ⟨i, hi, rfl, k2, k3, k4, k5, hb⟩ := hrel
    have K2 := Lib.hid k2
    have K3 := Lib.hid k3
    have K4 := Lib.hid k4
    have K5 := Lib.hid k5
    have HB := Lib.hid hb
    clear k2 k3 k4 k5 hb
    by_cases hlt : i < 64
    · go_wp2_with fail
      refine wp_loop_rounds 5 ?_
      have HO0 := Lib.hid (HOK.out i)
      obtain ⟨T0, hT0⟩ : ∃ z, z = p.mulN k i := ⟨_, rfl⟩
      rw [← hT0] at HO0 K5
      obtain ⟨a0x, a0y, a0z⟩ := T0
      have HT0 := Lib.hid hT0
      clear hT0
      simp only [] at K5
      have HO1 := Lib.hid (J.twice_ok HO0.out)
      have HC := Lib.hid (HTW.out ⟨a0x, a0y, a0z⟩ HO0.out)
      obtain ⟨T1, hT1⟩ : ∃ z, z = (J.mk a0x a0y a0z).twice := ⟨_, rfl⟩
      rw [← hT1] at HC HO1
      obtain ⟨a1x, a1y, a1z⟩ := T1
      have HT1 := Lib.hid hT1
      clear hT1 HO0
      simp only [J.v, jn] at HC
      obtain ⟨⟨x0, x1, x2, x3⟩, ⟨y0, y1, y2, y3⟩, z0, z1, z2, z3⟩ := K5.out.cells12
      rw [rounds_succ]
      go_wp2_with fail
      refine (keep w.heap.size w (HC.out _) HB.out (Nat.le_refl _)).mono ?_
      rintro e w1 ⟨rfl, hb, hkk⟩
      have K2' := Lib.hid (K2.out.below hkk)
      have K3' := Lib.hid (K3.out.below hkk)
      have K4' := Lib.hid (K4.out.below hkk)
      have K5' := Lib.hid (K5.out.below hkk)
      have HB' := Lib.hid hb
      clear hb hkk K2 K3 K4 K5 HB HC x0 x1 x2 x3 y0 y1 y2 y3 z0 z1 z2 z3
      obtain ⟨⟨f0, f1, f2, f3⟩, ⟨f4, f5, f6, f7⟩, f8, f9, f10, f11⟩ := K5'.out.fros12
      obtain ⟨⟨c0, c1, c2, c3⟩, ⟨c4, c5, c6, c7⟩, c8, c9, c10, c11⟩ := K5'.out.cells12
      go_wp2_with fail
      clear f0 f1 f2 f3 f4 f5 f6 f7 f8 f9 f10 f11 c0 c1 c2 c3 c4 c5 c6 c7 c8 c9 c10 c11
      have K2 : Hid (Bk 24 ((((((((((((w1.setCell ⟨g5, 0, none⟩ (.int .u64 (lb a1x 0 : Nat))).setCell ⟨g5, 1, none⟩ (.int .u64 (lb a1x 1 : Nat))).setCell ⟨g5, 2, none⟩ (.int .u64 (lb a1x 2 : Nat))).setCell ⟨g5, 3, none⟩ (.int .u64 (lb a1x 3 : Nat))).setCell ⟨g5, 4, none⟩ (.int .u64 (lb a1y 0 : Nat))).setCell ⟨g5, 5, none⟩ (.int .u64 (lb a1y 1 : Nat))).setCell ⟨g5, 6, none⟩ (.int .u64 (lb a1y 2 : Nat))).setCell ⟨g5, 7, none⟩ (.int .u64 (lb a1y 3 : Nat))).setCell ⟨g5, 8, none⟩ (.int .u64 (lb a1z 0 : Nat))).setCell ⟨g5, 9, none⟩ (.int .u64 (lb a1z 1 : Nat))).setCell ⟨g5, 10, none⟩ (.int .u64 (lb a1z 2 : Nat))).setCell ⟨g5, 11, none⟩ (.int .u64 (lb a1z 3 : Nat))) g2 #[.int .u64 (lb k 0 : Nat), .int .u64 (lb k 1 : Nat), .int .u64 (lb k 2 : Nat), .int .u64 (lb k 3 : Nat)]) := Lib.hid (Bk.puto12 HG.out.2.1 K2'.out)
      have K3 : Hid (Bk 165 ((((((((((((w1.setCell ⟨g5, 0, none⟩ (.int .u64 (lb a1x 0 : Nat))).setCell ⟨g5, 1, none⟩ (.int .u64 (lb a1x 1 : Nat))).setCell ⟨g5, 2, none⟩ (.int .u64 (lb a1x 2 : Nat))).setCell ⟨g5, 3, none⟩ (.int .u64 (lb a1x 3 : Nat))).setCell ⟨g5, 4, none⟩ (.int .u64 (lb a1y 0 : Nat))).setCell ⟨g5, 5, none⟩ (.int .u64 (lb a1y 1 : Nat))).setCell ⟨g5, 6, none⟩ (.int .u64 (lb a1y 2 : Nat))).setCell ⟨g5, 7, none⟩ (.int .u64 (lb a1y 3 : Nat))).setCell ⟨g5, 8, none⟩ (.int .u64 (lb a1z 0 : Nat))).setCell ⟨g5, 9, none⟩ (.int .u64 (lb a1z 1 : Nat))).setCell ⟨g5, 10, none⟩ (.int .u64 (lb a1z 2 : Nat))).setCell ⟨g5, 11, none⟩ (.int .u64 (lb a1z 3 : Nat))) g3 (fa p 16)) := Lib.hid (Bk.puto12 HG.out.2.2.1 K3'.out)
      have K4 : Hid (Bk 162 ((((((((((((w1.setCell ⟨g5, 0, none⟩ (.int .u64 (lb a1x 0 : Nat))).setCell ⟨g5, 1, none⟩ (.int .u64 (lb a1x 1 : Nat))).setCell ⟨g5, 2, none⟩ (.int .u64 (lb a1x 2 : Nat))).setCell ⟨g5, 3, none⟩ (.int .u64 (lb a1x 3 : Nat))).setCell ⟨g5, 4, none⟩ (.int .u64 (lb a1y 0 : Nat))).setCell ⟨g5, 5, none⟩ (.int .u64 (lb a1y 1 : Nat))).setCell ⟨g5, 6, none⟩ (.int .u64 (lb a1y 2 : Nat))).setCell ⟨g5, 7, none⟩ (.int .u64 (lb a1y 3 : Nat))).setCell ⟨g5, 8, none⟩ (.int .u64 (lb a1z 0 : Nat))).setCell ⟨g5, 9, none⟩ (.int .u64 (lb a1z 1 : Nat))).setCell ⟨g5, 10, none⟩ (.int .u64 (lb a1z 2 : Nat))).setCell ⟨g5, 11, none⟩ (.int .u64 (lb a1z 3 : Nat))) g4 #[.int .u64 0, .int .u64 0, .int .u64 0, .int .u64 0, .int .u64 0, .int .u64 0, .int .u64 0, .int .u64 0, .int .u64 0, .int .u64 0, .int .u64 0, .int .u64 0]) := Lib.hid (Bk.puto12 HG.out.2.2.2 K4'.out)
      have K5 : Hid (Bk 162 ((((((((((((w1.setCell ⟨g5, 0, none⟩ (.int .u64 (lb a1x 0 : Nat))).setCell ⟨g5, 1, none⟩ (.int .u64 (lb a1x 1 : Nat))).setCell ⟨g5, 2, none⟩ (.int .u64 (lb a1x 2 : Nat))).setCell ⟨g5, 3, none⟩ (.int .u64 (lb a1x 3 : Nat))).setCell ⟨g5, 4, none⟩ (.int .u64 (lb a1y 0 : Nat))).setCell ⟨g5, 5, none⟩ (.int .u64 (lb a1y 1 : Nat))).setCell ⟨g5, 6, none⟩ (.int .u64 (lb a1y 2 : Nat))).setCell ⟨g5, 7, none⟩ (.int .u64 (lb a1y 3 : Nat))).setCell ⟨g5, 8, none⟩ (.int .u64 (lb a1z 0 : Nat))).setCell ⟨g5, 9, none⟩ (.int .u64 (lb a1z 1 : Nat))).setCell ⟨g5, 10, none⟩ (.int .u64 (lb a1z 2 : Nat))).setCell ⟨g5, 11, none⟩ (.int .u64 (lb a1z 3 : Nat))) g5 #[.int .u64 (lb a1x 0 : Nat), .int .u64 (lb a1x 1 : Nat), .int .u64 (lb a1x 2 : Nat), .int .u64 (lb a1x 3 : Nat), .int .u64 (lb a1y 0 : Nat), .int .u64 (lb a1y 1 : Nat), .int .u64 (lb a1y 2 : Nat), .int .u64 (lb a1y 3 : Nat), .int .u64 (lb a1z 0 : Nat), .int .u64 (lb a1z 1 : Nat), .int .u64 (lb a1z 2 : Nat), .int .u64 (lb a1z 3 : Nat)]) := Lib.hid (Bk.put12 K5'.out)
      have HB : Hid (Below w.heap.size w ((((((((((((w1.setCell ⟨g5, 0, none⟩ (.int .u64 (lb a1x 0 : Nat))).setCell ⟨g5, 1, none⟩ (.int .u64 (lb a1x 1 : Nat))).setCell ⟨g5, 2, none⟩ (.int .u64 (lb a1x 2 : Nat))).setCell ⟨g5, 3, none⟩ (.int .u64 (lb a1x 3 : Nat))).setCell ⟨g5, 4, none⟩ (.int .u64 (lb a1y 0 : Nat))).setCell ⟨g5, 5, none⟩ (.int .u64 (lb a1y 1 : Nat))).setCell ⟨g5, 6, none⟩ (.int .u64 (lb a1y 2 : Nat))).setCell ⟨g5, 7, none⟩ (.int .u64 (lb a1y 3 : Nat))).setCell ⟨g5, 8, none⟩ (.int .u64 (lb a1z 0 : Nat))).setCell ⟨g5, 9, none⟩ (.int .u64 (lb a1z 1 : Nat))).setCell ⟨g5, 10, none⟩ (.int .u64 (lb a1z 2 : Nat))).setCell ⟨g5, 11, none⟩ (.int .u64 (lb a1z 3 : Nat)))) := Lib.hid (by have hb := HB'.out; have hg := HG.out.1.2; go_grown)
      generalize ((((((((((((w1.setCell ⟨g5, 0, none⟩ (.int .u64 (lb a1x 0 : Nat))).setCell ⟨g5, 1, none⟩ (.int .u64 (lb a1x 1 : Nat))).setCell ⟨g5, 2, none⟩ (.int .u64 (lb a1x 2 : Nat))).setCell ⟨g5, 3, none⟩ (.int .u64 (lb a1x 3 : Nat))).setCell ⟨g5, 4, none⟩ (.int .u64 (lb a1y 0 : Nat))).setCell ⟨g5, 5, none⟩ (.int .u64 (lb a1y 1 : Nat))).setCell ⟨g5, 6, none⟩ (.int .u64 (lb a1y 2 : Nat))).setCell ⟨g5, 7, none⟩ (.int .u64 (lb a1y 3 : Nat))).setCell ⟨g5, 8, none⟩ (.int .u64 (lb a1z 0 : Nat))).setCell ⟨g5, 9, none⟩ (.int .u64 (lb a1z 1 : Nat))).setCell ⟨g5, 10, none⟩ (.int .u64 (lb a1z 2 : Nat))).setCell ⟨g5, 11, none⟩ (.int .u64 (lb a1z 3 : Nat))) = V1 at K2 K3 K4 K5 HB ⊢
      clear K2' K3' K4' K5' HB'
      have HO2 := Lib.hid (J.twice_ok HO1.out)
      have HC := Lib.hid (HTW.out ⟨a1x, a1y, a1z⟩ HO1.out)
      obtain ⟨T2, hT2⟩ : ∃ z, z = (J.mk a1x a1y a1z).twice := ⟨_, rfl⟩
      rw [← hT2] at HC HO2
      obtain ⟨a2x, a2y, a2z⟩ := T2
      have HT2 := Lib.hid hT2
      clear hT2 HO1
      simp only [J.v, jn] at HC
      obtain ⟨⟨x0, x1, x2, x3⟩, ⟨y0, y1, y2, y3⟩, z0, z1, z2, z3⟩ := K5.out.cells12
      rw [rounds_succ]
      go_wp2_with fail
      refine (keep w.heap.size w (HC.out _) HB.out (Nat.le_refl _)).mono ?_
      rintro e w2 ⟨rfl, hb, hkk⟩
      have K2' := Lib.hid (K2.out.below hkk)
      have K3' := Lib.hid (K3.out.below hkk)
      have K4' := Lib.hid (K4.out.below hkk)
      have K5' := Lib.hid (K5.out.below hkk)
      have HB' := Lib.hid hb
      clear hb hkk K2 K3 K4 K5 HB HC x0 x1 x2 x3 y0 y1 y2 y3 z0 z1 z2 z3
      obtain ⟨⟨f0, f1, f2, f3⟩, ⟨f4, f5, f6, f7⟩, f8, f9, f10, f11⟩ := K5'.out.fros12
      obtain ⟨⟨c0, c1, c2, c3⟩, ⟨c4, c5, c6, c7⟩, c8, c9, c10, c11⟩ := K5'.out.cells12
      go_wp2_with fail
      clear f0 f1 f2 f3 f4 f5 f6 f7 f8 f9 f10 f11 c0 c1 c2 c3 c4 c5 c6 c7 c8 c9 c10 c11
      have K2 : Hid (Bk 24 ((((((((((((w2.setCell ⟨g5, 0, none⟩ (.int .u64 (lb a2x 0 : Nat))).setCell ⟨g5, 1, none⟩ (.int .u64 (lb a2x 1 : Nat))).setCell ⟨g5, 2, none⟩ (.int .u64 (lb a2x 2 : Nat))).setCell ⟨g5, 3, none⟩ (.int .u64 (lb a2x 3 : Nat))).setCell ⟨g5, 4, none⟩ (.int .u64 (lb a2y 0 : Nat))).setCell ⟨g5, 5, none⟩ (.int .u64 (lb a2y 1 : Nat))).setCell ⟨g5, 6, none⟩ (.int .u64 (lb a2y 2 : Nat))).setCell ⟨g5, 7, none⟩ (.int .u64 (lb a2y 3 : Nat))).setCell ⟨g5, 8, none⟩ (.int .u64 (lb a2z 0 : Nat))).setCell ⟨g5, 9, none⟩ (.int .u64 (lb a2z 1 : Nat))).setCell ⟨g5, 10, none⟩ (.int .u64 (lb a2z 2 : Nat))).setCell ⟨g5, 11, none⟩ (.int .u64 (lb a2z 3 : Nat))) g2 #[.int .u64 (lb k 0 : Nat), .int .u64 (lb k 1 : Nat), .int .u64 (lb k 2 : Nat), .int .u64 (lb k 3 : Nat)]) := Lib.hid (Bk.puto12 HG.out.2.1 K2'.out)
      have K3 : Hid (Bk 165 ((((((((((((w2.setCell ⟨g5, 0, none⟩ (.int .u64 (lb a2x 0 : Nat))).setCell ⟨g5, 1, none⟩ (.int .u64 (lb a2x 1 : Nat))).setCell ⟨g5, 2, none⟩ (.int .u64 (lb a2x 2 : Nat))).setCell ⟨g5, 3, none⟩ (.int .u64 (lb a2x 3 : Nat))).setCell ⟨g5, 4, none⟩ (.int .u64 (lb a2y 0 : Nat))).setCell ⟨g5, 5, none⟩ (.int .u64 (lb a2y 1 : Nat))).setCell ⟨g5, 6, none⟩ (.int .u64 (lb a2y 2 : Nat))).setCell ⟨g5, 7, none⟩ (.int .u64 (lb a2y 3 : Nat))).setCell ⟨g5, 8, none⟩ (.int .u64 (lb a2z 0 : Nat))).setCell ⟨g5, 9, none⟩ (.int .u64 (lb a2z 1 : Nat))).setCell ⟨g5, 10, none⟩ (.int .u64 (lb a2z 2 : Nat))).setCell ⟨g5, 11, none⟩ (.int .u64 (lb a2z 3 : Nat))) g3 (fa p 16)) := Lib.hid (Bk.puto12 HG.out.2.2.1 K3'.out)
      have K4 : Hid (Bk 162 ((((((((((((w2.setCell ⟨g5, 0, none⟩ (.int .u64 (lb a2x 0 : Nat))).setCell ⟨g5, 1, none⟩ (.int .u64 (lb a2x 1 : Nat))).setCell ⟨g5, 2, none⟩ (.int .u64 (lb a2x 2 : Nat))).setCell ⟨g5, 3, none⟩ (.int .u64 (lb a2x 3 : Nat))).setCell ⟨g5, 4, none⟩ (.int .u64 (lb a2y 0 : Nat))).setCell ⟨g5, 5, none⟩ (.int .u64 (lb a2y 1 : Nat))).setCell ⟨g5, 6, none⟩ (.int .u64 (lb a2y 2 : Nat))).setCell ⟨g5, 7, none⟩ (.int .u64 (lb a2y 3 : Nat))).setCell ⟨g5, 8, none⟩ (.int .u64 (lb a2z 0 : Nat))).setCell ⟨g5, 9, none⟩ (.int .u64 (lb a2z 1 : Nat))).setCell ⟨g5, 10, none⟩ (.int .u64 (lb a2z 2 : Nat))).setCell ⟨g5, 11, none⟩ (.int .u64 (lb a2z 3 : Nat))) g4 #[.int .u64 0, .int .u64 0, .int .u64 0, .int .u64 0, .int .u64 0, .int .u64 0, .int .u64 0, .int .u64 0, .int .u64 0, .int .u64 0, .int .u64 0, .int .u64 0]) := Lib.hid (Bk.puto12 HG.out.2.2.2 K4'.out)
      have K5 : Hid (Bk 162 ((((((((((((w2.setCell ⟨g5, 0, none⟩ (.int .u64 (lb a2x 0 : Nat))).setCell ⟨g5, 1, none⟩ (.int .u64 (lb a2x 1 : Nat))).setCell ⟨g5, 2, none⟩ (.int .u64 (lb a2x 2 : Nat))).setCell ⟨g5, 3, none⟩ (.int .u64 (lb a2x 3 : Nat))).setCell ⟨g5, 4, none⟩ (.int .u64 (lb a2y 0 : Nat))).setCell ⟨g5, 5, none⟩ (.int .u64 (lb a2y 1 : Nat))).setCell ⟨g5, 6, none⟩ (.int .u64 (lb a2y 2 : Nat))).setCell ⟨g5, 7, none⟩ (.int .u64 (lb a2y 3 : Nat))).setCell ⟨g5, 8, none⟩ (.int .u64 (lb a2z 0 : Nat))).setCell ⟨g5, 9, none⟩ (.int .u64 (lb a2z 1 : Nat))).setCell ⟨g5, 10, none⟩ (.int .u64 (lb a2z 2 : Nat))).setCell ⟨g5, 11, none⟩ (.int .u64 (lb a2z 3 : Nat))) g5 #[.int .u64 (lb a2x 0 : Nat), .int .u64 (lb a2x 1 : Nat), .int .u64 (lb a2x 2 : Nat), .int .u64 (lb a2x 3 : Nat), .int .u64 (lb a2y 0 : Nat), .int .u64 (lb a2y 1 : Nat), .int .u64 (lb a2y 2 : Nat), .int .u64 (lb a2y 3 : Nat), .int .u64 (lb a2z 0 : Nat), .int .u64 (lb a2z 1 : Nat), .int .u64 (lb a2z 2 : Nat), .int .u64 (lb a2z 3 : Nat)]) := Lib.hid (Bk.put12 K5'.out)
      have HB : Hid (Below w.heap.size w ((((((((((((w2.setCell ⟨g5, 0, none⟩ (.int .u64 (lb a2x 0 : Nat))).setCell ⟨g5, 1, none⟩ (.int .u64 (lb a2x 1 : Nat))).setCell ⟨g5, 2, none⟩ (.int .u64 (lb a2x 2 : Nat))).setCell ⟨g5, 3, none⟩ (.int .u64 (lb a2x 3 : Nat))).setCell ⟨g5, 4, none⟩ (.int .u64 (lb a2y 0 : Nat))).setCell ⟨g5, 5, none⟩ (.int .u64 (lb a2y 1 : Nat))).setCell ⟨g5, 6, none⟩ (.int .u64 (lb a2y 2 : Nat))).setCell ⟨g5, 7, none⟩ (.int .u64 (lb a2y 3 : Nat))).setCell ⟨g5, 8, none⟩ (.int .u64 (lb a2z 0 : Nat))).setCell ⟨g5, 9, none⟩ (.int .u64 (lb a2z 1 : Nat))).setCell ⟨g5, 10, none⟩ (.int .u64 (lb a2z 2 : Nat))).setCell ⟨g5, 11, none⟩ (.int .u64 (lb a2z 3 : Nat)))) := Lib.hid (by have hb := HB'.out; have hg := HG.out.1.2; go_grown)
      generalize ((((((((((((w2.setCell ⟨g5, 0, none⟩ (.int .u64 (lb a2x 0 : Nat))).setCell ⟨g5, 1, none⟩ (.int .u64 (lb a2x 1 : Nat))).setCell ⟨g5, 2, none⟩ (.int .u64 (lb a2x 2 : Nat))).setCell ⟨g5, 3, none⟩ (.int .u64 (lb a2x 3 : Nat))).setCell ⟨g5, 4, none⟩ (.int .u64 (lb a2y 0 : Nat))).setCell ⟨g5, 5, none⟩ (.int .u64 (lb a2y 1 : Nat))).setCell ⟨g5, 6, none⟩ (.int .u64 (lb a2y 2 : Nat))).setCell ⟨g5, 7, none⟩ (.int .u64 (lb a2y 3 : Nat))).setCell ⟨g5, 8, none⟩ (.int .u64 (lb a2z 0 : Nat))).setCell ⟨g5, 9, none⟩ (.int .u64 (lb a2z 1 : Nat))).setCell ⟨g5, 10, none⟩ (.int .u64 (lb a2z 2 : Nat))).setCell ⟨g5, 11, none⟩ (.int .u64 (lb a2z 3 : Nat))) = V2 at K2 K3 K4 K5 HB ⊢
      clear K2' K3' K4' K5' HB'
      have HO3 := Lib.hid (J.twice_ok HO2.out)
      have HC := Lib.hid (HTW.out ⟨a2x, a2y, a2z⟩ HO2.out)
      obtain ⟨T3, hT3⟩ : ∃ z, z = (J.mk a2x a2y a2z).twice := ⟨_, rfl⟩
      rw [← hT3] at HC HO3
      obtain ⟨a3x, a3y, a3z⟩ := T3
      have HT3 := Lib.hid hT3
      clear hT3 HO2
      simp only [J.v, jn] at HC
      obtain ⟨⟨x0, x1, x2, x3⟩, ⟨y0, y1, y2, y3⟩, z0, z1, z2, z3⟩ := K5.out.cells12
      rw [rounds_succ]
      go_wp2_with fail
      refine (keep w.heap.size w (HC.out _) HB.out (Nat.le_refl _)).mono ?_
      rintro e w3 ⟨rfl, hb, hkk⟩
      have K2' := Lib.hid (K2.out.below hkk)
      have K3' := Lib.hid (K3.out.below hkk)
      have K4' := Lib.hid (K4.out.below hkk)
      have K5' := Lib.hid (K5.out.below hkk)
      have HB' := Lib.hid hb
      clear hb hkk K2 K3 K4 K5 HB HC x0 x1 x2 x3 y0 y1 y2 y3 z0 z1 z2 z3
      obtain ⟨⟨f0, f1, f2, f3⟩, ⟨f4, f5, f6, f7⟩, f8, f9, f10, f11⟩ := K5'.out.fros12
      obtain ⟨⟨c0, c1, c2, c3⟩, ⟨c4, c5, c6, c7⟩, c8, c9, c10, c11⟩ := K5'.out.cells12
      go_wp2_with fail
      clear f0 f1 f2 f3 f4 f5 f6 f7 f8 f9 f10 f11 c0 c1 c2 c3 c4 c5 c6 c7 c8 c9 c10 c11
      have K2 : Hid (Bk 24 ((((((((((((w3.setCell ⟨g5, 0, none⟩ (.int .u64 (lb a3x 0 : Nat))).setCell ⟨g5, 1, none⟩ (.int .u64 (lb a3x 1 : Nat))).setCell ⟨g5, 2, none⟩ (.int .u64 (lb a3x 2 : Nat))).setCell ⟨g5, 3, none⟩ (.int .u64 (lb a3x 3 : Nat))).setCell ⟨g5, 4, none⟩ (.int .u64 (lb a3y 0 : Nat))).setCell ⟨g5, 5, none⟩ (.int .u64 (lb a3y 1 : Nat))).setCell ⟨g5, 6, none⟩ (.int .u64 (lb a3y 2 : Nat))).setCell ⟨g5, 7, none⟩ (.int .u64 (lb a3y 3 : Nat))).setCell ⟨g5, 8, none⟩ (.int .u64 (lb a3z 0 : Nat))).setCell ⟨g5, 9, none⟩ (.int .u64 (lb a3z 1 : Nat))).setCell ⟨g5, 10, none⟩ (.int .u64 (lb a3z 2 : Nat))).setCell ⟨g5, 11, none⟩ (.int .u64 (lb a3z 3 : Nat))) g2 #[.int .u64 (lb k 0 : Nat), .int .u64 (lb k 1 : Nat), .int .u64 (lb k 2 : Nat), .int .u64 (lb k 3 : Nat)]) := Lib.hid (Bk.puto12 HG.out.2.1 K2'.out)
      have K3 : Hid (Bk 165 ((((((((((((w3.setCell ⟨g5, 0, none⟩ (.int .u64 (lb a3x 0 : Nat))).setCell ⟨g5, 1, none⟩ (.int .u64 (lb a3x 1 : Nat))).setCell ⟨g5, 2, none⟩ (.int .u64 (lb a3x 2 : Nat))).setCell ⟨g5, 3, none⟩ (.int .u64 (lb a3x 3 : Nat))).setCell ⟨g5, 4, none⟩ (.int .u64 (lb a3y 0 : Nat))).setCell ⟨g5, 5, none⟩ (.int .u64 (lb a3y 1 : Nat))).setCell ⟨g5, 6, none⟩ (.int .u64 (lb a3y 2 : Nat))).setCell ⟨g5, 7, none⟩ (.int .u64 (lb a3y 3 : Nat))).setCell ⟨g5, 8, none⟩ (.int .u64 (lb a3z 0 : Nat))).setCell ⟨g5, 9, none⟩ (.int .u64 (lb a3z 1 : Nat))).setCell ⟨g5, 10, none⟩ (.int .u64 (lb a3z 2 : Nat))).setCell ⟨g5, 11, none⟩ (.int .u64 (lb a3z 3 : Nat))) g3 (fa p 16)) := Lib.hid (Bk.puto12 HG.out.2.2.1 K3'.out)
      have K4 : Hid (Bk 162 ((((((((((((w3.setCell ⟨g5, 0, none⟩ (.int .u64 (lb a3x 0 : Nat))).setCell ⟨g5, 1, none⟩ (.int .u64 (lb a3x 1 : Nat))).setCell ⟨g5, 2, none⟩ (.int .u64 (lb a3x 2 : Nat))).setCell ⟨g5, 3, none⟩ (.int .u64 (lb a3x 3 : Nat))).setCell ⟨g5, 4, none⟩ (.int .u64 (lb a3y 0 : Nat))).setCell ⟨g5, 5, none⟩ (.int .u64 (lb a3y 1 : Nat))).setCell ⟨g5, 6, none⟩ (.int .u64 (lb a3y 2 : Nat))).setCell ⟨g5, 7, none⟩ (.int .u64 (lb a3y 3 : Nat))).setCell ⟨g5, 8, none⟩ (.int .u64 (lb a3z 0 : Nat))).setCell ⟨g5, 9, none⟩ (.int .u64 (lb a3z 1 : Nat))).setCell ⟨g5, 10, none⟩ (.int .u64 (lb a3z 2 : Nat))).setCell ⟨g5, 11, none⟩ (.int .u64 (lb a3z 3 : Nat))) g4 #[.int .u64 0, .int .u64 0, .int .u64 0, .int .u64 0, .int .u64 0, .int .u64 0, .int .u64 0, .int .u64 0, .int .u64 0, .int .u64 0, .int .u64 0, .int .u64 0]) := Lib.hid (Bk.puto12 HG.out.2.2.2 K4'.out)
      have K5 : Hid (Bk 162 ((((((((((((w3.setCell ⟨g5, 0, none⟩ (.int .u64 (lb a3x 0 : Nat))).setCell ⟨g5, 1, none⟩ (.int .u64 (lb a3x 1 : Nat))).setCell ⟨g5, 2, none⟩ (.int .u64 (lb a3x 2 : Nat))).setCell ⟨g5, 3, none⟩ (.int .u64 (lb a3x 3 : Nat))).setCell ⟨g5, 4, none⟩ (.int .u64 (lb a3y 0 : Nat))).setCell ⟨g5, 5, none⟩ (.int .u64 (lb a3y 1 : Nat))).setCell ⟨g5, 6, none⟩ (.int .u64 (lb a3y 2 : Nat))).setCell ⟨g5, 7, none⟩ (.int .u64 (lb a3y 3 : Nat))).setCell ⟨g5, 8, none⟩ (.int .u64 (lb a3z 0 : Nat))).setCell ⟨g5, 9, none⟩ (.int .u64 (lb a3z 1 : Nat))).setCell ⟨g5, 10, none⟩ (.int .u64 (lb a3z 2 : Nat))).setCell ⟨g5, 11, none⟩ (.int .u64 (lb a3z 3 : Nat))) g5 #[.int .u64 (lb a3x 0 : Nat), .int .u64 (lb a3x 1 : Nat), .int .u64 (lb a3x 2 : Nat), .int .u64 (lb a3x 3 : Nat), .int .u64 (lb a3y 0 : Nat), .int .u64 (lb a3y 1 : Nat), .int .u64 (lb a3y 2 : Nat), .int .u64 (lb a3y 3 : Nat), .int .u64 (lb a3z 0 : Nat), .int .u64 (lb a3z 1 : Nat), .int .u64 (lb a3z 2 : Nat), .int .u64 (lb a3z 3 : Nat)]) := Lib.hid (Bk.put12 K5'.out)
      have HB : Hid (Below w.heap.size w ((((((((((((w3.setCell ⟨g5, 0, none⟩ (.int .u64 (lb a3x 0 : Nat))).setCell ⟨g5, 1, none⟩ (.int .u64 (lb a3x 1 : Nat))).setCell ⟨g5, 2, none⟩ (.int .u64 (lb a3x 2 : Nat))).setCell ⟨g5, 3, none⟩ (.int .u64 (lb a3x 3 : Nat))).setCell ⟨g5, 4, none⟩ (.int .u64 (lb a3y 0 : Nat))).setCell ⟨g5, 5, none⟩ (.int .u64 (lb a3y 1 : Nat))).setCell ⟨g5, 6, none⟩ (.int .u64 (lb a3y 2 : Nat))).setCell ⟨g5, 7, none⟩ (.int .u64 (lb a3y 3 : Nat))).setCell ⟨g5, 8, none⟩ (.int .u64 (lb a3z 0 : Nat))).setCell ⟨g5, 9, none⟩ (.int .u64 (lb a3z 1 : Nat))).setCell ⟨g5, 10, none⟩ (.int .u64 (lb a3z 2 : Nat))).setCell ⟨g5, 11, none⟩ (.int .u64 (lb a3z 3 : Nat)))) := Lib.hid (by have hb := HB'.out; have hg := HG.out.1.2; go_grown)
      generalize ((((((((((((w3.setCell ⟨g5, 0, none⟩ (.int .u64 (lb a3x 0 : Nat))).setCell ⟨g5, 1, none⟩ (.int .u64 (lb a3x 1 : Nat))).setCell ⟨g5, 2, none⟩ (.int .u64 (lb a3x 2 : Nat))).setCell ⟨g5, 3, none⟩ (.int .u64 (lb a3x 3 : Nat))).setCell ⟨g5, 4, none⟩ (.int .u64 (lb a3y 0 : Nat))).setCell ⟨g5, 5, none⟩ (.int .u64 (lb a3y 1 : Nat))).setCell ⟨g5, 6, none⟩ (.int .u64 (lb a3y 2 : Nat))).setCell ⟨g5, 7, none⟩ (.int .u64 (lb a3y 3 : Nat))).setCell ⟨g5, 8, none⟩ (.int .u64 (lb a3z 0 : Nat))).setCell ⟨g5, 9, none⟩ (.int .u64 (lb a3z 1 : Nat))).setCell ⟨g5, 10, none⟩ (.int .u64 (lb a3z 2 : Nat))).setCell ⟨g5, 11, none⟩ (.int .u64 (lb a3z 3 : Nat))) = V3 at K2 K3 K4 K5 HB ⊢
      clear K2' K3' K4' K5' HB'
      have HO4 := Lib.hid (J.twice_ok HO3.out)
      have HC := Lib.hid (HTW.out ⟨a3x, a3y, a3z⟩ HO3.out)
      obtain ⟨T4, hT4⟩ : ∃ z, z = (J.mk a3x a3y a3z).twice := ⟨_, rfl⟩
      rw [← hT4] at HC HO4
      obtain ⟨a4x, a4y, a4z⟩ := T4
      have HT4 := Lib.hid hT4
      clear hT4 HO3
      simp only [J.v, jn] at HC
      obtain ⟨⟨x0, x1, x2, x3⟩, ⟨y0, y1, y2, y3⟩, z0, z1, z2, z3⟩ := K5.out.cells12
      rw [rounds_succ]
      go_wp2_with fail
      refine (keep w.heap.size w (HC.out _) HB.out (Nat.le_refl _)).mono ?_
      rintro e w4 ⟨rfl, hb, hkk⟩
      have K2' := Lib.hid (K2.out.below hkk)
      have K3' := Lib.hid (K3.out.below hkk)
      have K4' := Lib.hid (K4.out.below hkk)
      have K5' := Lib.hid (K5.out.below hkk)
      have HB' := Lib.hid hb
      clear hb hkk K2 K3 K4 K5 HB HC x0 x1 x2 x3 y0 y1 y2 y3 z0 z1 z2 z3
      obtain ⟨⟨f0, f1, f2, f3⟩, ⟨f4, f5, f6, f7⟩, f8, f9, f10, f11⟩ := K5'.out.fros12
      obtain ⟨⟨c0, c1, c2, c3⟩, ⟨c4, c5, c6, c7⟩, c8, c9, c10, c11⟩ := K5'.out.cells12
      go_wp2_with fail
      clear f0 f1 f2 f3 f4 f5 f6 f7 f8 f9 f10 f11 c0 c1 c2 c3 c4 c5 c6 c7 c8 c9 c10 c11
      have K2 : Hid (Bk 24 ((((((((((((w4.setCell ⟨g5, 0, none⟩ (.int .u64 (lb a4x 0 : Nat))).setCell ⟨g5, 1, none⟩ (.int .u64 (lb a4x 1 : Nat))).setCell ⟨g5, 2, none⟩ (.int .u64 (lb a4x 2 : Nat))).setCell ⟨g5, 3, none⟩ (.int .u64 (lb a4x 3 : Nat))).setCell ⟨g5, 4, none⟩ (.int .u64 (lb a4y 0 : Nat))).setCell ⟨g5, 5, none⟩ (.int .u64 (lb a4y 1 : Nat))).setCell ⟨g5, 6, none⟩ (.int .u64 (lb a4y 2 : Nat))).setCell ⟨g5, 7, none⟩ (.int .u64 (lb a4y 3 : Nat))).setCell ⟨g5, 8, none⟩ (.int .u64 (lb a4z 0 : Nat))).setCell ⟨g5, 9, none⟩ (.int .u64 (lb a4z 1 : Nat))).setCell ⟨g5, 10, none⟩ (.int .u64 (lb a4z 2 : Nat))).setCell ⟨g5, 11, none⟩ (.int .u64 (lb a4z 3 : Nat))) g2 #[.int .u64 (lb k 0 : Nat), .int .u64 (lb k 1 : Nat), .int .u64 (lb k 2 : Nat), .int .u64 (lb k 3 : Nat)]) := Lib.hid (Bk.puto12 HG.out.2.1 K2'.out)
      have K3 : Hid (Bk 165 ((((((((((((w4.setCell ⟨g5, 0, none⟩ (.int .u64 (lb a4x 0 : Nat))).setCell ⟨g5, 1, none⟩ (.int .u64 (lb a4x 1 : Nat))).setCell ⟨g5, 2, none⟩ (.int .u64 (lb a4x 2 : Nat))).setCell ⟨g5, 3, none⟩ (.int .u64 (lb a4x 3 : Nat))).setCell ⟨g5, 4, none⟩ (.int .u64 (lb a4y 0 : Nat))).setCell ⟨g5, 5, none⟩ (.int .u64 (lb a4y 1 : Nat))).setCell ⟨g5, 6, none⟩ (.int .u64 (lb a4y 2 : Nat))).setCell ⟨g5, 7, none⟩ (.int .u64 (lb a4y 3 : Nat))).setCell ⟨g5, 8, none⟩ (.int .u64 (lb a4z 0 : Nat))).setCell ⟨g5, 9, none⟩ (.int .u64 (lb a4z 1 : Nat))).setCell ⟨g5, 10, none⟩ (.int .u64 (lb a4z 2 : Nat))).setCell ⟨g5, 11, none⟩ (.int .u64 (lb a4z 3 : Nat))) g3 (fa p 16)) := Lib.hid (Bk.puto12 HG.out.2.2.1 K3'.out)
      have K4 : Hid (Bk 162 ((((((((((((w4.setCell ⟨g5, 0, none⟩ (.int .u64 (lb a4x 0 : Nat))).setCell ⟨g5, 1, none⟩ (.int .u64 (lb a4x 1 : Nat))).setCell ⟨g5, 2, none⟩ (.int .u64 (lb a4x 2 : Nat))).setCell ⟨g5, 3, none⟩ (.int .u64 (lb a4x 3 : Nat))).setCell ⟨g5, 4, none⟩ (.int .u64 (lb a4y 0 : Nat))).setCell ⟨g5, 5, none⟩ (.int .u64 (lb a4y 1 : Nat))).setCell ⟨g5, 6, none⟩ (.int .u64 (lb a4y 2 : Nat))).setCell ⟨g5, 7, none⟩ (.int .u64 (lb a4y 3 : Nat))).setCell ⟨g5, 8, none⟩ (.int .u64 (lb a4z 0 : Nat))).setCell ⟨g5, 9, none⟩ (.int .u64 (lb a4z 1 : Nat))).setCell ⟨g5, 10, none⟩ (.int .u64 (lb a4z 2 : Nat))).setCell ⟨g5, 11, none⟩ (.int .u64 (lb a4z 3 : Nat))) g4 #[.int .u64 0, .int .u64 0, .int .u64 0, .int .u64 0, .int .u64 0, .int .u64 0, .int .u64 0, .int .u64 0, .int .u64 0, .int .u64 0, .int .u64 0, .int .u64 0]) := Lib.hid (Bk.puto12 HG.out.2.2.2 K4'.out)
      have K5 : Hid (Bk 162 ((((((((((((w4.setCell ⟨g5, 0, none⟩ (.int .u64 (lb a4x 0 : Nat))).setCell ⟨g5, 1, none⟩ (.int .u64 (lb a4x 1 : Nat))).setCell ⟨g5, 2, none⟩ (.int .u64 (lb a4x 2 : Nat))).setCell ⟨g5, 3, none⟩ (.int .u64 (lb a4x 3 : Nat))).setCell ⟨g5, 4, none⟩ (.int .u64 (lb a4y 0 : Nat))).setCell ⟨g5, 5, none⟩ (.int .u64 (lb a4y 1 : Nat))).setCell ⟨g5, 6, none⟩ (.int .u64 (lb a4y 2 : Nat))).setCell ⟨g5, 7, none⟩ (.int .u64 (lb a4y 3 : Nat))).setCell ⟨g5, 8, none⟩ (.int .u64 (lb a4z 0 : Nat))).setCell ⟨g5, 9, none⟩ (.int .u64 (lb a4z 1 : Nat))).setCell ⟨g5, 10, none⟩ (.int .u64 (lb a4z 2 : Nat))).setCell ⟨g5, 11, none⟩ (.int .u64 (lb a4z 3 : Nat))) g5 #[.int .u64 (lb a4x 0 : Nat), .int .u64 (lb a4x 1 : Nat), .int .u64 (lb a4x 2 : Nat), .int .u64 (lb a4x 3 : Nat), .int .u64 (lb a4y 0 : Nat), .int .u64 (lb a4y 1 : Nat), .int .u64 (lb a4y 2 : Nat), .int .u64 (lb a4y 3 : Nat), .int .u64 (lb a4z 0 : Nat), .int .u64 (lb a4z 1 : Nat), .int .u64 (lb a4z 2 : Nat), .int .u64 (lb a4z 3 : Nat)]) := Lib.hid (Bk.put12 K5'.out)
      have HB : Hid (Below w.heap.size w ((((((((((((w4.setCell ⟨g5, 0, none⟩ (.int .u64 (lb a4x 0 : Nat))).setCell ⟨g5, 1, none⟩ (.int .u64 (lb a4x 1 : Nat))).setCell ⟨g5, 2, none⟩ (.int .u64 (lb a4x 2 : Nat))).setCell ⟨g5, 3, none⟩ (.int .u64 (lb a4x 3 : Nat))).setCell ⟨g5, 4, none⟩ (.int .u64 (lb a4y 0 : Nat))).setCell ⟨g5, 5, none⟩ (.int .u64 (lb a4y 1 : Nat))).setCell ⟨g5, 6, none⟩ (.int .u64 (lb a4y 2 : Nat))).setCell ⟨g5, 7, none⟩ (.int .u64 (lb a4y 3 : Nat))).setCell ⟨g5, 8, none⟩ (.int .u64 (lb a4z 0 : Nat))).setCell ⟨g5, 9, none⟩ (.int .u64 (lb a4z 1 : Nat))).setCell ⟨g5, 10, none⟩ (.int .u64 (lb a4z 2 : Nat))).setCell ⟨g5, 11, none⟩ (.int .u64 (lb a4z 3 : Nat)))) := Lib.hid (by have hb := HB'.out; have hg := HG.out.1.2; go_grown)
      generalize ((((((((((((w4.setCell ⟨g5, 0, none⟩ (.int .u64 (lb a4x 0 : Nat))).setCell ⟨g5, 1, none⟩ (.int .u64 (lb a4x 1 : Nat))).setCell ⟨g5, 2, none⟩ (.int .u64 (lb a4x 2 : Nat))).setCell ⟨g5, 3, none⟩ (.int .u64 (lb a4x 3 : Nat))).setCell ⟨g5, 4, none⟩ (.int .u64 (lb a4y 0 : Nat))).setCell ⟨g5, 5, none⟩ (.int .u64 (lb a4y 1 : Nat))).setCell ⟨g5, 6, none⟩ (.int .u64 (lb a4y 2 : Nat))).setCell ⟨g5, 7, none⟩ (.int .u64 (lb a4y 3 : Nat))).setCell ⟨g5, 8, none⟩ (.int .u64 (lb a4z 0 : Nat))).setCell ⟨g5, 9, none⟩ (.int .u64 (lb a4z 1 : Nat))).setCell ⟨g5, 10, none⟩ (.int .u64 (lb a4z 2 : Nat))).setCell ⟨g5, 11, none⟩ (.int .u64 (lb a4z 3 : Nat))) = V4 at K2 K3 K4 K5 HB ⊢
      clear K2' K3' K4' K5' HB'
      have HD := Lib.hid (HDG.out (63 - i) (by omega))
      have hdd : k / 16 ^ (63 - i) % 16 < 16 := Nat.mod_lt _ (by decide)
      have HS := Lib.hid (HPL.out (dg k i) ⟨a4x, a4y, a4z⟩ HO4.out)
      have hD : Hid (p.mulN k (i + 1) = (p.tim (dg k i)).plus ⟨a4x, a4y, a4z⟩) := Lib.hid (by rw [HT4.out, HT3.out, HT2.out, HT1.out, HT0.out]; rfl)
      have e63 : (((63 - i : Nat) : Nat) : Int) = 63 - (i : Int) := by omega
      rw [e63] at HD
      clear e63
      have edg : k / 16 ^ (63 - i) % 16 = dg k i := rfl
      rw [edg] at HD hdd
      clear edg
      generalize dg k i = d at *
      obtain ⟨R, hR⟩ : ∃ z, z = (p.tim d).plus ⟨a4x, a4y, a4z⟩ := ⟨_, rfl⟩
      rw [← hR] at HS hD
      obtain ⟨rx, ry, rz⟩ := R
      clear hR HT0 HT1 HT2 HT3 HT4 HO4 HTW HOK HPL HDG
      simp only [J.v, jn] at HS
      have q0 : (d : Int) < 16 := by omega
      have q1 : ((d : Nat) : Int).toNat = d := by omega
      have qd : ∀ e os, (grow (redrawn V4 e) os).cell? ⟨g3, d, none⟩ = some (.func (.func 158) #[.agg #[.int .u64 (lb (p.tim d).x 0 : Nat), .int .u64 (lb (p.tim d).x 1 : Nat), .int .u64 (lb (p.tim d).x 2 : Nat), .int .u64 (lb (p.tim d).x 3 : Nat), .int .u64 (lb (p.tim d).y 0 : Nat), .int .u64 (lb (p.tim d).y 1 : Nat), .int .u64 (lb (p.tim d).y 2 : Nat), .int .u64 (lb (p.tim d).y 3 : Nat), .int .u64 (lb (p.tim d).z 0 : Nat), .int .u64 (lb (p.tim d).z 1 : Nat), .int .u64 (lb (p.tim d).z 2 : Nat), .int .u64 (lb (p.tim d).z 3 : Nat)]] #[]) := fun e os => ((K3.out.regrown e os).cell d).trans ((fa_get p 16 d hdd).trans (by unfold fk; rw [if_pos hdd]; rfl))
      obtain ⟨⟨x0, x1, x2, x3⟩, ⟨y0, y1, y2, y3⟩, z0, z1, z2, z3⟩ := K5.out.reg12
      obtain ⟨k0, k1, k2, k3⟩ := K2.out.reg
      rw [rounds_succ]
      go_wp2_with fail
      refine wp_region_below_tail 8 mixed (by kernel_rfl) ?_
      simp only [List.take_succ_cons, List.take_zero, List.drop_succ_cons, List.drop_zero]
      iterate 3 go_big_quiet_step (fail)
      go_big_quiet_step (exact qg HD.out)
      iterate 3 (first | go_big_quiet_step (fail) | quiet_step (fail))
      go_big_quiet_step (exact qg HS.out)
      refine wpQuiet_nil ?_
      intro _ hw'
      obtain ⟨⟨dq, osq⟩, hw''⟩ := hw'
      subst hw''
      have K2' := Lib.hid (K2.out.regrown dq osq)
      have K3' := Lib.hid (K3.out.regrown dq osq)
      have K4' := Lib.hid (K4.out.regrown dq osq)
      have K5' := Lib.hid (K5.out.regrown dq osq)
      have HB' := Lib.hid (HB.out.trans ((below_regrown V4 dq osq).mono HB.out.size))
      clear K2 K3 K4 K5 HB x0 x1 x2 x3 y0 y1 y2 y3 z0 z1 z2 z3 k0 k1 k2 k3 HD HS qd
      generalize grow (redrawn V4 dq) osq = V at K2' K3' K4' K5' HB' ⊢
      obtain ⟨⟨f0, f1, f2, f3⟩, ⟨f4, f5, f6, f7⟩, f8, f9, f10, f11⟩ := K5'.out.fros12
      obtain ⟨⟨c0, c1, c2, c3⟩, ⟨c4, c5, c6, c7⟩, c8, c9, c10, c11⟩ := K5'.out.cells12
      go_wp2_with fail
      go_round
      case rel =>
        refine ⟨i + 1, by omega, by go_num, Bk.puto12 HG.out.2.1 K2'.out, Bk.puto12 HG.out.2.2.1 K3'.out, Bk.puto12 HG.out.2.2.2 K4'.out, ?_, ?_⟩
        · rw [hD.out]; exact Bk.put12 K5'.out
        · have hb := HB'.out
          have hg := HG.out.1.2
          go_grown
      case measure => simp [intOf]; omega
    · obtain rfl : i = 64 := by omega
      rw [← HRES.out] at K5
      simp only [] at K5
      obtain ⟨⟨x0, x1, x2, x3⟩, ⟨y0, y1, y2, y3⟩, z0, z1, z2, z3⟩ := K5.out.cells12
      obtain ⟨⟨f0, f1, f2, f3⟩, ⟨f4, f5, f6, f7⟩, f8, f9, f10, f11⟩ := K4.out.fros12
      obtain ⟨⟨c0, c1, c2, c3⟩, ⟨c4, c5, c6, c7⟩, c8, c9, c10, c11⟩ := K4.out.cells12
      go_wp2_with fail
      refine ret_cell93 rfl g4 tx ty tz rfl (Bk.put12 K4.out) rfl ⟨rfl, ?_⟩
      have hb := HB.out
      have hg := HG.out.1.1
      go_grown
end Go.Proofs.YtpggkfdijmnmiaaGreat
namespace Go.Proofs.YtpggkfdijmnmiaaGreat
open Go.RowKit Go.Sort Limbs Curve
def Po.mul (k : Nat) (p : Po) : Po := ((J.begin p.x p.y p.i).mulN k 64).point
set_option maxHeartbeats 8000000 in
theorem mul_p (k : Nat) (p : Po) (hk : k < W256) (hp : p.ok) (w : World) :
    Calls Tryz.prog 93 #[nv k, p.v] w fun e w' => e = .returned (if p.on = true then .tuple #[(Po.mul k p).v, .int .i64 0] else .tuple #[Po.zero.v, .int .i64 70]) ∧ Below w.heap.size w w' := by
  have HOP := Lib.hid (onj hp)
  have hj := J.begin_ok (i := p.i) hp.1 hp.2
  have H1 := Lib.hid (fun w => begin_c p.x p.y p.i w)
  have H2 := Lib.hid (fun w => adders_c (J.begin p.x p.y p.i) hj w)
  have H3 := Lib.hid (fun w => multiple_c k (J.begin p.x p.y p.i) hk hj w)
  have H4 := Lib.hid (pointj (J.mulN_ok (k := k) hj 64))
  unfold Po.mul
  clear hp hk hj
  generalize ((J.begin p.x p.y p.i).mulN k 64).point = res at *
  generalize (J.begin p.x p.y p.i).mulN k 64 = pq at *
  generalize J.begin p.x p.y p.i = jp at *
  cases honp : p.on
  · rw [if_neg (by simp)]
    rw [honp] at HOP
    clear honp H1 H2 H3 H4
    obtain ⟨x, y, i⟩ := p
    simp only [Po.v, pn, nv, num] at HOP ⊢
    go_enter Tryz.func93, Tryz.ntmps93
    go_wp2_with fail
    refine (keep w.heap.size w (HOP.out _) (by go_grown) (Nat.le_refl _)).mono ?_
    rintro e w1 ⟨rfl, hb, hk⟩
    have KZ : Hid (Bk 26 w1 (w.heap.size + 1 + 1) #[.int .u64 0, .int .u64 0, .int .u64 0, .int .u64 0, .int .u64 0, .int .u64 0, .int .u64 0, .int .u64 0, .bool false]) := Lib.hid (Bk.below (Bk.new (by simp)) hk)
    have HB := Lib.hid hb
    clear hk hb HOP
    obtain ⟨⟨f0, f1, f2, f3⟩, ⟨f4, f5, f6, f7⟩, f8⟩ := KZ.out.fros9
    obtain ⟨⟨c0, c1, c2, c3⟩, ⟨c4, c5, c6, c7⟩, c8⟩ := KZ.out.cells9
    go_wp2_with fail
    refine ret_cell51e rfl (w.heap.size + 1 + 1) 0 0 false (.int .i64 70) rfl rfl (Bk.put9 KZ.out) rfl ⟨rfl, ?_⟩
    have hb := HB.out
    go_grown
  rw [if_pos rfl]
  rw [honp] at HOP
  clear honp
  obtain ⟨x, y, i⟩ := p
  obtain ⟨rx, ry, ri⟩ := res
  generalize hf : fv jp = F at *
  have HF : Hid (∃ cs, F = .agg cs) := Lib.hid ⟨_, hf.symm⟩
  clear hf
  obtain ⟨px, py, pz⟩ := jp
  obtain ⟨sx, sy, sz⟩ := pq
  simp only [Po.v, pn, J.v, jn, nv, num] at HOP H1 H2 H3 H4 ⊢
  go_enter Tryz.func93, Tryz.ntmps93
  go_wp2_with fail
  refine (keep w.heap.size w (HOP.out _) (by go_grown) (Nat.le_refl _)).mono ?_
  rintro e w1 ⟨rfl, hb, hk⟩
  have KK : Hid (Bk 24 w1 w.heap.size #[.int .u64 (lb k 0 : Nat), .int .u64 (lb k 1 : Nat), .int .u64 (lb k 2 : Nat), .int .u64 (lb k 3 : Nat)]) := Lib.hid (Bk.below (Bk.alloc (Bk.alloc (Bk.new rfl))) hk)
  have KP : Hid (Bk 26 w1 (w.heap.size + 1) #[.int .u64 (lb x 0 : Nat), .int .u64 (lb x 1 : Nat), .int .u64 (lb x 2 : Nat), .int .u64 (lb x 3 : Nat), .int .u64 (lb y 0 : Nat), .int .u64 (lb y 1 : Nat), .int .u64 (lb y 2 : Nat), .int .u64 (lb y 3 : Nat), .bool i]) := Lib.hid (Bk.below (Bk.alloc (Bk.new (by simp))) hk)
  have KZ : Hid (Bk 26 w1 (w.heap.size + 1 + 1) #[.int .u64 0, .int .u64 0, .int .u64 0, .int .u64 0, .int .u64 0, .int .u64 0, .int .u64 0, .int .u64 0, .bool false]) := Lib.hid (Bk.below (Bk.new (by simp)) hk)
  have HB := Lib.hid hb
  clear hk hb HOP
  go_wp2_with fail
  obtain ⟨⟨x0, x1, x2, x3⟩, ⟨y0, y1, y2, y3⟩, i0⟩ := KP.out.reg9
  obtain ⟨k0, k1, k2, k3⟩ := KK.out.reg
  refine wp_region_below_tail 6 mixed (by kernel_rfl) ?_
  simp only [List.take_succ_cons, List.take_zero, List.drop_succ_cons, List.drop_zero]
  iterate 2 go_big_quiet_step (fail)
  go_big_quiet_step (exact qg H1.out)
  go_big_quiet_step (exact qg H2.out)
  go_big_quiet_step (exact qg H3.out)
  go_big_quiet_step (exact qg H4.out)
  refine wpQuiet_nil ?_
  intro _ hw'
  obtain ⟨⟨dq, osq⟩, hw''⟩ := hw'
  subst hw''
  have KZ3 := Lib.hid (KZ.out.regrown dq osq)
  have HB3 := Lib.hid (HB.out.trans ((below_regrown w1 dq osq).mono HB.out.size))
  clear KK KP KZ HB x0 x1 x2 x3 y0 y1 y2 y3 i0 k0 k1 k2 k3 H1 H2 H3 H4
  generalize grow (redrawn w1 dq) osq = V at KZ3 HB3 ⊢
  obtain ⟨⟨f0, f1, f2, f3⟩, ⟨f4, f5, f6, f7⟩, f8⟩ := KZ3.out.fros9
  obtain ⟨⟨c0, c1, c2, c3⟩, ⟨c4, c5, c6, c7⟩, c8⟩ := KZ3.out.cells9
  go_wp2_with fail
  refine ret_cell51e rfl (w.heap.size + 1 + 1) rx ry ri (.int .i64 0) rfl rfl (Bk.put9 KZ3.out) rfl ⟨rfl, ?_⟩
  have hb := HB3.out
  go_grown
theorem mulp {k : Nat} {p : Po} (hk : k < W256) (hp : p.ok) : ∀ w, Calls Tryz.prog 93 #[nv k, p.v] w fun e w' => e = .returned (if p.on = true then .tuple #[(Po.mul k p).v, .int .i64 0] else .tuple #[Po.zero.v, .int .i64 70]) ∧ Below w.heap.size w w' := mul_p k p hk hp
theorem Rep.tim {p : J} {P : Pt (Fin PP)} (h : Rep p P) (hP : On aP bP P) : ∀ n, Rep (p.tim n) (mul P n)
  | 0 => Or.inl ⟨rfl, rfl⟩
  | n + 1 => (Rep.tim h hP n).plus h (mul_on hP n) hP
theorem Rep.four {q : J} {P : Pt (Fin PP)} (hP : On aP bP P) {n : Nat} (h : Rep q (mul P n)) : Rep q.twice.twice.twice.twice (mul P (16 * n)) := by
  have h1 := h.twice (mul_on hP n)
  rw [mul_two hP] at h1
  have h2 := h1.twice (mul_on hP _)
  rw [mul_two hP] at h2
  have h3 := h2.twice (mul_on hP _)
  rw [mul_two hP] at h3
  have h4 := h3.twice (mul_on hP _)
  rw [mul_two hP] at h4
  rw [show 16 * n = 2 * (2 * (2 * (2 * n))) by omega]
  exact h4
theorem Rep.mulN {p : J} {P : Pt (Fin PP)} (h : Rep p P) (hP : On aP bP P) {k : Nat} (hk : k < W256) : ∀ i, i ≤ 64 → Rep (p.mulN k i) (mul P (k / 16 ^ (64 - i)))
  | 0, _ => by
    have : k / 16 ^ (64 - 0) = 0 := Nat.div_eq_of_lt (by unfold W256 at hk; simpa using hk)
    rw [this]
    exact Or.inl ⟨rfl, rfl⟩
  | i + 1, hi => by
    have ih := Rep.four hP (Rep.mulN h hP hk i (by omega))
    have := (Rep.tim h hP (dg k i)).plus ih (mul_on hP _) (mul_on hP _)
    rw [← mul_add hP] at this
    have e : dg k i + 16 * (k / 16 ^ (64 - i)) = k / 16 ^ (64 - (i + 1)) := by
      unfold dg
      rw [show 64 - i = 63 - i + 1 by omega, show 64 - (i + 1) = 63 - i by omega, Nat.pow_succ, ← Nat.div_div_eq_div_mul]
      omega
    rw [e] at this
    exact this
theorem mul_is {k : Nat} {p : Po} (hk : k < W256) (hp : p.on = true) : Po.mul k p = ofPt (mul (toPt p) k) := by
  obtain ⟨o1, _, r1⟩ := on_iff hp
  have := (Rep.mulN r1 o1 hk 64 (Nat.le_refl _)).point
  rw [Nat.sub_self, Nat.pow_zero, Nat.div_one] at this
  exact this
end Go.Proofs.YtpggkfdijmnmiaaGreat
set_option linter.unusedVariables false
set_option linter.unusedSimpArgs false
set_option maxRecDepth 100000
namespace Go.Proofs.YtpggkfdijmnmiaaGreat
open Go.RowKit Go.Sort Limbs Curve
theorem onP {p : Po} (hp : p.on = true) (ok : p.ok) : ∀ w, Calls Tryz.prog 61 #[p.v] w fun e w' => e = .returned (.bool true) ∧ Below w.heap.size w w' := fun w => by
  have h := onj ok w
  rw [hp] at h
  exact h
theorem addP {p q : Po} (hp : p.on = true) (okp : p.ok) (hq : q.on = true) (okq : q.ok) : ∀ w, Calls Tryz.prog 114 #[p.v, q.v] w fun e w' => e = .returned (.tuple #[(p.add q).v, .int .i64 0]) ∧ Below w.heap.size w w' := fun w => by
  have h := addp okp okq w
  rw [if_pos ⟨hp, hq⟩] at h
  exact h
theorem mulP {k : Nat} {p : Po} (hk : k < W256) (hp : p.on = true) (okp : p.ok) : ∀ w, Calls Tryz.prog 93 #[nv k, p.v] w fun e w' => e = .returned (.tuple #[(Po.mul k p).v, .int .i64 0]) ∧ Below w.heap.size w w' := fun w => by
  have h := mulp hk okp w
  rw [if_pos hp] at h
  exact h
end Go.Proofs.YtpggkfdijmnmiaaGreat
namespace Go.Proofs.YtpggkfdijmnmiaaGreat
open Curve
theorem pigeon : ∀ (m n : Nat) (f : Nat → Nat), (∀ i, i < n → f i < m) → (∀ i j, i < n → j < n → f i = f j → i = j) → n ≤ m
  | 0, n, f, h, _ => by
    rcases Nat.eq_zero_or_pos n with h0 | h0
    · omega
    · exact absurd (h 0 h0) (by omega)
  | m + 1, 0, f, h, inj => by omega
  | m + 1, n + 1, f, h, inj => by
    have := pigeon m n (fun i => if f i = m then f n else f i) (fun i hi => by
      show (if f i = m then f n else f i) < m
      have h1 := h i (by omega)
      have h2 := h n (by omega)
      by_cases h3 : f i = m
      · rw [if_pos h3]
        have : f n ≠ m := fun h4 => by
          have := inj i n (by omega) (by omega) (by rw [h3, h4])
          omega
        omega
      · rw [if_neg h3]; omega) (fun i j hi hj he => by
      have he' : (if f i = m then f n else f i) = (if f j = m then f n else f j) := he
      by_cases h3 : f i = m
      · by_cases h4 : f j = m
        · exact inj i j (by omega) (by omega) (by rw [h3, h4])
        · rw [if_pos h3, if_neg h4] at he'
          have := inj n j (by omega) (by omega) he'
          omega
      · by_cases h4 : f j = m
        · rw [if_neg h3, if_pos h4] at he'
          have := inj i n (by omega) (by omega) he'
          omega
        · rw [if_neg h3, if_neg h4] at he'
          exact inj i j (by omega) (by omega) he')
    omega
def code : Pt (Fin PP) → Nat
  | .far => 2 * PP
  | .aff x y => 2 * x.val + y.val % 2
theorem code_lt (P : Pt (Fin PP)) : code P < 2 * PP + 1 := by
  cases P with
  | far => show 2 * PP < 2 * PP + 1; omega
  | aff x y =>
    have := x.isLt
    show 2 * x.val + y.val % 2 < 2 * PP + 1
    omega
theorem neg_val {y : Fin PP} (h : y ≠ 0) : (-y).val = PP - y.val := by
  have h0 : y.val ≠ 0 := fun h0 => h (Fin.ext h0)
  have := y.isLt
  show (PP - y.val) % PP = _
  exact Nat.mod_eq_of_lt (by omega)
theorem PP_odd : PP % 2 = 1 := by decide +kernel
theorem code_inj {P Q : Pt (Fin PP)} (hP : On aP bP P) (hQ : On aP bP Q) (h : code P = code Q) : P = Q := by
  cases P with
  | far =>
    cases Q with
    | far => rfl
    | aff x y =>
      have := x.isLt
      have h' : 2 * PP = 2 * x.val + y.val % 2 := h
      omega
  | aff x y =>
    cases Q with
    | far =>
      have := x.isLt
      have h' : 2 * x.val + y.val % 2 = 2 * PP := h
      omega
    | aff u v =>
      have h' : 2 * x.val + y.val % 2 = 2 * u.val + v.val % 2 := h
      have hx : x = u := Fin.ext (by omega)
      subst hx
      have hy : y.val % 2 = v.val % 2 := by omega
      rcases fit.mul_zero (sq_x hP hQ) with h5 | h5
      · rw [eq_of_sub h5]
      · have e := neg_of_add h5
        have hv := neg_val (fit.y hQ)
        rw [← e] at hv
        have := v.isLt
        have := PP_odd
        omega
def GP : Pt (Fin PP) := toPt G
theorem GP_on : On aP bP GP := (on_iff G_on).1
theorem G_N : Po.mul mN G = ⟨0, 0, true⟩ := by
  have h : (J.begin G.x G.y G.i).mulN mN 64 = J.far := by decide +kernel
  unfold Po.mul
  rw [h]
  exact J.point_far rfl
theorem of_far_inj {P : Pt (Fin PP)} (h : ofPt P = ⟨0, 0, true⟩) : P = .far := by
  cases P with
  | far => rfl
  | aff x y => injection h with _ _ h; cases h
theorem GP_N : mul GP mN = .far := by
  have := mul_is (k := mN) (by decide +kernel) G_on
  rw [G_N] at this
  exact of_far_inj this.symm
theorem far_mul (n : Nat) : mul .far n = .far := by
  induction n with
  | zero => rfl
  | succ n ih => rw [mul_succ_p, ih]; rfl
theorem canc_p {P Q R : Pt (Fin PP)} (hP : On aP bP P) (hQ : On aP bP Q) (hR : On aP bP R) (h : sum inv aP P Q = sum inv aP P R) : Q = R := by
  have h1 := sum_back fit hP hQ
  rw [h, sum_back fit hP hR] at h1
  exact h1.symm
theorem mN_pos : 0 < mN := by decide +kernel
theorem GP_mod (n : Nat) : mul GP n = mul GP (n % mN) := by
  have e := Nat.div_add_mod n mN
  have := mul_add GP_on (mN * (n / mN)) (n % mN)
  rw [e] at this
  rw [this, Nat.mul_comm, ← mul_mul GP_on, GP_N, far_mul, far_sum]
theorem GP_ne : GP ≠ .far := by
  intro h
  have : toPt G = .far := h
  cases this
theorem GP_order {d : Nat} (h0 : 0 < d) (h1 : d < mN) : mul GP d ≠ .far := by
  intro h
  have hd : ¬ mN ∣ d := fun hd => by have := Nat.le_of_dvd h0 hd; omega
  have hpr : Primes.Prm mN := Primes.N256
  have hf := Primes.fermat hpr hd
  have e : mul GP (d ^ (mN - 1)) = .far := by
    rw [show mN - 1 = (mN - 2).succ by have : 2 < mN := by decide +kernel
                                       omega, Nat.pow_succ, ← mul_mul GP_on, h, far_mul]
  rw [GP_mod] at e
  rw [hf, mul_one_p] at e
  exact GP_ne e
theorem GP_inj {r s : Nat} (hr : r < mN) (hs : s < mN) (h : mul GP r = mul GP s) : r = s := by
  rcases Nat.lt_trichotomy r s with hlt | he | hlt
  · exfalso
    have e := mul_add GP_on r (s - r)
    rw [show r + (s - r) = s by omega, ← h] at e
    have := canc_p (mul_on GP_on r) on_far_p (mul_on GP_on (s - r)) (by rw [sum_far]; exact e)
    exact GP_order (by omega) (by omega) this.symm
  · exact he
  · exfalso
    have e := mul_add GP_on s (r - s)
    rw [show s + (r - s) = r by omega, h] at e
    have := canc_p (mul_on GP_on s) on_far_p (mul_on GP_on (r - s)) (by rw [sum_far]; exact e)
    exact GP_order (by omega) (by omega) this.symm
def three (Q : Pt (Fin PP)) (t : Nat) : Pt (Fin PP) := sum inv aP (mul Q (t / mN)) (mul GP (t % mN))
theorem three_on {Q : Pt (Fin PP)} (h : On aP bP Q) (t : Nat) : On aP bP (three Q t) := on_sum fit (mul_on h _) (mul_on GP_on _)
theorem three_step {Q : Pt (Fin PP)} (h : On aP bP Q) {a b r s : Nat} (hab : a < b) (hr : r < mN) (hs : s < mN) (he : sum inv aP (mul Q a) (mul GP r) = sum inv aP (mul Q b) (mul GP s)) : ∃ k, mul Q (b - a) = mul GP k := by
  have e := mul_add h a (b - a)
  rw [show a + (b - a) = b by omega] at e
  rw [e, sum_assoc fit (mul_on h a) (mul_on h (b - a)) (mul_on GP_on s)] at he
  have h2 := canc_p (mul_on h a) (mul_on GP_on r) (on_sum fit (mul_on h (b - a)) (mul_on GP_on s)) he
  refine ⟨r + (mN - s), ?_⟩
  rw [mul_add GP_on, h2, sum_assoc fit (mul_on h _) (mul_on GP_on s) (mul_on GP_on _), ← mul_add GP_on, show s + (mN - s) = mN by omega, GP_N, sum_far]
theorem c12 {a b : Nat} (h : a < b) (hb : b < 3) : b - a = 1 ∨ b - a = 2 := by omega
theorem half_or {Q : Pt (Fin PP)} (h : On aP bP Q) : ∃ c k, (c = 1 ∨ c = 2) ∧ mul Q c = mul GP k := by
  refine Classical.byContradiction fun hn => ?_
  have hle := pigeon (2 * PP + 1) (3 * mN) (fun t => code (three Q t)) (fun t _ => code_lt _) (fun t u ht hu he => by
    have he' := code_inj (three_on h t) (three_on h u) he
    unfold three at he'
    have hp := mN_pos
    have ht1 := Nat.mod_lt t hp
    have hu1 := Nat.mod_lt u hp
    have ht2 : t / mN < 3 := Nat.div_lt_of_lt_mul (by omega)
    have hu2 : u / mN < 3 := Nat.div_lt_of_lt_mul (by omega)
    rcases Nat.lt_trichotomy (t / mN) (u / mN) with hlt | heq | hlt
    · obtain ⟨k, hk⟩ := three_step h hlt ht1 hu1 he'
      exact absurd ⟨u / mN - t / mN, k, c12 hlt hu2, hk⟩ hn
    · rw [heq] at he'
      have h3 := GP_inj ht1 hu1 (canc_p (mul_on h _) (mul_on GP_on _) (mul_on GP_on _) he')
      rw [← Nat.div_add_mod t mN, ← Nat.div_add_mod u mN, heq, h3]
    · obtain ⟨k, hk⟩ := three_step h hlt hu1 ht1 he'.symm
      exact absurd ⟨t / mN - u / mN, k, c12 hlt ht2, hk⟩ hn)
  have : 2 * PP + 1 < 3 * mN := by decide +kernel
  omega
theorem no_half {T : Pt (Fin PP)} (h : On aP bP T) (h2 : sum inv aP T T = .far) : T = .far := by
  cases T with
  | far => rfl
  | aff x y =>
    exfalso
    have hy := fit.yy h
    simp only [sum] at h2
    rw [if_neg (fun hc => hy (opp_z hc.2))] at h2
    cases h2
theorem mul_N {Q : Pt (Fin PP)} (h : On aP bP Q) : mul Q mN = .far := by
  obtain ⟨c, k, hc, hk⟩ := half_or h
  have h1 : mul (mul Q c) mN = .far := by
    rw [hk, mul_mul GP_on, Nat.mul_comm, ← mul_mul GP_on, GP_N, far_mul]
  rw [mul_mul h] at h1
  have hg : ∀ n, mul Q (n * c) = .far → mul Q n = .far := fun n hn => by
    rcases hc with rfl | rfl
    · rwa [Nat.mul_one] at hn
    · refine no_half (mul_on h n) ?_
      rw [mul_two h, Nat.mul_comm]
      exact hn
  exact hg mN h1
theorem mul_mod {Q : Pt (Fin PP)} (h : On aP bP Q) (n : Nat) : mul Q (n % mN) = mul Q n := by
  have e := Nat.div_add_mod n mN
  have := mul_add h (mN * (n / mN)) (n % mN)
  rw [e] at this
  rw [this, Nat.mul_comm, ← mul_mul h, mul_N h, far_mul, far_sum]
end Go.Proofs.YtpggkfdijmnmiaaGreat
