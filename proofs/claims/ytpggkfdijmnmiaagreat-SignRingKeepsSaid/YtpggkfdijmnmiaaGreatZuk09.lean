/- A digit of a number; a multiple of a point under way: the walks. No condition but that each number is below 2 to the 256. The bytes of points: the walks. No condition but that each number is below 2 to the 256. The point of bytes: the walk. No condition but the length of the bytes. The point of bytes, and the bytes of points. No condition but the length of the bytes. The calls whose answers the do -/
import Derived.Test.YtpggkfdijmnmiaaGreatZuk08
import Derived.Lib.AppendZeros
import Derived.StillTail
import Derived.Test.YtpggkfdijmnmiaaGreatZuk05
import Derived.Test.YtpggkfdijmnmiaaGreatZuk02
set_option linter.unusedVariables false
set_option linter.unusedSimpArgs false
set_option maxRecDepth 100000
namespace Go.Proofs.YtpggkfdijmnmiaaGreat
open Go.RowKit Go.Sort Limbs
theorem dig_of (a s : Nat) (hs : s ≤ 60) : a % 18446744073709551616 / 2 ^ s % 16 = a / 2 ^ s % 16 := by
  rw [← Nat.mod_mul_right_div_self, ← Nat.mod_mul_right_div_self (m := a)]
  congr 1
  refine Nat.mod_mod_of_dvd _ ?_
  rw [show (18446744073709551616 : Nat) = 2 ^ s * 2 ^ (64 - s) from by rw [← Nat.pow_add, show s + (64 - s) = 64 by omega]]
  refine Nat.mul_dvd_mul_left _ ?_
  rw [show (16 : Nat) = 2 ^ 4 from rfl]
  exact Nat.pow_dvd_pow 2 (by omega)
theorem dig_int (a m : Nat) : ((a : Int) / 2 ^ m).tmod 16 = ((a / 2 ^ m % 16 : Nat) : Int) := by
  have e : (a : Int) / 2 ^ m = ((a / 2 ^ m : Nat) : Int) := by
    rw [Int.natCast_ediv, Int.natCast_pow]; rfl
  rw [e]
  generalize a / 2 ^ m = q
  rw [Int.tmod_eq_emod_of_nonneg (by omega)]
  omega
theorem dig_int2 (a m : Nat) : (a : Int) / 2 ^ m % 16 = ((a / 2 ^ m % 16 : Nat) : Int) := by
  have e : (a : Int) / 2 ^ m = ((a / 2 ^ m : Nat) : Int) := by
    rw [Int.natCast_ediv, Int.natCast_pow]; rfl
  rw [e]
  generalize a / 2 ^ m = q
  omega
set_option maxHeartbeats 4000000 in
theorem digit_0 (k r : Nat) (hr : r < 16) (w : World) :
    Calls Tryz.prog 169 #[nv k, .int .i64 ((r : Nat) : Int)] w fun e w' => e = .returned (.int .u64 ((lb k 0 / 2 ^ (r * 4) % 16 : Nat) : Int)) ∧ Below w.heap.size w w' := by
  have hl := lb_lt k 0
  have hq1 : Int.tdiv ((r : Nat) : Int) 16 = 0 := by rw [Int.tdiv_eq_ediv_of_nonneg (by omega)]; omega
  have hq2 : Int.tmod ((r : Nat) : Int) 16 = (r : Int) := by rw [Int.tmod_eq_emod_of_nonneg (by omega)]; omega
  simp only [nv, num]
  go_enter Tryz.func169, Tryz.ntmps169
  go_wp2_with fail
  go_ret
  refine ⟨by simp only [dig_int, dig_int2]; rfl, ?_⟩
  go_grown
set_option maxHeartbeats 4000000 in
theorem digit_1 (k r : Nat) (hr : r < 16) (w : World) :
    Calls Tryz.prog 169 #[nv k, .int .i64 ((16 + r : Nat) : Int)] w fun e w' => e = .returned (.int .u64 ((lb k 1 / 2 ^ (r * 4) % 16 : Nat) : Int)) ∧ Below w.heap.size w w' := by
  have hl := lb_lt k 1
  have hq1 : Int.tdiv ((16 + r : Nat) : Int) 16 = 1 := by rw [Int.tdiv_eq_ediv_of_nonneg (by omega)]; omega
  have hq2 : Int.tmod ((16 + r : Nat) : Int) 16 = (r : Int) := by rw [Int.tmod_eq_emod_of_nonneg (by omega)]; omega
  obtain ⟨pl, hpl⟩ : ∃ z : Int, z = ((16 + r : Nat) : Int) := ⟨_, rfl⟩
  rw [← hpl] at hq1 hq2 ⊢
  have hp0 : 0 ≤ pl := by omega
  clear hpl
  simp only [nv, num]
  go_enter Tryz.func169, Tryz.ntmps169
  go_wp2_with fail
  go_ret
  refine ⟨by simp only [dig_int, dig_int2]; rfl, ?_⟩
  go_grown
set_option maxHeartbeats 4000000 in
theorem digit_2 (k r : Nat) (hr : r < 16) (w : World) :
    Calls Tryz.prog 169 #[nv k, .int .i64 ((32 + r : Nat) : Int)] w fun e w' => e = .returned (.int .u64 ((lb k 2 / 2 ^ (r * 4) % 16 : Nat) : Int)) ∧ Below w.heap.size w w' := by
  have hl := lb_lt k 2
  have hq1 : Int.tdiv ((32 + r : Nat) : Int) 16 = 2 := by rw [Int.tdiv_eq_ediv_of_nonneg (by omega)]; omega
  have hq2 : Int.tmod ((32 + r : Nat) : Int) 16 = (r : Int) := by rw [Int.tmod_eq_emod_of_nonneg (by omega)]; omega
  obtain ⟨pl, hpl⟩ : ∃ z : Int, z = ((32 + r : Nat) : Int) := ⟨_, rfl⟩
  rw [← hpl] at hq1 hq2 ⊢
  have hp0 : 0 ≤ pl := by omega
  clear hpl
  simp only [nv, num]
  go_enter Tryz.func169, Tryz.ntmps169
  go_wp2_with fail
  go_ret
  refine ⟨by simp only [dig_int, dig_int2]; rfl, ?_⟩
  go_grown
set_option maxHeartbeats 4000000 in
theorem digit_3 (k r : Nat) (hr : r < 16) (w : World) :
    Calls Tryz.prog 169 #[nv k, .int .i64 ((48 + r : Nat) : Int)] w fun e w' => e = .returned (.int .u64 ((lb k 3 / 2 ^ (r * 4) % 16 : Nat) : Int)) ∧ Below w.heap.size w w' := by
  have hl := lb_lt k 3
  have hq1 : Int.tdiv ((48 + r : Nat) : Int) 16 = 3 := by rw [Int.tdiv_eq_ediv_of_nonneg (by omega)]; omega
  have hq2 : Int.tmod ((48 + r : Nat) : Int) 16 = (r : Int) := by rw [Int.tmod_eq_emod_of_nonneg (by omega)]; omega
  obtain ⟨pl, hpl⟩ : ∃ z : Int, z = ((48 + r : Nat) : Int) := ⟨_, rfl⟩
  rw [← hpl] at hq1 hq2 ⊢
  have hp0 : 0 ≤ pl := by omega
  clear hpl
  simp only [nv, num]
  go_enter Tryz.func169, Tryz.ntmps169
  go_wp2_with fail
  go_ret
  refine ⟨by simp only [dig_int, dig_int2]; rfl, ?_⟩
  go_grown
theorem digit_c (k pl : Nat) (h : pl < 64) (w : World) :
    Calls Tryz.prog 169 #[nv k, .int .i64 (pl : Int)] w fun e w' => e = .returned (.int .u64 ((k / 16 ^ pl % 16 : Nat) : Int)) ∧ Below w.heap.size w w' := by
  have e (q r : Nat) (hr : r < 16) (hp : pl = 16 * q + r) : lb k q / 2 ^ (r * 4) % 16 = k / 16 ^ pl % 16 := by
    have hq : q = 0 ∨ q = 1 ∨ q = 2 ∨ q = 3 := by omega
    have p (n : Nat) (hn : n + r * 4 = 4 * pl) : k / 2 ^ n / 2 ^ (r * 4) % 16 = k / 16 ^ pl % 16 := by
      rw [Nat.div_div_eq_div_mul, ← Nat.pow_add, hn, Nat.pow_mul]
    rcases hq with rfl | rfl | rfl | rfl
    · show k % 18446744073709551616 / 2 ^ (r * 4) % 16 = _
      rw [dig_of _ _ (by omega)]
      have := p 0 (by omega)
      rwa [Nat.pow_zero, Nat.div_one] at this
    · show k / 2 ^ 64 % 18446744073709551616 / 2 ^ (r * 4) % 16 = _
      rw [dig_of _ _ (by omega)]; exact p 64 (by omega)
    · show k / 2 ^ 128 % 18446744073709551616 / 2 ^ (r * 4) % 16 = _
      rw [dig_of _ _ (by omega)]; exact p 128 (by omega)
    · show k / 2 ^ 192 % 18446744073709551616 / 2 ^ (r * 4) % 16 = _
      rw [dig_of _ _ (by omega)]; exact p 192 (by omega)
  obtain ⟨q, r, hr, hp⟩ : ∃ q r, r < 16 ∧ pl = 16 * q + r := ⟨pl / 16, pl % 16, Nat.mod_lt _ (by decide), by omega⟩
  have hq : q = 0 ∨ q = 1 ∨ q = 2 ∨ q = 3 := by omega
  rcases hq with rfl | rfl | rfl | rfl
  · have := digit_0 k r hr w
    rw [e 0 r hr hp] at this
    rw [show pl = r by omega] at this ⊢
    exact this
  · have := digit_1 k r hr w
    rw [e 1 r hr hp] at this
    rw [show pl = 16 + r by omega] at this ⊢
    exact this
  · have := digit_2 k r hr w
    rw [e 2 r hr hp] at this
    rw [show pl = 32 + r by omega] at this ⊢
    exact this
  · have := digit_3 k r hr w
    rw [e 3 r hr hp] at this
    rw [show pl = 48 + r by omega] at this ⊢
    exact this
end Go.Proofs.YtpggkfdijmnmiaaGreat
set_option linter.unusedVariables false
set_option linter.unusedSimpArgs false
set_option maxRecDepth 100000
namespace Go.Proofs.YtpggkfdijmnmiaaGreat
open Go.RowKit Go.Sort Limbs
def dg (k i : Nat) : Nat := k / 16 ^ (63 - i) % 16
def J.mulN (k : Nat) (p : J) : Nat → J
  | 0 => J.far
  | i + 1 => (p.tim (dg k i)).plus (J.mulN k p i).twice.twice.twice.twice
theorem J.mulN_ok {k : Nat} {p : J} (hp : p.ok) : ∀ i, (p.mulN k i).ok
  | 0 => J.far_ok
  | i + 1 => J.plus_ok (J.tim_ok hp _) (J.twice_ok (J.twice_ok (J.twice_ok (J.twice_ok (J.mulN_ok hp i)))))
theorem mulN_0 (k : Nat) (p : J) : cs12 (p.mulN k 0).x (p.mulN k 0).y (p.mulN k 0).z = #[.int .u64 0, .int .u64 0, .int .u64 0, .int .u64 0, .int .u64 0, .int .u64 0, .int .u64 0, .int .u64 0, .int .u64 0, .int .u64 0, .int .u64 0, .int .u64 0] := by simp [J.mulN, J.far, cs12, lb]
set_option maxHeartbeats 32000000 in
theorem multiple_c (k : Nat) (p : J) (hk : k < W256) (hp : p.ok) (w : World) :
    Calls Tryz.prog 142 #[nv k, fv p] w fun e w' => e = .returned (p.mulN k 64).v ∧ Below w.heap.size w w' := by
  have HTW := Lib.hid (fun (q : J) (hq : q.ok) => twicej hq)
  have HOK := Lib.hid (fun i => J.mulN_ok (k := k) hp i)
  have HPL := Lib.hid (fun (d : Nat) (q : J) (hq : q.ok) => plusj (J.tim_ok hp d) hq)
  have HDG := Lib.hid (fun pl (h : pl < 64) => digit_c k pl h)
  clear hk hp
  obtain ⟨res, hres⟩ : ∃ z, z = p.mulN k 64 := ⟨_, rfl⟩
  rw [← hres]
  have HRES := Lib.hid hres
  clear hres
  obtain ⟨tx, ty, tz⟩ := res
  have e : (J.mk tx ty tz).v = jn tx ty tz := rfl
  rw [e]
  clear e
  simp only [nv, num] at HDG ⊢
  unfold fv
  go_enter Tryz.func142, Tryz.ntmps142
  go_wp2_with fail
  have K2 : Hid (Bk 24 ((((w.alloc (.cells #[.int .u64 (lb k 0 : Nat), .int .u64 (lb k 1 : Nat), .int .u64 (lb k 2 : Nat), .int .u64 (lb k 3 : Nat)] 24)).alloc (.cells #[FV p 0, FV p 1, FV p 2, FV p 3, FV p 4, FV p 5, FV p 6, FV p 7, FV p 8, FV p 9, FV p 10, FV p 11, FV p 12, FV p 13, FV p 14, FV p 15] 165)).alloc (.cells #[.int .u64 0, .int .u64 0, .int .u64 0, .int .u64 0, .int .u64 0, .int .u64 0, .int .u64 0, .int .u64 0, .int .u64 0, .int .u64 0, .int .u64 0, .int .u64 0] 162)).alloc (.cells #[.int .u64 0, .int .u64 0, .int .u64 0, .int .u64 0, .int .u64 0, .int .u64 0, .int .u64 0, .int .u64 0, .int .u64 0, .int .u64 0, .int .u64 0, .int .u64 0] 162)) w.heap.size #[.int .u64 (lb k 0 : Nat), .int .u64 (lb k 1 : Nat), .int .u64 (lb k 2 : Nat), .int .u64 (lb k 3 : Nat)]) := Lib.hid (Bk.alloc (Bk.alloc (Bk.alloc (Bk.new rfl))))
  have K3 : Hid (Bk 165 ((((w.alloc (.cells #[.int .u64 (lb k 0 : Nat), .int .u64 (lb k 1 : Nat), .int .u64 (lb k 2 : Nat), .int .u64 (lb k 3 : Nat)] 24)).alloc (.cells #[FV p 0, FV p 1, FV p 2, FV p 3, FV p 4, FV p 5, FV p 6, FV p 7, FV p 8, FV p 9, FV p 10, FV p 11, FV p 12, FV p 13, FV p 14, FV p 15] 165)).alloc (.cells #[.int .u64 0, .int .u64 0, .int .u64 0, .int .u64 0, .int .u64 0, .int .u64 0, .int .u64 0, .int .u64 0, .int .u64 0, .int .u64 0, .int .u64 0, .int .u64 0] 162)).alloc (.cells #[.int .u64 0, .int .u64 0, .int .u64 0, .int .u64 0, .int .u64 0, .int .u64 0, .int .u64 0, .int .u64 0, .int .u64 0, .int .u64 0, .int .u64 0, .int .u64 0] 162)) (w.heap.size + 1) (fa p 16)) := Lib.hid (Bk.alloc (Bk.alloc (Bk.new (by simp))))
  have K4 : Hid (Bk 162 ((((w.alloc (.cells #[.int .u64 (lb k 0 : Nat), .int .u64 (lb k 1 : Nat), .int .u64 (lb k 2 : Nat), .int .u64 (lb k 3 : Nat)] 24)).alloc (.cells #[FV p 0, FV p 1, FV p 2, FV p 3, FV p 4, FV p 5, FV p 6, FV p 7, FV p 8, FV p 9, FV p 10, FV p 11, FV p 12, FV p 13, FV p 14, FV p 15] 165)).alloc (.cells #[.int .u64 0, .int .u64 0, .int .u64 0, .int .u64 0, .int .u64 0, .int .u64 0, .int .u64 0, .int .u64 0, .int .u64 0, .int .u64 0, .int .u64 0, .int .u64 0] 162)).alloc (.cells #[.int .u64 0, .int .u64 0, .int .u64 0, .int .u64 0, .int .u64 0, .int .u64 0, .int .u64 0, .int .u64 0, .int .u64 0, .int .u64 0, .int .u64 0, .int .u64 0] 162)) (w.heap.size + 1 + 1) #[.int .u64 0, .int .u64 0, .int .u64 0, .int .u64 0, .int .u64 0, .int .u64 0, .int .u64 0, .int .u64 0, .int .u64 0, .int .u64 0, .int .u64 0, .int .u64 0]) := Lib.hid (Bk.alloc (Bk.new (by simp)))
  have K5 : Hid (Bk 162 ((((w.alloc (.cells #[.int .u64 (lb k 0 : Nat), .int .u64 (lb k 1 : Nat), .int .u64 (lb k 2 : Nat), .int .u64 (lb k 3 : Nat)] 24)).alloc (.cells #[FV p 0, FV p 1, FV p 2, FV p 3, FV p 4, FV p 5, FV p 6, FV p 7, FV p 8, FV p 9, FV p 10, FV p 11, FV p 12, FV p 13, FV p 14, FV p 15] 165)).alloc (.cells #[.int .u64 0, .int .u64 0, .int .u64 0, .int .u64 0, .int .u64 0, .int .u64 0, .int .u64 0, .int .u64 0, .int .u64 0, .int .u64 0, .int .u64 0, .int .u64 0] 162)).alloc (.cells #[.int .u64 0, .int .u64 0, .int .u64 0, .int .u64 0, .int .u64 0, .int .u64 0, .int .u64 0, .int .u64 0, .int .u64 0, .int .u64 0, .int .u64 0, .int .u64 0] 162)) (w.heap.size + 1 + 1 + 1) (cs12 (p.mulN k 0).x (p.mulN k 0).y (p.mulN k 0).z)) := Lib.hid (by rw [mulN_0]; exact Bk.new (by simp))
  have HB : Hid (Below w.heap.size w ((((w.alloc (.cells #[.int .u64 (lb k 0 : Nat), .int .u64 (lb k 1 : Nat), .int .u64 (lb k 2 : Nat), .int .u64 (lb k 3 : Nat)] 24)).alloc (.cells #[FV p 0, FV p 1, FV p 2, FV p 3, FV p 4, FV p 5, FV p 6, FV p 7, FV p 8, FV p 9, FV p 10, FV p 11, FV p 12, FV p 13, FV p 14, FV p 15] 165)).alloc (.cells #[.int .u64 0, .int .u64 0, .int .u64 0, .int .u64 0, .int .u64 0, .int .u64 0, .int .u64 0, .int .u64 0, .int .u64 0, .int .u64 0, .int .u64 0, .int .u64 0] 162)).alloc (.cells #[.int .u64 0, .int .u64 0, .int .u64 0, .int .u64 0, .int .u64 0, .int .u64 0, .int .u64 0, .int .u64 0, .int .u64 0, .int .u64 0, .int .u64 0, .int .u64 0] 162))) := Lib.hid (by go_grown)
  generalize ((((w.alloc (.cells #[.int .u64 (lb k 0 : Nat), .int .u64 (lb k 1 : Nat), .int .u64 (lb k 2 : Nat), .int .u64 (lb k 3 : Nat)] 24)).alloc (.cells #[FV p 0, FV p 1, FV p 2, FV p 3, FV p 4, FV p 5, FV p 6, FV p 7, FV p 8, FV p 9, FV p 10, FV p 11, FV p 12, FV p 13, FV p 14, FV p 15] 165)).alloc (.cells #[.int .u64 0, .int .u64 0, .int .u64 0, .int .u64 0, .int .u64 0, .int .u64 0, .int .u64 0, .int .u64 0, .int .u64 0, .int .u64 0, .int .u64 0, .int .u64 0] 162)).alloc (.cells #[.int .u64 0, .int .u64 0, .int .u64 0, .int .u64 0, .int .u64 0, .int .u64 0, .int .u64 0, .int .u64 0, .int .u64 0, .int .u64 0, .int .u64 0, .int .u64 0] 162)) = W at K2 K3 K4 K5 HB ⊢
  obtain ⟨g3, hg3⟩ : ∃ z, z = w.heap.size + 1 := ⟨_, rfl⟩
  obtain ⟨g4, hg4⟩ : ∃ z, z = w.heap.size + 1 + 1 := ⟨_, rfl⟩
  obtain ⟨g5, hg5⟩ : ∃ z, z = w.heap.size + 1 + 1 + 1 := ⟨_, rfl⟩
  rw [← hg3] at K3
  rw [← hg4] at K4
  rw [← hg5] at K5
  rw [← hg5, ← hg4, ← hg3]
  obtain ⟨g2, hg2⟩ : ∃ z, z = w.heap.size := ⟨_, rfl⟩
  have e : (Value.pointer (some ⟨w.heap.size, 0, none⟩)) = .pointer (some ⟨g2, 0, none⟩) := by rw [hg2]
  rw [e]
  rw [← hg2] at K2
  have HG : Hid ((w.heap.size ≤ g4 ∧ w.heap.size ≤ g5) ∧ (g2 ≠ g5 ∧ g3 ≠ g5 ∧ g4 ≠ g5)) := Lib.hid ⟨⟨by omega, by omega⟩, by omega, by omega, by omega⟩
  clear e hg3 hg4 hg5 hg2
  go_loopw [7] (fun b wr => ∃ i : Nat, i ≤ 64 ∧ b = .int .i64 (i : Int) ∧ Bk 24 wr g2 #[.int .u64 (lb k 0 : Nat), .int .u64 (lb k 1 : Nat), .int .u64 (lb k 2 : Nat), .int .u64 (lb k 3 : Nat)] ∧ Bk 165 wr g3 (fa p 16) ∧ Bk 162 wr g4 #[.int .u64 0, .int .u64 0, .int .u64 0, .int .u64 0, .int .u64 0, .int .u64 0, .int .u64 0, .int .u64 0, .int .u64 0, .int .u64 0, .int .u64 0, .int .u64 0] ∧ Bk 162 wr g5 (cs12 (p.mulN k i).x (p.mulN k i).y (p.mulN k i).z) ∧ Below w.heap.size w wr) (fun b _ => 64 - (intOf b).toNat)
  case atStart => exact ⟨0, by omega, rfl, K2.out, K3.out, K4.out, K5.out, HB.out⟩
  case round =>
    clear K2 K3 K4 K5 HB
    obtain ⟨i, hi, rfl, k2, k3, k4, k5, hb⟩ := hrel
    have K2 := Lib.hid k2
    have K3 := Lib.hid k3
    have K4 := Lib.hid k4
    have K5 := Lib.hid k5
    have HB := Lib.hid hb
    clear k2 k3 k4 k5 hb
    by_cases hlt : i < 64
    · go_wp2_with fail
      refine wp_loop_rounds 5 ?_
      have HO0 := Lib.hid (HOK.out i)
      obtain ⟨T0, hT0⟩ : ∃ z, z = p.mulN k i := ⟨_, rfl⟩
      rw [← hT0] at HO0 K5
      obtain ⟨a0x, a0y, a0z⟩ := T0
      have HT0 := Lib.hid hT0
      clear hT0
      simp only [] at K5
      have HO1 := Lib.hid (J.twice_ok HO0.out)
      have HC := Lib.hid (HTW.out ⟨a0x, a0y, a0z⟩ HO0.out)
      obtain ⟨T1, hT1⟩ : ∃ z, z = (J.mk a0x a0y a0z).twice := ⟨_, rfl⟩
      rw [← hT1] at HC HO1
      obtain ⟨a1x, a1y, a1z⟩ := T1
      have HT1 := Lib.hid hT1
      clear hT1 HO0
      simp only [J.v, jn] at HC
      obtain ⟨⟨x0, x1, x2, x3⟩, ⟨y0, y1, y2, y3⟩, z0, z1, z2, z3⟩ := K5.out.cells12
      rw [rounds_succ]
      go_wp2_with fail
      refine (keep w.heap.size w (HC.out _) HB.out (Nat.le_refl _)).mono ?_
      rintro e w1 ⟨rfl, hb, hkk⟩
      have K2' := Lib.hid (K2.out.below hkk)
      have K3' := Lib.hid (K3.out.below hkk)
      have K4' := Lib.hid (K4.out.below hkk)
      have K5' := Lib.hid (K5.out.below hkk)
      have HB' := Lib.hid hb
      clear hb hkk K2 K3 K4 K5 HB HC x0 x1 x2 x3 y0 y1 y2 y3 z0 z1 z2 z3
      obtain ⟨⟨f0, f1, f2, f3⟩, ⟨f4, f5, f6, f7⟩, f8, f9, f10, f11⟩ := K5'.out.fros12
      obtain ⟨⟨c0, c1, c2, c3⟩, ⟨c4, c5, c6, c7⟩, c8, c9, c10, c11⟩ := K5'.out.cells12
      go_wp2_with fail
      clear f0 f1 f2 f3 f4 f5 f6 f7 f8 f9 f10 f11 c0 c1 c2 c3 c4 c5 c6 c7 c8 c9 c10 c11
      have K2 : Hid (Bk 24 ((((((((((((w1.setCell ⟨g5, 0, none⟩ (.int .u64 (lb a1x 0 : Nat))).setCell ⟨g5, 1, none⟩ (.int .u64 (lb a1x 1 : Nat))).setCell ⟨g5, 2, none⟩ (.int .u64 (lb a1x 2 : Nat))).setCell ⟨g5, 3, none⟩ (.int .u64 (lb a1x 3 : Nat))).setCell ⟨g5, 4, none⟩ (.int .u64 (lb a1y 0 : Nat))).setCell ⟨g5, 5, none⟩ (.int .u64 (lb a1y 1 : Nat))).setCell ⟨g5, 6, none⟩ (.int .u64 (lb a1y 2 : Nat))).setCell ⟨g5, 7, none⟩ (.int .u64 (lb a1y 3 : Nat))).setCell ⟨g5, 8, none⟩ (.int .u64 (lb a1z 0 : Nat))).setCell ⟨g5, 9, none⟩ (.int .u64 (lb a1z 1 : Nat))).setCell ⟨g5, 10, none⟩ (.int .u64 (lb a1z 2 : Nat))).setCell ⟨g5, 11, none⟩ (.int .u64 (lb a1z 3 : Nat))) g2 #[.int .u64 (lb k 0 : Nat), .int .u64 (lb k 1 : Nat), .int .u64 (lb k 2 : Nat), .int .u64 (lb k 3 : Nat)]) := Lib.hid (Bk.puto12 HG.out.2.1 K2'.out)
      have K3 : Hid (Bk 165 ((((((((((((w1.setCell ⟨g5, 0, none⟩ (.int .u64 (lb a1x 0 : Nat))).setCell ⟨g5, 1, none⟩ (.int .u64 (lb a1x 1 : Nat))).setCell ⟨g5, 2, none⟩ (.int .u64 (lb a1x 2 : Nat))).setCell ⟨g5, 3, none⟩ (.int .u64 (lb a1x 3 : Nat))).setCell ⟨g5, 4, none⟩ (.int .u64 (lb a1y 0 : Nat))).setCell ⟨g5, 5, none⟩ (.int .u64 (lb a1y 1 : Nat))).setCell ⟨g5, 6, none⟩ (.int .u64 (lb a1y 2 : Nat))).setCell ⟨g5, 7, none⟩ (.int .u64 (lb a1y 3 : Nat))).setCell ⟨g5, 8, none⟩ (.int .u64 (lb a1z 0 : Nat))).setCell ⟨g5, 9, none⟩ (.int .u64 (lb a1z 1 : Nat))).setCell ⟨g5, 10, none⟩ (.int .u64 (lb a1z 2 : Nat))).setCell ⟨g5, 11, none⟩ (.int .u64 (lb a1z 3 : Nat))) g3 (fa p 16)) := Lib.hid (Bk.puto12 HG.out.2.2.1 K3'.out)
      have K4 : Hid (Bk 162 ((((((((((((w1.setCell ⟨g5, 0, none⟩ (.int .u64 (lb a1x 0 : Nat))).setCell ⟨g5, 1, none⟩ (.int .u64 (lb a1x 1 : Nat))).setCell ⟨g5, 2, none⟩ (.int .u64 (lb a1x 2 : Nat))).setCell ⟨g5, 3, none⟩ (.int .u64 (lb a1x 3 : Nat))).setCell ⟨g5, 4, none⟩ (.int .u64 (lb a1y 0 : Nat))).setCell ⟨g5, 5, none⟩ (.int .u64 (lb a1y 1 : Nat))).setCell ⟨g5, 6, none⟩ (.int .u64 (lb a1y 2 : Nat))).setCell ⟨g5, 7, none⟩ (.int .u64 (lb a1y 3 : Nat))).setCell ⟨g5, 8, none⟩ (.int .u64 (lb a1z 0 : Nat))).setCell ⟨g5, 9, none⟩ (.int .u64 (lb a1z 1 : Nat))).setCell ⟨g5, 10, none⟩ (.int .u64 (lb a1z 2 : Nat))).setCell ⟨g5, 11, none⟩ (.int .u64 (lb a1z 3 : Nat))) g4 #[.int .u64 0, .int .u64 0, .int .u64 0, .int .u64 0, .int .u64 0, .int .u64 0, .int .u64 0, .int .u64 0, .int .u64 0, .int .u64 0, .int .u64 0, .int .u64 0]) := Lib.hid (Bk.puto12 HG.out.2.2.2 K4'.out)
      have K5 : Hid (Bk 162 ((((((((((((w1.setCell ⟨g5, 0, none⟩ (.int .u64 (lb a1x 0 : Nat))).setCell ⟨g5, 1, none⟩ (.int .u64 (lb a1x 1 : Nat))).setCell ⟨g5, 2, none⟩ (.int .u64 (lb a1x 2 : Nat))).setCell ⟨g5, 3, none⟩ (.int .u64 (lb a1x 3 : Nat))).setCell ⟨g5, 4, none⟩ (.int .u64 (lb a1y 0 : Nat))).setCell ⟨g5, 5, none⟩ (.int .u64 (lb a1y 1 : Nat))).setCell ⟨g5, 6, none⟩ (.int .u64 (lb a1y 2 : Nat))).setCell ⟨g5, 7, none⟩ (.int .u64 (lb a1y 3 : Nat))).setCell ⟨g5, 8, none⟩ (.int .u64 (lb a1z 0 : Nat))).setCell ⟨g5, 9, none⟩ (.int .u64 (lb a1z 1 : Nat))).setCell ⟨g5, 10, none⟩ (.int .u64 (lb a1z 2 : Nat))).setCell ⟨g5, 11, none⟩ (.int .u64 (lb a1z 3 : Nat))) g5 #[.int .u64 (lb a1x 0 : Nat), .int .u64 (lb a1x 1 : Nat), .int .u64 (lb a1x 2 : Nat), .int .u64 (lb a1x 3 : Nat), .int .u64 (lb a1y 0 : Nat), .int .u64 (lb a1y 1 : Nat), .int .u64 (lb a1y 2 : Nat), .int .u64 (lb a1y 3 : Nat), .int .u64 (lb a1z 0 : Nat), .int .u64 (lb a1z 1 : Nat), .int .u64 (lb a1z 2 : Nat), .int .u64 (lb a1z 3 : Nat)]) := Lib.hid (Bk.put12 K5'.out)
      have HB : Hid (Below w.heap.size w ((((((((((((w1.setCell ⟨g5, 0, none⟩ (.int .u64 (lb a1x 0 : Nat))).setCell ⟨g5, 1, none⟩ (.int .u64 (lb a1x 1 : Nat))).setCell ⟨g5, 2, none⟩ (.int .u64 (lb a1x 2 : Nat))).setCell ⟨g5, 3, none⟩ (.int .u64 (lb a1x 3 : Nat))).setCell ⟨g5, 4, none⟩ (.int .u64 (lb a1y 0 : Nat))).setCell ⟨g5, 5, none⟩ (.int .u64 (lb a1y 1 : Nat))).setCell ⟨g5, 6, none⟩ (.int .u64 (lb a1y 2 : Nat))).setCell ⟨g5, 7, none⟩ (.int .u64 (lb a1y 3 : Nat))).setCell ⟨g5, 8, none⟩ (.int .u64 (lb a1z 0 : Nat))).setCell ⟨g5, 9, none⟩ (.int .u64 (lb a1z 1 : Nat))).setCell ⟨g5, 10, none⟩ (.int .u64 (lb a1z 2 : Nat))).setCell ⟨g5, 11, none⟩ (.int .u64 (lb a1z 3 : Nat)))) := Lib.hid (by have hb := HB'.out; have hg := HG.out.1.2; go_grown)
      generalize ((((((((((((w1.setCell ⟨g5, 0, none⟩ (.int .u64 (lb a1x 0 : Nat))).setCell ⟨g5, 1, none⟩ (.int .u64 (lb a1x 1 : Nat))).setCell ⟨g5, 2, none⟩ (.int .u64 (lb a1x 2 : Nat))).setCell ⟨g5, 3, none⟩ (.int .u64 (lb a1x 3 : Nat))).setCell ⟨g5, 4, none⟩ (.int .u64 (lb a1y 0 : Nat))).setCell ⟨g5, 5, none⟩ (.int .u64 (lb a1y 1 : Nat))).setCell ⟨g5, 6, none⟩ (.int .u64 (lb a1y 2 : Nat))).setCell ⟨g5, 7, none⟩ (.int .u64 (lb a1y 3 : Nat))).setCell ⟨g5, 8, none⟩ (.int .u64 (lb a1z 0 : Nat))).setCell ⟨g5, 9, none⟩ (.int .u64 (lb a1z 1 : Nat))).setCell ⟨g5, 10, none⟩ (.int .u64 (lb a1z 2 : Nat))).setCell ⟨g5, 11, none⟩ (.int .u64 (lb a1z 3 : Nat))) = V1 at K2 K3 K4 K5 HB ⊢
      clear K2' K3' K4' K5' HB'
      have HO2 := Lib.hid (J.twice_ok HO1.out)
      have HC := Lib.hid (HTW.out ⟨a1x, a1y, a1z⟩ HO1.out)
      obtain ⟨T2, hT2⟩ : ∃ z, z = (J.mk a1x a1y a1z).twice := ⟨_, rfl⟩
      rw [← hT2] at HC HO2
      obtain ⟨a2x, a2y, a2z⟩ := T2
      have HT2 := Lib.hid hT2
      clear hT2 HO1
      simp only [J.v, jn] at HC
      obtain ⟨⟨x0, x1, x2, x3⟩, ⟨y0, y1, y2, y3⟩, z0, z1, z2, z3⟩ := K5.out.cells12
      rw [rounds_succ]
      go_wp2_with fail
      refine (keep w.heap.size w (HC.out _) HB.out (Nat.le_refl _)).mono ?_
      rintro e w2 ⟨rfl, hb, hkk⟩
      have K2' := Lib.hid (K2.out.below hkk)
      have K3' := Lib.hid (K3.out.below hkk)
      have K4' := Lib.hid (K4.out.below hkk)
      have K5' := Lib.hid (K5.out.below hkk)
      have HB' := Lib.hid hb
      clear hb hkk K2 K3 K4 K5 HB HC x0 x1 x2 x3 y0 y1 y2 y3 z0 z1 z2 z3
      obtain ⟨⟨f0, f1, f2, f3⟩, ⟨f4, f5, f6, f7⟩, f8, f9, f10, f11⟩ := K5'.out.fros12
      obtain ⟨⟨c0, c1, c2, c3⟩, ⟨c4, c5, c6, c7⟩, c8, c9, c10, c11⟩ := K5'.out.cells12
      go_wp2_with fail
      clear f0 f1 f2 f3 f4 f5 f6 f7 f8 f9 f10 f11 c0 c1 c2 c3 c4 c5 c6 c7 c8 c9 c10 c11
      have K2 : Hid (Bk 24 ((((((((((((w2.setCell ⟨g5, 0, none⟩ (.int .u64 (lb a2x 0 : Nat))).setCell ⟨g5, 1, none⟩ (.int .u64 (lb a2x 1 : Nat))).setCell ⟨g5, 2, none⟩ (.int .u64 (lb a2x 2 : Nat))).setCell ⟨g5, 3, none⟩ (.int .u64 (lb a2x 3 : Nat))).setCell ⟨g5, 4, none⟩ (.int .u64 (lb a2y 0 : Nat))).setCell ⟨g5, 5, none⟩ (.int .u64 (lb a2y 1 : Nat))).setCell ⟨g5, 6, none⟩ (.int .u64 (lb a2y 2 : Nat))).setCell ⟨g5, 7, none⟩ (.int .u64 (lb a2y 3 : Nat))).setCell ⟨g5, 8, none⟩ (.int .u64 (lb a2z 0 : Nat))).setCell ⟨g5, 9, none⟩ (.int .u64 (lb a2z 1 : Nat))).setCell ⟨g5, 10, none⟩ (.int .u64 (lb a2z 2 : Nat))).setCell ⟨g5, 11, none⟩ (.int .u64 (lb a2z 3 : Nat))) g2 #[.int .u64 (lb k 0 : Nat), .int .u64 (lb k 1 : Nat), .int .u64 (lb k 2 : Nat), .int .u64 (lb k 3 : Nat)]) := Lib.hid (Bk.puto12 HG.out.2.1 K2'.out)
      have K3 : Hid (Bk 165 ((((((((((((w2.setCell ⟨g5, 0, none⟩ (.int .u64 (lb a2x 0 : Nat))).setCell ⟨g5, 1, none⟩ (.int .u64 (lb a2x 1 : Nat))).setCell ⟨g5, 2, none⟩ (.int .u64 (lb a2x 2 : Nat))).setCell ⟨g5, 3, none⟩ (.int .u64 (lb a2x 3 : Nat))).setCell ⟨g5, 4, none⟩ (.int .u64 (lb a2y 0 : Nat))).setCell ⟨g5, 5, none⟩ (.int .u64 (lb a2y 1 : Nat))).setCell ⟨g5, 6, none⟩ (.int .u64 (lb a2y 2 : Nat))).setCell ⟨g5, 7, none⟩ (.int .u64 (lb a2y 3 : Nat))).setCell ⟨g5, 8, none⟩ (.int .u64 (lb a2z 0 : Nat))).setCell ⟨g5, 9, none⟩ (.int .u64 (lb a2z 1 : Nat))).setCell ⟨g5, 10, none⟩ (.int .u64 (lb a2z 2 : Nat))).setCell ⟨g5, 11, none⟩ (.int .u64 (lb a2z 3 : Nat))) g3 (fa p 16)) := Lib.hid (Bk.puto12 HG.out.2.2.1 K3'.out)
      have K4 : Hid (Bk 162 ((((((((((((w2.setCell ⟨g5, 0, none⟩ (.int .u64 (lb a2x 0 : Nat))).setCell ⟨g5, 1, none⟩ (.int .u64 (lb a2x 1 : Nat))).setCell ⟨g5, 2, none⟩ (.int .u64 (lb a2x 2 : Nat))).setCell ⟨g5, 3, none⟩ (.int .u64 (lb a2x 3 : Nat))).setCell ⟨g5, 4, none⟩ (.int .u64 (lb a2y 0 : Nat))).setCell ⟨g5, 5, none⟩ (.int .u64 (lb a2y 1 : Nat))).setCell ⟨g5, 6, none⟩ (.int .u64 (lb a2y 2 : Nat))).setCell ⟨g5, 7, none⟩ (.int .u64 (lb a2y 3 : Nat))).setCell ⟨g5, 8, none⟩ (.int .u64 (lb a2z 0 : Nat))).setCell ⟨g5, 9, none⟩ (.int .u64 (lb a2z 1 : Nat))).setCell ⟨g5, 10, none⟩ (.int .u64 (lb a2z 2 : Nat))).setCell ⟨g5, 11, none⟩ (.int .u64 (lb a2z 3 : Nat))) g4 #[.int .u64 0, .int .u64 0, .int .u64 0, .int .u64 0, .int .u64 0, .int .u64 0, .int .u64 0, .int .u64 0, .int .u64 0, .int .u64 0, .int .u64 0, .int .u64 0]) := Lib.hid (Bk.puto12 HG.out.2.2.2 K4'.out)
      have K5 : Hid (Bk 162 ((((((((((((w2.setCell ⟨g5, 0, none⟩ (.int .u64 (lb a2x 0 : Nat))).setCell ⟨g5, 1, none⟩ (.int .u64 (lb a2x 1 : Nat))).setCell ⟨g5, 2, none⟩ (.int .u64 (lb a2x 2 : Nat))).setCell ⟨g5, 3, none⟩ (.int .u64 (lb a2x 3 : Nat))).setCell ⟨g5, 4, none⟩ (.int .u64 (lb a2y 0 : Nat))).setCell ⟨g5, 5, none⟩ (.int .u64 (lb a2y 1 : Nat))).setCell ⟨g5, 6, none⟩ (.int .u64 (lb a2y 2 : Nat))).setCell ⟨g5, 7, none⟩ (.int .u64 (lb a2y 3 : Nat))).setCell ⟨g5, 8, none⟩ (.int .u64 (lb a2z 0 : Nat))).setCell ⟨g5, 9, none⟩ (.int .u64 (lb a2z 1 : Nat))).setCell ⟨g5, 10, none⟩ (.int .u64 (lb a2z 2 : Nat))).setCell ⟨g5, 11, none⟩ (.int .u64 (lb a2z 3 : Nat))) g5 #[.int .u64 (lb a2x 0 : Nat), .int .u64 (lb a2x 1 : Nat), .int .u64 (lb a2x 2 : Nat), .int .u64 (lb a2x 3 : Nat), .int .u64 (lb a2y 0 : Nat), .int .u64 (lb a2y 1 : Nat), .int .u64 (lb a2y 2 : Nat), .int .u64 (lb a2y 3 : Nat), .int .u64 (lb a2z 0 : Nat), .int .u64 (lb a2z 1 : Nat), .int .u64 (lb a2z 2 : Nat), .int .u64 (lb a2z 3 : Nat)]) := Lib.hid (Bk.put12 K5'.out)
      have HB : Hid (Below w.heap.size w ((((((((((((w2.setCell ⟨g5, 0, none⟩ (.int .u64 (lb a2x 0 : Nat))).setCell ⟨g5, 1, none⟩ (.int .u64 (lb a2x 1 : Nat))).setCell ⟨g5, 2, none⟩ (.int .u64 (lb a2x 2 : Nat))).setCell ⟨g5, 3, none⟩ (.int .u64 (lb a2x 3 : Nat))).setCell ⟨g5, 4, none⟩ (.int .u64 (lb a2y 0 : Nat))).setCell ⟨g5, 5, none⟩ (.int .u64 (lb a2y 1 : Nat))).setCell ⟨g5, 6, none⟩ (.int .u64 (lb a2y 2 : Nat))).setCell ⟨g5, 7, none⟩ (.int .u64 (lb a2y 3 : Nat))).setCell ⟨g5, 8, none⟩ (.int .u64 (lb a2z 0 : Nat))).setCell ⟨g5, 9, none⟩ (.int .u64 (lb a2z 1 : Nat))).setCell ⟨g5, 10, none⟩ (.int .u64 (lb a2z 2 : Nat))).setCell ⟨g5, 11, none⟩ (.int .u64 (lb a2z 3 : Nat)))) := Lib.hid (by have hb := HB'.out; have hg := HG.out.1.2; go_grown)
      generalize ((((((((((((w2.setCell ⟨g5, 0, none⟩ (.int .u64 (lb a2x 0 : Nat))).setCell ⟨g5, 1, none⟩ (.int .u64 (lb a2x 1 : Nat))).setCell ⟨g5, 2, none⟩ (.int .u64 (lb a2x 2 : Nat))).setCell ⟨g5, 3, none⟩ (.int .u64 (lb a2x 3 : Nat))).setCell ⟨g5, 4, none⟩ (.int .u64 (lb a2y 0 : Nat))).setCell ⟨g5, 5, none⟩ (.int .u64 (lb a2y 1 : Nat))).setCell ⟨g5, 6, none⟩ (.int .u64 (lb a2y 2 : Nat))).setCell ⟨g5, 7, none⟩ (.int .u64 (lb a2y 3 : Nat))).setCell ⟨g5, 8, none⟩ (.int .u64 (lb a2z 0 : Nat))).setCell ⟨g5, 9, none⟩ (.int .u64 (lb a2z 1 : Nat))).setCell ⟨g5, 10, none⟩ (.int .u64 (lb a2z 2 : Nat))).setCell ⟨g5, 11, none⟩ (.int .u64 (lb a2z 3 : Nat))) = V2 at K2 K3 K4 K5 HB ⊢
      clear K2' K3' K4' K5' HB'
      have HO3 := Lib.hid (J.twice_ok HO2.out)
      have HC := Lib.hid (HTW.out ⟨a2x, a2y, a2z⟩ HO2.out)
      obtain ⟨T3, hT3⟩ : ∃ z, z = (J.mk a2x a2y a2z).twice := ⟨_, rfl⟩
      rw [← hT3] at HC HO3
      obtain ⟨a3x, a3y, a3z⟩ := T3
      have HT3 := Lib.hid hT3
      clear hT3 HO2
      simp only [J.v, jn] at HC
      obtain ⟨⟨x0, x1, x2, x3⟩, ⟨y0, y1, y2, y3⟩, z0, z1, z2, z3⟩ := K5.out.cells12
      rw [rounds_succ]
      go_wp2_with fail
      refine (keep w.heap.size w (HC.out _) HB.out (Nat.le_refl _)).mono ?_
      rintro e w3 ⟨rfl, hb, hkk⟩
      have K2' := Lib.hid (K2.out.below hkk)
      have K3' := Lib.hid (K3.out.below hkk)
      have K4' := Lib.hid (K4.out.below hkk)
      have K5' := Lib.hid (K5.out.below hkk)
      have HB' := Lib.hid hb
      clear hb hkk K2 K3 K4 K5 HB HC x0 x1 x2 x3 y0 y1 y2 y3 z0 z1 z2 z3
      obtain ⟨⟨f0, f1, f2, f3⟩, ⟨f4, f5, f6, f7⟩, f8, f9, f10, f11⟩ := K5'.out.fros12
      obtain ⟨⟨c0, c1, c2, c3⟩, ⟨c4, c5, c6, c7⟩, c8, c9, c10, c11⟩ := K5'.out.cells12
      go_wp2_with fail
      clear f0 f1 f2 f3 f4 f5 f6 f7 f8 f9 f10 f11 c0 c1 c2 c3 c4 c5 c6 c7 c8 c9 c10 c11
      have K2 : Hid (Bk 24 ((((((((((((w3.setCell ⟨g5, 0, none⟩ (.int .u64 (lb a3x 0 : Nat))).setCell ⟨g5, 1, none⟩ (.int .u64 (lb a3x 1 : Nat))).setCell ⟨g5, 2, none⟩ (.int .u64 (lb a3x 2 : Nat))).setCell ⟨g5, 3, none⟩ (.int .u64 (lb a3x 3 : Nat))).setCell ⟨g5, 4, none⟩ (.int .u64 (lb a3y 0 : Nat))).setCell ⟨g5, 5, none⟩ (.int .u64 (lb a3y 1 : Nat))).setCell ⟨g5, 6, none⟩ (.int .u64 (lb a3y 2 : Nat))).setCell ⟨g5, 7, none⟩ (.int .u64 (lb a3y 3 : Nat))).setCell ⟨g5, 8, none⟩ (.int .u64 (lb a3z 0 : Nat))).setCell ⟨g5, 9, none⟩ (.int .u64 (lb a3z 1 : Nat))).setCell ⟨g5, 10, none⟩ (.int .u64 (lb a3z 2 : Nat))).setCell ⟨g5, 11, none⟩ (.int .u64 (lb a3z 3 : Nat))) g2 #[.int .u64 (lb k 0 : Nat), .int .u64 (lb k 1 : Nat), .int .u64 (lb k 2 : Nat), .int .u64 (lb k 3 : Nat)]) := Lib.hid (Bk.puto12 HG.out.2.1 K2'.out)
      have K3 : Hid (Bk 165 ((((((((((((w3.setCell ⟨g5, 0, none⟩ (.int .u64 (lb a3x 0 : Nat))).setCell ⟨g5, 1, none⟩ (.int .u64 (lb a3x 1 : Nat))).setCell ⟨g5, 2, none⟩ (.int .u64 (lb a3x 2 : Nat))).setCell ⟨g5, 3, none⟩ (.int .u64 (lb a3x 3 : Nat))).setCell ⟨g5, 4, none⟩ (.int .u64 (lb a3y 0 : Nat))).setCell ⟨g5, 5, none⟩ (.int .u64 (lb a3y 1 : Nat))).setCell ⟨g5, 6, none⟩ (.int .u64 (lb a3y 2 : Nat))).setCell ⟨g5, 7, none⟩ (.int .u64 (lb a3y 3 : Nat))).setCell ⟨g5, 8, none⟩ (.int .u64 (lb a3z 0 : Nat))).setCell ⟨g5, 9, none⟩ (.int .u64 (lb a3z 1 : Nat))).setCell ⟨g5, 10, none⟩ (.int .u64 (lb a3z 2 : Nat))).setCell ⟨g5, 11, none⟩ (.int .u64 (lb a3z 3 : Nat))) g3 (fa p 16)) := Lib.hid (Bk.puto12 HG.out.2.2.1 K3'.out)
      have K4 : Hid (Bk 162 ((((((((((((w3.setCell ⟨g5, 0, none⟩ (.int .u64 (lb a3x 0 : Nat))).setCell ⟨g5, 1, none⟩ (.int .u64 (lb a3x 1 : Nat))).setCell ⟨g5, 2, none⟩ (.int .u64 (lb a3x 2 : Nat))).setCell ⟨g5, 3, none⟩ (.int .u64 (lb a3x 3 : Nat))).setCell ⟨g5, 4, none⟩ (.int .u64 (lb a3y 0 : Nat))).setCell ⟨g5, 5, none⟩ (.int .u64 (lb a3y 1 : Nat))).setCell ⟨g5, 6, none⟩ (.int .u64 (lb a3y 2 : Nat))).setCell ⟨g5, 7, none⟩ (.int .u64 (lb a3y 3 : Nat))).setCell ⟨g5, 8, none⟩ (.int .u64 (lb a3z 0 : Nat))).setCell ⟨g5, 9, none⟩ (.int .u64 (lb a3z 1 : Nat))).setCell ⟨g5, 10, none⟩ (.int .u64 (lb a3z 2 : Nat))).setCell ⟨g5, 11, none⟩ (.int .u64 (lb a3z 3 : Nat))) g4 #[.int .u64 0, .int .u64 0, .int .u64 0, .int .u64 0, .int .u64 0, .int .u64 0, .int .u64 0, .int .u64 0, .int .u64 0, .int .u64 0, .int .u64 0, .int .u64 0]) := Lib.hid (Bk.puto12 HG.out.2.2.2 K4'.out)
      have K5 : Hid (Bk 162 ((((((((((((w3.setCell ⟨g5, 0, none⟩ (.int .u64 (lb a3x 0 : Nat))).setCell ⟨g5, 1, none⟩ (.int .u64 (lb a3x 1 : Nat))).setCell ⟨g5, 2, none⟩ (.int .u64 (lb a3x 2 : Nat))).setCell ⟨g5, 3, none⟩ (.int .u64 (lb a3x 3 : Nat))).setCell ⟨g5, 4, none⟩ (.int .u64 (lb a3y 0 : Nat))).setCell ⟨g5, 5, none⟩ (.int .u64 (lb a3y 1 : Nat))).setCell ⟨g5, 6, none⟩ (.int .u64 (lb a3y 2 : Nat))).setCell ⟨g5, 7, none⟩ (.int .u64 (lb a3y 3 : Nat))).setCell ⟨g5, 8, none⟩ (.int .u64 (lb a3z 0 : Nat))).setCell ⟨g5, 9, none⟩ (.int .u64 (lb a3z 1 : Nat))).setCell ⟨g5, 10, none⟩ (.int .u64 (lb a3z 2 : Nat))).setCell ⟨g5, 11, none⟩ (.int .u64 (lb a3z 3 : Nat))) g5 #[.int .u64 (lb a3x 0 : Nat), .int .u64 (lb a3x 1 : Nat), .int .u64 (lb a3x 2 : Nat), .int .u64 (lb a3x 3 : Nat), .int .u64 (lb a3y 0 : Nat), .int .u64 (lb a3y 1 : Nat), .int .u64 (lb a3y 2 : Nat), .int .u64 (lb a3y 3 : Nat), .int .u64 (lb a3z 0 : Nat), .int .u64 (lb a3z 1 : Nat), .int .u64 (lb a3z 2 : Nat), .int .u64 (lb a3z 3 : Nat)]) := Lib.hid (Bk.put12 K5'.out)
      have HB : Hid (Below w.heap.size w ((((((((((((w3.setCell ⟨g5, 0, none⟩ (.int .u64 (lb a3x 0 : Nat))).setCell ⟨g5, 1, none⟩ (.int .u64 (lb a3x 1 : Nat))).setCell ⟨g5, 2, none⟩ (.int .u64 (lb a3x 2 : Nat))).setCell ⟨g5, 3, none⟩ (.int .u64 (lb a3x 3 : Nat))).setCell ⟨g5, 4, none⟩ (.int .u64 (lb a3y 0 : Nat))).setCell ⟨g5, 5, none⟩ (.int .u64 (lb a3y 1 : Nat))).setCell ⟨g5, 6, none⟩ (.int .u64 (lb a3y 2 : Nat))).setCell ⟨g5, 7, none⟩ (.int .u64 (lb a3y 3 : Nat))).setCell ⟨g5, 8, none⟩ (.int .u64 (lb a3z 0 : Nat))).setCell ⟨g5, 9, none⟩ (.int .u64 (lb a3z 1 : Nat))).setCell ⟨g5, 10, none⟩ (.int .u64 (lb a3z 2 : Nat))).setCell ⟨g5, 11, none⟩ (.int .u64 (lb a3z 3 : Nat)))) := Lib.hid (by have hb := HB'.out; have hg := HG.out.1.2; go_grown)
      generalize ((((((((((((w3.setCell ⟨g5, 0, none⟩ (.int .u64 (lb a3x 0 : Nat))).setCell ⟨g5, 1, none⟩ (.int .u64 (lb a3x 1 : Nat))).setCell ⟨g5, 2, none⟩ (.int .u64 (lb a3x 2 : Nat))).setCell ⟨g5, 3, none⟩ (.int .u64 (lb a3x 3 : Nat))).setCell ⟨g5, 4, none⟩ (.int .u64 (lb a3y 0 : Nat))).setCell ⟨g5, 5, none⟩ (.int .u64 (lb a3y 1 : Nat))).setCell ⟨g5, 6, none⟩ (.int .u64 (lb a3y 2 : Nat))).setCell ⟨g5, 7, none⟩ (.int .u64 (lb a3y 3 : Nat))).setCell ⟨g5, 8, none⟩ (.int .u64 (lb a3z 0 : Nat))).setCell ⟨g5, 9, none⟩ (.int .u64 (lb a3z 1 : Nat))).setCell ⟨g5, 10, none⟩ (.int .u64 (lb a3z 2 : Nat))).setCell ⟨g5, 11, none⟩ (.int .u64 (lb a3z 3 : Nat))) = V3 at K2 K3 K4 K5 HB ⊢
      clear K2' K3' K4' K5' HB'
      have HO4 := Lib.hid (J.twice_ok HO3.out)
      have HC := Lib.hid (HTW.out ⟨a3x, a3y, a3z⟩ HO3.out)
      obtain ⟨T4, hT4⟩ : ∃ z, z = (J.mk a3x a3y a3z).twice := ⟨_, rfl⟩
      rw [← hT4] at HC HO4
      obtain ⟨a4x, a4y, a4z⟩ := T4
      have HT4 := Lib.hid hT4
      clear hT4 HO3
      simp only [J.v, jn] at HC
      obtain ⟨⟨x0, x1, x2, x3⟩, ⟨y0, y1, y2, y3⟩, z0, z1, z2, z3⟩ := K5.out.cells12
      rw [rounds_succ]
      go_wp2_with fail
      refine (keep w.heap.size w (HC.out _) HB.out (Nat.le_refl _)).mono ?_
      rintro e w4 ⟨rfl, hb, hkk⟩
      have K2' := Lib.hid (K2.out.below hkk)
      have K3' := Lib.hid (K3.out.below hkk)
      have K4' := Lib.hid (K4.out.below hkk)
      have K5' := Lib.hid (K5.out.below hkk)
      have HB' := Lib.hid hb
      clear hb hkk K2 K3 K4 K5 HB HC x0 x1 x2 x3 y0 y1 y2 y3 z0 z1 z2 z3
      obtain ⟨⟨f0, f1, f2, f3⟩, ⟨f4, f5, f6, f7⟩, f8, f9, f10, f11⟩ := K5'.out.fros12
      obtain ⟨⟨c0, c1, c2, c3⟩, ⟨c4, c5, c6, c7⟩, c8, c9, c10, c11⟩ := K5'.out.cells12
      go_wp2_with fail
      clear f0 f1 f2 f3 f4 f5 f6 f7 f8 f9 f10 f11 c0 c1 c2 c3 c4 c5 c6 c7 c8 c9 c10 c11
      have K2 : Hid (Bk 24 ((((((((((((w4.setCell ⟨g5, 0, none⟩ (.int .u64 (lb a4x 0 : Nat))).setCell ⟨g5, 1, none⟩ (.int .u64 (lb a4x 1 : Nat))).setCell ⟨g5, 2, none⟩ (.int .u64 (lb a4x 2 : Nat))).setCell ⟨g5, 3, none⟩ (.int .u64 (lb a4x 3 : Nat))).setCell ⟨g5, 4, none⟩ (.int .u64 (lb a4y 0 : Nat))).setCell ⟨g5, 5, none⟩ (.int .u64 (lb a4y 1 : Nat))).setCell ⟨g5, 6, none⟩ (.int .u64 (lb a4y 2 : Nat))).setCell ⟨g5, 7, none⟩ (.int .u64 (lb a4y 3 : Nat))).setCell ⟨g5, 8, none⟩ (.int .u64 (lb a4z 0 : Nat))).setCell ⟨g5, 9, none⟩ (.int .u64 (lb a4z 1 : Nat))).setCell ⟨g5, 10, none⟩ (.int .u64 (lb a4z 2 : Nat))).setCell ⟨g5, 11, none⟩ (.int .u64 (lb a4z 3 : Nat))) g2 #[.int .u64 (lb k 0 : Nat), .int .u64 (lb k 1 : Nat), .int .u64 (lb k 2 : Nat), .int .u64 (lb k 3 : Nat)]) := Lib.hid (Bk.puto12 HG.out.2.1 K2'.out)
      have K3 : Hid (Bk 165 ((((((((((((w4.setCell ⟨g5, 0, none⟩ (.int .u64 (lb a4x 0 : Nat))).setCell ⟨g5, 1, none⟩ (.int .u64 (lb a4x 1 : Nat))).setCell ⟨g5, 2, none⟩ (.int .u64 (lb a4x 2 : Nat))).setCell ⟨g5, 3, none⟩ (.int .u64 (lb a4x 3 : Nat))).setCell ⟨g5, 4, none⟩ (.int .u64 (lb a4y 0 : Nat))).setCell ⟨g5, 5, none⟩ (.int .u64 (lb a4y 1 : Nat))).setCell ⟨g5, 6, none⟩ (.int .u64 (lb a4y 2 : Nat))).setCell ⟨g5, 7, none⟩ (.int .u64 (lb a4y 3 : Nat))).setCell ⟨g5, 8, none⟩ (.int .u64 (lb a4z 0 : Nat))).setCell ⟨g5, 9, none⟩ (.int .u64 (lb a4z 1 : Nat))).setCell ⟨g5, 10, none⟩ (.int .u64 (lb a4z 2 : Nat))).setCell ⟨g5, 11, none⟩ (.int .u64 (lb a4z 3 : Nat))) g3 (fa p 16)) := Lib.hid (Bk.puto12 HG.out.2.2.1 K3'.out)
      have K4 : Hid (Bk 162 ((((((((((((w4.setCell ⟨g5, 0, none⟩ (.int .u64 (lb a4x 0 : Nat))).setCell ⟨g5, 1, none⟩ (.int .u64 (lb a4x 1 : Nat))).setCell ⟨g5, 2, none⟩ (.int .u64 (lb a4x 2 : Nat))).setCell ⟨g5, 3, none⟩ (.int .u64 (lb a4x 3 : Nat))).setCell ⟨g5, 4, none⟩ (.int .u64 (lb a4y 0 : Nat))).setCell ⟨g5, 5, none⟩ (.int .u64 (lb a4y 1 : Nat))).setCell ⟨g5, 6, none⟩ (.int .u64 (lb a4y 2 : Nat))).setCell ⟨g5, 7, none⟩ (.int .u64 (lb a4y 3 : Nat))).setCell ⟨g5, 8, none⟩ (.int .u64 (lb a4z 0 : Nat))).setCell ⟨g5, 9, none⟩ (.int .u64 (lb a4z 1 : Nat))).setCell ⟨g5, 10, none⟩ (.int .u64 (lb a4z 2 : Nat))).setCell ⟨g5, 11, none⟩ (.int .u64 (lb a4z 3 : Nat))) g4 #[.int .u64 0, .int .u64 0, .int .u64 0, .int .u64 0, .int .u64 0, .int .u64 0, .int .u64 0, .int .u64 0, .int .u64 0, .int .u64 0, .int .u64 0, .int .u64 0]) := Lib.hid (Bk.puto12 HG.out.2.2.2 K4'.out)
      have K5 : Hid (Bk 162 ((((((((((((w4.setCell ⟨g5, 0, none⟩ (.int .u64 (lb a4x 0 : Nat))).setCell ⟨g5, 1, none⟩ (.int .u64 (lb a4x 1 : Nat))).setCell ⟨g5, 2, none⟩ (.int .u64 (lb a4x 2 : Nat))).setCell ⟨g5, 3, none⟩ (.int .u64 (lb a4x 3 : Nat))).setCell ⟨g5, 4, none⟩ (.int .u64 (lb a4y 0 : Nat))).setCell ⟨g5, 5, none⟩ (.int .u64 (lb a4y 1 : Nat))).setCell ⟨g5, 6, none⟩ (.int .u64 (lb a4y 2 : Nat))).setCell ⟨g5, 7, none⟩ (.int .u64 (lb a4y 3 : Nat))).setCell ⟨g5, 8, none⟩ (.int .u64 (lb a4z 0 : Nat))).setCell ⟨g5, 9, none⟩ (.int .u64 (lb a4z 1 : Nat))).setCell ⟨g5, 10, none⟩ (.int .u64 (lb a4z 2 : Nat))).setCell ⟨g5, 11, none⟩ (.int .u64 (lb a4z 3 : Nat))) g5 #[.int .u64 (lb a4x 0 : Nat), .int .u64 (lb a4x 1 : Nat), .int .u64 (lb a4x 2 : Nat), .int .u64 (lb a4x 3 : Nat), .int .u64 (lb a4y 0 : Nat), .int .u64 (lb a4y 1 : Nat), .int .u64 (lb a4y 2 : Nat), .int .u64 (lb a4y 3 : Nat), .int .u64 (lb a4z 0 : Nat), .int .u64 (lb a4z 1 : Nat), .int .u64 (lb a4z 2 : Nat), .int .u64 (lb a4z 3 : Nat)]) := Lib.hid (Bk.put12 K5'.out)
      have HB : Hid (Below w.heap.size w ((((((((((((w4.setCell ⟨g5, 0, none⟩ (.int .u64 (lb a4x 0 : Nat))).setCell ⟨g5, 1, none⟩ (.int .u64 (lb a4x 1 : Nat))).setCell ⟨g5, 2, none⟩ (.int .u64 (lb a4x 2 : Nat))).setCell ⟨g5, 3, none⟩ (.int .u64 (lb a4x 3 : Nat))).setCell ⟨g5, 4, none⟩ (.int .u64 (lb a4y 0 : Nat))).setCell ⟨g5, 5, none⟩ (.int .u64 (lb a4y 1 : Nat))).setCell ⟨g5, 6, none⟩ (.int .u64 (lb a4y 2 : Nat))).setCell ⟨g5, 7, none⟩ (.int .u64 (lb a4y 3 : Nat))).setCell ⟨g5, 8, none⟩ (.int .u64 (lb a4z 0 : Nat))).setCell ⟨g5, 9, none⟩ (.int .u64 (lb a4z 1 : Nat))).setCell ⟨g5, 10, none⟩ (.int .u64 (lb a4z 2 : Nat))).setCell ⟨g5, 11, none⟩ (.int .u64 (lb a4z 3 : Nat)))) := Lib.hid (by have hb := HB'.out; have hg := HG.out.1.2; go_grown)
      generalize ((((((((((((w4.setCell ⟨g5, 0, none⟩ (.int .u64 (lb a4x 0 : Nat))).setCell ⟨g5, 1, none⟩ (.int .u64 (lb a4x 1 : Nat))).setCell ⟨g5, 2, none⟩ (.int .u64 (lb a4x 2 : Nat))).setCell ⟨g5, 3, none⟩ (.int .u64 (lb a4x 3 : Nat))).setCell ⟨g5, 4, none⟩ (.int .u64 (lb a4y 0 : Nat))).setCell ⟨g5, 5, none⟩ (.int .u64 (lb a4y 1 : Nat))).setCell ⟨g5, 6, none⟩ (.int .u64 (lb a4y 2 : Nat))).setCell ⟨g5, 7, none⟩ (.int .u64 (lb a4y 3 : Nat))).setCell ⟨g5, 8, none⟩ (.int .u64 (lb a4z 0 : Nat))).setCell ⟨g5, 9, none⟩ (.int .u64 (lb a4z 1 : Nat))).setCell ⟨g5, 10, none⟩ (.int .u64 (lb a4z 2 : Nat))).setCell ⟨g5, 11, none⟩ (.int .u64 (lb a4z 3 : Nat))) = V4 at K2 K3 K4 K5 HB ⊢
      clear K2' K3' K4' K5' HB'
      have HD := Lib.hid (HDG.out (63 - i) (by omega))
      have hdd : k / 16 ^ (63 - i) % 16 < 16 := Nat.mod_lt _ (by decide)
      have HS := Lib.hid (HPL.out (dg k i) ⟨a4x, a4y, a4z⟩ HO4.out)
      have hD : Hid (p.mulN k (i + 1) = (p.tim (dg k i)).plus ⟨a4x, a4y, a4z⟩) := Lib.hid (by rw [HT4.out, HT3.out, HT2.out, HT1.out, HT0.out]; rfl)
      have e63 : (((63 - i : Nat) : Nat) : Int) = 63 - (i : Int) := by omega
      rw [e63] at HD
      clear e63
      have edg : k / 16 ^ (63 - i) % 16 = dg k i := rfl
      rw [edg] at HD hdd
      clear edg
      generalize dg k i = d at *
      obtain ⟨R, hR⟩ : ∃ z, z = (p.tim d).plus ⟨a4x, a4y, a4z⟩ := ⟨_, rfl⟩
      rw [← hR] at HS hD
      obtain ⟨rx, ry, rz⟩ := R
      clear hR HT0 HT1 HT2 HT3 HT4 HO4 HTW HOK HPL HDG
      simp only [J.v, jn] at HS
      have q0 : (d : Int) < 16 := by omega
      have q1 : ((d : Nat) : Int).toNat = d := by omega
      have qd : ∀ e os, (grow (redrawn V4 e) os).cell? ⟨g3, d, none⟩ = some (.func (.func 158) #[.agg #[.int .u64 (lb (p.tim d).x 0 : Nat), .int .u64 (lb (p.tim d).x 1 : Nat), .int .u64 (lb (p.tim d).x 2 : Nat), .int .u64 (lb (p.tim d).x 3 : Nat), .int .u64 (lb (p.tim d).y 0 : Nat), .int .u64 (lb (p.tim d).y 1 : Nat), .int .u64 (lb (p.tim d).y 2 : Nat), .int .u64 (lb (p.tim d).y 3 : Nat), .int .u64 (lb (p.tim d).z 0 : Nat), .int .u64 (lb (p.tim d).z 1 : Nat), .int .u64 (lb (p.tim d).z 2 : Nat), .int .u64 (lb (p.tim d).z 3 : Nat)]] #[]) := fun e os => ((K3.out.regrown e os).cell d).trans ((fa_get p 16 d hdd).trans (by unfold fk; rw [if_pos hdd]; rfl))
      obtain ⟨⟨x0, x1, x2, x3⟩, ⟨y0, y1, y2, y3⟩, z0, z1, z2, z3⟩ := K5.out.reg12
      obtain ⟨k0, k1, k2, k3⟩ := K2.out.reg
      rw [rounds_succ]
      go_wp2_with fail
      refine wp_region_below_tail 8 mixed (by kernel_rfl) ?_
      simp only [List.take_succ_cons, List.take_zero, List.drop_succ_cons, List.drop_zero]
      iterate 3 go_big_quiet_step (fail)
      go_big_quiet_step (exact qg HD.out)
      iterate 3 (first | go_big_quiet_step (fail) | quiet_step (fail))
      go_big_quiet_step (exact qg HS.out)
      refine wpQuiet_nil ?_
      intro _ hw'
      obtain ⟨⟨dq, osq⟩, hw''⟩ := hw'
      subst hw''
      have K2' := Lib.hid (K2.out.regrown dq osq)
      have K3' := Lib.hid (K3.out.regrown dq osq)
      have K4' := Lib.hid (K4.out.regrown dq osq)
      have K5' := Lib.hid (K5.out.regrown dq osq)
      have HB' := Lib.hid (HB.out.trans ((below_regrown V4 dq osq).mono HB.out.size))
      clear K2 K3 K4 K5 HB x0 x1 x2 x3 y0 y1 y2 y3 z0 z1 z2 z3 k0 k1 k2 k3 HD HS qd
      generalize grow (redrawn V4 dq) osq = V at K2' K3' K4' K5' HB' ⊢
      obtain ⟨⟨f0, f1, f2, f3⟩, ⟨f4, f5, f6, f7⟩, f8, f9, f10, f11⟩ := K5'.out.fros12
      obtain ⟨⟨c0, c1, c2, c3⟩, ⟨c4, c5, c6, c7⟩, c8, c9, c10, c11⟩ := K5'.out.cells12
      go_wp2_with fail
      go_round
      case rel =>
        refine ⟨i + 1, by omega, by go_num, Bk.puto12 HG.out.2.1 K2'.out, Bk.puto12 HG.out.2.2.1 K3'.out, Bk.puto12 HG.out.2.2.2 K4'.out, ?_, ?_⟩
        · rw [hD.out]; exact Bk.put12 K5'.out
        · have hb := HB'.out
          have hg := HG.out.1.2
          go_grown
      case measure => simp [intOf]; omega
    · obtain rfl : i = 64 := by omega
      rw [← HRES.out] at K5
      simp only [] at K5
      obtain ⟨⟨x0, x1, x2, x3⟩, ⟨y0, y1, y2, y3⟩, z0, z1, z2, z3⟩ := K5.out.cells12
      obtain ⟨⟨f0, f1, f2, f3⟩, ⟨f4, f5, f6, f7⟩, f8, f9, f10, f11⟩ := K4.out.fros12
      obtain ⟨⟨c0, c1, c2, c3⟩, ⟨c4, c5, c6, c7⟩, c8, c9, c10, c11⟩ := K4.out.cells12
      go_wp2_with fail
      refine ret_cell93 rfl g4 tx ty tz rfl (Bk.put12 K4.out) rfl ⟨rfl, ?_⟩
      have hb := HB.out
      have hg := HG.out.1.1
      go_grown
def Po.bytes (p : Po) : List UInt8 := if p.i = true then [0] else 4 :: (nb p.x ++ nb p.y)
theorem ext_ba (l : List UInt8) (a n : Nat) : (⟨l.toArray⟩ : ByteArray).extract a (a + n) = ⟨((l.drop a).take n).toArray⟩ := by
  apply ByteArray.ext
  simp [ByteArray.data_extract, List.extract_eq_take_drop]
def xOf (s : List UInt8) : Nat := bv ((s.drop 1).take 32)
def yOf (s : List UInt8) : Nat := bv (s.drop 33)
def Po.of (s : List UInt8) : Option Po :=
  if s = [0] then some ⟨0, 0, true⟩
  else if s.length = 65 ∧ s.take 1 = [4] ∧ xOf s < mP ∧ yOf s < mP ∧ (Po.mk (xOf s) (yOf s) false).on = true then some ⟨xOf s, yOf s, false⟩ else none
def Po.ret : Option Po → Value
  | some p => .tuple #[p.v, .int .i64 0]
  | none => .tuple #[pn 0 0 false, .int .i64 71]
theorem on_lt {x y : Nat} (h : (Po.mk x y false).on = true) : x < mP ∧ y < mP := by
  have e : (Po.mk x y false).on = decide (x < mP ∧ y < mP ∧ mj y y = rightN x) := rfl
  rw [e] at h
  have := of_decide_eq_true h
  exact ⟨this.1, this.2.1⟩
theorem on_far {x y : Nat} (h : (Po.mk x y true).on = true) : x = 0 ∧ y = 0 := by
  have e : (Po.mk x y true).on = decide (x = 0 ∧ y = 0) := rfl
  rw [e] at h
  exact of_decide_eq_true h
theorem lG : pn 48439561293906451759052585252797914202762949526041747995844080717082404635286 36134250956749795798585127919587881956611106672985015071877198253568414405109 false = .agg #[.int .u64 17627433388654248598, .int .u64 8575836109218198432, .int .u64 17923454489921339634, .int .u64 7716867327612699207, .int .u64 14678990851816772085, .int .u64 3156516839386865358, .int .u64 10297457778147434006, .int .u64 5756518291402817435, .bool false] := by
  have h : lb 48439561293906451759052585252797914202762949526041747995844080717082404635286 0 = 17627433388654248598 ∧ lb 48439561293906451759052585252797914202762949526041747995844080717082404635286 1 = 8575836109218198432 ∧ lb 48439561293906451759052585252797914202762949526041747995844080717082404635286 2 = 17923454489921339634 ∧ lb 48439561293906451759052585252797914202762949526041747995844080717082404635286 3 = 7716867327612699207 ∧ lb 36134250956749795798585127919587881956611106672985015071877198253568414405109 0 = 14678990851816772085 ∧ lb 36134250956749795798585127919587881956611106672985015071877198253568414405109 1 = 3156516839386865358 ∧ lb 36134250956749795798585127919587881956611106672985015071877198253568414405109 2 = 10297457778147434006 ∧ lb 36134250956749795798585127919587881956611106672985015071877198253568414405109 3 = 5756518291402817435 := by decide +kernel
  unfold pn
  rw [h.1]
  rw [h.2.1]
  rw [h.2.2.1]
  rw [h.2.2.2.1]
  rw [h.2.2.2.2.1]
  rw [h.2.2.2.2.2.1]
  rw [h.2.2.2.2.2.2.1]
  rw [h.2.2.2.2.2.2.2]
  rfl
def G : Po := ⟨48439561293906451759052585252797914202762949526041747995844080717082404635286, 36134250956749795798585127919587881956611106672985015071877198253568414405109, false⟩
theorem G_ok : G.ok := ⟨by decide +kernel, by decide +kernel⟩
theorem G_on : G.on = true := by decide +kernel
theorem vG : G.v = .agg #[.int .u64 17627433388654248598, .int .u64 8575836109218198432, .int .u64 17923454489921339634, .int .u64 7716867327612699207, .int .u64 14678990851816772085, .int .u64 3156516839386865358, .int .u64 10297457778147434006, .int .u64 5756518291402817435, .bool false] := lG
theorem kBase : ∀ w, Calls Tryz.prog 48 #[] w fun e w' => e = .returned (.agg #[.int .u64 17627433388654248598, .int .u64 8575836109218198432, .int .u64 17923454489921339634, .int .u64 7716867327612699207, .int .u64 14678990851816772085, .int .u64 3156516839386865358, .int .u64 10297457778147434006, .int .u64 5756518291402817435, .bool false]) ∧ Below w.heap.size w w' := fun w => by
  go_enter Tryz.func48, Tryz.ntmps48
  go_wp2_with fail
  rw [← lG]
  refine ret_cell51 rfl w.heap.size 48439561293906451759052585252797914202762949526041747995844080717082404635286 36134250956749795798585127919587881956611106672985015071877198253568414405109 false rfl ?_ rfl ⟨rfl, ?_⟩
  · have h := lG
    unfold pn at h
    injection h with h
    unfold cs9
    rw [h]
    exact Bk.new rfl
  · go_grown
end Go.Proofs.YtpggkfdijmnmiaaGreat
set_option linter.unusedVariables false
set_option linter.unusedSimpArgs false
set_option maxRecDepth 100000
namespace Go.Proofs.YtpggkfdijmnmiaaGreat
open Go.RowKit Go.Sort Limbs
end Go.Proofs.YtpggkfdijmnmiaaGreat
set_option linter.unusedVariables false
set_option linter.unusedSimpArgs false
set_option maxRecDepth 100000
namespace Go.Proofs.YtpggkfdijmnmiaaGreat
open Go.RowKit Go.Sort Limbs
end Go.Proofs.YtpggkfdijmnmiaaGreat
namespace Go.Proofs.YtpggkfdijmnmiaaGreat.Pl
open Go.RowKit Go.Sort
section
variable {P : Program} {ops : Array Oper} {md : Region.Mode} {Q : Exit → Act → World → Prop}
def findR : Code → Nat → Option (Array Oper)
  | .region i os _, n => if i = n then some os else none
  | .seq a b, n => (findR a n).or (findR b n)
  | .cond _ a b, n => (findR a n).or (findR b n)
  | .block _ a, n => findR a n
  | .loop a, n => findR a n
  | .scope a, n => findR a n
  | _, _ => none
def left (l : Array Bool) : Nat := (l.toList.filter (fun x => !x)).length
theorem left_set_list : ∀ (l : List Bool) (i : Nat) (h : i < l.length), l[i] = false → ((l.set i true).filter (fun x => !x)).length + 1 = (l.filter (fun x => !x)).length
  | x :: l, 0, h, hx => by
    have : x = false := hx
    subst this
    simp
  | x :: l, i + 1, h, hx => by
    have ih := left_set_list l i (by simpa using h) (by simpa using hx)
    cases x <;> simp [List.filter_cons] <;> omega
theorem left_set {l : Array Bool} {i : Nat} (h : l.getD i true = false) : left (l.setIfInBounds i true) + 1 = left l := by
  have hi : i < l.size := by
    rcases Nat.lt_or_ge i l.size with h' | h'
    · exact h'
    · simp [Array.getElem?_eq_none h'] at h
  have hx : l[i] = false := by simpa [hi] using h
  unfold left
  have := left_set_list l.toList i (by simpa using hi) (by simpa using hx)
  simpa [Array.toList_setIfInBounds, hi] using this
theorem left_zero {l : Array Bool} (h : left l = 0) : ∀ x ∈ l, x = true := by
  intro x hx
  unfold left at h
  rw [List.length_eq_zero_iff, List.filter_eq_nil_iff] at h
  have := h x (by simpa using hx)
  simpa using this
theorem wpAny_inv2 {I : Array Bool → Act → World → Prop} {g : Nat} (none : ∀ l a w, I l a w → Region.ready md ops l = [] → left l = g) (step : ∀ l a w, I l a w → left l ≠ g → ∀ i ∈ Region.ready md ops l, wpOp P ops Q i (fun a' w' => I (l.setIfInBounds i true) a' w') a w)
    (fin : ∀ l a w, I l a w → left l = g → wpAny P md ops Q g l a w) : ∀ (fuel : Nat) (l : Array Bool) (a : Act) (w : World), left l = fuel → g ≤ fuel → I l a w → wpAny P md ops Q fuel l a w
  | 0, l, a, w, hf, hg, h => by
    obtain rfl : g = 0 := by omega
    exact fin l a w h hf
  | fuel + 1, l, a, w, hf, hg, h => by
    by_cases hgf : g = fuel + 1
    · subst hgf
      exact fin l a w h hf
    · refine ⟨fun h0 => absurd (none l a w h h0) (by omega), fun i hi => ?_⟩
      have hl := left_set (mem_ready.1 hi).1
      exact wpOp_mono (fun a' w' h' => wpAny_inv2 none step fin fuel _ a' w' (by omega) (by omega) h') (step l a w h (by omega) i hi)
theorem wpOp_of {i : Nat} {o : Oper} {K : Act → World → Prop} {a : Act} {w : World} (hi : ops[i]? = some o) (hg : o.guard = none) (h : o.wp P a w K Q) : wpOp P ops Q i K a w := by
  unfold wpOp
  simp only [hi]
  rw [if_pos (by simp [Region.wanted, hg])]
  exact .inl h
end
section
variable {P : Program} {ops : Array Oper} {Q : Exit → Act → World → Prop}
def maskB (ops : Array Oper) (M : List (List Nat)) : Bool := (List.range ops.size).all fun i => match ops[i]? with
  | some o => (M.getD i []).all fun c => o.after.any fun e => Region.binds .any e && (e.on == c || (M.getD e.on []).contains c)
  | none => true
def backB (ops : Array Oper) : Bool := (List.range ops.size).all fun i => match ops[i]? with
  | some o => o.after.all fun e => !Region.binds .any e || decide (e.on < i)
  | none => true
theorem backB_spec (hb : backB ops = true) {i : Nat} {o : Oper} (ho : ops[i]? = some o) {e : Edge} (he : e ∈ o.after) (hbe : Region.binds .any e = true) : e.on < i := by
  unfold backB at hb
  rw [List.all_eq_true] at hb
  have h1 := hb i (List.mem_range.2 (Array.getElem?_eq_some_iff.1 ho).1)
  rw [ho] at h1
  simp only [Array.all_eq_true, Bool.or_eq_true, Bool.not_eq_true', decide_eq_true_eq] at h1
  obtain ⟨q, hq, rfl⟩ := Array.mem_iff_getElem.1 he
  rcases h1 q hq with h2 | h2
  · rw [hbe] at h2; cases h2
  · exact h2
def Closed (ops : Array Oper) (l : Array Bool) : Prop := ∀ (i : Nat) (o : Oper), l.getD i false = true → ops[i]? = some o → ∀ e ∈ o.after, Region.binds .any e = true → l.getD e.on false = true
theorem anc_listed {M : List (List Nat)} (hM : maskB ops M = true) (hbw : backB ops = true) {l : Array Bool} (h : Closed ops l) : ∀ (n i c : Nat) (o : Oper), i < n → ops[i]? = some o → (∀ e ∈ o.after, Region.binds .any e = true → l.getD e.on false = true) → (M.getD i []).contains c = true → l.getD c false = true
  | 0, _, _, _, hi, _, _, _ => absurd hi (Nat.not_lt_zero _)
  | n + 1, i, c, o, hi, ho, hd, ha => by
    have h1 := hM
    unfold maskB at h1
    rw [List.all_eq_true] at h1
    have h2 := h1 i (List.mem_range.2 (Array.getElem?_eq_some_iff.1 ho).1)
    rw [ho] at h2
    simp only [List.all_eq_true] at h2
    have h3 := h2 c (by simpa using ha)
    simp only [Array.any_eq_true, Bool.and_eq_true, Bool.or_eq_true, beq_iff_eq] at h3
    obtain ⟨k, hk, hb, ha⟩ := h3
    have hl := hd _ (Array.getElem_mem hk) hb
    have hlt := backB_spec hbw ho (Array.getElem_mem hk) hb
    rcases ha with ha | ha
    · rw [← ha]; exact hl
    · have hin : (o.after[k]).on < ops.size := Nat.lt_trans hlt (Array.getElem?_eq_some_iff.1 ho).1
      exact anc_listed hM hbw h n _ c _ (by omega) (Array.getElem?_eq_getElem hin) (h _ _ hl (Array.getElem?_eq_getElem hin)) ha
def dstB (ops : Array Oper) (m : Nat) : Bool := (List.range ops.size).all fun i => (List.range ops.size).all fun j => match ops[i]?, ops[j]? with
  | some o, some o' => match o.dst with
    | none => true
    | some d => decide (d < m) && (i == j || o'.dst != some d)
  | _, _ => true
theorem dstB_spec {m : Nat} (h : dstB ops m = true) {i j : Nat} {o o' : Oper} {d : Tmp} (hi : ops[i]? = some o) (hj : ops[j]? = some o') (hd : o.dst = some d) : d < m ∧ (i = j ∨ o'.dst ≠ some d) := by
  unfold dstB at h
  rw [List.all_eq_true] at h
  have h1 := h i (List.mem_range.2 (Array.getElem?_eq_some_iff.1 hi).1)
  rw [List.all_eq_true] at h1
  have h2 := h1 j (List.mem_range.2 (Array.getElem?_eq_some_iff.1 hj).1)
  rw [hi, hj] at h2
  simp only [hd, Bool.and_eq_true, decide_eq_true_eq, Bool.or_eq_true, beq_iff_eq, bne_iff_ne, ne_eq] at h2
  exact h2
structure Tm (ops : Array Oper) (T0 : Array Value) (v : Nat → Value) (l : Array Bool) (T : Array Value) : Prop where
  size : T.size = T0.size
  come : ∀ (i : Nat) (o : Oper) (d : Tmp), l.getD i false = true → ops[i]? = some o → o.dst = some d → T.getD d undef = v i
  rest : ∀ (d : Tmp), (∀ (i : Nat) (o : Oper), l.getD i false = true → ops[i]? = some o → o.dst ≠ some d) → T.getD d undef = T0.getD d undef
theorem getD_set (T : Array Value) (d k : Nat) (x : Value) (hd : d < T.size) : (T.setIfInBounds d x).getD k undef = if k = d then x else T.getD k undef := by
  by_cases hk : k = d
  · subst hk
    simp [Array.getD, hd]
  · rw [if_neg hk]
    simp only [Array.getD]
    by_cases h : k < T.size
    · simp [h, Array.getElem_setIfInBounds, Ne.symm hk]
    · simp [h]
theorem getD_lset (l : Array Bool) (i k : Nat) (hi : l.getD i true = false) : (l.setIfInBounds i true).getD k false = if k = i then true else l.getD k false := by
  have hlt : i < l.size := by
    by_cases h : i < l.size
    · exact h
    · simp [Array.getD, h] at hi
  by_cases hk : k = i
  · subst hk
    simp [Array.getD, hlt]
  · rw [if_neg hk]
    simp only [Array.getD]
    by_cases h : k < l.size
    · simp [h, Array.getElem_setIfInBounds, Ne.symm hk]
    · simp [h]
theorem Tm.put {T0 T : Array Value} {v : Nat → Value} {l : Array Bool} (h : Tm ops T0 v l T) (hB : dstB ops T0.size = true) {i : Nat} {o : Oper} (ho : ops[i]? = some o) (hi : l.getD i true = false) (ds : List Deferred) : Tm ops T0 v (l.setIfInBounds i true) (Act.put ⟨T, ds⟩ o.dst (v i)).tmps := by
  unfold Act.put
  cases hd : o.dst with
  | none =>
    refine ⟨h.size, fun k o' d hl hk hd' => ?_, fun d hn => h.rest d fun k o' hl hk => hn k o' (by rw [getD_lset l i k hi]; split <;> simp_all) hk⟩
    rw [getD_lset l i k hi] at hl
    by_cases hki : k = i
    · subst hki
      rw [ho] at hk
      cases hk
      rw [hd] at hd'
      cases hd'
    · rw [if_neg hki] at hl
      exact h.come k o' d hl hk hd'
  | some d0 =>
    have hlt : d0 < T.size := by rw [h.size]; exact (dstB_spec hB ho ho hd).1
    refine ⟨by simp [h.size], fun k o' d hl hk hd' => ?_, fun d hn => ?_⟩
    · rw [getD_lset l i k hi] at hl
      show (T.setIfInBounds d0 (v i)).getD d undef = v k
      rw [getD_set T d0 d _ hlt]
      by_cases hki : k = i
      · subst hki
        rw [ho] at hk
        cases hk
        rw [hd] at hd'
        cases hd'
        rw [if_pos rfl]
      · rw [if_neg hki] at hl
        rw [if_neg (fun e => by
          subst e
          rcases (dstB_spec hB ho hk hd).2 with e | e
          · exact hki e.symm
          · exact e hd')]
        exact h.come k o' d hl hk hd'
    · show (T.setIfInBounds d0 (v i)).getD d undef = T0.getD d undef
      have hne : d ≠ d0 := fun e => hn i o (by rw [getD_lset l i i hi, if_pos rfl]) ho (by rw [hd, e])
      rw [getD_set T d0 d _ hlt, if_neg hne]
      exact h.rest d fun k o' hl hk => hn k o' (by rw [getD_lset l i k hi]; split <;> simp_all) hk
def planT (ops : Array Oper) (T0 : Array Value) (v : Nat → Value) : Nat → Array Value
  | 0 => T0
  | k + 1 => (Act.put ⟨planT ops T0 v k, []⟩ ((ops[k]?).bind (·.dst)) (v k)).tmps
theorem planT_tm {T0 : Array Value} {v : Nat → Value} (hB : dstB ops T0.size = true) : ∀ k, k ≤ ops.size → ∃ l : Array Bool, l.size = ops.size ∧ (∀ i, l.getD i false = true ↔ i < k) ∧ Tm ops T0 v l (planT ops T0 v k)
  | 0, _ => ⟨Array.replicate ops.size false, by simp, fun i => by
      simp only [Array.getD]
      by_cases h : i < ops.size <;> simp [h], ⟨rfl, fun i o d hl _ _ => by
      simp only [Array.getD] at hl
      by_cases h : i < ops.size <;> simp [h] at hl, fun d _ => rfl⟩⟩
  | k + 1, hk => by
    obtain ⟨l, hs, hl, ht⟩ := planT_tm (v := v) hB k (by omega)
    obtain ⟨o, ho⟩ : ∃ o, ops[k]? = some o := ⟨_, Array.getElem?_eq_getElem (by omega)⟩
    have hkf : l.getD k true = false := by
      have h1 : k < l.size := by omega
      have h2 := (hl k)
      simp only [Array.getD, h1, dif_pos] at h2 ⊢
      simpa using h2
    refine ⟨l.setIfInBounds k true, by simp [hs], fun i => ?_, ?_⟩
    · rw [getD_lset l k i hkf]
      split
      · simp; omega
      · rw [hl i]; omega
    · have := ht.put hB ho hkf []
      unfold planT
      rw [ho]
      exact this
theorem tm_ext {T T' : Array Value} (hs : T.size = T'.size) (h : ∀ d, T.getD d undef = T'.getD d undef) : T = T' := by
  apply Array.ext hs
  intro i h1 h2
  have := h i
  simpa [Array.getD, h1, h2] using this
theorem Tm.all {T0 T : Array Value} {v : Nat → Value} {l : Array Bool} (h : Tm ops T0 v l T) (hB : dstB ops T0.size = true) (hl : ∀ i, i < ops.size → l.getD i false = true) : T = planT ops T0 v ops.size := by
  obtain ⟨l', hs', hl', ht'⟩ := planT_tm (ops := ops) (v := v) hB ops.size (Nat.le_refl _)
  refine tm_ext (by rw [h.size, ht'.size]) fun d => ?_
  by_cases hd : ∃ (i : Nat) (o : Oper), ops[i]? = some o ∧ o.dst = some d
  · obtain ⟨i, o, ho, hd⟩ := hd
    have hi := (Array.getElem?_eq_some_iff.1 ho).1
    rw [h.come i o d (hl i hi) ho hd, ht'.come i o d ((hl' i).2 hi) ho hd]
  · rw [h.rest d fun i o _ ho hd' => hd ⟨i, o, ho, hd'⟩, ht'.rest d fun i o _ ho hd' => hd ⟨i, o, ho, hd'⟩]
def upd (y : Nat → Value) (c : Nat) (v : Value) : Nat → Value := fun k => if k = c then v else y k
def Known (ops : Array Oper) (T0 : Array Value) (v : Nat → Value) (o : Oper) (T : Array Value) : Prop :=
  (∀ e ∈ o.after, Region.binds .any e = true → ∀ (o' : Oper) (d : Tmp), ops[e.on]? = some o' → o'.dst = some d → T.getD d undef = v e.on) ∧ (∀ d : Tmp, (∀ (k : Nat) (o' : Oper), ops[k]? = some o' → o'.dst ≠ some d) → T.getD d undef = T0.getD d undef)
def updB (d : Nat → Bool) (c : Nat) : Nat → Bool := fun k => if k = c then true else d k
def Pin (ops : Array Oper) (T0 : Array Value) (ds : List Deferred) (cs : List Nat) (vs : (Nat → Value) → Nat → Value) (PW : (Nat → Bool) → (Nat → Value) → World → Prop) (l : Array Bool) (a : Act) (w : World) : Prop :=
  ∃ y d, l.size = ops.size ∧ Closed ops l ∧ (∀ c ∈ cs, l.getD c false = d c) ∧ a.defers = ds ∧ Tm ops T0 (vs y) l a.tmps ∧ PW d y w
theorem closed_set {l : Array Bool} (h : Closed ops l) {i : Nat} {o : Oper} (ho : ops[i]? = some o) (hi : l.getD i true = false) (hd : ∀ e ∈ o.after, Region.binds .any e = true → l.getD e.on false = true) : Closed ops (l.setIfInBounds i true) := fun k o' hk ho' e he hb => by
  rw [getD_lset l i _ hi]
  split
  · rfl
  · rw [getD_lset l i k hi] at hk
    by_cases hki : k = i
    · subst hki
      rw [ho] at ho'
      cases ho'
      exact hd e he hb
    · rw [if_neg hki] at hk
      exact h k o' hk ho' e he hb
theorem all_listed (hb : backB ops = true) {l : Array Bool} (hs : l.size = ops.size) (hr : Region.ready .any ops l = []) : left l = 0 := by
  have hall : ∀ k, ∀ i, i < k → i < ops.size → l.getD i false = true := fun k => by
    induction k with
    | zero => intro i hi; omega
    | succ k ih =>
      intro i hi hin
      cases hli : l.getD i false
      · exfalso
        have ho := Array.getElem?_eq_getElem hin
        refine List.eq_nil_iff_forall_not_mem.1 hr i (mem_ready.2 ⟨?_, _, ho, fun e he hbe => ?_⟩)
        · simpa [Array.getD, hs, hin] using hli
        · unfold backB at hb
          rw [List.all_eq_true] at hb
          have h1 := hb i (List.mem_range.2 hin)
          rw [ho] at h1
          simp only [Array.all_eq_true, Bool.or_eq_true, Bool.not_eq_true', decide_eq_true_eq] at h1
          obtain ⟨q, hq, rfl⟩ := Array.mem_iff_getElem.1 he
          rcases h1 q hq with h2 | h2
          · rw [hbe] at h2; cases h2
          · exact ih _ (by omega) (by omega)
      · rfl
  unfold left
  rw [List.length_eq_zero_iff, List.filter_eq_nil_iff]
  intro x hx
  obtain ⟨i, hi, rfl⟩ := List.mem_iff_getElem.1 hx
  have h1 : i < l.size := by simpa using hi
  have := hall (i + 1) i (by omega) (by omega)
  simp only [Array.getD, h1, dif_pos] at this
  simpa using this
theorem getD_tf {l : Array Bool} {i : Nat} (h : l.getD i true = false) : l.getD i false = false := by
  simp only [Array.getD] at h ⊢
  split at h <;> simp_all
def Plain (P : Program) (ops : Array Oper) (Q : Exit → Act → World → Prop) (T0 : Array Value) (ds : List Deferred) (cs : List Nat) (M : List (List Nat)) (vs : (Nat → Value) → Nat → Value) (PW : (Nat → Bool) → (Nat → Value) → World → Prop) (i : Nat) : Prop :=
  ∀ o, ops[i]? = some o → i ∉ cs → ∀ d y T w', (∀ c' ∈ cs, (M.getD i []).contains c' = true → d c' = true) → Known ops T0 (vs y) o T → PW d y w' → wpOp P ops Q i (fun a' w'' => a' = Act.put ⟨T, ds⟩ o.dst (vs y i) ∧ w'' = w') ⟨T, ds⟩ w'
def Chg (P : Program) (ops : Array Oper) (Q : Exit → Act → World → Prop) (T0 : Array Value) (ds : List Deferred) (cs : List Nat) (M : List (List Nat)) (vs : (Nat → Value) → Nat → Value) (PW : (Nat → Bool) → (Nat → Value) → World → Prop) (c : Nat) : Prop :=
  ∀ o, ops[c]? = some o → ∀ d y T w', d c = false → (∀ c' ∈ cs, (M.getD c []).contains c' = true → d c' = true) → (∀ c' ∈ cs, (M.getD c' []).contains c = true → d c' = false) → Known ops T0 (vs y) o T → PW d y w' → wpOp P ops Q c (fun a' w'' => ∃ v, a' = Act.put ⟨T, ds⟩ o.dst (vs (upd y c v) c) ∧ PW (updB d c) (upd y c v) w'') ⟨T, ds⟩ w'
theorem wp_plan {id : Nat} (hm : P.follows .mixedOrders = true) (T0 : Array Value) (ds : List Deferred) (cs : List Nat) (M : List (List Nat)) (vs : (Nat → Value) → Nat → Value) (PW : (Nat → Bool) → (Nat → Value) → World → Prop) (w : World)
    (hB : dstB ops T0.size = true) (hbw : backB ops = true) (hM : maskB ops M = true) (hcin : ∀ c ∈ cs, c < ops.size)
    (hfix : ∀ c ∈ cs, ∀ i, i ≠ c → (M.getD i []).contains c = false → ∀ y v, vs (upd y c v) i = vs y i)
    (hplain : ∀ i, i < ops.size → Plain P ops Q T0 ds cs M vs PW i)
    (hchg : ∀ c ∈ cs, Chg P ops Q T0 ds cs M vs PW c)
    (h0 : ∃ y, PW (fun _ => false) y w.drew)
    (hfin : ∀ d y w', (∀ c ∈ cs, d c = true) → PW d y w' → Q .normal ⟨planT ops T0 (vs y) ops.size, ds⟩ w') :
    (Code.region id ops true).wp P Q ⟨T0, ds⟩ w := by
  refine wp_region_any hm ?_
  have hrep : ∀ i, (Array.replicate ops.size false).getD i false = false := fun i => by
    simp only [Array.getD]
    by_cases h : i < ops.size <;> simp [h]
  refine wpAny_inv2 (I := Pin ops T0 ds cs vs PW) (g := 0) (fun l a w1 hI hr => ?_) (fun l a w1 hI _ i hi => ?_) (fun l a w1 hI hl => ?_) ops.size _ _ _ (by simp [left]) (Nat.zero_le _) ?_
  · obtain ⟨y, d, h1, h2, _⟩ := hI
    exact all_listed hbw h1 hr
  · obtain ⟨y, d, h1, h2, h3, h5, h6, h7⟩ := hI
    obtain ⟨T, ds'⟩ := a
    simp only at h5 h6
    subst h5
    rw [mem_ready] at hi
    obtain ⟨hu, o, ho, hd⟩ := hi
    have hul := getD_tf hu
    have hkn : Known ops T0 (vs y) o T := ⟨fun e he hb o' d ho' hd' => h6.come e.on o' d (hd e he hb) ho' hd', fun d hn => h6.rest d fun k o' _ ho' => hn k o' ho'⟩
    by_cases hic : i ∈ cs
    · refine wpOp_mono (fun a' w'' hx => ?_) (hchg i hic o ho d y T w1 (by rw [← h3 i hic]; exact hul) (fun c' hc' ha => ?_) (fun c' hc' ha => ?_) hkn h7)
      · obtain ⟨v, rfl, hpw⟩ := hx
        have hsame : Tm ops T0 (vs (upd y i v)) l T := ⟨h6.size, (fun k o' d hl hk hd' => by
          rw [h6.come k o' d hl hk hd']
          refine (hfix i hic k (fun e => ?_) ?_ y v).symm
          · subst e
            rw [hul] at hl
            cases hl
          · cases ha : (M.getD k []).contains i
            · rfl
            · have := anc_listed hM hbw h2 (k + 1) k i o' (Nat.lt_succ_self k) hk (fun e he hb => h2 k o' hl hk e he hb) ha
              rw [hul] at this
              exact absurd this (by decide)), h6.rest⟩
        refine ⟨upd y i v, updB d i, by simp [h1], closed_set h2 ho hu hd, fun c hc => ?_, by unfold Act.put; split <;> rfl, hsame.put hB ho hu ds', hpw⟩
        rw [getD_lset l i c hu]
        unfold updB
        split
        · rfl
        · exact h3 c hc
      · rw [← h3 c' hc']
        exact anc_listed hM hbw h2 (i + 1) i c' o (Nat.lt_succ_self i) ho hd ha
      · rw [← h3 c' hc']
        cases hl : l.getD c' false
        · rfl
        · have ho' := Array.getElem?_eq_getElem (hcin c' hc')
          have := anc_listed hM hbw h2 (c' + 1) c' i _ (Nat.lt_succ_self c') ho' (fun e he hb => h2 c' _ hl ho' e he hb) ha
          rw [hul] at this
          cases this
    · refine wpOp_mono (fun a' w'' hx => ?_) (hplain i (Array.getElem?_eq_some_iff.1 ho).1 o ho hic d y T w1 (fun c' hc' ha => by rw [← h3 c' hc']; exact anc_listed hM hbw h2 (i + 1) i c' o (Nat.lt_succ_self i) ho hd ha) hkn h7)
      obtain ⟨rfl, rfl⟩ := hx
      refine ⟨y, d, by simp [h1], closed_set h2 ho hu hd, fun c hc => ?_, by unfold Act.put; split <;> rfl, h6.put hB ho hu ds', h7⟩
      rw [getD_lset l i c hu, if_neg (fun (e : c = i) => hic (by rw [← e]; exact hc)), h3 c hc]
  · obtain ⟨y, d, h1, h2, h3, h5, h6, h7⟩ := hI
    obtain ⟨T, ds'⟩ := a
    simp only at h5 h6
    subst h5
    have hall : ∀ i, i < ops.size → l.getD i false = true := fun i hi => by
      have := left_zero hl (l[i]'(by omega)) (Array.getElem_mem _)
      simpa [Array.getD, h1, hi] using this
    have hT := h6.all hB hall
    subst hT
    refine ⟨?_, hfin d y w1 (fun c hc => by rw [← h3 c hc]; exact hall c (hcin c hc)) h7⟩
    apply List.eq_nil_iff_forall_not_mem.2
    intro i hi
    rw [mem_ready] at hi
    obtain ⟨hu, o, ho, _⟩ := hi
    have := hall i (Array.getElem?_eq_some_iff.1 ho).1
    rw [getD_tf hu] at this
    cases this
  · obtain ⟨y, hy⟩ := h0
    refine ⟨y, fun _ => false, by simp, fun i o hl _ _ _ _ => (by rw [hrep] at hl; cases hl), fun c hc => hrep c, rfl, ⟨rfl, fun i o d hl _ _ => (by rw [hrep] at hl; cases hl), fun d _ => rfl⟩, hy⟩
end
end Go.Proofs.YtpggkfdijmnmiaaGreat.Pl
