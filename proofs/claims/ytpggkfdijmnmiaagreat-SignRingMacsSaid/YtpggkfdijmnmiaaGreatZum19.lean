/- A digit of a number; a multiple of a point under way: the walks. No condition but that each number is below 2 to the 256. The bytes of points: the walks. No condition but that each number is below 2 to the 256. The point of bytes: the walk. No condition but the length of the bytes. The point of bytes, and the bytes of points. No condition but the length of the bytes. -/
import Derived.Test.YtpggkfdijmnmiaaGreatZum18
set_option linter.unusedVariables false
set_option linter.unusedSimpArgs false
set_option maxRecDepth 100000
namespace Go.Proofs.YtpggkfdijmnmiaaGreat
open Go.RowKit Go.Sort Limbs
theorem dig_of (a s : Nat) (hs : s ≤ 60) : a % 18446744073709551616 / 2 ^ s % 16 = a / 2 ^ s % 16 := by
  rw [← Nat.mod_mul_right_div_self, ← Nat.mod_mul_right_div_self (m := a)]
  congr 1
  refine Nat.mod_mod_of_dvd _ ?_
  rw [show (18446744073709551616 : Nat) = 2 ^ s * 2 ^ (64 - s) from by rw [← Nat.pow_add, show s + (64 - s) = 64 by omega]]
  refine Nat.mul_dvd_mul_left _ ?_
  rw [show (16 : Nat) = 2 ^ 4 from rfl]
  exact Nat.pow_dvd_pow 2 (by omega)
theorem dig_int (a m : Nat) : ((a : Int) / 2 ^ m).tmod 16 = ((a / 2 ^ m % 16 : Nat) : Int) := by
  have e : (a : Int) / 2 ^ m = ((a / 2 ^ m : Nat) : Int) := by
    rw [Int.natCast_ediv, Int.natCast_pow]; rfl
  rw [e]
  generalize a / 2 ^ m = q
  rw [Int.tmod_eq_emod_of_nonneg (by omega)]
  omega
theorem dig_int2 (a m : Nat) : (a : Int) / 2 ^ m % 16 = ((a / 2 ^ m % 16 : Nat) : Int) := by
  have e : (a : Int) / 2 ^ m = ((a / 2 ^ m : Nat) : Int) := by
    rw [Int.natCast_ediv, Int.natCast_pow]; rfl
  rw [e]
  generalize a / 2 ^ m = q
  omega
set_option maxHeartbeats 4000000 in
theorem digit_0 (k r : Nat) (hr : r < 16) (w : World) :
    Calls Tryz.prog 169 #[nv k, .int .i64 ((r : Nat) : Int)] w fun e w' => e = .returned (.int .u64 ((lb k 0 / 2 ^ (r * 4) % 16 : Nat) : Int)) ∧ Below w.heap.size w w' := by
  have hl := lb_lt k 0
  have hq1 : Int.tdiv ((r : Nat) : Int) 16 = 0 := by rw [Int.tdiv_eq_ediv_of_nonneg (by omega)]; omega
  have hq2 : Int.tmod ((r : Nat) : Int) 16 = (r : Int) := by rw [Int.tmod_eq_emod_of_nonneg (by omega)]; omega
  simp only [nv, num]
  go_enter Tryz.func169, Tryz.ntmps169
  go_wp2_with fail
  go_ret
  refine ⟨by simp only [dig_int, dig_int2]; rfl, ?_⟩
  go_grown
set_option maxHeartbeats 4000000 in
theorem digit_1 (k r : Nat) (hr : r < 16) (w : World) :
    Calls Tryz.prog 169 #[nv k, .int .i64 ((16 + r : Nat) : Int)] w fun e w' => e = .returned (.int .u64 ((lb k 1 / 2 ^ (r * 4) % 16 : Nat) : Int)) ∧ Below w.heap.size w w' := by
  have hl := lb_lt k 1
  have hq1 : Int.tdiv ((16 + r : Nat) : Int) 16 = 1 := by rw [Int.tdiv_eq_ediv_of_nonneg (by omega)]; omega
  have hq2 : Int.tmod ((16 + r : Nat) : Int) 16 = (r : Int) := by rw [Int.tmod_eq_emod_of_nonneg (by omega)]; omega
  obtain ⟨pl, hpl⟩ : ∃ z : Int, z = ((16 + r : Nat) : Int) := ⟨_, rfl⟩
  rw [← hpl] at hq1 hq2 ⊢
  have hp0 : 0 ≤ pl := by omega
  clear hpl
  simp only [nv, num]
  go_enter Tryz.func169, Tryz.ntmps169
  go_wp2_with fail
  go_ret
  refine ⟨by simp only [dig_int, dig_int2]; rfl, ?_⟩
  go_grown
set_option maxHeartbeats 4000000 in
theorem digit_2 (k r : Nat) (hr : r < 16) (w : World) :
    Calls Tryz.prog 169 #[nv k, .int .i64 ((32 + r : Nat) : Int)] w fun e w' => e = .returned (.int .u64 ((lb k 2 / 2 ^ (r * 4) % 16 : Nat) : Int)) ∧ Below w.heap.size w w' := by
  have hl := lb_lt k 2
  have hq1 : Int.tdiv ((32 + r : Nat) : Int) 16 = 2 := by rw [Int.tdiv_eq_ediv_of_nonneg (by omega)]; omega
  have hq2 : Int.tmod ((32 + r : Nat) : Int) 16 = (r : Int) := by rw [Int.tmod_eq_emod_of_nonneg (by omega)]; omega
  obtain ⟨pl, hpl⟩ : ∃ z : Int, z = ((32 + r : Nat) : Int) := ⟨_, rfl⟩
  rw [← hpl] at hq1 hq2 ⊢
  have hp0 : 0 ≤ pl := by omega
  clear hpl
  simp only [nv, num]
  go_enter Tryz.func169, Tryz.ntmps169
  go_wp2_with fail
  go_ret
  refine ⟨by simp only [dig_int, dig_int2]; rfl, ?_⟩
  go_grown
set_option maxHeartbeats 4000000 in
theorem digit_3 (k r : Nat) (hr : r < 16) (w : World) :
    Calls Tryz.prog 169 #[nv k, .int .i64 ((48 + r : Nat) : Int)] w fun e w' => e = .returned (.int .u64 ((lb k 3 / 2 ^ (r * 4) % 16 : Nat) : Int)) ∧ Below w.heap.size w w' := by
  have hl := lb_lt k 3
  have hq1 : Int.tdiv ((48 + r : Nat) : Int) 16 = 3 := by rw [Int.tdiv_eq_ediv_of_nonneg (by omega)]; omega
  have hq2 : Int.tmod ((48 + r : Nat) : Int) 16 = (r : Int) := by rw [Int.tmod_eq_emod_of_nonneg (by omega)]; omega
  obtain ⟨pl, hpl⟩ : ∃ z : Int, z = ((48 + r : Nat) : Int) := ⟨_, rfl⟩
  rw [← hpl] at hq1 hq2 ⊢
  have hp0 : 0 ≤ pl := by omega
  clear hpl
  simp only [nv, num]
  go_enter Tryz.func169, Tryz.ntmps169
  go_wp2_with fail
  go_ret
  refine ⟨by simp only [dig_int, dig_int2]; rfl, ?_⟩
  go_grown
theorem digit_c (k pl : Nat) (h : pl < 64) (w : World) :
    Calls Tryz.prog 169 #[nv k, .int .i64 (pl : Int)] w fun e w' => e = .returned (.int .u64 ((k / 16 ^ pl % 16 : Nat) : Int)) ∧ Below w.heap.size w w' := by
  have e (q r : Nat) (hr : r < 16) (hp : pl = 16 * q + r) : lb k q / 2 ^ (r * 4) % 16 = k / 16 ^ pl % 16 := by
    have hq : q = 0 ∨ q = 1 ∨ q = 2 ∨ q = 3 := by omega
    have p (n : Nat) (hn : n + r * 4 = 4 * pl) : k / 2 ^ n / 2 ^ (r * 4) % 16 = k / 16 ^ pl % 16 := by
      rw [Nat.div_div_eq_div_mul, ← Nat.pow_add, hn, Nat.pow_mul]
    rcases hq with rfl | rfl | rfl | rfl
    · show k % 18446744073709551616 / 2 ^ (r * 4) % 16 = _
      rw [dig_of _ _ (by omega)]
      have := p 0 (by omega)
      rwa [Nat.pow_zero, Nat.div_one] at this
    · show k / 2 ^ 64 % 18446744073709551616 / 2 ^ (r * 4) % 16 = _
      rw [dig_of _ _ (by omega)]; exact p 64 (by omega)
    · show k / 2 ^ 128 % 18446744073709551616 / 2 ^ (r * 4) % 16 = _
      rw [dig_of _ _ (by omega)]; exact p 128 (by omega)
    · show k / 2 ^ 192 % 18446744073709551616 / 2 ^ (r * 4) % 16 = _
      rw [dig_of _ _ (by omega)]; exact p 192 (by omega)
  obtain ⟨q, r, hr, hp⟩ : ∃ q r, r < 16 ∧ pl = 16 * q + r := ⟨pl / 16, pl % 16, Nat.mod_lt _ (by decide), by omega⟩
  have hq : q = 0 ∨ q = 1 ∨ q = 2 ∨ q = 3 := by omega
  rcases hq with rfl | rfl | rfl | rfl
  · have := digit_0 k r hr w
    rw [e 0 r hr hp] at this
    rw [show pl = r by omega] at this ⊢
    exact this
  · have := digit_1 k r hr w
    rw [e 1 r hr hp] at this
    rw [show pl = 16 + r by omega] at this ⊢
    exact this
  · have := digit_2 k r hr w
    rw [e 2 r hr hp] at this
    rw [show pl = 32 + r by omega] at this ⊢
    exact this
  · have := digit_3 k r hr w
    rw [e 3 r hr hp] at this
    rw [show pl = 48 + r by omega] at this ⊢
    exact this
end Go.Proofs.YtpggkfdijmnmiaaGreat
set_option linter.unusedVariables false
set_option linter.unusedSimpArgs false
set_option maxRecDepth 100000
namespace Go.Proofs.YtpggkfdijmnmiaaGreat
open Go.RowKit Go.Sort Limbs
def dg (k i : Nat) : Nat := k / 16 ^ (63 - i) % 16
def J.mulN (k : Nat) (p : J) : Nat → J
  | 0 => J.far
  | i + 1 => (p.tim (dg k i)).plus (J.mulN k p i).twice.twice.twice.twice
theorem J.mulN_ok {k : Nat} {p : J} (hp : p.ok) : ∀ i, (p.mulN k i).ok
  | 0 => J.far_ok
  | i + 1 => J.plus_ok (J.tim_ok hp _) (J.twice_ok (J.twice_ok (J.twice_ok (J.twice_ok (J.mulN_ok hp i)))))
theorem mulN_0 (k : Nat) (p : J) : cs12 (p.mulN k 0).x (p.mulN k 0).y (p.mulN k 0).z = #[.int .u64 0, .int .u64 0, .int .u64 0, .int .u64 0, .int .u64 0, .int .u64 0, .int .u64 0, .int .u64 0, .int .u64 0, .int .u64 0, .int .u64 0, .int .u64 0] := by simp [J.mulN, J.far, cs12, lb]
set_option maxHeartbeats 32000000 in
theorem multiple_c (k : Nat) (p : J) (hk : k < W256) (hp : p.ok) (w : World) :
    Calls Tryz.prog 142 #[nv k, fv p] w fun e w' => e = .returned (p.mulN k 64).v ∧ Below w.heap.size w w' := by
  have HTW := Lib.hid (fun (q : J) (hq : q.ok) => twicej hq)
  have HOK := Lib.hid (fun i => J.mulN_ok (k := k) hp i)
  have HPL := Lib.hid (fun (d : Nat) (q : J) (hq : q.ok) => plusj (J.tim_ok hp d) hq)
  have HDG := Lib.hid (fun pl (h : pl < 64) => digit_c k pl h)
  clear hk hp
  obtain ⟨res, hres⟩ : ∃ z, z = p.mulN k 64 := ⟨_, rfl⟩
  rw [← hres]
  have HRES := Lib.hid hres
  clear hres
  obtain ⟨tx, ty, tz⟩ := res
  have e : (J.mk tx ty tz).v = jn tx ty tz := rfl
  rw [e]
  clear e
  simp only [nv, num] at HDG ⊢
  unfold fv
  go_enter Tryz.func142, Tryz.ntmps142
  go_wp2_with fail
  have K2 : Hid (Bk 24 ((((w.alloc (.cells #[.int .u64 (lb k 0 : Nat), .int .u64 (lb k 1 : Nat), .int .u64 (lb k 2 : Nat), .int .u64 (lb k 3 : Nat)] 24)).alloc (.cells #[FV p 0, FV p 1, FV p 2, FV p 3, FV p 4, FV p 5, FV p 6, FV p 7, FV p 8, FV p 9, FV p 10, FV p 11, FV p 12, FV p 13, FV p 14, FV p 15] 165)).alloc (.cells #[.int .u64 0, .int .u64 0, .int .u64 0, .int .u64 0, .int .u64 0, .int .u64 0, .int .u64 0, .int .u64 0, .int .u64 0, .int .u64 0, .int .u64 0, .int .u64 0] 162)).alloc (.cells #[.int .u64 0, .int .u64 0, .int .u64 0, .int .u64 0, .int .u64 0, .int .u64 0, .int .u64 0, .int .u64 0, .int .u64 0, .int .u64 0, .int .u64 0, .int .u64 0] 162)) w.heap.size #[.int .u64 (lb k 0 : Nat), .int .u64 (lb k 1 : Nat), .int .u64 (lb k 2 : Nat), .int .u64 (lb k 3 : Nat)]) := Lib.hid (Bk.alloc (Bk.alloc (Bk.alloc (Bk.new rfl))))
  have K3 : Hid (Bk 165 ((((w.alloc (.cells #[.int .u64 (lb k 0 : Nat), .int .u64 (lb k 1 : Nat), .int .u64 (lb k 2 : Nat), .int .u64 (lb k 3 : Nat)] 24)).alloc (.cells #[FV p 0, FV p 1, FV p 2, FV p 3, FV p 4, FV p 5, FV p 6, FV p 7, FV p 8, FV p 9, FV p 10, FV p 11, FV p 12, FV p 13, FV p 14, FV p 15] 165)).alloc (.cells #[.int .u64 0, .int .u64 0, .int .u64 0, .int .u64 0, .int .u64 0, .int .u64 0, .int .u64 0, .int .u64 0, .int .u64 0, .int .u64 0, .int .u64 0, .int .u64 0] 162)).alloc (.cells #[.int .u64 0, .int .u64 0, .int .u64 0, .int .u64 0, .int .u64 0, .int .u64 0, .int .u64 0, .int .u64 0, .int .u64 0, .int .u64 0, .int .u64 0, .int .u64 0] 162)) (w.heap.size + 1) (fa p 16)) := Lib.hid (Bk.alloc (Bk.alloc (Bk.new (by simp))))
  have K4 : Hid (Bk 162 ((((w.alloc (.cells #[.int .u64 (lb k 0 : Nat), .int .u64 (lb k 1 : Nat), .int .u64 (lb k 2 : Nat), .int .u64 (lb k 3 : Nat)] 24)).alloc (.cells #[FV p 0, FV p 1, FV p 2, FV p 3, FV p 4, FV p 5, FV p 6, FV p 7, FV p 8, FV p 9, FV p 10, FV p 11, FV p 12, FV p 13, FV p 14, FV p 15] 165)).alloc (.cells #[.int .u64 0, .int .u64 0, .int .u64 0, .int .u64 0, .int .u64 0, .int .u64 0, .int .u64 0, .int .u64 0, .int .u64 0, .int .u64 0, .int .u64 0, .int .u64 0] 162)).alloc (.cells #[.int .u64 0, .int .u64 0, .int .u64 0, .int .u64 0, .int .u64 0, .int .u64 0, .int .u64 0, .int .u64 0, .int .u64 0, .int .u64 0, .int .u64 0, .int .u64 0] 162)) (w.heap.size + 1 + 1) #[.int .u64 0, .int .u64 0, .int .u64 0, .int .u64 0, .int .u64 0, .int .u64 0, .int .u64 0, .int .u64 0, .int .u64 0, .int .u64 0, .int .u64 0, .int .u64 0]) := Lib.hid (Bk.alloc (Bk.new (by simp)))
  have K5 : Hid (Bk 162 ((((w.alloc (.cells #[.int .u64 (lb k 0 : Nat), .int .u64 (lb k 1 : Nat), .int .u64 (lb k 2 : Nat), .int .u64 (lb k 3 : Nat)] 24)).alloc (.cells #[FV p 0, FV p 1, FV p 2, FV p 3, FV p 4, FV p 5, FV p 6, FV p 7, FV p 8, FV p 9, FV p 10, FV p 11, FV p 12, FV p 13, FV p 14, FV p 15] 165)).alloc (.cells #[.int .u64 0, .int .u64 0, .int .u64 0, .int .u64 0, .int .u64 0, .int .u64 0, .int .u64 0, .int .u64 0, .int .u64 0, .int .u64 0, .int .u64 0, .int .u64 0] 162)).alloc (.cells #[.int .u64 0, .int .u64 0, .int .u64 0, .int .u64 0, .int .u64 0, .int .u64 0, .int .u64 0, .int .u64 0, .int .u64 0, .int .u64 0, .int .u64 0, .int .u64 0] 162)) (w.heap.size + 1 + 1 + 1) (cs12 (p.mulN k 0).x (p.mulN k 0).y (p.mulN k 0).z)) := Lib.hid (by rw [mulN_0]; exact Bk.new (by simp))
  have HB : Hid (Below w.heap.size w ((((w.alloc (.cells #[.int .u64 (lb k 0 : Nat), .int .u64 (lb k 1 : Nat), .int .u64 (lb k 2 : Nat), .int .u64 (lb k 3 : Nat)] 24)).alloc (.cells #[FV p 0, FV p 1, FV p 2, FV p 3, FV p 4, FV p 5, FV p 6, FV p 7, FV p 8, FV p 9, FV p 10, FV p 11, FV p 12, FV p 13, FV p 14, FV p 15] 165)).alloc (.cells #[.int .u64 0, .int .u64 0, .int .u64 0, .int .u64 0, .int .u64 0, .int .u64 0, .int .u64 0, .int .u64 0, .int .u64 0, .int .u64 0, .int .u64 0, .int .u64 0] 162)).alloc (.cells #[.int .u64 0, .int .u64 0, .int .u64 0, .int .u64 0, .int .u64 0, .int .u64 0, .int .u64 0, .int .u64 0, .int .u64 0, .int .u64 0, .int .u64 0, .int .u64 0] 162))) := Lib.hid (by go_grown)
  generalize ((((w.alloc (.cells #[.int .u64 (lb k 0 : Nat), .int .u64 (lb k 1 : Nat), .int .u64 (lb k 2 : Nat), .int .u64 (lb k 3 : Nat)] 24)).alloc (.cells #[FV p 0, FV p 1, FV p 2, FV p 3, FV p 4, FV p 5, FV p 6, FV p 7, FV p 8, FV p 9, FV p 10, FV p 11, FV p 12, FV p 13, FV p 14, FV p 15] 165)).alloc (.cells #[.int .u64 0, .int .u64 0, .int .u64 0, .int .u64 0, .int .u64 0, .int .u64 0, .int .u64 0, .int .u64 0, .int .u64 0, .int .u64 0, .int .u64 0, .int .u64 0] 162)).alloc (.cells #[.int .u64 0, .int .u64 0, .int .u64 0, .int .u64 0, .int .u64 0, .int .u64 0, .int .u64 0, .int .u64 0, .int .u64 0, .int .u64 0, .int .u64 0, .int .u64 0] 162)) = W at K2 K3 K4 K5 HB ⊢
  obtain ⟨g3, hg3⟩ : ∃ z, z = w.heap.size + 1 := ⟨_, rfl⟩
  obtain ⟨g4, hg4⟩ : ∃ z, z = w.heap.size + 1 + 1 := ⟨_, rfl⟩
  obtain ⟨g5, hg5⟩ : ∃ z, z = w.heap.size + 1 + 1 + 1 := ⟨_, rfl⟩
  rw [← hg3] at K3
  rw [← hg4] at K4
  rw [← hg5] at K5
  rw [← hg5, ← hg4, ← hg3]
  obtain ⟨g2, hg2⟩ : ∃ z, z = w.heap.size := ⟨_, rfl⟩
  have e : (Value.pointer (some ⟨w.heap.size, 0, none⟩)) = .pointer (some ⟨g2, 0, none⟩) := by rw [hg2]
  rw [e]
  rw [← hg2] at K2
  have HG : Hid ((w.heap.size ≤ g4 ∧ w.heap.size ≤ g5) ∧ (g2 ≠ g5 ∧ g3 ≠ g5 ∧ g4 ≠ g5)) := Lib.hid ⟨⟨by omega, by omega⟩, by omega, by omega, by omega⟩
  clear e hg3 hg4 hg5 hg2
  go_loopw [7] (fun b wr => ∃ i : Nat, i ≤ 64 ∧ b = .int .i64 (i : Int) ∧ Bk 24 wr g2 #[.int .u64 (lb k 0 : Nat), .int .u64 (lb k 1 : Nat), .int .u64 (lb k 2 : Nat), .int .u64 (lb k 3 : Nat)] ∧ Bk 165 wr g3 (fa p 16) ∧ Bk 162 wr g4 #[.int .u64 0, .int .u64 0, .int .u64 0, .int .u64 0, .int .u64 0, .int .u64 0, .int .u64 0, .int .u64 0, .int .u64 0, .int .u64 0, .int .u64 0, .int .u64 0] ∧ Bk 162 wr g5 (cs12 (p.mulN k i).x (p.mulN k i).y (p.mulN k i).z) ∧ Below w.heap.size w wr) (fun b _ => 64 - (intOf b).toNat)
  case atStart => exact ⟨0, by omega, rfl, K2.out, K3.out, K4.out, K5.out, HB.out⟩
  case round =>
    clear K2 K3 K4 K5 HB
    obtain ⟨i, hi, rfl, k2, k3, k4, k5, hb⟩ := hrel
    have K2 := Lib.hid k2
    have K3 := Lib.hid k3
    have K4 := Lib.hid k4
    have K5 := Lib.hid k5
    have HB := Lib.hid hb
    clear k2 k3 k4 k5 hb
    by_cases hlt : i < 64
    · go_wp2_with fail
      refine wp_loop_rounds 5 ?_
      have HO0 := Lib.hid (HOK.out i)
      obtain ⟨T0, hT0⟩ : ∃ z, z = p.mulN k i := ⟨_, rfl⟩
      rw [← hT0] at HO0 K5
      obtain ⟨a0x, a0y, a0z⟩ := T0
      have HT0 := Lib.hid hT0
      clear hT0
      simp only [] at K5
      have HO1 := Lib.hid (J.twice_ok HO0.out)
      have HC := Lib.hid (HTW.out ⟨a0x, a0y, a0z⟩ HO0.out)
      obtain ⟨T1, hT1⟩ : ∃ z, z = (J.mk a0x a0y a0z).twice := ⟨_, rfl⟩
      rw [← hT1] at HC HO1
      obtain ⟨a1x, a1y, a1z⟩ := T1
      have HT1 := Lib.hid hT1
      clear hT1 HO0
      simp only [J.v, jn] at HC
      obtain ⟨⟨x0, x1, x2, x3⟩, ⟨y0, y1, y2, y3⟩, z0, z1, z2, z3⟩ := K5.out.cells12
      rw [rounds_succ]
      go_wp2_with fail
      refine (keep w.heap.size w (HC.out _) HB.out (Nat.le_refl _)).mono ?_
      rintro e w1 ⟨rfl, hb, hkk⟩
      have K2' := Lib.hid (K2.out.below hkk)
      have K3' := Lib.hid (K3.out.below hkk)
      have K4' := Lib.hid (K4.out.below hkk)
      have K5' := Lib.hid (K5.out.below hkk)
      have HB' := Lib.hid hb
      clear hb hkk K2 K3 K4 K5 HB HC x0 x1 x2 x3 y0 y1 y2 y3 z0 z1 z2 z3
      obtain ⟨⟨f0, f1, f2, f3⟩, ⟨f4, f5, f6, f7⟩, f8, f9, f10, f11⟩ := K5'.out.fros12
      obtain ⟨⟨c0, c1, c2, c3⟩, ⟨c4, c5, c6, c7⟩, c8, c9, c10, c11⟩ := K5'.out.cells12
      go_wp2_with fail
      clear f0 f1 f2 f3 f4 f5 f6 f7 f8 f9 f10 f11 c0 c1 c2 c3 c4 c5 c6 c7 c8 c9 c10 c11
      have K2 : Hid (Bk 24 ((((((((((((w1.setCell ⟨g5, 0, none⟩ (.int .u64 (lb a1x 0 : Nat))).setCell ⟨g5, 1, none⟩ (.int .u64 (lb a1x 1 : Nat))).setCell ⟨g5, 2, none⟩ (.int .u64 (lb a1x 2 : Nat))).setCell ⟨g5, 3, none⟩ (.int .u64 (lb a1x 3 : Nat))).setCell ⟨g5, 4, none⟩ (.int .u64 (lb a1y 0 : Nat))).setCell ⟨g5, 5, none⟩ (.int .u64 (lb a1y 1 : Nat))).setCell ⟨g5, 6, none⟩ (.int .u64 (lb a1y 2 : Nat))).setCell ⟨g5, 7, none⟩ (.int .u64 (lb a1y 3 : Nat))).setCell ⟨g5, 8, none⟩ (.int .u64 (lb a1z 0 : Nat))).setCell ⟨g5, 9, none⟩ (.int .u64 (lb a1z 1 : Nat))).setCell ⟨g5, 10, none⟩ (.int .u64 (lb a1z 2 : Nat))).setCell ⟨g5, 11, none⟩ (.int .u64 (lb a1z 3 : Nat))) g2 #[.int .u64 (lb k 0 : Nat), .int .u64 (lb k 1 : Nat), .int .u64 (lb k 2 : Nat), .int .u64 (lb k 3 : Nat)]) := Lib.hid (Bk.puto12 HG.out.2.1 K2'.out)
      have K3 : Hid (Bk 165 ((((((((((((w1.setCell ⟨g5, 0, none⟩ (.int .u64 (lb a1x 0 : Nat))).setCell ⟨g5, 1, none⟩ (.int .u64 (lb a1x 1 : Nat))).setCell ⟨g5, 2, none⟩ (.int .u64 (lb a1x 2 : Nat))).setCell ⟨g5, 3, none⟩ (.int .u64 (lb a1x 3 : Nat))).setCell ⟨g5, 4, none⟩ (.int .u64 (lb a1y 0 : Nat))).setCell ⟨g5, 5, none⟩ (.int .u64 (lb a1y 1 : Nat))).setCell ⟨g5, 6, none⟩ (.int .u64 (lb a1y 2 : Nat))).setCell ⟨g5, 7, none⟩ (.int .u64 (lb a1y 3 : Nat))).setCell ⟨g5, 8, none⟩ (.int .u64 (lb a1z 0 : Nat))).setCell ⟨g5, 9, none⟩ (.int .u64 (lb a1z 1 : Nat))).setCell ⟨g5, 10, none⟩ (.int .u64 (lb a1z 2 : Nat))).setCell ⟨g5, 11, none⟩ (.int .u64 (lb a1z 3 : Nat))) g3 (fa p 16)) := Lib.hid (Bk.puto12 HG.out.2.2.1 K3'.out)
      have K4 : Hid (Bk 162 ((((((((((((w1.setCell ⟨g5, 0, none⟩ (.int .u64 (lb a1x 0 : Nat))).setCell ⟨g5, 1, none⟩ (.int .u64 (lb a1x 1 : Nat))).setCell ⟨g5, 2, none⟩ (.int .u64 (lb a1x 2 : Nat))).setCell ⟨g5, 3, none⟩ (.int .u64 (lb a1x 3 : Nat))).setCell ⟨g5, 4, none⟩ (.int .u64 (lb a1y 0 : Nat))).setCell ⟨g5, 5, none⟩ (.int .u64 (lb a1y 1 : Nat))).setCell ⟨g5, 6, none⟩ (.int .u64 (lb a1y 2 : Nat))).setCell ⟨g5, 7, none⟩ (.int .u64 (lb a1y 3 : Nat))).setCell ⟨g5, 8, none⟩ (.int .u64 (lb a1z 0 : Nat))).setCell ⟨g5, 9, none⟩ (.int .u64 (lb a1z 1 : Nat))).setCell ⟨g5, 10, none⟩ (.int .u64 (lb a1z 2 : Nat))).setCell ⟨g5, 11, none⟩ (.int .u64 (lb a1z 3 : Nat))) g4 #[.int .u64 0, .int .u64 0, .int .u64 0, .int .u64 0, .int .u64 0, .int .u64 0, .int .u64 0, .int .u64 0, .int .u64 0, .int .u64 0, .int .u64 0, .int .u64 0]) := Lib.hid (Bk.puto12 HG.out.2.2.2 K4'.out)
      have K5 : Hid (Bk 162 ((((((((((((w1.setCell ⟨g5, 0, none⟩ (.int .u64 (lb a1x 0 : Nat))).setCell ⟨g5, 1, none⟩ (.int .u64 (lb a1x 1 : Nat))).setCell ⟨g5, 2, none⟩ (.int .u64 (lb a1x 2 : Nat))).setCell ⟨g5, 3, none⟩ (.int .u64 (lb a1x 3 : Nat))).setCell ⟨g5, 4, none⟩ (.int .u64 (lb a1y 0 : Nat))).setCell ⟨g5, 5, none⟩ (.int .u64 (lb a1y 1 : Nat))).setCell ⟨g5, 6, none⟩ (.int .u64 (lb a1y 2 : Nat))).setCell ⟨g5, 7, none⟩ (.int .u64 (lb a1y 3 : Nat))).setCell ⟨g5, 8, none⟩ (.int .u64 (lb a1z 0 : Nat))).setCell ⟨g5, 9, none⟩ (.int .u64 (lb a1z 1 : Nat))).setCell ⟨g5, 10, none⟩ (.int .u64 (lb a1z 2 : Nat))).setCell ⟨g5, 11, none⟩ (.int .u64 (lb a1z 3 : Nat))) g5 #[.int .u64 (lb a1x 0 : Nat), .int .u64 (lb a1x 1 : Nat), .int .u64 (lb a1x 2 : Nat), .int .u64 (lb a1x 3 : Nat), .int .u64 (lb a1y 0 : Nat), .int .u64 (lb a1y 1 : Nat), .int .u64 (lb a1y 2 : Nat), .int .u64 (lb a1y 3 : Nat), .int .u64 (lb a1z 0 : Nat), .int .u64 (lb a1z 1 : Nat), .int .u64 (lb a1z 2 : Nat), .int .u64 (lb a1z 3 : Nat)]) := Lib.hid (Bk.put12 K5'.out)
      have HB : Hid (Below w.heap.size w ((((((((((((w1.setCell ⟨g5, 0, none⟩ (.int .u64 (lb a1x 0 : Nat))).setCell ⟨g5, 1, none⟩ (.int .u64 (lb a1x 1 : Nat))).setCell ⟨g5, 2, none⟩ (.int .u64 (lb a1x 2 : Nat))).setCell ⟨g5, 3, none⟩ (.int .u64 (lb a1x 3 : Nat))).setCell ⟨g5, 4, none⟩ (.int .u64 (lb a1y 0 : Nat))).setCell ⟨g5, 5, none⟩ (.int .u64 (lb a1y 1 : Nat))).setCell ⟨g5, 6, none⟩ (.int .u64 (lb a1y 2 : Nat))).setCell ⟨g5, 7, none⟩ (.int .u64 (lb a1y 3 : Nat))).setCell ⟨g5, 8, none⟩ (.int .u64 (lb a1z 0 : Nat))).setCell ⟨g5, 9, none⟩ (.int .u64 (lb a1z 1 : Nat))).setCell ⟨g5, 10, none⟩ (.int .u64 (lb a1z 2 : Nat))).setCell ⟨g5, 11, none⟩ (.int .u64 (lb a1z 3 : Nat)))) := Lib.hid (by have hb := HB'.out; have hg := HG.out.1.2; go_grown)
      generalize ((((((((((((w1.setCell ⟨g5, 0, none⟩ (.int .u64 (lb a1x 0 : Nat))).setCell ⟨g5, 1, none⟩ (.int .u64 (lb a1x 1 : Nat))).setCell ⟨g5, 2, none⟩ (.int .u64 (lb a1x 2 : Nat))).setCell ⟨g5, 3, none⟩ (.int .u64 (lb a1x 3 : Nat))).setCell ⟨g5, 4, none⟩ (.int .u64 (lb a1y 0 : Nat))).setCell ⟨g5, 5, none⟩ (.int .u64 (lb a1y 1 : Nat))).setCell ⟨g5, 6, none⟩ (.int .u64 (lb a1y 2 : Nat))).setCell ⟨g5, 7, none⟩ (.int .u64 (lb a1y 3 : Nat))).setCell ⟨g5, 8, none⟩ (.int .u64 (lb a1z 0 : Nat))).setCell ⟨g5, 9, none⟩ (.int .u64 (lb a1z 1 : Nat))).setCell ⟨g5, 10, none⟩ (.int .u64 (lb a1z 2 : Nat))).setCell ⟨g5, 11, none⟩ (.int .u64 (lb a1z 3 : Nat))) = V1 at K2 K3 K4 K5 HB ⊢
      clear K2' K3' K4' K5' HB'
      have HO2 := Lib.hid (J.twice_ok HO1.out)
      have HC := Lib.hid (HTW.out ⟨a1x, a1y, a1z⟩ HO1.out)
      obtain ⟨T2, hT2⟩ : ∃ z, z = (J.mk a1x a1y a1z).twice := ⟨_, rfl⟩
      rw [← hT2] at HC HO2
      obtain ⟨a2x, a2y, a2z⟩ := T2
      have HT2 := Lib.hid hT2
      clear hT2 HO1
      simp only [J.v, jn] at HC
      obtain ⟨⟨x0, x1, x2, x3⟩, ⟨y0, y1, y2, y3⟩, z0, z1, z2, z3⟩ := K5.out.cells12
      rw [rounds_succ]
      go_wp2_with fail
      refine (keep w.heap.size w (HC.out _) HB.out (Nat.le_refl _)).mono ?_
      rintro e w2 ⟨rfl, hb, hkk⟩
      have K2' := Lib.hid (K2.out.below hkk)
      have K3' := Lib.hid (K3.out.below hkk)
      have K4' := Lib.hid (K4.out.below hkk)
      have K5' := Lib.hid (K5.out.below hkk)
      have HB' := Lib.hid hb
      clear hb hkk K2 K3 K4 K5 HB HC x0 x1 x2 x3 y0 y1 y2 y3 z0 z1 z2 z3
      obtain ⟨⟨f0, f1, f2, f3⟩, ⟨f4, f5, f6, f7⟩, f8, f9, f10, f11⟩ := K5'.out.fros12
      obtain ⟨⟨c0, c1, c2, c3⟩, ⟨c4, c5, c6, c7⟩, c8, c9, c10, c11⟩ := K5'.out.cells12
      go_wp2_with fail
      clear f0 f1 f2 f3 f4 f5 f6 f7 f8 f9 f10 f11 c0 c1 c2 c3 c4 c5 c6 c7 c8 c9 c10 c11
      have K2 : Hid (Bk 24 ((((((((((((w2.setCell ⟨g5, 0, none⟩ (.int .u64 (lb a2x 0 : Nat))).setCell ⟨g5, 1, none⟩ (.int .u64 (lb a2x 1 : Nat))).setCell ⟨g5, 2, none⟩ (.int .u64 (lb a2x 2 : Nat))).setCell ⟨g5, 3, none⟩ (.int .u64 (lb a2x 3 : Nat))).setCell ⟨g5, 4, none⟩ (.int .u64 (lb a2y 0 : Nat))).setCell ⟨g5, 5, none⟩ (.int .u64 (lb a2y 1 : Nat))).setCell ⟨g5, 6, none⟩ (.int .u64 (lb a2y 2 : Nat))).setCell ⟨g5, 7, none⟩ (.int .u64 (lb a2y 3 : Nat))).setCell ⟨g5, 8, none⟩ (.int .u64 (lb a2z 0 : Nat))).setCell ⟨g5, 9, none⟩ (.int .u64 (lb a2z 1 : Nat))).setCell ⟨g5, 10, none⟩ (.int .u64 (lb a2z 2 : Nat))).setCell ⟨g5, 11, none⟩ (.int .u64 (lb a2z 3 : Nat))) g2 #[.int .u64 (lb k 0 : Nat), .int .u64 (lb k 1 : Nat), .int .u64 (lb k 2 : Nat), .int .u64 (lb k 3 : Nat)]) := Lib.hid (Bk.puto12 HG.out.2.1 K2'.out)
      have K3 : Hid (Bk 165 ((((((((((((w2.setCell ⟨g5, 0, none⟩ (.int .u64 (lb a2x 0 : Nat))).setCell ⟨g5, 1, none⟩ (.int .u64 (lb a2x 1 : Nat))).setCell ⟨g5, 2, none⟩ (.int .u64 (lb a2x 2 : Nat))).setCell ⟨g5, 3, none⟩ (.int .u64 (lb a2x 3 : Nat))).setCell ⟨g5, 4, none⟩ (.int .u64 (lb a2y 0 : Nat))).setCell ⟨g5, 5, none⟩ (.int .u64 (lb a2y 1 : Nat))).setCell ⟨g5, 6, none⟩ (.int .u64 (lb a2y 2 : Nat))).setCell ⟨g5, 7, none⟩ (.int .u64 (lb a2y 3 : Nat))).setCell ⟨g5, 8, none⟩ (.int .u64 (lb a2z 0 : Nat))).setCell ⟨g5, 9, none⟩ (.int .u64 (lb a2z 1 : Nat))).setCell ⟨g5, 10, none⟩ (.int .u64 (lb a2z 2 : Nat))).setCell ⟨g5, 11, none⟩ (.int .u64 (lb a2z 3 : Nat))) g3 (fa p 16)) := Lib.hid (Bk.puto12 HG.out.2.2.1 K3'.out)
      have K4 : Hid (Bk 162 ((((((((((((w2.setCell ⟨g5, 0, none⟩ (.int .u64 (lb a2x 0 : Nat))).setCell ⟨g5, 1, none⟩ (.int .u64 (lb a2x 1 : Nat))).setCell ⟨g5, 2, none⟩ (.int .u64 (lb a2x 2 : Nat))).setCell ⟨g5, 3, none⟩ (.int .u64 (lb a2x 3 : Nat))).setCell ⟨g5, 4, none⟩ (.int .u64 (lb a2y 0 : Nat))).setCell ⟨g5, 5, none⟩ (.int .u64 (lb a2y 1 : Nat))).setCell ⟨g5, 6, none⟩ (.int .u64 (lb a2y 2 : Nat))).setCell ⟨g5, 7, none⟩ (.int .u64 (lb a2y 3 : Nat))).setCell ⟨g5, 8, none⟩ (.int .u64 (lb a2z 0 : Nat))).setCell ⟨g5, 9, none⟩ (.int .u64 (lb a2z 1 : Nat))).setCell ⟨g5, 10, none⟩ (.int .u64 (lb a2z 2 : Nat))).setCell ⟨g5, 11, none⟩ (.int .u64 (lb a2z 3 : Nat))) g4 #[.int .u64 0, .int .u64 0, .int .u64 0, .int .u64 0, .int .u64 0, .int .u64 0, .int .u64 0, .int .u64 0, .int .u64 0, .int .u64 0, .int .u64 0, .int .u64 0]) := Lib.hid (Bk.puto12 HG.out.2.2.2 K4'.out)
      have K5 : Hid (Bk 162 ((((((((((((w2.setCell ⟨g5, 0, none⟩ (.int .u64 (lb a2x 0 : Nat))).setCell ⟨g5, 1, none⟩ (.int .u64 (lb a2x 1 : Nat))).setCell ⟨g5, 2, none⟩ (.int .u64 (lb a2x 2 : Nat))).setCell ⟨g5, 3, none⟩ (.int .u64 (lb a2x 3 : Nat))).setCell ⟨g5, 4, none⟩ (.int .u64 (lb a2y 0 : Nat))).setCell ⟨g5, 5, none⟩ (.int .u64 (lb a2y 1 : Nat))).setCell ⟨g5, 6, none⟩ (.int .u64 (lb a2y 2 : Nat))).setCell ⟨g5, 7, none⟩ (.int .u64 (lb a2y 3 : Nat))).setCell ⟨g5, 8, none⟩ (.int .u64 (lb a2z 0 : Nat))).setCell ⟨g5, 9, none⟩ (.int .u64 (lb a2z 1 : Nat))).setCell ⟨g5, 10, none⟩ (.int .u64 (lb a2z 2 : Nat))).setCell ⟨g5, 11, none⟩ (.int .u64 (lb a2z 3 : Nat))) g5 #[.int .u64 (lb a2x 0 : Nat), .int .u64 (lb a2x 1 : Nat), .int .u64 (lb a2x 2 : Nat), .int .u64 (lb a2x 3 : Nat), .int .u64 (lb a2y 0 : Nat), .int .u64 (lb a2y 1 : Nat), .int .u64 (lb a2y 2 : Nat), .int .u64 (lb a2y 3 : Nat), .int .u64 (lb a2z 0 : Nat), .int .u64 (lb a2z 1 : Nat), .int .u64 (lb a2z 2 : Nat), .int .u64 (lb a2z 3 : Nat)]) := Lib.hid (Bk.put12 K5'.out)
      have HB : Hid (Below w.heap.size w ((((((((((((w2.setCell ⟨g5, 0, none⟩ (.int .u64 (lb a2x 0 : Nat))).setCell ⟨g5, 1, none⟩ (.int .u64 (lb a2x 1 : Nat))).setCell ⟨g5, 2, none⟩ (.int .u64 (lb a2x 2 : Nat))).setCell ⟨g5, 3, none⟩ (.int .u64 (lb a2x 3 : Nat))).setCell ⟨g5, 4, none⟩ (.int .u64 (lb a2y 0 : Nat))).setCell ⟨g5, 5, none⟩ (.int .u64 (lb a2y 1 : Nat))).setCell ⟨g5, 6, none⟩ (.int .u64 (lb a2y 2 : Nat))).setCell ⟨g5, 7, none⟩ (.int .u64 (lb a2y 3 : Nat))).setCell ⟨g5, 8, none⟩ (.int .u64 (lb a2z 0 : Nat))).setCell ⟨g5, 9, none⟩ (.int .u64 (lb a2z 1 : Nat))).setCell ⟨g5, 10, none⟩ (.int .u64 (lb a2z 2 : Nat))).setCell ⟨g5, 11, none⟩ (.int .u64 (lb a2z 3 : Nat)))) := Lib.hid (by have hb := HB'.out; have hg := HG.out.1.2; go_grown)
      generalize ((((((((((((w2.setCell ⟨g5, 0, none⟩ (.int .u64 (lb a2x 0 : Nat))).setCell ⟨g5, 1, none⟩ (.int .u64 (lb a2x 1 : Nat))).setCell ⟨g5, 2, none⟩ (.int .u64 (lb a2x 2 : Nat))).setCell ⟨g5, 3, none⟩ (.int .u64 (lb a2x 3 : Nat))).setCell ⟨g5, 4, none⟩ (.int .u64 (lb a2y 0 : Nat))).setCell ⟨g5, 5, none⟩ (.int .u64 (lb a2y 1 : Nat))).setCell ⟨g5, 6, none⟩ (.int .u64 (lb a2y 2 : Nat))).setCell ⟨g5, 7, none⟩ (.int .u64 (lb a2y 3 : Nat))).setCell ⟨g5, 8, none⟩ (.int .u64 (lb a2z 0 : Nat))).setCell ⟨g5, 9, none⟩ (.int .u64 (lb a2z 1 : Nat))).setCell ⟨g5, 10, none⟩ (.int .u64 (lb a2z 2 : Nat))).setCell ⟨g5, 11, none⟩ (.int .u64 (lb a2z 3 : Nat))) = V2 at K2 K3 K4 K5 HB ⊢
      clear K2' K3' K4' K5' HB'
      have HO3 := Lib.hid (J.twice_ok HO2.out)
      have HC := Lib.hid (HTW.out ⟨a2x, a2y, a2z⟩ HO2.out)
      obtain ⟨T3, hT3⟩ : ∃ z, z = (J.mk a2x a2y a2z).twice := ⟨_, rfl⟩
      rw [← hT3] at HC HO3
      obtain ⟨a3x, a3y, a3z⟩ := T3
      have HT3 := Lib.hid hT3
      clear hT3 HO2
      simp only [J.v, jn] at HC
      obtain ⟨⟨x0, x1, x2, x3⟩, ⟨y0, y1, y2, y3⟩, z0, z1, z2, z3⟩ := K5.out.cells12
      rw [rounds_succ]
      go_wp2_with fail
      refine (keep w.heap.size w (HC.out _) HB.out (Nat.le_refl _)).mono ?_
      rintro e w3 ⟨rfl, hb, hkk⟩
      have K2' := Lib.hid (K2.out.below hkk)
      have K3' := Lib.hid (K3.out.below hkk)
      have K4' := Lib.hid (K4.out.below hkk)
      have K5' := Lib.hid (K5.out.below hkk)
      have HB' := Lib.hid hb
      clear hb hkk K2 K3 K4 K5 HB HC x0 x1 x2 x3 y0 y1 y2 y3 z0 z1 z2 z3
      obtain ⟨⟨f0, f1, f2, f3⟩, ⟨f4, f5, f6, f7⟩, f8, f9, f10, f11⟩ := K5'.out.fros12
      obtain ⟨⟨c0, c1, c2, c3⟩, ⟨c4, c5, c6, c7⟩, c8, c9, c10, c11⟩ := K5'.out.cells12
      go_wp2_with fail
      clear f0 f1 f2 f3 f4 f5 f6 f7 f8 f9 f10 f11 c0 c1 c2 c3 c4 c5 c6 c7 c8 c9 c10 c11
      have K2 : Hid (Bk 24 ((((((((((((w3.setCell ⟨g5, 0, none⟩ (.int .u64 (lb a3x 0 : Nat))).setCell ⟨g5, 1, none⟩ (.int .u64 (lb a3x 1 : Nat))).setCell ⟨g5, 2, none⟩ (.int .u64 (lb a3x 2 : Nat))).setCell ⟨g5, 3, none⟩ (.int .u64 (lb a3x 3 : Nat))).setCell ⟨g5, 4, none⟩ (.int .u64 (lb a3y 0 : Nat))).setCell ⟨g5, 5, none⟩ (.int .u64 (lb a3y 1 : Nat))).setCell ⟨g5, 6, none⟩ (.int .u64 (lb a3y 2 : Nat))).setCell ⟨g5, 7, none⟩ (.int .u64 (lb a3y 3 : Nat))).setCell ⟨g5, 8, none⟩ (.int .u64 (lb a3z 0 : Nat))).setCell ⟨g5, 9, none⟩ (.int .u64 (lb a3z 1 : Nat))).setCell ⟨g5, 10, none⟩ (.int .u64 (lb a3z 2 : Nat))).setCell ⟨g5, 11, none⟩ (.int .u64 (lb a3z 3 : Nat))) g2 #[.int .u64 (lb k 0 : Nat), .int .u64 (lb k 1 : Nat), .int .u64 (lb k 2 : Nat), .int .u64 (lb k 3 : Nat)]) := Lib.hid (Bk.puto12 HG.out.2.1 K2'.out)
      have K3 : Hid (Bk 165 ((((((((((((w3.setCell ⟨g5, 0, none⟩ (.int .u64 (lb a3x 0 : Nat))).setCell ⟨g5, 1, none⟩ (.int .u64 (lb a3x 1 : Nat))).setCell ⟨g5, 2, none⟩ (.int .u64 (lb a3x 2 : Nat))).setCell ⟨g5, 3, none⟩ (.int .u64 (lb a3x 3 : Nat))).setCell ⟨g5, 4, none⟩ (.int .u64 (lb a3y 0 : Nat))).setCell ⟨g5, 5, none⟩ (.int .u64 (lb a3y 1 : Nat))).setCell ⟨g5, 6, none⟩ (.int .u64 (lb a3y 2 : Nat))).setCell ⟨g5, 7, none⟩ (.int .u64 (lb a3y 3 : Nat))).setCell ⟨g5, 8, none⟩ (.int .u64 (lb a3z 0 : Nat))).setCell ⟨g5, 9, none⟩ (.int .u64 (lb a3z 1 : Nat))).setCell ⟨g5, 10, none⟩ (.int .u64 (lb a3z 2 : Nat))).setCell ⟨g5, 11, none⟩ (.int .u64 (lb a3z 3 : Nat))) g3 (fa p 16)) := Lib.hid (Bk.puto12 HG.out.2.2.1 K3'.out)
      have K4 : Hid (Bk 162 ((((((((((((w3.setCell ⟨g5, 0, none⟩ (.int .u64 (lb a3x 0 : Nat))).setCell ⟨g5, 1, none⟩ (.int .u64 (lb a3x 1 : Nat))).setCell ⟨g5, 2, none⟩ (.int .u64 (lb a3x 2 : Nat))).setCell ⟨g5, 3, none⟩ (.int .u64 (lb a3x 3 : Nat))).setCell ⟨g5, 4, none⟩ (.int .u64 (lb a3y 0 : Nat))).setCell ⟨g5, 5, none⟩ (.int .u64 (lb a3y 1 : Nat))).setCell ⟨g5, 6, none⟩ (.int .u64 (lb a3y 2 : Nat))).setCell ⟨g5, 7, none⟩ (.int .u64 (lb a3y 3 : Nat))).setCell ⟨g5, 8, none⟩ (.int .u64 (lb a3z 0 : Nat))).setCell ⟨g5, 9, none⟩ (.int .u64 (lb a3z 1 : Nat))).setCell ⟨g5, 10, none⟩ (.int .u64 (lb a3z 2 : Nat))).setCell ⟨g5, 11, none⟩ (.int .u64 (lb a3z 3 : Nat))) g4 #[.int .u64 0, .int .u64 0, .int .u64 0, .int .u64 0, .int .u64 0, .int .u64 0, .int .u64 0, .int .u64 0, .int .u64 0, .int .u64 0, .int .u64 0, .int .u64 0]) := Lib.hid (Bk.puto12 HG.out.2.2.2 K4'.out)
      have K5 : Hid (Bk 162 ((((((((((((w3.setCell ⟨g5, 0, none⟩ (.int .u64 (lb a3x 0 : Nat))).setCell ⟨g5, 1, none⟩ (.int .u64 (lb a3x 1 : Nat))).setCell ⟨g5, 2, none⟩ (.int .u64 (lb a3x 2 : Nat))).setCell ⟨g5, 3, none⟩ (.int .u64 (lb a3x 3 : Nat))).setCell ⟨g5, 4, none⟩ (.int .u64 (lb a3y 0 : Nat))).setCell ⟨g5, 5, none⟩ (.int .u64 (lb a3y 1 : Nat))).setCell ⟨g5, 6, none⟩ (.int .u64 (lb a3y 2 : Nat))).setCell ⟨g5, 7, none⟩ (.int .u64 (lb a3y 3 : Nat))).setCell ⟨g5, 8, none⟩ (.int .u64 (lb a3z 0 : Nat))).setCell ⟨g5, 9, none⟩ (.int .u64 (lb a3z 1 : Nat))).setCell ⟨g5, 10, none⟩ (.int .u64 (lb a3z 2 : Nat))).setCell ⟨g5, 11, none⟩ (.int .u64 (lb a3z 3 : Nat))) g5 #[.int .u64 (lb a3x 0 : Nat), .int .u64 (lb a3x 1 : Nat), .int .u64 (lb a3x 2 : Nat), .int .u64 (lb a3x 3 : Nat), .int .u64 (lb a3y 0 : Nat), .int .u64 (lb a3y 1 : Nat), .int .u64 (lb a3y 2 : Nat), .int .u64 (lb a3y 3 : Nat), .int .u64 (lb a3z 0 : Nat), .int .u64 (lb a3z 1 : Nat), .int .u64 (lb a3z 2 : Nat), .int .u64 (lb a3z 3 : Nat)]) := Lib.hid (Bk.put12 K5'.out)
      have HB : Hid (Below w.heap.size w ((((((((((((w3.setCell ⟨g5, 0, none⟩ (.int .u64 (lb a3x 0 : Nat))).setCell ⟨g5, 1, none⟩ (.int .u64 (lb a3x 1 : Nat))).setCell ⟨g5, 2, none⟩ (.int .u64 (lb a3x 2 : Nat))).setCell ⟨g5, 3, none⟩ (.int .u64 (lb a3x 3 : Nat))).setCell ⟨g5, 4, none⟩ (.int .u64 (lb a3y 0 : Nat))).setCell ⟨g5, 5, none⟩ (.int .u64 (lb a3y 1 : Nat))).setCell ⟨g5, 6, none⟩ (.int .u64 (lb a3y 2 : Nat))).setCell ⟨g5, 7, none⟩ (.int .u64 (lb a3y 3 : Nat))).setCell ⟨g5, 8, none⟩ (.int .u64 (lb a3z 0 : Nat))).setCell ⟨g5, 9, none⟩ (.int .u64 (lb a3z 1 : Nat))).setCell ⟨g5, 10, none⟩ (.int .u64 (lb a3z 2 : Nat))).setCell ⟨g5, 11, none⟩ (.int .u64 (lb a3z 3 : Nat)))) := Lib.hid (by have hb := HB'.out; have hg := HG.out.1.2; go_grown)
      generalize ((((((((((((w3.setCell ⟨g5, 0, none⟩ (.int .u64 (lb a3x 0 : Nat))).setCell ⟨g5, 1, none⟩ (.int .u64 (lb a3x 1 : Nat))).setCell ⟨g5, 2, none⟩ (.int .u64 (lb a3x 2 : Nat))).setCell ⟨g5, 3, none⟩ (.int .u64 (lb a3x 3 : Nat))).setCell ⟨g5, 4, none⟩ (.int .u64 (lb a3y 0 : Nat))).setCell ⟨g5, 5, none⟩ (.int .u64 (lb a3y 1 : Nat))).setCell ⟨g5, 6, none⟩ (.int .u64 (lb a3y 2 : Nat))).setCell ⟨g5, 7, none⟩ (.int .u64 (lb a3y 3 : Nat))).setCell ⟨g5, 8, none⟩ (.int .u64 (lb a3z 0 : Nat))).setCell ⟨g5, 9, none⟩ (.int .u64 (lb a3z 1 : Nat))).setCell ⟨g5, 10, none⟩ (.int .u64 (lb a3z 2 : Nat))).setCell ⟨g5, 11, none⟩ (.int .u64 (lb a3z 3 : Nat))) = V3 at K2 K3 K4 K5 HB ⊢
      clear K2' K3' K4' K5' HB'
      have HO4 := Lib.hid (J.twice_ok HO3.out)
      have HC := Lib.hid (HTW.out ⟨a3x, a3y, a3z⟩ HO3.out)
      obtain ⟨T4, hT4⟩ : ∃ z, z = (J.mk a3x a3y a3z).twice := ⟨_, rfl⟩
      rw [← hT4] at HC HO4
      obtain ⟨a4x, a4y, a4z⟩ := T4
      have HT4 := Lib.hid hT4
      clear hT4 HO3
      simp only [J.v, jn] at HC
      obtain ⟨⟨x0, x1, x2, x3⟩, ⟨y0, y1, y2, y3⟩, z0, z1, z2, z3⟩ := K5.out.cells12
      rw [rounds_succ]
      go_wp2_with fail
      refine (keep w.heap.size w (HC.out _) HB.out (Nat.le_refl _)).mono ?_
      rintro e w4 ⟨rfl, hb, hkk⟩
      have K2' := Lib.hid (K2.out.below hkk)
      have K3' := Lib.hid (K3.out.below hkk)
      have K4' := Lib.hid (K4.out.below hkk)
      have K5' := Lib.hid (K5.out.below hkk)
      have HB' := Lib.hid hb
      clear hb hkk K2 K3 K4 K5 HB HC x0 x1 x2 x3 y0 y1 y2 y3 z0 z1 z2 z3
      obtain ⟨⟨f0, f1, f2, f3⟩, ⟨f4, f5, f6, f7⟩, f8, f9, f10, f11⟩ := K5'.out.fros12
      obtain ⟨⟨c0, c1, c2, c3⟩, ⟨c4, c5, c6, c7⟩, c8, c9, c10, c11⟩ := K5'.out.cells12
      go_wp2_with fail
      clear f0 f1 f2 f3 f4 f5 f6 f7 f8 f9 f10 f11 c0 c1 c2 c3 c4 c5 c6 c7 c8 c9 c10 c11
      have K2 : Hid (Bk 24 ((((((((((((w4.setCell ⟨g5, 0, none⟩ (.int .u64 (lb a4x 0 : Nat))).setCell ⟨g5, 1, none⟩ (.int .u64 (lb a4x 1 : Nat))).setCell ⟨g5, 2, none⟩ (.int .u64 (lb a4x 2 : Nat))).setCell ⟨g5, 3, none⟩ (.int .u64 (lb a4x 3 : Nat))).setCell ⟨g5, 4, none⟩ (.int .u64 (lb a4y 0 : Nat))).setCell ⟨g5, 5, none⟩ (.int .u64 (lb a4y 1 : Nat))).setCell ⟨g5, 6, none⟩ (.int .u64 (lb a4y 2 : Nat))).setCell ⟨g5, 7, none⟩ (.int .u64 (lb a4y 3 : Nat))).setCell ⟨g5, 8, none⟩ (.int .u64 (lb a4z 0 : Nat))).setCell ⟨g5, 9, none⟩ (.int .u64 (lb a4z 1 : Nat))).setCell ⟨g5, 10, none⟩ (.int .u64 (lb a4z 2 : Nat))).setCell ⟨g5, 11, none⟩ (.int .u64 (lb a4z 3 : Nat))) g2 #[.int .u64 (lb k 0 : Nat), .int .u64 (lb k 1 : Nat), .int .u64 (lb k 2 : Nat), .int .u64 (lb k 3 : Nat)]) := Lib.hid (Bk.puto12 HG.out.2.1 K2'.out)
      have K3 : Hid (Bk 165 ((((((((((((w4.setCell ⟨g5, 0, none⟩ (.int .u64 (lb a4x 0 : Nat))).setCell ⟨g5, 1, none⟩ (.int .u64 (lb a4x 1 : Nat))).setCell ⟨g5, 2, none⟩ (.int .u64 (lb a4x 2 : Nat))).setCell ⟨g5, 3, none⟩ (.int .u64 (lb a4x 3 : Nat))).setCell ⟨g5, 4, none⟩ (.int .u64 (lb a4y 0 : Nat))).setCell ⟨g5, 5, none⟩ (.int .u64 (lb a4y 1 : Nat))).setCell ⟨g5, 6, none⟩ (.int .u64 (lb a4y 2 : Nat))).setCell ⟨g5, 7, none⟩ (.int .u64 (lb a4y 3 : Nat))).setCell ⟨g5, 8, none⟩ (.int .u64 (lb a4z 0 : Nat))).setCell ⟨g5, 9, none⟩ (.int .u64 (lb a4z 1 : Nat))).setCell ⟨g5, 10, none⟩ (.int .u64 (lb a4z 2 : Nat))).setCell ⟨g5, 11, none⟩ (.int .u64 (lb a4z 3 : Nat))) g3 (fa p 16)) := Lib.hid (Bk.puto12 HG.out.2.2.1 K3'.out)
      have K4 : Hid (Bk 162 ((((((((((((w4.setCell ⟨g5, 0, none⟩ (.int .u64 (lb a4x 0 : Nat))).setCell ⟨g5, 1, none⟩ (.int .u64 (lb a4x 1 : Nat))).setCell ⟨g5, 2, none⟩ (.int .u64 (lb a4x 2 : Nat))).setCell ⟨g5, 3, none⟩ (.int .u64 (lb a4x 3 : Nat))).setCell ⟨g5, 4, none⟩ (.int .u64 (lb a4y 0 : Nat))).setCell ⟨g5, 5, none⟩ (.int .u64 (lb a4y 1 : Nat))).setCell ⟨g5, 6, none⟩ (.int .u64 (lb a4y 2 : Nat))).setCell ⟨g5, 7, none⟩ (.int .u64 (lb a4y 3 : Nat))).setCell ⟨g5, 8, none⟩ (.int .u64 (lb a4z 0 : Nat))).setCell ⟨g5, 9, none⟩ (.int .u64 (lb a4z 1 : Nat))).setCell ⟨g5, 10, none⟩ (.int .u64 (lb a4z 2 : Nat))).setCell ⟨g5, 11, none⟩ (.int .u64 (lb a4z 3 : Nat))) g4 #[.int .u64 0, .int .u64 0, .int .u64 0, .int .u64 0, .int .u64 0, .int .u64 0, .int .u64 0, .int .u64 0, .int .u64 0, .int .u64 0, .int .u64 0, .int .u64 0]) := Lib.hid (Bk.puto12 HG.out.2.2.2 K4'.out)
      have K5 : Hid (Bk 162 ((((((((((((w4.setCell ⟨g5, 0, none⟩ (.int .u64 (lb a4x 0 : Nat))).setCell ⟨g5, 1, none⟩ (.int .u64 (lb a4x 1 : Nat))).setCell ⟨g5, 2, none⟩ (.int .u64 (lb a4x 2 : Nat))).setCell ⟨g5, 3, none⟩ (.int .u64 (lb a4x 3 : Nat))).setCell ⟨g5, 4, none⟩ (.int .u64 (lb a4y 0 : Nat))).setCell ⟨g5, 5, none⟩ (.int .u64 (lb a4y 1 : Nat))).setCell ⟨g5, 6, none⟩ (.int .u64 (lb a4y 2 : Nat))).setCell ⟨g5, 7, none⟩ (.int .u64 (lb a4y 3 : Nat))).setCell ⟨g5, 8, none⟩ (.int .u64 (lb a4z 0 : Nat))).setCell ⟨g5, 9, none⟩ (.int .u64 (lb a4z 1 : Nat))).setCell ⟨g5, 10, none⟩ (.int .u64 (lb a4z 2 : Nat))).setCell ⟨g5, 11, none⟩ (.int .u64 (lb a4z 3 : Nat))) g5 #[.int .u64 (lb a4x 0 : Nat), .int .u64 (lb a4x 1 : Nat), .int .u64 (lb a4x 2 : Nat), .int .u64 (lb a4x 3 : Nat), .int .u64 (lb a4y 0 : Nat), .int .u64 (lb a4y 1 : Nat), .int .u64 (lb a4y 2 : Nat), .int .u64 (lb a4y 3 : Nat), .int .u64 (lb a4z 0 : Nat), .int .u64 (lb a4z 1 : Nat), .int .u64 (lb a4z 2 : Nat), .int .u64 (lb a4z 3 : Nat)]) := Lib.hid (Bk.put12 K5'.out)
      have HB : Hid (Below w.heap.size w ((((((((((((w4.setCell ⟨g5, 0, none⟩ (.int .u64 (lb a4x 0 : Nat))).setCell ⟨g5, 1, none⟩ (.int .u64 (lb a4x 1 : Nat))).setCell ⟨g5, 2, none⟩ (.int .u64 (lb a4x 2 : Nat))).setCell ⟨g5, 3, none⟩ (.int .u64 (lb a4x 3 : Nat))).setCell ⟨g5, 4, none⟩ (.int .u64 (lb a4y 0 : Nat))).setCell ⟨g5, 5, none⟩ (.int .u64 (lb a4y 1 : Nat))).setCell ⟨g5, 6, none⟩ (.int .u64 (lb a4y 2 : Nat))).setCell ⟨g5, 7, none⟩ (.int .u64 (lb a4y 3 : Nat))).setCell ⟨g5, 8, none⟩ (.int .u64 (lb a4z 0 : Nat))).setCell ⟨g5, 9, none⟩ (.int .u64 (lb a4z 1 : Nat))).setCell ⟨g5, 10, none⟩ (.int .u64 (lb a4z 2 : Nat))).setCell ⟨g5, 11, none⟩ (.int .u64 (lb a4z 3 : Nat)))) := Lib.hid (by have hb := HB'.out; have hg := HG.out.1.2; go_grown)
      generalize ((((((((((((w4.setCell ⟨g5, 0, none⟩ (.int .u64 (lb a4x 0 : Nat))).setCell ⟨g5, 1, none⟩ (.int .u64 (lb a4x 1 : Nat))).setCell ⟨g5, 2, none⟩ (.int .u64 (lb a4x 2 : Nat))).setCell ⟨g5, 3, none⟩ (.int .u64 (lb a4x 3 : Nat))).setCell ⟨g5, 4, none⟩ (.int .u64 (lb a4y 0 : Nat))).setCell ⟨g5, 5, none⟩ (.int .u64 (lb a4y 1 : Nat))).setCell ⟨g5, 6, none⟩ (.int .u64 (lb a4y 2 : Nat))).setCell ⟨g5, 7, none⟩ (.int .u64 (lb a4y 3 : Nat))).setCell ⟨g5, 8, none⟩ (.int .u64 (lb a4z 0 : Nat))).setCell ⟨g5, 9, none⟩ (.int .u64 (lb a4z 1 : Nat))).setCell ⟨g5, 10, none⟩ (.int .u64 (lb a4z 2 : Nat))).setCell ⟨g5, 11, none⟩ (.int .u64 (lb a4z 3 : Nat))) = V4 at K2 K3 K4 K5 HB ⊢
      clear K2' K3' K4' K5' HB'
      have HD := Lib.hid (HDG.out (63 - i) (by omega))
      have hdd : k / 16 ^ (63 - i) % 16 < 16 := Nat.mod_lt _ (by decide)
      have HS := Lib.hid (HPL.out (dg k i) ⟨a4x, a4y, a4z⟩ HO4.out)
      have hD : Hid (p.mulN k (i + 1) = (p.tim (dg k i)).plus ⟨a4x, a4y, a4z⟩) := Lib.hid (by rw [HT4.out, HT3.out, HT2.out, HT1.out, HT0.out]; rfl)
      have e63 : (((63 - i : Nat) : Nat) : Int) = 63 - (i : Int) := by omega
      rw [e63] at HD
      clear e63
      have edg : k / 16 ^ (63 - i) % 16 = dg k i := rfl
      rw [edg] at HD hdd
      clear edg
      generalize dg k i = d at *
      obtain ⟨R, hR⟩ : ∃ z, z = (p.tim d).plus ⟨a4x, a4y, a4z⟩ := ⟨_, rfl⟩
      rw [← hR] at HS hD
      obtain ⟨rx, ry, rz⟩ := R
      clear hR HT0 HT1 HT2 HT3 HT4 HO4 HTW HOK HPL HDG
      simp only [J.v, jn] at HS
      have q0 : (d : Int) < 16 := by omega
      have q1 : ((d : Nat) : Int).toNat = d := by omega
      have qd : ∀ e os, (grow (redrawn V4 e) os).cell? ⟨g3, d, none⟩ = some (.func (.func 158) #[.agg #[.int .u64 (lb (p.tim d).x 0 : Nat), .int .u64 (lb (p.tim d).x 1 : Nat), .int .u64 (lb (p.tim d).x 2 : Nat), .int .u64 (lb (p.tim d).x 3 : Nat), .int .u64 (lb (p.tim d).y 0 : Nat), .int .u64 (lb (p.tim d).y 1 : Nat), .int .u64 (lb (p.tim d).y 2 : Nat), .int .u64 (lb (p.tim d).y 3 : Nat), .int .u64 (lb (p.tim d).z 0 : Nat), .int .u64 (lb (p.tim d).z 1 : Nat), .int .u64 (lb (p.tim d).z 2 : Nat), .int .u64 (lb (p.tim d).z 3 : Nat)]] #[]) := fun e os => ((K3.out.regrown e os).cell d).trans ((fa_get p 16 d hdd).trans (by unfold fk; rw [if_pos hdd]; rfl))
      obtain ⟨⟨x0, x1, x2, x3⟩, ⟨y0, y1, y2, y3⟩, z0, z1, z2, z3⟩ := K5.out.reg12
      obtain ⟨k0, k1, k2, k3⟩ := K2.out.reg
      rw [rounds_succ]
      go_wp2_with fail
      refine wp_region_below_tail 8 mixed (by kernel_rfl) ?_
      simp only [List.take_succ_cons, List.take_zero, List.drop_succ_cons, List.drop_zero]
      iterate 3 go_big_quiet_step (fail)
      go_big_quiet_step (exact qg HD.out)
      iterate 3 (first | go_big_quiet_step (fail) | quiet_step (fail))
      go_big_quiet_step (exact qg HS.out)
      refine wpQuiet_nil ?_
      intro _ hw'
      obtain ⟨⟨dq, osq⟩, hw''⟩ := hw'
      subst hw''
      have K2' := Lib.hid (K2.out.regrown dq osq)
      have K3' := Lib.hid (K3.out.regrown dq osq)
      have K4' := Lib.hid (K4.out.regrown dq osq)
      have K5' := Lib.hid (K5.out.regrown dq osq)
      have HB' := Lib.hid (HB.out.trans ((below_regrown V4 dq osq).mono HB.out.size))
      clear K2 K3 K4 K5 HB x0 x1 x2 x3 y0 y1 y2 y3 z0 z1 z2 z3 k0 k1 k2 k3 HD HS qd
      generalize grow (redrawn V4 dq) osq = V at K2' K3' K4' K5' HB' ⊢
      obtain ⟨⟨f0, f1, f2, f3⟩, ⟨f4, f5, f6, f7⟩, f8, f9, f10, f11⟩ := K5'.out.fros12
      obtain ⟨⟨c0, c1, c2, c3⟩, ⟨c4, c5, c6, c7⟩, c8, c9, c10, c11⟩ := K5'.out.cells12
      go_wp2_with fail
      go_round
      case rel =>
        refine ⟨i + 1, by omega, by go_num, Bk.puto12 HG.out.2.1 K2'.out, Bk.puto12 HG.out.2.2.1 K3'.out, Bk.puto12 HG.out.2.2.2 K4'.out, ?_, ?_⟩
        · rw [hD.out]; exact Bk.put12 K5'.out
        · have hb := HB'.out
          have hg := HG.out.1.2
          go_grown
      case measure => simp [intOf]; omega
    · obtain rfl : i = 64 := by omega
      rw [← HRES.out] at K5
      simp only [] at K5
      obtain ⟨⟨x0, x1, x2, x3⟩, ⟨y0, y1, y2, y3⟩, z0, z1, z2, z3⟩ := K5.out.cells12
      obtain ⟨⟨f0, f1, f2, f3⟩, ⟨f4, f5, f6, f7⟩, f8, f9, f10, f11⟩ := K4.out.fros12
      obtain ⟨⟨c0, c1, c2, c3⟩, ⟨c4, c5, c6, c7⟩, c8, c9, c10, c11⟩ := K4.out.cells12
      go_wp2_with fail
      refine ret_cell93 rfl g4 tx ty tz rfl (Bk.put12 K4.out) rfl ⟨rfl, ?_⟩
      have hb := HB.out
      have hg := HG.out.1.1
      go_grown
end Go.Proofs.YtpggkfdijmnmiaaGreat
namespace Go.Proofs.YtpggkfdijmnmiaaGreat
open Go.RowKit Go.Sort Limbs
def Po.bytes (p : Po) : List UInt8 := if p.i = true then [0] else 4 :: (nb p.x ++ nb p.y)
end Go.Proofs.YtpggkfdijmnmiaaGreat
namespace Go.Proofs.YtpggkfdijmnmiaaGreat
open Go.RowKit Go.Sort Limbs
theorem ext_ba (l : List UInt8) (a n : Nat) : (⟨l.toArray⟩ : ByteArray).extract a (a + n) = ⟨((l.drop a).take n).toArray⟩ := by
  apply ByteArray.ext
  simp [ByteArray.data_extract, List.extract_eq_take_drop]
end Go.Proofs.YtpggkfdijmnmiaaGreat
namespace Go.Proofs.YtpggkfdijmnmiaaGreat
open Go.RowKit Go.Sort Limbs
def xOf (s : List UInt8) : Nat := bv ((s.drop 1).take 32)
def yOf (s : List UInt8) : Nat := bv (s.drop 33)
def Po.of (s : List UInt8) : Option Po :=
  if s = [0] then some ⟨0, 0, true⟩
  else if s.length = 65 ∧ s.take 1 = [4] ∧ xOf s < mP ∧ yOf s < mP ∧ (Po.mk (xOf s) (yOf s) false).on = true then some ⟨xOf s, yOf s, false⟩ else none
def Po.ret : Option Po → Value
  | some p => .tuple #[p.v, .int .i64 0]
  | none => .tuple #[pn 0 0 false, .int .i64 71]
theorem on_lt {x y : Nat} (h : (Po.mk x y false).on = true) : x < mP ∧ y < mP := by
  have e : (Po.mk x y false).on = decide (x < mP ∧ y < mP ∧ mj y y = rightN x) := rfl
  rw [e] at h
  have := of_decide_eq_true h
  exact ⟨this.1, this.2.1⟩
theorem on_far {x y : Nat} (h : (Po.mk x y true).on = true) : x = 0 ∧ y = 0 := by
  have e : (Po.mk x y true).on = decide (x = 0 ∧ y = 0) := rfl
  rw [e] at h
  exact of_decide_eq_true h
end Go.Proofs.YtpggkfdijmnmiaaGreat
