/- Codes of six digits: the program's own. Condition: secrets of at most 2^48 bytes, a world in which the library's table of powers lies as its text lays it. -/
import Derived.Test.YteaanoaldnnflaaDoorF
import Derived.Test.YteaanoaldnnflaaDoorOc
set_option linter.unusedVariables false
set_option linter.unusedSimpArgs false
namespace Go.Proofs.YteaanoaldnnflaaDoor
open Go.RowKit Go.Sort

theorem zero8 : #[Value.int .u8 0, .int .u8 0, .int .u8 0, .int .u8 0, .int .u8 0, .int .u8 0, .int .u8 0, .int .u8 0] = bs (eightTo 0 0) := by kernel_rfl
theorem eight_00 (n : Nat) : eightTo n 0 = eightTo 0 0 := by rw [eight_0, eight_0]

set_option maxHeartbeats 2000000 in
set_option maxRecDepth 100000 in
theorem eight_any (n : Nat) (hn : n < 18446744073709551616) (w : World) :
    Calls Tryd.prog 15 #[.int .u64 (n : Int)] w fun e w' => e = .returned (.string ⟨(eightL n).toArray⟩) ∧ Below w.heap.size w w' := by
  go_enter Tryd.func15, Tryd.ntmps15
  go_wp2_with fail
  go_loopw [5] (fun i wr => ∃ j : Nat, j ≤ 8 ∧ i = .int .i64 j ∧ wr.heap[w.heap.size]? = some (.cells (bs (eightTo n j)) 45 (0, 0)) ∧ Below w.heap.size w wr) (fun i _ => 8 - (intOf i).toNat)
  case atStart =>
    refine ⟨0, by omega, rfl, ?_, (Below.refl _ _).alloc (Nat.le_refl _) _⟩
    rw [eight_00, ← zero8]
    exact Go.heap_alloc_new w _
  case round =>
    obtain ⟨j, hj, rfl, hb, hw⟩ := hrel
    have HB := Lib.hid hb
    have HW := Lib.hid hw
    clear hb hw
    by_cases hlt : j < 8
    · have hjl : j < (eightTo n j).length := by rw [eightTo_length]; exact hlt
      have x0 := (blk_cell HB.out j).trans (bs_get _ j hjl)
      have f0 := Lib.frozen_of_heap HB.out j
      have HP := Lib.hid (eight_set n j hlt)
      have HY := Lib.hid (byteN_val n j)
      generalize byteN n j = y at HP HY
      go_wp2_with fail
      rw [← HY.out]
      have HB2 := Lib.hid (blk_put HB.out j (.int .u8 (y.toNat : Int)))
      rw [bs_set, HP.out] at HB2
      have HW2 := Lib.hid (HW.out.setCell (p := ⟨w.heap.size, j, none⟩) (Nat.le_refl _) (.int .u8 (y.toNat : Int)))
      go_roundw
      case rel => exact ⟨j + 1, by omega, by go_num, HB2.out, HW2.out⟩
      case measure => simp [intOf]; omega
    · obtain rfl : j = 8 := by omega
      rw [eight_8] at HB
      have hc : (convert 36 9 (.slice (some ⟨w.heap.size, 0, none⟩) 8 8)).run Tryd.prog wr = .ok (.string ⟨(eightL n).toArray⟩) wr := by
        have := conv_row (c := 8) HB.out
        rwa [eightL_length] at this
      go_wp2_with fail
      go_ret
      exact ⟨rfl, HW.out⟩

theorem numTo_bd (m : List UInt8) (k : Nat) (h : k < 4) : numTo m k < 16777216 := by
  have := numTo_lt m k
  have h2 : 256 ^ k ≤ 256 ^ 3 := Nat.pow_le_pow_right (by decide) (by omega)
  omega
theorem u8_and15 (x : UInt8) : bits .and .u8 (x.toNat : Int) 15 = ((x.toNat % 16 : Nat) : Int) := by
  have : ∀ x : UInt8, bits .and .u8 (x.toNat : Int) 15 = ((x.toNat % 16 : Nat) : Int) := by
    intro x
    have h := x.toNat_lt
    have key : ∀ n : Fin 256, bits .and .u8 ((n : Nat) : Int) 15 = (((n : Nat) % 16 : Nat) : Int) := by decide +kernel
    exact key ⟨x.toNat, h⟩
  exact this x
theorem sh_or (x : Nat) (c : UInt8) (hx : x < 16777216) : bits .or .i64 ((x : Int) * 256) (c.toNat : Int) = ((x * 256 + c.toNat : Nat) : Int) := by
  have hc := c.toNat_lt
  rw [show (x : Int) * 256 = ((x * 256 : Nat) : Int) from by simp, i64_or _ _ (by omega) (by omega), nat_join 8 _ _ (by omega) (by omega)]
theorem and31 (x : Nat) (hx : x < 4294967296) : bits .and .i64 (x : Int) 2147483647 = ((x % 2147483648 : Nat) : Int) := by
  show IntKind.i64.wrap ((BitVec.ofInt 64 (x : Int) &&& BitVec.ofInt 64 2147483647).toNat : Int) = _
  rw [BitVec.toNat_and, ofInt_u64 x (by omega), show (BitVec.ofInt 64 2147483647).toNat = 2 ^ 31 - 1 from by decide, Nat.and_two_pow_sub_one_eq_mod]
  exact IntWalk.i64_in _ (by omega)

set_option maxHeartbeats 2000000 in
set_option maxRecDepth 100000 in
theorem number_any (m : List UInt8) (hm : m.length = 32) (w : World) :
    Calls Tryd.prog 13 #[.string ⟨m.toArray⟩] w fun e w' => e = .returned (.int .i64 (numN m : Int)) ∧ w = w' := by
  have HM := Lib.hid hm
  have hsz := size_ba m
  rw [hm] at hsz
  have h31 : 31 < m.length := by omega
  have ha : atL m = (m[31]).toNat % 16 := by simp [atL, List.getD, h31]
  have hx : bits .and .u8 ((((⟨m.toArray⟩ : ByteArray)[31]'(by rw [hsz]; decide)).toNat : Int)) 15 = ((atL m : Nat) : Int) := by
    rw [ha]; exact u8_and15 m[31]
  have HA := Lib.hid (atL_lt m)
  have hq16 := atL_lt m
  generalize hq : atL m = q at hx HA hq16
  have HQ := Lib.hid hq
  clear hq ha hm
  go_enter Tryd.func13, Tryd.ntmps13
  go_wp2_with fail
  go_loop [4, 13] (fun n i => ∃ k : Nat, k ≤ 4 ∧ n = .int .i64 (numTo m k : Nat) ∧ i = .int .i64 k) (fun _ i => 4 - (intOf i).toNat)
  case atStart => exact ⟨0, by omega, rfl, rfl⟩
  case round =>
    obtain ⟨k, hk, rfl, rfl⟩ := hrel
    by_cases hlt : k < 4
    · have hqk : q + k < m.length := by have := HA.out; have := HM.out; omega
      have h1 : bits .or .i64 ((numTo m k : Int) * 256) ((((⟨m.toArray⟩ : ByteArray)[q + k]'(by rw [hsz]; omega)).toNat : Int)) = ((numTo m k * 256 + (m[q + k]).toNat : Nat) : Int) := sh_or (numTo m k) (m[q + k]) (numTo_bd m k hlt)
      have hb8 : (((⟨m.toArray⟩ : ByteArray)[q + k]'(by rw [hsz]; omega)).toNat : Int) < 256 := by
        have := (m[q + k]).toNat_lt
        show ((m[q + k]).toNat : Int) < 256
        omega
      have HN : Hid (numTo m k * 256 + (m[q + k]).toNat = numTo m (k + 1)) := Lib.hid (by
        rw [numTo, HQ.out]
        simp [List.getD, hqk])
      have hb := numTo_bd m k hlt
      rw [HN.out] at h1
      generalize numTo m k = a at h1 hb
      generalize hbb : numTo m (k + 1) = b at h1 HN
      have HBB := Lib.hid hbb
      clear hbb
      go_wp2_with fail
      go_round
      case rel => exact ⟨k + 1, by omega, by rw [HBB.out], by go_num⟩
      case measure => simp [intOf]; omega
    · obtain rfl : k = 4 := by omega
      have h1 := and31 (numTo m 4) (by have := numTo_lt m 4; omega)
      rw [show numTo m 4 % 2147483648 = numN m from rfl] at h1
      go_wp2_with fail
      go_ret
      exact ⟨rfl, rfl⟩
end Go.Proofs.YteaanoaldnnflaaDoor
