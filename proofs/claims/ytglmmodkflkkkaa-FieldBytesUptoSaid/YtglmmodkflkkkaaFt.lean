/- Powers modulo (the reference's Power). Condition: numbers below 65536 to the 120. -/
import Derived.Test.YtglmmodkflkkkaaFo
set_option linter.unusedVariables false
set_option linter.unusedSimpArgs false
set_option maxRecDepth 100000
namespace Go.Proofs.Ytglmmodkflkkkaa.Ref
open Go.RowKit Go.Proofs.Ytglmmodkflkkkaa.Digits

theorem dig_at {r : List Nat} (h : Dig r) {q : Nat} (hq : q < r.length) : val r / 65536 ^ q % 65536 = r[q] := by
  have e := val_append (r.take q) (r.drop q)
  rw [List.take_append_drop, List.length_take, Nat.min_eq_left (by omega), drop_val hq] at e
  have hlt := val_lt (r.take q) (dig_take h q)
  rw [List.length_take, Nat.min_eq_left (by omega)] at hlt
  have hd := h _ (List.getElem_mem hq)
  rw [e, Nat.add_mul_div_left _ _ (Nat.pow_pos (by decide)), Nat.div_eq_of_lt hlt]
  omega
theorem bit_at {r : List Nat} (h : Dig r) {k : Nat} (hk : k / 16 < r.length) : r[k / 16] / 2 ^ (k % 16) % 2 = val r / 2 ^ k % 2 := by
  rw [← dig_at h hk]
  have hs : k % 16 < 16 := Nat.mod_lt _ (by decide)
  generalize hx : val r / 65536 ^ (k / 16) = x
  have e : val r / 2 ^ k = x / 2 ^ (k % 16) := by
    rw [← hx, Nat.div_div_eq_div_mul]
    congr 1
    rw [show (65536 : Nat) = 2 ^ 16 from rfl, ← Nat.pow_mul, ← Nat.pow_add]
    congr 1
    omega
  rw [e, ← Nat.mod_mul_right_div_self, ← Nat.mod_mul_right_div_self (m := x)]
  congr 1
  refine Nat.mod_mod_of_dvd _ ?_
  rw [show (65536 : Nat) = 2 ^ (k % 16) * 2 ^ (16 - k % 16) from by rw [← Nat.pow_add, show k % 16 + (16 - k % 16) = 16 by omega]]
  exact Nat.mul_dvd_mul_left _ (Nat.pow_dvd_pow 2 (show 1 ≤ 16 - k % 16 by omega))
theorem sq_mod (a h M : Nat) : (a ^ h % M) * (a ^ h % M) % M = a ^ (2 * h) % M := by
  rw [← Nat.mul_mod, ← Nat.pow_add, Nat.two_mul]
theorem one_mod (a h M : Nat) : (a ^ h % M) * a % M = a ^ (h + 1) % M := by
  rw [Nat.mod_mul_mod, Nat.pow_succ]
set_option maxHeartbeats 8000000 in
theorem power_nv (m : Int) (v u : Value) (w : World) (a e : Nat) (ha : a < big) (he : e < big) (h : NV w v a) (k : NV w u e) : Calls Try.prog 30 #[.int .i64 m, v, u] w fun r w' => ∃ v', r = .returned v' ∧ Nr w w' v' (a ^ e % md m) := by
  have HA := Lib.hid h
  have HAB := Lib.hid ha
  obtain ⟨r, h1, h2, h3, h4⟩ := k
  have hlen := len_big h3 h4 he
  obtain ⟨g, cap, rfl, hc, hcm, hg, hca⟩ := h1
  have HCA := Lib.hid hca
  have HD := Lib.hid h2
  have HV := Lib.hid h4
  have HG := Lib.hid hg
  obtain ⟨L, hL⟩ : ∃ L, L = r.length := ⟨_, rfl⟩
  rw [← hL] at hlen ⊢
  have HL := Lib.hid hL
  have HM : Hid (1 < md m) := Lib.hid (by rcases md_or m with h | h <;> rw [h] <;> decide +kernel)
  have HLT : Hid (∀ n, n % md m < big) := Lib.hid (fun n => Nat.lt_trans (Nat.mod_lt _ (md_pos m)) (md_big m))
  have N0 : Hid (NV (w.alloc (.cells (us [1]) 75)) (.slice (some ⟨w.heap.size, 0, none⟩) 1 1) (a ^ (e / 2 ^ (16 * L)) % md m)) := Lib.hid (by
    have hz : e / 2 ^ (16 * L) = 0 := by
      refine Nat.div_eq_of_lt ?_
      have := val_lt r h2
      rw [h4, ← hL, show (65536 : Nat) = 2 ^ 16 from rfl, ← Nat.pow_mul] at this
      exact this
    rw [hz, Nat.pow_zero, Nat.mod_eq_of_lt HM.out]
    exact ⟨[1], us_dr (l := [1]) (Go.heap_alloc_new w _) (by decide), by unfold Dig; decide, by unfold Trim; decide, rfl⟩)
  have HB0 : Hid (Below w.heap.size w (w.alloc (.cells (us [1]) 75))) := Lib.hid ((Below.refl _ _).alloc (Nat.le_refl _) _)
  have e0 : us [1] = #[.int .u32 1] := rfl
  rw [e0] at N0 HB0
  clear hca h2 h3 h4 hg hL hc hcm ha he h e0
  go_enter Try.func30, Try.ntmps30
  go_wp2_with fail
  go_loopw [7, 8] (fun o i wr => ∃ j : Nat, j ≤ 16 * L ∧ i = .int .i64 ((j : Int) - 1) ∧ NV wr o (a ^ (e / 2 ^ j) % md m) ∧ Below w.heap.size w wr) (fun _ i _ => (intOf i + 1).toNat)
  case atStart => exact ⟨16 * L, Nat.le_refl _, by go_num, N0.out, HB0.out⟩
  case round =>
    clear N0 HB0
    obtain ⟨j, hj, rfl, hn, hb⟩ := hrel
    have HN := Lib.hid hn
    have HB := Lib.hid hb
    clear hn hb
    by_cases h0 : j = 0
    · subst h0
      go_wp2_with fail
      go_ret
      refine ⟨_, rfl, ⟨?_, HB.out⟩⟩
      have := HN.out
      rwa [Nat.pow_zero, Nat.div_one] at this
    · obtain ⟨k, rfl⟩ : ∃ k, j = k + 1 := ⟨j - 1, by omega⟩
      have e1 : ((k + 1 : Nat) : Int) - 1 = (k : Int) := by omega
      rw [e1]
      have hkr : k / 16 < r.length := by have := HL.out; omega
      have HP := Lib.hid (prod_nv m _ _ wr _ _ (HLT.out _) (HLT.out _) HN.out HN.out)
      rw [sq_mod] at HP
      have HBIT := Lib.hid (bit_at HD.out hkr)
      have hca := HCA.out (k / 16) hkr
      have hxl := HD.out _ (List.getElem_mem hkr)
      have HHALF := Lib.hid (show e / 2 ^ k = 2 * (e / 2 ^ (k + 1)) + e / 2 ^ k % 2 by
        rw [Nat.pow_succ, ← Nat.div_div_eq_div_mul]; omega)
      rw [HV.out] at HBIT
      generalize r[k / 16] = d at hca hxl HBIT
      have HCX := Lib.hid hca
      clear hca
      have t1 : Int.tdiv (k : Int) 16 = ((k / 16 : Nat) : Int) := by rw [Int.tdiv_eq_ediv_of_nonneg (by omega)]; omega
      have t2 : Int.tmod (k : Int) 16 = ((k % 16 : Nat) : Int) := by rw [Int.tmod_eq_emod_of_nonneg (by omega)]; omega
      have t3 : (((k / 16 : Nat) : Nat) : Int) < (L : Int) := by omega
      go_wp2_with fail
      refine (nk w.heap.size w HP.out HB.out (Nat.le_refl _)).mono ?_
      rintro e' w2 ⟨v2, rfl, n2, hb2, hk2⟩
      have N2 := Lib.hid n2
      have HB2 := Lib.hid hb2
      have ic := (HB2.out.cell (p := ⟨g, k / 16, none⟩) HG.out).trans HCX.out
      clear n2 hb2 hk2 HP HB HN HCX
      generalize k / 16 = q at t1 t3 ic hkr
      have hs : k % 16 < 16 := Nat.mod_lt _ (by decide)
      obtain ⟨s, hss⟩ : ∃ s, s = k % 16 := ⟨_, rfl⟩
      rw [← hss] at t2 hs HBIT
      clear hss
      obtain ⟨b, hbb⟩ : ∃ b, b = e / 2 ^ k % 2 := ⟨_, rfl⟩
      have hb1 : bits .and .u32 ((d : Int) / 2 ^ s) 1 = (b : Int) := by
        have e5 : (d : Int) / 2 ^ s = ((d / 2 ^ s : Nat) : Int) := by rw [Int.natCast_ediv, Int.natCast_pow]; rfl
        have e6 : d / 2 ^ s ≤ d := Nat.div_le_self _ _
        have := u32_and_nat (d / 2 ^ s) 1 (by omega) (by decide)
        rw [show ((1 : Nat) : Int) = 1 from rfl, Nat.and_one_is_mod, HBIT.out] at this
        rw [e5, this, hbb]
      have hb01 : b = 0 ∨ b = 1 := by omega
      have HE := Lib.hid (show e / 2 ^ k = 2 * (e / 2 ^ (k + 1)) + b by rw [hbb]; exact HHALF.out)
      clear hbb HHALF
      rcases hb01 with rfl | rfl
      · have hb2 : bits .and .u32 ((d : Int) / 2 ^ s) 1 = 0 := hb1
        clear hb1
        have HN2 : Hid (NV w2 v2 (a ^ (e / 2 ^ k) % md m)) := Lib.hid (by rw [HE.out, Nat.add_zero]; exact N2.out)
        go_wp2_with fail
        go_roundw
        case rel => exact ⟨k, by omega, by go_num, HN2.out, HB2.out⟩
        case measure => simp [intOf] <;> omega
      · have hb2 : bits .and .u32 ((d : Int) / 2 ^ s) 1 = 1 := hb1
        clear hb1
        have HP2 := Lib.hid (prod_nv m v2 v w2 _ a (HLT.out _) HAB.out N2.out (HA.out.below HB2.out))
        rw [one_mod] at HP2
        go_wp2_with fail
        refine (nk w.heap.size w HP2.out HB2.out (Nat.le_refl _)).mono ?_
        rintro e' w3 ⟨v3, rfl, n3, hb3, hk3⟩
        have HN3 : Hid (NV w3 v3 (a ^ (e / 2 ^ k) % md m)) := Lib.hid (by rw [HE.out]; exact n3)
        have HB3 := Lib.hid hb3
        clear n3 hb3 hk3 HP2 ic
        go_wp2_with fail
        go_roundw
        case rel => exact ⟨k, by omega, by go_num, HN3.out, HB3.out⟩
        case measure => simp [intOf] <;> omega
end Go.Proofs.Ytglmmodkflkkkaa.Ref
