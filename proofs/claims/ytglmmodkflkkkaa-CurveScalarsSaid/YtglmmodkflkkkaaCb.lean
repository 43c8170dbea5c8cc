/- The shorthands of package curve: a product, a sum, a difference modulo P, three times a number, whether one is below P. No condition but that each number is below 2 to the 256. -/
import Derived.Test.YtglmmodkflkkkaaCa
import Derived.Test.YtglmmodkflkkkaaRb
set_option linter.unusedVariables false
set_option linter.unusedSimpArgs false
set_option maxRecDepth 100000
namespace Go.Proofs.Ytglmmodkflkkkaa
open Go.RowKit Go.Sort Limbs

theorem mul_c (a b : Nat) (ha : a < W256) (hb : b < W256) (w : World) :
    Calls Try.prog 74 #[nv a, nv b] w fun e w' => e = .returned (nv (a * b % mP)) ∧ Below w.heap.size w w' := by
  have h0 := mul_any 0 a b ha hb
  rw [md0] at h0
  have HS := Lib.hid h0
  clear h0
  generalize a * b % mP = res at *
  simp only [nv, num] at HS ⊢
  go_enter Try.func74, Try.ntmps74
  go_wp2_with fail
  refine (keep w.heap.size w (HS.out _) (by go_grown) (Nat.le_refl _)).mono ?_
  rintro e w1 ⟨rfl, hb, hk⟩
  have KR : Hid (Bk 24 w1 (w.heap.size + 1 + 1) cs0) := Lib.hid (Bk.below (Bk.new (by simp)) hk)
  have HB := Lib.hid hb
  clear hk hb
  obtain ⟨j0, j1, j2, j3⟩ := KR.out.cells
  obtain ⟨f0, f1, f2, f3⟩ := KR.out.fros
  go_wp2_with fail
  refine ret_cell rfl (w.heap.size + 1 + 1) res rfl (Bk.put KR.out) rfl ⟨rfl, ?_⟩
  have hb := HB.out
  go_grown
theorem add_c (a b : Nat) (ha : a < W256) (hb : b < W256) (w : World) :
    Calls Try.prog 75 #[nv a, nv b] w fun e w' => e = .returned (nv ((a + b) % mP)) ∧ Below w.heap.size w w' := by
  have h0 := add_any 0 a b ha hb
  rw [md0] at h0
  have HS := Lib.hid h0
  clear h0
  generalize (a + b) % mP = res at *
  simp only [nv, num] at HS ⊢
  go_enter Try.func75, Try.ntmps75
  go_wp2_with fail
  refine (keep w.heap.size w (HS.out _) (by go_grown) (Nat.le_refl _)).mono ?_
  rintro e w1 ⟨rfl, hb, hk⟩
  have KR : Hid (Bk 24 w1 (w.heap.size + 1 + 1) cs0) := Lib.hid (Bk.below (Bk.new (by simp)) hk)
  have HB := Lib.hid hb
  clear hk hb
  obtain ⟨j0, j1, j2, j3⟩ := KR.out.cells
  obtain ⟨f0, f1, f2, f3⟩ := KR.out.fros
  go_wp2_with fail
  refine ret_cell rfl (w.heap.size + 1 + 1) res rfl (Bk.put KR.out) rfl ⟨rfl, ?_⟩
  have hb := HB.out
  go_grown
theorem sub_c (a b : Nat) (ha : a < W256) (hb : b < W256) (w : World) :
    Calls Try.prog 76 #[nv a, nv b] w fun e w' => e = .returned (nv ((a + (mP - b % mP)) % mP)) ∧ Below w.heap.size w w' := by
  have h0 := sub_any 0 a b ha hb
  rw [md0] at h0
  have HS := Lib.hid h0
  clear h0
  generalize (a + (mP - b % mP)) % mP = res at *
  simp only [nv, num] at HS ⊢
  go_enter Try.func76, Try.ntmps76
  go_wp2_with fail
  refine (keep w.heap.size w (HS.out _) (by go_grown) (Nat.le_refl _)).mono ?_
  rintro e w1 ⟨rfl, hb, hk⟩
  have KR : Hid (Bk 24 w1 (w.heap.size + 1 + 1) cs0) := Lib.hid (Bk.below (Bk.new (by simp)) hk)
  have HB := Lib.hid hb
  clear hk hb
  obtain ⟨j0, j1, j2, j3⟩ := KR.out.cells
  obtain ⟨f0, f1, f2, f3⟩ := KR.out.fros
  go_wp2_with fail
  refine ret_cell rfl (w.heap.size + 1 + 1) res rfl (Bk.put KR.out) rfl ⟨rfl, ?_⟩
  have hb := HB.out
  go_grown
set_option maxHeartbeats 4000000 in
theorem triple_c (a : Nat) (ha : a < W256) (w : World) :
    Calls Try.prog 77 #[nv a] w fun e w' => e = .returned (nv (((a + a) % mP + a) % mP)) ∧ Below w.heap.size w w' := by
  have H1 := Lib.hid (add_c a a ha ha)
  have h2 : (a + a) % mP < W256 := Nat.lt_trans (Nat.mod_lt _ (by decide +kernel)) (by decide +kernel)
  have H2 := Lib.hid (add_c _ a h2 ha)
  clear h2
  generalize ((a + a) % mP + a) % mP = res at *
  generalize (a + a) % mP = two at *
  simp only [nv, num] at H1 H2 ⊢
  go_enter Try.func77, Try.ntmps77
  go_wp2_with fail
  have KA : Hid (Bk 24 ((w.alloc (.cells #[.int .u64 (lb a 0 : Nat), .int .u64 (lb a 1 : Nat), .int .u64 (lb a 2 : Nat), .int .u64 (lb a 3 : Nat)] 24)).alloc (.cells #[.int .u64 0, .int .u64 0, .int .u64 0, .int .u64 0] 24)) w.heap.size #[.int .u64 (lb a 0 : Nat), .int .u64 (lb a 1 : Nat), .int .u64 (lb a 2 : Nat), .int .u64 (lb a 3 : Nat)]) := Lib.hid (Bk.alloc (Bk.new rfl))
  have KR : Hid (Bk 24 ((w.alloc (.cells #[.int .u64 (lb a 0 : Nat), .int .u64 (lb a 1 : Nat), .int .u64 (lb a 2 : Nat), .int .u64 (lb a 3 : Nat)] 24)).alloc (.cells #[.int .u64 0, .int .u64 0, .int .u64 0, .int .u64 0] 24)) (w.heap.size + 1) #[.int .u64 0, .int .u64 0, .int .u64 0, .int .u64 0]) := Lib.hid (Bk.new (by simp))
  have HB : Hid (Below w.heap.size w ((w.alloc (.cells #[.int .u64 (lb a 0 : Nat), .int .u64 (lb a 1 : Nat), .int .u64 (lb a 2 : Nat), .int .u64 (lb a 3 : Nat)] 24)).alloc (.cells #[.int .u64 0, .int .u64 0, .int .u64 0, .int .u64 0] 24))) := Lib.hid (by go_grown)
  generalize ((w.alloc (.cells #[.int .u64 (lb a 0 : Nat), .int .u64 (lb a 1 : Nat), .int .u64 (lb a 2 : Nat), .int .u64 (lb a 3 : Nat)] 24)).alloc (.cells #[.int .u64 0, .int .u64 0, .int .u64 0, .int .u64 0] 24)) = W at KA KR HB ⊢
  obtain ⟨gr, hgr⟩ : ∃ z, z = w.heap.size + 1 := ⟨_, rfl⟩
  rw [← hgr] at KR ⊢
  have HG := Lib.hid (show w.heap.size ≤ gr by omega)
  clear hgr
  obtain ⟨a0, a1, a2, a3⟩ := KA.out.reg
  refine wp_region_below_tail 5 mixed (by kernel_rfl) ?_
  simp only [List.take_succ_cons, List.take_zero, List.drop_succ_cons, List.drop_zero]
  iterate 2 go_big_quiet_step (fail)
  go_big_quiet_step (exact qg H1.out)
  go_big_quiet_step (fail)
  go_big_quiet_step (exact qg H2.out)
  refine wpQuiet_nil ?_
  intro _ hw'
  obtain ⟨⟨dq, osq⟩, hw''⟩ := hw'
  subst hw''
  have KR2 := Lib.hid (KR.out.regrown dq osq)
  have HB2 := Lib.hid (HB.out.trans ((below_regrown W dq osq).mono HB.out.size))
  clear KA KR HB a0 a1 a2 a3
  generalize grow (redrawn W dq) osq = V at KR2 HB2 ⊢
  obtain ⟨f0, f1, f2, f3⟩ := KR2.out.fros
  obtain ⟨c0, c1, c2, c3⟩ := KR2.out.cells
  go_wp2_with fail
  refine ret_cell rfl gr res rfl (Bk.put KR2.out) rfl ⟨rfl, ?_⟩
  have hb := HB2.out
  have hg := HG.out
  go_grown
theorem below_c_eq {a : Nat} (ha : a < W256) : decide ((a + 0) % mP = a) = decide (a < mP) := by
  rw [Nat.add_zero]
  by_cases h : a < mP
  · rw [Nat.mod_eq_of_lt h]; simp [h]
  · have := Nat.mod_lt a (show 0 < mP by decide +kernel)
    simp [h]; omega
set_option maxHeartbeats 4000000 in
theorem below_c (a : Nat) (ha : a < W256) (w : World) :
    Calls Try.prog 73 #[nv a] w fun e w' => e = .returned (.bool (decide (a < mP))) ∧ Below w.heap.size w w' := by
  rw [← below_c_eq ha]
  have H1 := Lib.hid (add_c a 0 ha (by decide))
  have h2 : (a + 0) % mP < W256 := Nat.lt_trans (Nat.mod_lt _ (by decide +kernel)) (by decide +kernel)
  have HE := Lib.hid (eqN _ a h2 ha)
  clear h2
  generalize (a + 0) % mP = one at *
  have e0 : nv 0 = .agg #[.int .u64 0, .int .u64 0, .int .u64 0, .int .u64 0] := rfl
  rw [e0] at H1
  obtain ⟨res, hres⟩ : ∃ z, z = decide (one = a) := ⟨_, rfl⟩
  rw [← hres] at HE ⊢
  clear hres ha
  simp only [nv, num] at H1 ⊢
  go_enter Try.func73, Try.ntmps73
  go_wp2_with fail
  have KA : Hid (Bk 24 (w.alloc (.cells #[.int .u64 (lb a 0 : Nat), .int .u64 (lb a 1 : Nat), .int .u64 (lb a 2 : Nat), .int .u64 (lb a 3 : Nat)] 24)) w.heap.size #[.int .u64 (lb a 0 : Nat), .int .u64 (lb a 1 : Nat), .int .u64 (lb a 2 : Nat), .int .u64 (lb a 3 : Nat)]) := Lib.hid (Bk.new rfl)
  have HB : Hid (Below w.heap.size w (w.alloc (.cells #[.int .u64 (lb a 0 : Nat), .int .u64 (lb a 1 : Nat), .int .u64 (lb a 2 : Nat), .int .u64 (lb a 3 : Nat)] 24))) := Lib.hid (by go_grown)
  generalize (w.alloc (.cells #[.int .u64 (lb a 0 : Nat), .int .u64 (lb a 1 : Nat), .int .u64 (lb a 2 : Nat), .int .u64 (lb a 3 : Nat)] 24)) = W at KA HB ⊢
  obtain ⟨a0, a1, a2, a3⟩ := KA.out.reg
  have heq := HE.out
  refine wp_region_quiet_below mixed (by kernel_rfl) ?_
  iterate 2 go_big_quiet_step (fail)
  go_big_quiet_step (exact qg H1.out)
  repeat (first | go_big_quiet_step (fail) | quiet_step (fail))
  refine wpQuiet_nil ?_
  intro _ hw'
  obtain ⟨⟨dq, osq⟩, hw''⟩ := hw'
  subst hw''
  have HB2 := Lib.hid (HB.out.trans ((below_regrown W dq osq).mono HB.out.size))
  go_wp2_with fail
  go_ret
  exact ⟨rfl, HB2.out⟩
end Go.Proofs.Ytglmmodkflkkkaa
