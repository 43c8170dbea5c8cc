/- Inverses: by a power. No condition but that the number is below 2 to the 256. -/
import Derived.Test.YtglmmodkflkkkaaNp
import Derived.Test.YtglmmodkflkkkaaJa
set_option linter.unusedVariables false
set_option linter.unusedSimpArgs false
set_option maxRecDepth 100000
namespace Go.Proofs.Ytglmmodkflkkkaa
open Go.RowKit Limbs

theorem nv_zero : nv 0 = .agg #[.int .u64 0, .int .u64 0, .int .u64 0, .int .u64 0] := rfl
set_option maxHeartbeats 16000000 in
theorem inv_any (m : Int) (a : Nat) (ha : a < W256) (w : World) :
    Calls Try.prog 26 #[.int .i64 m, nv a] w fun e w' => e = .returned (if a % md m = 0 then .tuple #[nv 0, .int .i64 61] else .tuple #[nv (a ^ (md m - 2) % md m), .int .i64 0]) ∧ Below w.heap.size w w' := by
  have hM := md_or m
  obtain ⟨hMW, hM2, hM3, hMp⟩ := md_lt hM
  have HM := Lib.hid (mod_any m)
  have HP := Lib.hid (pow_any m a (md m - 2) ha (by omega))
  generalize md m = M at *
  have hr : a % M < W256 := Nat.lt_trans (Nat.mod_lt _ (by omega)) hMW
  have HL := Lib.hid (left_any a M ha hMW (by omega))
  have HMI := Lib.hid (minus_nv M 2 hMW (by decide))
  obtain ⟨r, hrr⟩ : ∃ z, z = a % M := ⟨_, rfl⟩
  rw [← hrr] at HL hr ⊢
  have HA := Lib.hid (And.intro hMW hMp)
  obtain ⟨pw, hpw⟩ : ∃ z, z = a ^ (M - 2) % M := ⟨_, rfl⟩
  rw [← hpw] at HP ⊢
  have HEQ : Hid (∀ w, (Op.equalIn 10000 24 (.agg #[.int .u64 (lb r 0 : Nat), .int .u64 (lb r 1 : Nat), .int .u64 (lb r 2 : Nat), .int .u64 (lb r 3 : Nat)]) (.agg #[.int .u64 0, .int .u64 0, .int .u64 0, .int .u64 0])).run Try.prog w = .ok (decide (r = 0)) w) := Lib.hid fun w => eqN r 0 hr (by decide) w
  clear hM hMW hM2 hM3 hMp ha hrr hpw hr
  obtain ⟨RV, hRV⟩ : ∃ z, z = if r = 0 then Value.tuple #[nv 0, .int .i64 61] else .tuple #[nv pw, .int .i64 0] := ⟨_, rfl⟩
  rw [← hRV]
  have HRV := Lib.hid hRV
  clear hRV
  simp only [nv, num] at HL HP ⊢
  go_enter Try.func26, Try.ntmps26
  go_wp2_with fail
  refine (keep w.heap.size w (HM.out _) (by go_grown) (Nat.le_refl _)).mono ?_
  rintro e w1 ⟨rfl, hb, hk⟩
  have KA : Hid (Bk 24 w1 w.heap.size (cs4 a)) := Lib.hid (Bk.below (Bk.alloc (Bk.new rfl)) hk)
  have KR : Hid (Bk 24 w1 (w.heap.size + 1) cs0) := Lib.hid (Bk.below (Bk.new (by simp)) hk)
  have HB := Lib.hid hb
  clear hk hb HM
  obtain ⟨i0, i1, i2, i3⟩ := KA.out.cellsA
  simp only [nv, num]
  go_wp2_with fail
  refine (keep w.heap.size w (HL.out _) (by have hb := HB.out; have hs := hb.size; go_grown) (Nat.le_refl _)).mono ?_
  rintro e w2 ⟨rfl, hb, hk⟩
  have K2A := Lib.hid (Bk.below (Bk.alloc KA.out) hk)
  have K2R := Lib.hid (Bk.below (Bk.alloc KR.out) hk)
  have K2M : Hid (Bk 24 w2 w1.heap.size (cs4 M)) := Lib.hid (Bk.below (Bk.new rfl) hk)
  have HB2 := Lib.hid hb
  clear hk hb i0 i1 i2 i3 HL KA KR HB
  have heq := HEQ.out
  by_cases hz : r = 0
  · have h1 : decide (r = 0) = true := by simp [hz]
    rw [h1] at heq
    have HV : Hid (RV = .tuple #[nv 0, .int .i64 61]) := Lib.hid (by rw [HRV.out, if_pos hz])
    clear hz h1 HEQ HRV
    obtain ⟨j0, j1, j2, j3⟩ := K2R.out.cells
    obtain ⟨f0, f1, f2, f3⟩ := K2R.out.fros
    go_wp2_with fail
    refine ret_cell2 rfl (w.heap.size + 1) 0 (.int .i64 61) rfl rfl (Bk.put K2R.out) rfl ⟨by rw [HV.out], ?_⟩
    have hb := HB2.out
    go_grown
  · have h1 : decide (r = 0) = false := by simp [hz]
    rw [h1] at heq
    have HV : Hid (RV = .tuple #[nv pw, .int .i64 0]) := Lib.hid (by rw [HRV.out, if_neg hz])
    clear hz h1 HEQ HRV
    obtain ⟨j0, j1, j2, j3⟩ := K2M.out.cells
    go_wp2_with fail
    refine (keep w.heap.size w (HMI.out _) HB2.out (Nat.le_refl _)).mono ?_
    rintro e w3 ⟨⟨d, c, hd, hc, he, rfl⟩, hb, hk⟩
    have hdM : d = M - 2 := by
      have h1 := HA.out
      unfold W256 at *
      omega
    subst hdM
    have K3A := Lib.hid (K2A.out.below hk)
    have K3R := Lib.hid (K2R.out.below hk)
    have HB3 := Lib.hid hb
    clear hk hb hd hc he heq j0 j1 j2 j3 K2A K2R K2M HB2
    obtain ⟨i0, i1, i2, i3⟩ := K3A.out.cellsA
    simp only [nv, num]
    go_wp2_with fail
    refine (keep w.heap.size w (HP.out _) (by have hb := HB3.out; have hs := hb.size; go_grown) (Nat.le_refl _)).mono ?_
    rintro e w4 ⟨rfl, hb, hk⟩
    have K4R := Lib.hid (Bk.below (Bk.alloc K3R.out) hk)
    have HB4 := Lib.hid hb
    clear hk hb i0 i1 i2 i3
    obtain ⟨j0, j1, j2, j3⟩ := K4R.out.cells
    obtain ⟨f0, f1, f2, f3⟩ := K4R.out.fros
    go_wp2_with fail
    refine ret_cell2 rfl (w.heap.size + 1) pw (.int .i64 0) rfl rfl (Bk.put K4R.out) rfl ⟨by rw [HV.out], ?_⟩
    have hb := HB4.out
    go_grown
end Go.Proofs.Ytglmmodkflkkkaa
