import Derived.Test.YtglmmodkflkkkaaXIv
import Derived.Test.YtglmmodkflkkkaaXIx
set_option linter.unusedVariables false
set_option linter.unusedSimpArgs false
set_option maxRecDepth 100000
namespace Go.Proofs.Ytglmmodkflkkkaa
open Go.RowKit Limbs
theorem add_arith {a b M S c d bo : Nat} (hM : M < W256) (hM2 : W256 < 2 * M) (hS : S < W256) (h : S + W256 * c = a % M + b % M) (hd : d < W256) (hbo : bo ≤ 1) (he : d + M = S + W256 * bo) : (c < bo → S = (a + b) % M) ∧ (¬ c < bo → d = (a + b) % M) := by
  have h1 := Nat.mod_lt a (show 0 < M by unfold W256 at *; omega)
  have h2 := Nat.mod_lt b (show 0 < M by unfold W256 at *; omega)
  rw [Nat.add_mod]
  generalize a % M = x at *
  generalize b % M = y at *
  have h3 : (x + y) % M = if x + y < M then x + y else x + y - M := by
    split
    · exact Nat.mod_eq_of_lt (by assumption)
    · rw [Nat.mod_eq_sub_mod (by omega), Nat.mod_eq_of_lt (by omega)]
  rw [h3]
  unfold W256 at *
  constructor <;> intro h4 <;> split <;> omega
theorem sub_arith {a b M d bo : Nat} (hM : M < W256) (hM0 : 0 < M) (hd : d < W256) (hbo : bo ≤ 1) (he : d + b % M = a % M + W256 * bo) : (bo = 0 → d = (a + (M - b % M)) % M) ∧ (bo ≠ 0 → (d + M) % W256 = (a + (M - b % M)) % M) := by
  have h1 := Nat.mod_lt a hM0
  have h2 := Nat.mod_lt b hM0
  rw [Nat.add_mod]
  have h3 : (a % M + (M - b % M) % M) % M = if b % M ≤ a % M then a % M - b % M else a % M + M - b % M := by
    rw [← Nat.add_mod, ← Nat.mod_add_mod]
    generalize a % M = x at *
    generalize b % M = y at *
    split
    · rw [show x + (M - y) = (x - y) + M from by omega, Nat.add_mod_right, Nat.mod_eq_of_lt (by omega)]
    · rw [show x + (M - y) = x + M - y from by omega, Nat.mod_eq_of_lt (by omega)]
  rw [h3]
  generalize a % M = x at *
  generalize b % M = y at *
  unfold W256 at *
  constructor <;> intro h4 <;> split <;> omega
set_option maxHeartbeats 16000000 in
theorem add_any (m : Int) (a b : Nat) (ha : a < W256) (hb : b < W256) (w : World) :
    Calls Try.prog 19 #[.int .i64 m, nv a, nv b] w fun e w' => e = .returned (nv ((a + b) % md m)) ∧ Below w.heap.size w w' := by
  have hM := md_or m
  obtain ⟨hMW, hM2, hM3, hMp⟩ := md_lt hM
  have HM := Lib.hid (mod_any m)
  generalize md m = M at *
  have hap : a % M < W256 := Nat.lt_trans (Nat.mod_lt _ (by omega)) hMW
  have hbp : b % M < W256 := Nat.lt_trans (Nat.mod_lt _ (by omega)) hMW
  have HLA := Lib.hid (left_any a M ha hMW (by omega))
  have HLB := Lib.hid (left_any b M hb hMW (by omega))
  obtain ⟨S, hS⟩ : ∃ z, z = (a % M + b % M) % W256 := ⟨_, rfl⟩
  obtain ⟨c, hc⟩ : ∃ z, z = (a % M + b % M) / W256 := ⟨_, rfl⟩
  have hpl := plus_nv (a % M) (b % M) hap hbp
  rw [← hS, ← hc] at hpl
  have HPL := Lib.hid hpl
  have hSW : S < W256 := by rw [hS]; exact Nat.mod_lt _ (by decide)
  have hSe : S + W256 * c = a % M + b % M := by rw [hS, hc]; exact Nat.mod_add_div _ _
  obtain ⟨res, hres⟩ : ∃ z, z = (a + b) % M := ⟨_, rfl⟩
  rw [← hres]
  have HA := Lib.hid (And.intro hMW (And.intro hM2 (And.intro hSW (And.intro hSe hres))))
  clear hM hMW hM2 hM3 hMp ha hb hap hbp hS hc hpl hSW hSe hres
  simp only [nv, num] at HLA HLB HPL ⊢
  go_enter Try.func19, Try.ntmps19
  go_wp2_with fail
  refine (keep w.heap.size w (HM.out _) (by go_grown) (Nat.le_refl _)).mono ?_
  rintro e w1 ⟨rfl, hb, hk⟩
  have KA : Hid (Bk 24 w1 w.heap.size (cs4 a)) := Lib.hid (Bk.below (Bk.alloc (Bk.alloc (Bk.new rfl))) hk)
  have KB : Hid (Bk 24 w1 (w.heap.size + 1) (cs4 b)) := Lib.hid (Bk.below (Bk.alloc (Bk.new (by simp))) hk)
  have KR : Hid (Bk 24 w1 (w.heap.size + 1 + 1) cs0) := Lib.hid (Bk.below (Bk.new (by simp)) hk)
  have HB := Lib.hid hb
  clear hk hb HM
  simp only [nv, num]
  go_wp2_with fail
  refine a2 w.heap.size (w.heap.size + 1) w1.heap.size c (lb a 0) (lb a 1) (lb a 2) (lb a 3) (lb b 0) (lb b 1) (lb b 2) (lb b 3) (lb M 0) (lb M 1) (lb M 2) (lb M 3) (lb (a % M) 0) (lb (a % M) 1) (lb (a % M) 2) (lb (a % M) 3) (lb (b % M) 0) (lb (b % M) 1) (lb (b % M) 2) (lb (b % M) 3) (lb S 0) (lb S 1) (lb S 2) (lb S 3) _ (Bk.alloc KA.out) (Bk.alloc KB.out) (Bk.new rfl) HLA HLB HPL ?_
  intro _ _ _ _ _ _ _ _ _ _ g w2 hb2 hg2 hk2
  have K2R := Lib.hid (Bk.below (Bk.alloc KR.out) hb2)
  have K2M : Hid (Bk 24 w2 w1.heap.size (cs4 M)) := Lib.hid (Bk.below (Bk.new rfl) hb2)
  have K2S : Hid (Bk 24 w2 g (cs4 S)) := Lib.hid hk2
  have HB2 : Hid (Below w.heap.size w w2) := Lib.hid (Below.trans (by have hb := HB.out; have hs := hb.size; go_grown) (hb2.mono (by have hs := HB.out.size; simp; omega)))
  have HGE : Hid (g ≠ w.heap.size + 1 + 1 ∧ w.heap.size ≤ g) := Lib.hid (by
    have h1 := KR.out.lt
    have h2 := HB.out.size
    simp at hg2
    omega)
  clear hb2 hg2 hk2 KA KB KR HLA HLB HPL HB
  generalize w1.heap.size = gM at *
  generalize hgR : w.heap.size + 1 + 1 = gR at *
  obtain ⟨i0, i1, i2, i3⟩ := K2S.out.cells
  obtain ⟨j0, j1, j2, j3⟩ := K2M.out.cells
  go_wp2_with fail
  refine (keep w.heap.size w (minus_nv S M HA.out.2.2.1 HA.out.1 _) HB2.out (Nat.le_refl _)).mono ?_
  rintro e w3 ⟨⟨d, bo, hd, hbo, he, rfl⟩, hb, hk⟩
  have K3R := Lib.hid (K2R.out.below hk)
  have K3S := Lib.hid (K2S.out.below hk)
  have HB3 := Lib.hid hb
  have HF := Lib.hid (add_arith HA.out.1 HA.out.2.1 HA.out.2.2.1 HA.out.2.2.2.1 hd hbo he)
  clear hk hb hd hbo he i0 i1 i2 i3 j0 j1 j2 j3 K2R K2S K2M HB2
  simp only [nv, num]
  obtain ⟨i0, i1, i2, i3⟩ := K3S.out.cellsA
  obtain ⟨j0, j1, j2, j3⟩ := K3R.out.cellsA
  obtain ⟨f0, f1, f2, f3⟩ := K3R.out.frosA
  by_cases hcb : c < bo
  · have HV : Hid (S = res) := Lib.hid ((HF.out.1 hcb).trans HA.out.2.2.2.2.symm)
    have t1 : decide (c < bo) = true := by simp [hcb]
    clear hcb HF
    go_wp2_with fail
    refine ret_cell rfl gR S rfl (Bk.put K3R.out.alloc) rfl ⟨by rw [HV.out]; rfl, ?_⟩
    have hb := HB3.out
    have hs := hb.size
    have hg : w.heap.size ≤ gR := by omega
    go_grown
  · have HV : Hid (d = res) := Lib.hid ((HF.out.2 hcb).trans HA.out.2.2.2.2.symm)
    have t1 : decide (c < bo) = false := by simp; omega
    clear hcb HF
    go_wp2_with fail
    refine ret_cell rfl gR d rfl (Bk.put K3R.out.alloc) rfl ⟨by rw [HV.out]; rfl, ?_⟩
    have hb := HB3.out
    have hs := hb.size
    have hg : w.heap.size ≤ gR := by omega
    go_grown
set_option maxHeartbeats 16000000 in
theorem sub_any (m : Int) (a b : Nat) (ha : a < W256) (hb : b < W256) (w : World) :
    Calls Try.prog 21 #[.int .i64 m, nv a, nv b] w fun e w' => e = .returned (nv ((a + (md m - b % md m)) % md m)) ∧ Below w.heap.size w w' := by
  have hM := md_or m
  obtain ⟨hMW, hM2, hM3, hMp⟩ := md_lt hM
  have HM := Lib.hid (mod_any m)
  generalize md m = M at *
  have hap : a % M < W256 := Nat.lt_trans (Nat.mod_lt _ (by omega)) hMW
  have hbp : b % M < W256 := Nat.lt_trans (Nat.mod_lt _ (by omega)) hMW
  have HLA := Lib.hid (left_any a M ha hMW (by omega))
  have HLB := Lib.hid (left_any b M hb hMW (by omega))
  have hmn : ∃ d bo : Nat, d < W256 ∧ bo ≤ 1 ∧ d + b % M = a % M + W256 * bo ∧ ∀ w, Calls Try.prog 56 #[nv (a % M), nv (b % M)] w fun e w' => e = .returned (.tuple #[nv d, .int .u64 (bo : Int)]) ∧ Below w.heap.size w w' := by
    refine ⟨if a % M < b % M then a % M + W256 - b % M else a % M - b % M, if a % M < b % M then 1 else 0, ?_, ?_, ?_, fun w => ?_⟩
    · split <;> omega
    · split <;> omega
    · split <;> omega
    · refine (minus_nv (a % M) (b % M) hap hbp w).mono ?_
      rintro e w' ⟨⟨d, c, hd, hc, he, rfl⟩, hw⟩
      refine ⟨?_, hw⟩
      have h2 : c = if a % M < b % M then 1 else 0 := by
        generalize a % M = x at *
        generalize b % M = y at *
        unfold W256 at *
        split <;> omega
      have h1 : d = if a % M < b % M then a % M + W256 - b % M else a % M - b % M := by
        subst h2
        generalize a % M = x at *
        generalize b % M = y at *
        split at he <;> split <;> omega
      rw [← h1, ← h2]
  obtain ⟨d, bo, hd, hbo, he, hpl⟩ := hmn
  have HPL := Lib.hid hpl
  obtain ⟨res, hres⟩ : ∃ z, z = (a + (M - b % M)) % M := ⟨_, rfl⟩
  rw [← hres]
  have HF := Lib.hid (sub_arith hMW (by omega) hd hbo he)
  have HA := Lib.hid (And.intro hMW (And.intro hd hres))
  clear hM hMW hM2 hM3 hMp ha hb hap hbp hpl hres hd hbo he
  simp only [nv, num] at HLA HLB HPL ⊢
  go_enter Try.func21, Try.ntmps21
  go_wp2_with fail
  refine (keep w.heap.size w (HM.out _) (by go_grown) (Nat.le_refl _)).mono ?_
  rintro e w1 ⟨rfl, hb, hk⟩
  have KA : Hid (Bk 24 w1 w.heap.size (cs4 a)) := Lib.hid (Bk.below (Bk.alloc (Bk.alloc (Bk.new rfl))) hk)
  have KB : Hid (Bk 24 w1 (w.heap.size + 1) (cs4 b)) := Lib.hid (Bk.below (Bk.alloc (Bk.new (by simp))) hk)
  have KR : Hid (Bk 24 w1 (w.heap.size + 1 + 1) cs0) := Lib.hid (Bk.below (Bk.new (by simp)) hk)
  have HB := Lib.hid hb
  clear hk hb HM
  simp only [nv, num]
  go_wp2_with fail
  refine s2 w.heap.size (w.heap.size + 1) w1.heap.size bo (lb a 0) (lb a 1) (lb a 2) (lb a 3) (lb b 0) (lb b 1) (lb b 2) (lb b 3) (lb M 0) (lb M 1) (lb M 2) (lb M 3) (lb (a % M) 0) (lb (a % M) 1) (lb (a % M) 2) (lb (a % M) 3) (lb (b % M) 0) (lb (b % M) 1) (lb (b % M) 2) (lb (b % M) 3) (lb d 0) (lb d 1) (lb d 2) (lb d 3) _ (Bk.alloc KA.out) (Bk.alloc KB.out) (Bk.new rfl) HLA HLB HPL ?_
  intro _ _ _ _ _ _ _ _ _ _ g w2 hb2 hg2 hk2
  have K2R := Lib.hid (Bk.below (Bk.alloc KR.out) hb2)
  have K2M : Hid (Bk 24 w2 w1.heap.size (cs4 M)) := Lib.hid (Bk.below (Bk.new rfl) hb2)
  have K2S : Hid (Bk 24 w2 g (cs4 d)) := Lib.hid hk2
  have HB2 : Hid (Below w.heap.size w w2) := Lib.hid (Below.trans (by have hb := HB.out; have hs := hb.size; go_grown) (hb2.mono (by have hs := HB.out.size; simp; omega)))
  have HGE : Hid (g ≠ w.heap.size + 1 + 1 ∧ w.heap.size ≤ g) := Lib.hid (by
    have h1 := KR.out.lt
    have h2 := HB.out.size
    simp at hg2
    omega)
  clear hb2 hg2 hk2 KA KB KR HLA HLB HPL HB
  generalize w1.heap.size = gM at *
  generalize hgR : w.heap.size + 1 + 1 = gR at *
  by_cases hcb : bo = 0
  · have HV : Hid (d = res) := Lib.hid ((HF.out.1 hcb).trans HA.out.2.2.symm)
    subst hcb
    clear HF
    obtain ⟨i0, i1, i2, i3⟩ := K2S.out.cells
    obtain ⟨j0, j1, j2, j3⟩ := K2R.out.cells
    obtain ⟨f0, f1, f2, f3⟩ := K2R.out.fros
    go_wp2_with fail
    refine ret_cell rfl gR d rfl (Bk.put K2R.out) rfl ⟨by rw [HV.out]; rfl, ?_⟩
    have hb := HB2.out
    have hs := hb.size
    have hg : w.heap.size ≤ gR := by omega
    go_grown
  · have HV : Hid ((d + M) % W256 = res) := Lib.hid ((HF.out.2 hcb).trans HA.out.2.2.symm)
    have t1 : ((bo : Int) != 0) = true := by simp; omega
    clear hcb HF
    obtain ⟨i0, i1, i2, i3⟩ := K2S.out.cells
    obtain ⟨j0, j1, j2, j3⟩ := K2M.out.cells
    go_wp2_with fail
    refine (keep w.heap.size w (plus_nv d M HA.out.2.1 HA.out.1 _) HB2.out (Nat.le_refl _)).mono ?_
    rintro e w3 ⟨rfl, hb, hk⟩
    have K3R := Lib.hid (K2R.out.below hk)
    have K3S := Lib.hid (K2S.out.below hk)
    have HB3 := Lib.hid hb
    rw [HV.out]
    clear hk hb i0 i1 i2 i3 j0 j1 j2 j3 K2R K2S K2M HB2
    simp only [nv, num]
    obtain ⟨i0, i1, i2, i3⟩ := K3S.out.cells
    obtain ⟨y0, y1, y2, y3⟩ := K3S.out.fros
    obtain ⟨j0, j1, j2, j3⟩ := K3R.out.cells
    obtain ⟨f0, f1, f2, f3⟩ := K3R.out.fros
    have n1 : ¬ (g = gR) := HGE.out.1
    have n2 : ¬ (gR = g) := fun h => HGE.out.1 h.symm
    go_wp2_with fail
    refine ret_cell rfl gR res rfl (Bk.put (Bk.puto n2 K3R.out)) rfl ⟨rfl, ?_⟩
    have hb := HB3.out
    have hs := hb.size
    have hg : w.heap.size ≤ gR := by omega
    have hg2 := HGE.out.2
    go_grown
set_option maxHeartbeats 4000000 in
theorem neg_any (m : Int) (a : Nat) (ha : a < W256) (w : World) :
    Calls Try.prog 25 #[.int .i64 m, nv a] w fun e w' => e = .returned (nv ((md m - a % md m) % md m)) ∧ Below w.heap.size w w' := by
  have HS := Lib.hid (sub_any m 0 a (by decide) ha)
  simp only [Nat.zero_add] at HS
  generalize (md m - a % md m) % md m = res at *
  have e0 : nv 0 = .agg #[.int .u64 0, .int .u64 0, .int .u64 0, .int .u64 0] := rfl
  rw [e0] at HS
  simp only [nv, num] at HS ⊢
  go_enter Try.func25, Try.ntmps25
  go_wp2_with fail
  refine (keep w.heap.size w (HS.out _) (by go_grown) (Nat.le_refl _)).mono ?_
  rintro e w1 ⟨rfl, hb, hk⟩
  have KR : Hid (Bk 24 w1 (w.heap.size + 1) cs0) := Lib.hid (Bk.below (Bk.new (by simp)) hk)
  have HB := Lib.hid hb
  clear hk hb
  obtain ⟨j0, j1, j2, j3⟩ := KR.out.cells
  obtain ⟨f0, f1, f2, f3⟩ := KR.out.fros
  go_wp2_with fail
  refine ret_cell rfl (w.heap.size + 1) res rfl (Bk.put KR.out) rfl ⟨rfl, ?_⟩
  have hb := HB.out
  go_grown
end Go.Proofs.Ytglmmodkflkkkaa
