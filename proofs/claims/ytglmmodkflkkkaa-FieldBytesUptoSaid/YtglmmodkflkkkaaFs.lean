/- Sums, differences, products and opposites are what reckoning by hand says: the law's walk. No condition but that each number is below 2 to the 256. -/
import Derived.Test.YtglmmodkflkkkaaFq
set_option linter.unusedVariables false
set_option linter.unusedSimpArgs false
set_option maxRecDepth 100000
namespace Go.Proofs.Ytglmmodkflkkkaa.Ref
open Go.RowKit Go.Proofs.Ytglmmodkflkkkaa.Digits Limbs

theorem w_big {n : Nat} (h : n < W256) : n < big := Nat.lt_trans h (by decide +kernel)
theorem is_same (v u : Value) (w : World) (a b : Nat) (e : a = b) (h : NV w v a) (k : NV w u b) : Calls Try.prog 17 #[v, u] w fun e w' => e = .returned (.bool true) ∧ Below w.heap.size w w' := by
  have := is_nv v u w a b h k
  rwa [decide_eq_true e] at this
set_option maxHeartbeats 64000000 in
theorem reckons_walk (m : Int) (ua ub : Nat) (ha : ua < W256) (hb : ub < W256) (w : World) :
    Calls Try.prog 3 #[.int .i64 m, nv ua, nv ub] w fun r w' => r = .returned (.bool true) ∧ Below w.heap.size w w' := by
  have hp0 := md_pos m
  have hMW : md m < W256 := (md_lt (md_or m)).1
  have lt (n : Nat) : n % md m < W256 := Nat.lt_trans (Nat.mod_lt _ hp0) hMW
  have H0 := Lib.hid awake_any
  have H1 := Lib.hid (mod_any m)
  have H2 := Lib.hid (in_any (md m) hMW)
  have H3 := Lib.hid (Go.Proofs.Ytglmmodkflkkkaa.add_any m ua ub ha hb)
  have H4 := Lib.hid (in_any ((ua + ub) % md m) (lt _))
  have H5 := Lib.hid (Go.Proofs.Ytglmmodkflkkkaa.sub_any m ua ub ha hb)
  have H6 := Lib.hid (in_any ((ua + (md m - ub % md m)) % md m) (lt _))
  have H7 := Lib.hid (Go.Proofs.Ytglmmodkflkkkaa.mul_any m ua ub ha hb)
  have H8 := Lib.hid (in_any (ua * ub % md m) (lt _))
  have H9 := Lib.hid (Go.Proofs.Ytglmmodkflkkkaa.neg_any m ua ha)
  have H10 := Lib.hid (in_any ((md m - ua % md m) % md m) (lt _))
  have HIA := Lib.hid (in_any ua ha)
  have HIB := Lib.hid (in_any ub hb)
  have HE := Lib.hid (show (ua + (md m - ub % md m)) % md m = (ua + (md m - ub % md m) % md m) % md m from (Nat.add_mod_mod _ _ _).symm)
  have HL := Lib.hid (show ua < big ∧ ub < big ∧ (md m - ub % md m) % md m < big from ⟨w_big ha, w_big hb, w_big (lt _)⟩)
  clear hp0 hMW lt ha hb
  obtain ⟨nM, hM⟩ : ∃ z, z = md m := ⟨_, rfl⟩
  have HMM := Lib.hid hM
  obtain ⟨nS, hS⟩ : ∃ z, z = (ua + ub) % md m := ⟨_, rfl⟩
  have HSS := Lib.hid hS
  obtain ⟨nD, hD⟩ : ∃ z, z = (ua + (md m - ub % md m)) % md m := ⟨_, rfl⟩
  have HDD := Lib.hid hD
  obtain ⟨nP, hP⟩ : ∃ z, z = ua * ub % md m := ⟨_, rfl⟩
  have HPP := Lib.hid hP
  obtain ⟨nN, hN⟩ : ∃ z, z = (md m - ua % md m) % md m := ⟨_, rfl⟩
  have HNN := Lib.hid hN
  rw [← hS] at H3 H4
  rw [← hD] at H5 H6
  rw [← hP] at H7 H8
  rw [← hN] at H9 H10
  rw [← hM] at H1 H2
  clear hM hS hD hP hN
  simp only [nv, num] at H1 H2 H3 H4 H5 H6 H7 H8 H9 H10 HIA HIB ⊢
  go_enter Try.func3, Try.ntmps3
  go_wp2_with fail
  have KA : Hid (Bk 24 ((w.alloc (.cells #[.int .u64 (lb ua 0 : Nat), .int .u64 (lb ua 1 : Nat), .int .u64 (lb ua 2 : Nat), .int .u64 (lb ua 3 : Nat)] 24)).alloc (.cells #[.int .u64 (lb ub 0 : Nat), .int .u64 (lb ub 1 : Nat), .int .u64 (lb ub 2 : Nat), .int .u64 (lb ub 3 : Nat)] 24)) w.heap.size #[.int .u64 (lb ua 0 : Nat), .int .u64 (lb ua 1 : Nat), .int .u64 (lb ua 2 : Nat), .int .u64 (lb ua 3 : Nat)]) := Lib.hid (Bk.alloc (Bk.new rfl))
  have KB : Hid (Bk 24 ((w.alloc (.cells #[.int .u64 (lb ua 0 : Nat), .int .u64 (lb ua 1 : Nat), .int .u64 (lb ua 2 : Nat), .int .u64 (lb ua 3 : Nat)] 24)).alloc (.cells #[.int .u64 (lb ub 0 : Nat), .int .u64 (lb ub 1 : Nat), .int .u64 (lb ub 2 : Nat), .int .u64 (lb ub 3 : Nat)] 24)) (w.heap.size + 1) #[.int .u64 (lb ub 0 : Nat), .int .u64 (lb ub 1 : Nat), .int .u64 (lb ub 2 : Nat), .int .u64 (lb ub 3 : Nat)]) := Lib.hid (Bk.new (by simp))
  have HB : Hid (Below w.heap.size w ((w.alloc (.cells #[.int .u64 (lb ua 0 : Nat), .int .u64 (lb ua 1 : Nat), .int .u64 (lb ua 2 : Nat), .int .u64 (lb ua 3 : Nat)] 24)).alloc (.cells #[.int .u64 (lb ub 0 : Nat), .int .u64 (lb ub 1 : Nat), .int .u64 (lb ub 2 : Nat), .int .u64 (lb ub 3 : Nat)] 24))) := Lib.hid (by go_grown)
  generalize ((w.alloc (.cells #[.int .u64 (lb ua 0 : Nat), .int .u64 (lb ua 1 : Nat), .int .u64 (lb ua 2 : Nat), .int .u64 (lb ua 3 : Nat)] 24)).alloc (.cells #[.int .u64 (lb ub 0 : Nat), .int .u64 (lb ub 1 : Nat), .int .u64 (lb ub 2 : Nat), .int .u64 (lb ub 3 : Nat)] 24)) = w0 at KA KB HB ⊢
  refine rk1 w.heap.size (w.heap.size + 1) ua ub w0 KA.out KB.out HIA HIB ?_
  intro _ _ _ _ v7 v8 w1 hkk n7 n8
  replace KA := Lib.hid (KA.out.below hkk)
  replace KB := Lib.hid (KB.out.below hkk)
  have Nv7 := Lib.hid n7
  have Nv8 := Lib.hid n8
  replace HB := Lib.hid (HB.out.trans (hkk.mono HB.out.size))
  clear hkk n7 n8 HIA HIB
  obtain ⟨a_0, a_1, a_2, a_3⟩ := KA.out.cells
  obtain ⟨b_0, b_1, b_2, b_3⟩ := KB.out.cells
  go_wp2_with fail
  clear a_0 a_1 a_2 a_3 b_0 b_1 b_2 b_3
  refine (keep w.heap.size w (H0.out _) HB.out (Nat.le_refl _)).mono ?_
  rintro e w2 ⟨rfl, hb, hkk⟩
  replace KA := Lib.hid (KA.out.below hkk)
  replace KB := Lib.hid (KB.out.below hkk)
  replace Nv7 := Lib.hid (Nv7.out.below hkk)
  replace Nv8 := Lib.hid (Nv8.out.below hkk)
  replace HB := Lib.hid hb
  clear hb hkk
  obtain ⟨a_0, a_1, a_2, a_3⟩ := KA.out.cells
  obtain ⟨b_0, b_1, b_2, b_3⟩ := KB.out.cells
  go_wp2_with fail
  clear a_0 a_1 a_2 a_3 b_0 b_1 b_2 b_3
  refine (keep w.heap.size w (H1.out _) HB.out (Nat.le_refl _)).mono ?_
  rintro e w3 ⟨rfl, hb, hkk⟩
  replace KA := Lib.hid (KA.out.below hkk)
  replace KB := Lib.hid (KB.out.below hkk)
  replace Nv7 := Lib.hid (Nv7.out.below hkk)
  replace Nv8 := Lib.hid (Nv8.out.below hkk)
  replace HB := Lib.hid hb
  clear hb hkk
  obtain ⟨a_0, a_1, a_2, a_3⟩ := KA.out.cells
  obtain ⟨b_0, b_1, b_2, b_3⟩ := KB.out.cells
  go_wp2_with fail
  clear a_0 a_1 a_2 a_3 b_0 b_1 b_2 b_3
  refine (nk w.heap.size w (H2.out _) HB.out (Nat.le_refl _)).mono ?_
  rintro e w4 ⟨p1, rfl, hnn, hb, hkk⟩
  replace KA := Lib.hid (KA.out.below hkk)
  replace KB := Lib.hid (KB.out.below hkk)
  replace Nv7 := Lib.hid (Nv7.out.below hkk)
  replace Nv8 := Lib.hid (Nv8.out.below hkk)
  have Np1 := Lib.hid hnn
  clear hnn
  replace HB := Lib.hid hb
  clear hb hkk
  obtain ⟨a_0, a_1, a_2, a_3⟩ := KA.out.cells
  obtain ⟨b_0, b_1, b_2, b_3⟩ := KB.out.cells
  go_wp2_with fail
  clear a_0 a_1 a_2 a_3 b_0 b_1 b_2 b_3
  refine (nk w.heap.size w (modref_any m w4) HB.out (Nat.le_refl _)).mono ?_
  rintro e w5 ⟨p2, rfl, hnn, hb, hkk⟩
  replace KA := Lib.hid (KA.out.below hkk)
  replace KB := Lib.hid (KB.out.below hkk)
  replace Nv7 := Lib.hid (Nv7.out.below hkk)
  replace Nv8 := Lib.hid (Nv8.out.below hkk)
  replace Np1 := Lib.hid (Np1.out.below hkk)
  have Np2 := Lib.hid hnn
  clear hnn
  replace HB := Lib.hid hb
  clear hb hkk
  obtain ⟨a_0, a_1, a_2, a_3⟩ := KA.out.cells
  obtain ⟨b_0, b_1, b_2, b_3⟩ := KB.out.cells
  go_wp2_with fail
  clear a_0 a_1 a_2 a_3 b_0 b_1 b_2 b_3
  refine (keep w.heap.size w (is_same _ _ w5 nM (md m) HMM.out Np1.out Np2.out) HB.out (Nat.le_refl _)).mono ?_
  rintro e w6 ⟨rfl, hb, hkk⟩
  replace KA := Lib.hid (KA.out.below hkk)
  replace KB := Lib.hid (KB.out.below hkk)
  replace Nv7 := Lib.hid (Nv7.out.below hkk)
  replace Nv8 := Lib.hid (Nv8.out.below hkk)
  replace Np1 := Lib.hid (Np1.out.below hkk)
  replace Np2 := Lib.hid (Np2.out.below hkk)
  replace HB := Lib.hid hb
  clear hb hkk
  clear Np1
  clear Np2
  obtain ⟨a_0, a_1, a_2, a_3⟩ := KA.out.cells
  obtain ⟨b_0, b_1, b_2, b_3⟩ := KB.out.cells
  go_wp2_with fail
  clear a_0 a_1 a_2 a_3 b_0 b_1 b_2 b_3
  refine (keep w.heap.size w (H3.out _) HB.out (Nat.le_refl _)).mono ?_
  rintro e w7 ⟨rfl, hb, hkk⟩
  replace KA := Lib.hid (KA.out.below hkk)
  replace KB := Lib.hid (KB.out.below hkk)
  replace Nv7 := Lib.hid (Nv7.out.below hkk)
  replace Nv8 := Lib.hid (Nv8.out.below hkk)
  replace HB := Lib.hid hb
  clear hb hkk
  obtain ⟨a_0, a_1, a_2, a_3⟩ := KA.out.cells
  obtain ⟨b_0, b_1, b_2, b_3⟩ := KB.out.cells
  go_wp2_with fail
  clear a_0 a_1 a_2 a_3 b_0 b_1 b_2 b_3
  refine (nk w.heap.size w (H4.out _) HB.out (Nat.le_refl _)).mono ?_
  rintro e w8 ⟨p1, rfl, hnn, hb, hkk⟩
  replace KA := Lib.hid (KA.out.below hkk)
  replace KB := Lib.hid (KB.out.below hkk)
  replace Nv7 := Lib.hid (Nv7.out.below hkk)
  replace Nv8 := Lib.hid (Nv8.out.below hkk)
  have Np1 := Lib.hid hnn
  clear hnn
  replace HB := Lib.hid hb
  clear hb hkk
  obtain ⟨a_0, a_1, a_2, a_3⟩ := KA.out.cells
  obtain ⟨b_0, b_1, b_2, b_3⟩ := KB.out.cells
  go_wp2_with fail
  clear a_0 a_1 a_2 a_3 b_0 b_1 b_2 b_3
  refine (nk w.heap.size w (sum_nv m v7 v8 w8 ua ub HL.out.1 HL.out.2.1 Nv7.out Nv8.out) HB.out (Nat.le_refl _)).mono ?_
  rintro e w9 ⟨p2, rfl, hnn, hb, hkk⟩
  replace KA := Lib.hid (KA.out.below hkk)
  replace KB := Lib.hid (KB.out.below hkk)
  replace Nv7 := Lib.hid (Nv7.out.below hkk)
  replace Nv8 := Lib.hid (Nv8.out.below hkk)
  replace Np1 := Lib.hid (Np1.out.below hkk)
  have Np2 := Lib.hid hnn
  clear hnn
  replace HB := Lib.hid hb
  clear hb hkk
  obtain ⟨a_0, a_1, a_2, a_3⟩ := KA.out.cells
  obtain ⟨b_0, b_1, b_2, b_3⟩ := KB.out.cells
  go_wp2_with fail
  clear a_0 a_1 a_2 a_3 b_0 b_1 b_2 b_3
  refine (keep w.heap.size w (is_same _ _ w9 nS _ HSS.out Np1.out Np2.out) HB.out (Nat.le_refl _)).mono ?_
  rintro e w10 ⟨rfl, hb, hkk⟩
  replace KA := Lib.hid (KA.out.below hkk)
  replace KB := Lib.hid (KB.out.below hkk)
  replace Nv7 := Lib.hid (Nv7.out.below hkk)
  replace Nv8 := Lib.hid (Nv8.out.below hkk)
  replace Np1 := Lib.hid (Np1.out.below hkk)
  replace Np2 := Lib.hid (Np2.out.below hkk)
  replace HB := Lib.hid hb
  clear hb hkk
  clear Np1
  clear Np2
  obtain ⟨a_0, a_1, a_2, a_3⟩ := KA.out.cells
  obtain ⟨b_0, b_1, b_2, b_3⟩ := KB.out.cells
  go_wp2_with fail
  clear a_0 a_1 a_2 a_3 b_0 b_1 b_2 b_3
  refine (keep w.heap.size w (H5.out _) HB.out (Nat.le_refl _)).mono ?_
  rintro e w11 ⟨rfl, hb, hkk⟩
  replace KA := Lib.hid (KA.out.below hkk)
  replace KB := Lib.hid (KB.out.below hkk)
  replace Nv7 := Lib.hid (Nv7.out.below hkk)
  replace Nv8 := Lib.hid (Nv8.out.below hkk)
  replace HB := Lib.hid hb
  clear hb hkk
  obtain ⟨a_0, a_1, a_2, a_3⟩ := KA.out.cells
  obtain ⟨b_0, b_1, b_2, b_3⟩ := KB.out.cells
  go_wp2_with fail
  clear a_0 a_1 a_2 a_3 b_0 b_1 b_2 b_3
  refine (nk w.heap.size w (H6.out _) HB.out (Nat.le_refl _)).mono ?_
  rintro e w12 ⟨p1, rfl, hnn, hb, hkk⟩
  replace KA := Lib.hid (KA.out.below hkk)
  replace KB := Lib.hid (KB.out.below hkk)
  replace Nv7 := Lib.hid (Nv7.out.below hkk)
  replace Nv8 := Lib.hid (Nv8.out.below hkk)
  have Np1 := Lib.hid hnn
  clear hnn
  replace HB := Lib.hid hb
  clear hb hkk
  obtain ⟨a_0, a_1, a_2, a_3⟩ := KA.out.cells
  obtain ⟨b_0, b_1, b_2, b_3⟩ := KB.out.cells
  go_wp2_with fail
  clear a_0 a_1 a_2 a_3 b_0 b_1 b_2 b_3
  refine (nk w.heap.size w (opp_nv m v8 w12 ub HL.out.2.1 Nv8.out) HB.out (Nat.le_refl _)).mono ?_
  rintro e w13 ⟨p2, rfl, hnn, hb, hkk⟩
  replace KA := Lib.hid (KA.out.below hkk)
  replace KB := Lib.hid (KB.out.below hkk)
  replace Nv7 := Lib.hid (Nv7.out.below hkk)
  replace Nv8 := Lib.hid (Nv8.out.below hkk)
  replace Np1 := Lib.hid (Np1.out.below hkk)
  have Np2 := Lib.hid hnn
  clear hnn
  replace HB := Lib.hid hb
  clear hb hkk
  obtain ⟨a_0, a_1, a_2, a_3⟩ := KA.out.cells
  obtain ⟨b_0, b_1, b_2, b_3⟩ := KB.out.cells
  go_wp2_with fail
  clear a_0 a_1 a_2 a_3 b_0 b_1 b_2 b_3
  refine (nk w.heap.size w (sum_nv m v7 p2 w13 ua _ HL.out.1 HL.out.2.2 Nv7.out Np2.out) HB.out (Nat.le_refl _)).mono ?_
  rintro e w14 ⟨p3, rfl, hnn, hb, hkk⟩
  replace KA := Lib.hid (KA.out.below hkk)
  replace KB := Lib.hid (KB.out.below hkk)
  replace Nv7 := Lib.hid (Nv7.out.below hkk)
  replace Nv8 := Lib.hid (Nv8.out.below hkk)
  replace Np1 := Lib.hid (Np1.out.below hkk)
  replace Np2 := Lib.hid (Np2.out.below hkk)
  have Np3 := Lib.hid hnn
  clear hnn
  replace HB := Lib.hid hb
  clear hb hkk
  obtain ⟨a_0, a_1, a_2, a_3⟩ := KA.out.cells
  obtain ⟨b_0, b_1, b_2, b_3⟩ := KB.out.cells
  go_wp2_with fail
  clear a_0 a_1 a_2 a_3 b_0 b_1 b_2 b_3
  refine (keep w.heap.size w (is_same _ _ w14 nD _ (HDD.out.trans HE.out) Np1.out Np3.out) HB.out (Nat.le_refl _)).mono ?_
  rintro e w15 ⟨rfl, hb, hkk⟩
  replace KA := Lib.hid (KA.out.below hkk)
  replace KB := Lib.hid (KB.out.below hkk)
  replace Nv7 := Lib.hid (Nv7.out.below hkk)
  replace Nv8 := Lib.hid (Nv8.out.below hkk)
  replace Np1 := Lib.hid (Np1.out.below hkk)
  replace Np2 := Lib.hid (Np2.out.below hkk)
  replace Np3 := Lib.hid (Np3.out.below hkk)
  replace HB := Lib.hid hb
  clear hb hkk
  clear Np1
  clear Np2
  clear Np3
  obtain ⟨a_0, a_1, a_2, a_3⟩ := KA.out.cells
  obtain ⟨b_0, b_1, b_2, b_3⟩ := KB.out.cells
  go_wp2_with fail
  clear a_0 a_1 a_2 a_3 b_0 b_1 b_2 b_3
  refine (keep w.heap.size w (H7.out _) HB.out (Nat.le_refl _)).mono ?_
  rintro e w16 ⟨rfl, hb, hkk⟩
  replace KA := Lib.hid (KA.out.below hkk)
  replace KB := Lib.hid (KB.out.below hkk)
  replace Nv7 := Lib.hid (Nv7.out.below hkk)
  replace Nv8 := Lib.hid (Nv8.out.below hkk)
  replace HB := Lib.hid hb
  clear hb hkk
  obtain ⟨a_0, a_1, a_2, a_3⟩ := KA.out.cells
  obtain ⟨b_0, b_1, b_2, b_3⟩ := KB.out.cells
  go_wp2_with fail
  clear a_0 a_1 a_2 a_3 b_0 b_1 b_2 b_3
  refine (nk w.heap.size w (H8.out _) HB.out (Nat.le_refl _)).mono ?_
  rintro e w17 ⟨p1, rfl, hnn, hb, hkk⟩
  replace KA := Lib.hid (KA.out.below hkk)
  replace KB := Lib.hid (KB.out.below hkk)
  replace Nv7 := Lib.hid (Nv7.out.below hkk)
  replace Nv8 := Lib.hid (Nv8.out.below hkk)
  have Np1 := Lib.hid hnn
  clear hnn
  replace HB := Lib.hid hb
  clear hb hkk
  obtain ⟨a_0, a_1, a_2, a_3⟩ := KA.out.cells
  obtain ⟨b_0, b_1, b_2, b_3⟩ := KB.out.cells
  go_wp2_with fail
  clear a_0 a_1 a_2 a_3 b_0 b_1 b_2 b_3
  refine (nk w.heap.size w (prod_nv m v7 v8 w17 ua ub HL.out.1 HL.out.2.1 Nv7.out Nv8.out) HB.out (Nat.le_refl _)).mono ?_
  rintro e w18 ⟨p2, rfl, hnn, hb, hkk⟩
  replace KA := Lib.hid (KA.out.below hkk)
  replace KB := Lib.hid (KB.out.below hkk)
  replace Nv7 := Lib.hid (Nv7.out.below hkk)
  replace Nv8 := Lib.hid (Nv8.out.below hkk)
  replace Np1 := Lib.hid (Np1.out.below hkk)
  have Np2 := Lib.hid hnn
  clear hnn
  replace HB := Lib.hid hb
  clear hb hkk
  obtain ⟨a_0, a_1, a_2, a_3⟩ := KA.out.cells
  obtain ⟨b_0, b_1, b_2, b_3⟩ := KB.out.cells
  go_wp2_with fail
  clear a_0 a_1 a_2 a_3 b_0 b_1 b_2 b_3
  refine (keep w.heap.size w (is_same _ _ w18 nP _ HPP.out Np1.out Np2.out) HB.out (Nat.le_refl _)).mono ?_
  rintro e w19 ⟨rfl, hb, hkk⟩
  replace KA := Lib.hid (KA.out.below hkk)
  replace KB := Lib.hid (KB.out.below hkk)
  replace Nv7 := Lib.hid (Nv7.out.below hkk)
  replace Nv8 := Lib.hid (Nv8.out.below hkk)
  replace Np1 := Lib.hid (Np1.out.below hkk)
  replace Np2 := Lib.hid (Np2.out.below hkk)
  replace HB := Lib.hid hb
  clear hb hkk
  clear Np1
  clear Np2
  obtain ⟨a_0, a_1, a_2, a_3⟩ := KA.out.cells
  obtain ⟨b_0, b_1, b_2, b_3⟩ := KB.out.cells
  go_wp2_with fail
  clear a_0 a_1 a_2 a_3 b_0 b_1 b_2 b_3
  refine (keep w.heap.size w (H9.out _) HB.out (Nat.le_refl _)).mono ?_
  rintro e w20 ⟨rfl, hb, hkk⟩
  replace KA := Lib.hid (KA.out.below hkk)
  replace KB := Lib.hid (KB.out.below hkk)
  replace Nv7 := Lib.hid (Nv7.out.below hkk)
  replace Nv8 := Lib.hid (Nv8.out.below hkk)
  replace HB := Lib.hid hb
  clear hb hkk
  obtain ⟨a_0, a_1, a_2, a_3⟩ := KA.out.cells
  obtain ⟨b_0, b_1, b_2, b_3⟩ := KB.out.cells
  go_wp2_with fail
  clear a_0 a_1 a_2 a_3 b_0 b_1 b_2 b_3
  refine (nk w.heap.size w (H10.out _) HB.out (Nat.le_refl _)).mono ?_
  rintro e w21 ⟨p1, rfl, hnn, hb, hkk⟩
  replace KA := Lib.hid (KA.out.below hkk)
  replace KB := Lib.hid (KB.out.below hkk)
  replace Nv7 := Lib.hid (Nv7.out.below hkk)
  replace Nv8 := Lib.hid (Nv8.out.below hkk)
  have Np1 := Lib.hid hnn
  clear hnn
  replace HB := Lib.hid hb
  clear hb hkk
  obtain ⟨a_0, a_1, a_2, a_3⟩ := KA.out.cells
  obtain ⟨b_0, b_1, b_2, b_3⟩ := KB.out.cells
  go_wp2_with fail
  clear a_0 a_1 a_2 a_3 b_0 b_1 b_2 b_3
  refine (nk w.heap.size w (opp_nv m v7 w21 ua HL.out.1 Nv7.out) HB.out (Nat.le_refl _)).mono ?_
  rintro e w22 ⟨p2, rfl, hnn, hb, hkk⟩
  replace KA := Lib.hid (KA.out.below hkk)
  replace KB := Lib.hid (KB.out.below hkk)
  replace Nv7 := Lib.hid (Nv7.out.below hkk)
  replace Nv8 := Lib.hid (Nv8.out.below hkk)
  replace Np1 := Lib.hid (Np1.out.below hkk)
  have Np2 := Lib.hid hnn
  clear hnn
  replace HB := Lib.hid hb
  clear hb hkk
  obtain ⟨a_0, a_1, a_2, a_3⟩ := KA.out.cells
  obtain ⟨b_0, b_1, b_2, b_3⟩ := KB.out.cells
  go_wp2_with fail
  clear a_0 a_1 a_2 a_3 b_0 b_1 b_2 b_3
  refine (keep w.heap.size w (is_same _ _ w22 nN _ HNN.out Np1.out Np2.out) HB.out (Nat.le_refl _)).mono ?_
  rintro e w23 ⟨rfl, hb, hkk⟩
  replace KA := Lib.hid (KA.out.below hkk)
  replace KB := Lib.hid (KB.out.below hkk)
  replace Nv7 := Lib.hid (Nv7.out.below hkk)
  replace Nv8 := Lib.hid (Nv8.out.below hkk)
  replace Np1 := Lib.hid (Np1.out.below hkk)
  replace Np2 := Lib.hid (Np2.out.below hkk)
  replace HB := Lib.hid hb
  clear hb hkk
  clear Np1
  clear Np2
  go_wp2_with fail
  go_ret
  exact ⟨rfl, HB.out⟩
end Go.Proofs.Ytglmmodkflkkkaa.Ref
