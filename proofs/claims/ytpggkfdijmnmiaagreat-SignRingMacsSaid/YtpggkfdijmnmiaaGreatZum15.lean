/- A point under way over a number: the walk. No condition but that each number is below 2 to the 256. -/
import Derived.Test.YtpggkfdijmnmiaaGreatZum14
set_option linter.unusedVariables false
set_option linter.unusedSimpArgs false
set_option maxRecDepth 100000
namespace Go.Proofs.YtpggkfdijmnmiaaGreat
open Go.RowKit Go.Sort Limbs
theorem mp_lt (a : Nat) : a % mP < W256 := Nat.lt_trans (Nat.mod_lt _ (by decide +kernel)) (by decide +kernel)
set_option maxHeartbeats 16000000 in
theorem over_c (x y z f : Nat) (hx : x < W256) (hy : y < W256) (hz : z < W256) (hf : f < W256) (w : World) :
    Calls Tryz.prog 170 #[jn x y z, nv f] w fun e w' => e = .returned (jn (x * (f * f % mP) % mP) (y * ((f * f % mP) * f % mP) % mP) (z * f % mP)) ∧ Below w.heap.size w w' := by
  have H1 := Lib.hid (mul_c f f hf hf)
  have H2 := Lib.hid (mul_c x (f * f % mP) hx (mp_lt _))
  have H3 := Lib.hid (mul_c (f * f % mP) f (mp_lt _) hf)
  have H4 := Lib.hid (mul_c y ((f * f % mP) * f % mP) hy (mp_lt _))
  have H5 := Lib.hid (mul_c z f hz hf)
  clear hx hy hz hf
  generalize x * (f * f % mP) % mP = rx at *
  generalize y * ((f * f % mP) * f % mP) % mP = ry at *
  generalize (f * f % mP) * f % mP = cube at *
  generalize f * f % mP = sq at *
  generalize z * f % mP = rz at *
  simp only [jn, nv, num] at H1 H2 H3 H4 H5 ⊢
  go_enter Tryz.func170, Tryz.ntmps170
  go_wp2_with fail
  refine (keep w.heap.size w (H1.out _) (by go_grown) (Nat.le_refl _)).mono ?_
  rintro e w1 ⟨rfl, hb, hk⟩
  have KP : Hid (Bk 162 w1 w.heap.size #[.int .u64 (lb x 0 : Nat), .int .u64 (lb x 1 : Nat), .int .u64 (lb x 2 : Nat), .int .u64 (lb x 3 : Nat), .int .u64 (lb y 0 : Nat), .int .u64 (lb y 1 : Nat), .int .u64 (lb y 2 : Nat), .int .u64 (lb y 3 : Nat), .int .u64 (lb z 0 : Nat), .int .u64 (lb z 1 : Nat), .int .u64 (lb z 2 : Nat), .int .u64 (lb z 3 : Nat)]) := Lib.hid (Bk.below (Bk.alloc (Bk.alloc (Bk.new rfl))) hk)
  have KF : Hid (Bk 24 w1 (w.heap.size + 1) #[.int .u64 (lb f 0 : Nat), .int .u64 (lb f 1 : Nat), .int .u64 (lb f 2 : Nat), .int .u64 (lb f 3 : Nat)]) := Lib.hid (Bk.below (Bk.alloc (Bk.new (by simp))) hk)
  have KR : Hid (Bk 162 w1 (w.heap.size + 1 + 1) #[.int .u64 0, .int .u64 0, .int .u64 0, .int .u64 0, .int .u64 0, .int .u64 0, .int .u64 0, .int .u64 0, .int .u64 0, .int .u64 0, .int .u64 0, .int .u64 0]) := Lib.hid (Bk.below (Bk.new (by simp)) hk)
  have HB := Lib.hid hb
  clear hk hb H1
  go_wp2_with fail
  have KP1 : Hid (Bk 162 (w1.alloc (.cells #[.int .u64 (lb sq 0 : Nat), .int .u64 (lb sq 1 : Nat), .int .u64 (lb sq 2 : Nat), .int .u64 (lb sq 3 : Nat)] 24)) w.heap.size #[.int .u64 (lb x 0 : Nat), .int .u64 (lb x 1 : Nat), .int .u64 (lb x 2 : Nat), .int .u64 (lb x 3 : Nat), .int .u64 (lb y 0 : Nat), .int .u64 (lb y 1 : Nat), .int .u64 (lb y 2 : Nat), .int .u64 (lb y 3 : Nat), .int .u64 (lb z 0 : Nat), .int .u64 (lb z 1 : Nat), .int .u64 (lb z 2 : Nat), .int .u64 (lb z 3 : Nat)]) := Lib.hid (Bk.alloc KP.out)
  have KF1 : Hid (Bk 24 (w1.alloc (.cells #[.int .u64 (lb sq 0 : Nat), .int .u64 (lb sq 1 : Nat), .int .u64 (lb sq 2 : Nat), .int .u64 (lb sq 3 : Nat)] 24)) (w.heap.size + 1) #[.int .u64 (lb f 0 : Nat), .int .u64 (lb f 1 : Nat), .int .u64 (lb f 2 : Nat), .int .u64 (lb f 3 : Nat)]) := Lib.hid (Bk.alloc KF.out)
  have KR1 : Hid (Bk 162 (w1.alloc (.cells #[.int .u64 (lb sq 0 : Nat), .int .u64 (lb sq 1 : Nat), .int .u64 (lb sq 2 : Nat), .int .u64 (lb sq 3 : Nat)] 24)) (w.heap.size + 1 + 1) #[.int .u64 0, .int .u64 0, .int .u64 0, .int .u64 0, .int .u64 0, .int .u64 0, .int .u64 0, .int .u64 0, .int .u64 0, .int .u64 0, .int .u64 0, .int .u64 0]) := Lib.hid (Bk.alloc KR.out)
  have KS1 : Hid (Bk 24 (w1.alloc (.cells #[.int .u64 (lb sq 0 : Nat), .int .u64 (lb sq 1 : Nat), .int .u64 (lb sq 2 : Nat), .int .u64 (lb sq 3 : Nat)] 24)) w1.heap.size #[.int .u64 (lb sq 0 : Nat), .int .u64 (lb sq 1 : Nat), .int .u64 (lb sq 2 : Nat), .int .u64 (lb sq 3 : Nat)]) := Lib.hid (Bk.new rfl)
  have HB1 : Hid (Below w.heap.size w (w1.alloc (.cells #[.int .u64 (lb sq 0 : Nat), .int .u64 (lb sq 1 : Nat), .int .u64 (lb sq 2 : Nat), .int .u64 (lb sq 3 : Nat)] 24))) := Lib.hid (by have hb := HB.out; have hs := hb.size; go_grown)
  generalize (w1.alloc (.cells #[.int .u64 (lb sq 0 : Nat), .int .u64 (lb sq 1 : Nat), .int .u64 (lb sq 2 : Nat), .int .u64 (lb sq 3 : Nat)] 24)) = W at KP1 KF1 KR1 KS1 HB1 ⊢
  obtain ⟨gf, hgf⟩ : ∃ z, z = w.heap.size + 1 := ⟨_, rfl⟩
  obtain ⟨gr, hgr⟩ : ∃ z, z = w.heap.size + 1 + 1 := ⟨_, rfl⟩
  rw [← hgr] at KR1 ⊢
  rw [← hgf] at KF1 ⊢
  generalize w1.heap.size = gs at KS1 ⊢
  have HG := Lib.hid (show w.heap.size ≤ gr by omega)
  clear hgr hgf KP KF KR HB
  obtain ⟨⟨x0, x1, x2, x3⟩, ⟨y0, y1, y2, y3⟩, z0, z1, z2, z3⟩ := KP1.out.reg12
  obtain ⟨f0, f1, f2, f3⟩ := KF1.out.reg
  obtain ⟨s0, s1, s2, s3⟩ := KS1.out.reg
  refine wp_region_below_tail 15 mixed (by kernel_rfl) ?_
  simp only [List.take_succ_cons, List.take_zero, List.drop_succ_cons, List.drop_zero]
  iterate 3 go_big_quiet_step (fail)
  go_big_quiet_step (exact qg H2.out)
  iterate 4 go_big_quiet_step (fail)
  go_big_quiet_step (exact qg H3.out)
  go_big_quiet_step (exact qg H4.out)
  iterate 3 go_big_quiet_step (fail)
  go_big_quiet_step (exact qg H5.out)
  repeat (first | go_big_quiet_step (fail) | quiet_step (fail))
  refine wpQuiet_nil ?_
  intro _ hw'
  obtain ⟨⟨dq, osq⟩, hw''⟩ := hw'
  subst hw''
  have KR2 := Lib.hid (KR1.out.regrown dq osq)
  have HB2 := Lib.hid (HB1.out.trans ((below_regrown W dq osq).mono HB1.out.size))
  clear KP1 KF1 KR1 KS1 HB1 x0 x1 x2 x3 y0 y1 y2 y3 z0 z1 z2 z3 f0 f1 f2 f3 s0 s1 s2 s3 H2 H3 H4 H5
  generalize grow (redrawn W dq) osq = V at KR2 HB2 ⊢
  obtain ⟨⟨f0, f1, f2, f3⟩, ⟨f4, f5, f6, f7⟩, f8, f9, f10, f11⟩ := KR2.out.fros12
  obtain ⟨⟨c0, c1, c2, c3⟩, ⟨c4, c5, c6, c7⟩, c8, c9, c10, c11⟩ := KR2.out.cells12
  go_wp2_with fail
  refine ret_cell93 rfl gr rx ry rz rfl (Bk.put12 KR2.out) rfl ⟨rfl, ?_⟩
  have hb := HB2.out
  have hg := HG.out
  go_grown
end Go.Proofs.YtpggkfdijmnmiaaGreat
