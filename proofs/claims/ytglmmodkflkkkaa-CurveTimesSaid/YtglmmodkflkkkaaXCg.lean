import Derived.Test.YtglmmodkflkkkaaXCs
set_option linter.unusedVariables false
set_option linter.unusedSimpArgs false
set_option maxRecDepth 100000
namespace Go.Proofs.Ytglmmodkflkkkaa
open Go.RowKit Go.Sort Limbs
def J.twice (p : J) : J := if p = J.far then p else (p.over (aj p.y p.y)).along (tj (mj (sj p.x (mj p.z p.z)) (aj p.x (mj p.z p.z)))) (p.over (aj p.y p.y)).x
theorem J.twice_far {p : J} (h : p = J.far) : p.twice = p := if_pos h
theorem J.twice_not {p : J} (h : ¬ p = J.far) : p.twice = (p.over (aj p.y p.y)).along (tj (mj (sj p.x (mj p.z p.z)) (aj p.x (mj p.z p.z)))) (p.over (aj p.y p.y)).x := if_neg h
theorem J.twice_ok {p : J} (h : p.ok) : p.twice.ok := by
  by_cases hf : p = J.far
  · rw [J.twice_far hf]; exact h
  · rw [J.twice_not hf]; exact J.along_ok _ _ _ (J.over_ok _ _).2.2
theorem eq_far {p : J} (hp : p.ok) : ∀ w, (Op.equalIn 10000 93 p.v (.agg #[.int .u64 0, .int .u64 0, .int .u64 0, .int .u64 0, .int .u64 0, .int .u64 0, .int .u64 0, .int .u64 0, .int .u64 0, .int .u64 0, .int .u64 0, .int .u64 0])).run Try.prog w = .ok (decide (p = J.far)) w := fun w => by
  have h := eqJ p.x p.y p.z 0 0 0 hp.1 hp.2.1 hp.2.2 (by decide) (by decide) (by decide) w
  have e : jn 0 0 0 = .agg #[.int .u64 0, .int .u64 0, .int .u64 0, .int .u64 0, .int .u64 0, .int .u64 0, .int .u64 0, .int .u64 0, .int .u64 0, .int .u64 0, .int .u64 0, .int .u64 0] := rfl
  rw [e] at h
  have e2 : decide (p = J.far) = decide (p.x = 0 ∧ p.y = 0 ∧ p.z = 0) := by
    congr 1
    obtain ⟨x, y, z⟩ := p
    simp [J.far]
  rw [e2]
  exact h
set_option maxHeartbeats 16000000 in
theorem twice_c (p : J) (hp : p.ok) (w : World) :
    Calls Try.prog 92 #[p.v] w fun e w' => e = .returned p.twice.v ∧ Below w.heap.size w w' := by
  have HE := Lib.hid (eq_far hp)
  have hp' := hp
  obtain ⟨x, y, z⟩ := p
  obtain ⟨hx, hy, hz⟩ := hp'
  simp only [] at hx hy hz
  have H0 := Lib.hid (mulj hz hz)
  have H1 := Lib.hid (subj hx (mj_lt z z))
  have H2 := Lib.hid (addj hx (mj_lt z z))
  have H3 := Lib.hid (mulj (sj_lt x (mj z z)) (aj_lt x (mj z z)))
  have H4 := Lib.hid (tripj (mj_lt (sj x (mj z z)) (aj x (mj z z))))
  have H5 := Lib.hid (addj hy hy)
  have H6 := Lib.hid (overj hp (aj_lt y y))
  have H7 := Lib.hid (alongj (J.over_ok ⟨x, y, z⟩ (aj y y)) (tj_lt (mj (sj x (mj z z)) (aj x (mj z z)))) (J.over_ok ⟨x, y, z⟩ (aj y y)).1)
  by_cases hf : (⟨x, y, z⟩ : J) = J.far
  · rw [J.twice_far hf]
    have hd : decide ((⟨x, y, z⟩ : J) = J.far) = true := decide_eq_true hf
    rw [hd] at HE
    have heq := HE.out
    clear HE hd hf hp hx hy hz H0 H1 H2 H3 H4 H5 H6 H7
    simp only [J.v, jn] at heq ⊢
    go_enter Try.func92, Try.ntmps92
    go_wp2_with fail
    refine ret_cell93 rfl (w.heap.size + 1) x y z rfl (Bk.new (by simp)) rfl ⟨rfl, ?_⟩
    go_grown
  · rw [J.twice_not hf]
    have hd : decide ((⟨x, y, z⟩ : J) = J.far) = false := decide_eq_false hf
    rw [hd] at HE
    simp only []
    generalize hq : (⟨x, y, z⟩ : J).over (aj y y) = q at *
    obtain ⟨qx, qy, qz⟩ := q
    simp only [] at H7
    generalize (J.along ⟨qx, qy, qz⟩ (tj (mj (sj x (mj z z)) (aj x (mj z z)))) qx) = res at *
    generalize tj (mj (sj x (mj z z)) (aj x (mj z z))) = rise at *
    generalize mj (sj x (mj z z)) (aj x (mj z z)) = mm at *
    generalize sj x (mj z z) = dd at *
    generalize aj x (mj z z) = ss at *
    generalize mj z z = sq at *
    generalize aj y y = yy at *
    obtain ⟨rx, ry, rz⟩ := res
    have heq := HE.out
    clear HE hd hf hp hx hy hz hq
    simp only [J.v, jn, nv, num] at H0 H1 H2 H3 H4 H5 H6 H7 heq ⊢
    go_enter Try.func92, Try.ntmps92
    go_wp2_with fail
    refine (keep w.heap.size w (H0.out _) (by go_grown) (Nat.le_refl _)).mono ?_
    rintro e w1 ⟨rfl, hb, hk⟩
    have KP : Hid (Bk 93 w1 w.heap.size #[.int .u64 (lb x 0 : Nat), .int .u64 (lb x 1 : Nat), .int .u64 (lb x 2 : Nat), .int .u64 (lb x 3 : Nat), .int .u64 (lb y 0 : Nat), .int .u64 (lb y 1 : Nat), .int .u64 (lb y 2 : Nat), .int .u64 (lb y 3 : Nat), .int .u64 (lb z 0 : Nat), .int .u64 (lb z 1 : Nat), .int .u64 (lb z 2 : Nat), .int .u64 (lb z 3 : Nat)]) := Lib.hid (Bk.below (Bk.alloc (Bk.new rfl)) hk)
    have KZ : Hid (Bk 93 w1 (w.heap.size + 1) #[.int .u64 0, .int .u64 0, .int .u64 0, .int .u64 0, .int .u64 0, .int .u64 0, .int .u64 0, .int .u64 0, .int .u64 0, .int .u64 0, .int .u64 0, .int .u64 0]) := Lib.hid (Bk.below (Bk.new (by simp)) hk)
    have HB := Lib.hid hb
    clear hk hb H0 heq
    go_wp2_with fail
    have KP1 : Hid (Bk 93 (w1.alloc (.cells #[.int .u64 (lb sq 0 : Nat), .int .u64 (lb sq 1 : Nat), .int .u64 (lb sq 2 : Nat), .int .u64 (lb sq 3 : Nat)] 24)) w.heap.size #[.int .u64 (lb x 0 : Nat), .int .u64 (lb x 1 : Nat), .int .u64 (lb x 2 : Nat), .int .u64 (lb x 3 : Nat), .int .u64 (lb y 0 : Nat), .int .u64 (lb y 1 : Nat), .int .u64 (lb y 2 : Nat), .int .u64 (lb y 3 : Nat), .int .u64 (lb z 0 : Nat), .int .u64 (lb z 1 : Nat), .int .u64 (lb z 2 : Nat), .int .u64 (lb z 3 : Nat)]) := Lib.hid (Bk.alloc KP.out)
    have KZ1 : Hid (Bk 93 (w1.alloc (.cells #[.int .u64 (lb sq 0 : Nat), .int .u64 (lb sq 1 : Nat), .int .u64 (lb sq 2 : Nat), .int .u64 (lb sq 3 : Nat)] 24)) (w.heap.size + 1) #[.int .u64 0, .int .u64 0, .int .u64 0, .int .u64 0, .int .u64 0, .int .u64 0, .int .u64 0, .int .u64 0, .int .u64 0, .int .u64 0, .int .u64 0, .int .u64 0]) := Lib.hid (Bk.alloc KZ.out)
    have KS1 : Hid (Bk 24 (w1.alloc (.cells #[.int .u64 (lb sq 0 : Nat), .int .u64 (lb sq 1 : Nat), .int .u64 (lb sq 2 : Nat), .int .u64 (lb sq 3 : Nat)] 24)) w1.heap.size #[.int .u64 (lb sq 0 : Nat), .int .u64 (lb sq 1 : Nat), .int .u64 (lb sq 2 : Nat), .int .u64 (lb sq 3 : Nat)]) := Lib.hid (Bk.new rfl)
    have HB1 : Hid (Below w.heap.size w (w1.alloc (.cells #[.int .u64 (lb sq 0 : Nat), .int .u64 (lb sq 1 : Nat), .int .u64 (lb sq 2 : Nat), .int .u64 (lb sq 3 : Nat)] 24))) := Lib.hid (by have hb := HB.out; have hs := hb.size; go_grown)
    generalize (w1.alloc (.cells #[.int .u64 (lb sq 0 : Nat), .int .u64 (lb sq 1 : Nat), .int .u64 (lb sq 2 : Nat), .int .u64 (lb sq 3 : Nat)] 24)) = W at KP1 KZ1 KS1 HB1 ⊢
    obtain ⟨gz, hgz⟩ : ∃ z, z = w.heap.size + 1 := ⟨_, rfl⟩
    rw [← hgz] at KZ1 ⊢
    generalize w1.heap.size = gs at KS1 ⊢
    have HG := Lib.hid (show w.heap.size ≤ gz ∧ w.heap.size ≠ gz by omega)
    clear hgz KP KZ HB
    obtain ⟨gp, hgp⟩ : ∃ z, z = w.heap.size := ⟨_, rfl⟩
    have hgp' := hgp
    have e : (Value.pointer (some ⟨w.heap.size, 0, none⟩)) = .pointer (some ⟨gp, 0, none⟩) := by rw [hgp]
    rw [e]
    rw [← hgp] at KP1
    have HGP := Lib.hid hgp
    clear e hgp hgp'
    refine tw4 gp gs x y z sq dd ss mm rise W KP1.out KS1.out H1 H2 H3 H4 ?_
    intro _ _ _ _ _ _ _ _ _ _ g10 W2 hb2 hg10 hk10
    have KP2 := Lib.hid (KP1.out.below hb2)
    have KZ2 := Lib.hid (KZ1.out.below hb2)
    have K10 := Lib.hid hk10
    have HB2 := Lib.hid (HB1.out.trans (hb2.mono HB1.out.size))
    have HN : Hid (gp ≠ g10 ∧ gz ≠ g10 ∧ gp ≠ gz ∧ w.heap.size ≤ gp) := Lib.hid ⟨Nat.ne_of_lt (Nat.lt_of_lt_of_le KP1.out.lt hg10), Nat.ne_of_lt (Nat.lt_of_lt_of_le KZ1.out.lt hg10), by rw [HGP.out]; exact HG.out.2, Nat.le_of_eq HGP.out.symm⟩
    clear KP1 KZ1 KS1 HB1 hb2 hg10 hk10 H1 H2 H3 H4 HGP
    go_wp2_with fail
    obtain ⟨⟨x0, x1, x2, x3⟩, ⟨y0, y1, y2, y3⟩, z0, z1, z2, z3⟩ := KP2.out.reg12
    refine wp_region_below_tail 7 mixed (by kernel_rfl) ?_
    simp only [List.take_succ_cons, List.take_zero, List.drop_succ_cons, List.drop_zero]
    iterate 5 go_big_quiet_step (fail)
    go_big_quiet_step (exact qg H5.out)
    go_big_quiet_step (exact qg H6.out)
    refine wpQuiet_nil ?_
    intro _ hw'
    obtain ⟨⟨dq, osq⟩, hw''⟩ := hw'
    subst hw''
    have KP3 := Lib.hid (KP2.out.regrown dq osq)
    have KZ3 := Lib.hid (KZ2.out.regrown dq osq)
    have K103 := Lib.hid (K10.out.regrown dq osq)
    have HB3 := Lib.hid (HB2.out.trans ((below_regrown W2 dq osq).mono HB2.out.size))
    clear KP2 KZ2 K10 HB2 x0 x1 x2 x3 y0 y1 y2 y3 z0 z1 z2 z3 H5 H6
    generalize grow (redrawn W2 dq) osq = V at KP3 KZ3 K103 HB3 ⊢
    refine wpList_put rfl 93 (.tmp 1) (.tmp 30) rfl gp #[.int .u64 (lb x 0 : Nat), .int .u64 (lb x 1 : Nat), .int .u64 (lb x 2 : Nat), .int .u64 (lb x 3 : Nat), .int .u64 (lb y 0 : Nat), .int .u64 (lb y 1 : Nat), .int .u64 (lb y 2 : Nat), .int .u64 (lb y 3 : Nat), .int .u64 (lb z 0 : Nat), .int .u64 (lb z 1 : Nat), .int .u64 (lb z 2 : Nat), .int .u64 (lb z 3 : Nat)] #[.int .u64 (lb qx 0 : Nat), .int .u64 (lb qx 1 : Nat), .int .u64 (lb qx 2 : Nat), .int .u64 (lb qx 3 : Nat), .int .u64 (lb qy 0 : Nat), .int .u64 (lb qy 1 : Nat), .int .u64 (lb qy 2 : Nat), .int .u64 (lb qy 3 : Nat), .int .u64 (lb qz 0 : Nat), .int .u64 (lb qz 1 : Nat), .int .u64 (lb qz 2 : Nat), .int .u64 (lb qz 3 : Nat)] rfl rfl KP3.out i93 rfl (one12 _ _ _) ?_
    have KP4 : Hid (Bk 93 (V.setRow gp #[.int .u64 (lb qx 0 : Nat), .int .u64 (lb qx 1 : Nat), .int .u64 (lb qx 2 : Nat), .int .u64 (lb qx 3 : Nat), .int .u64 (lb qy 0 : Nat), .int .u64 (lb qy 1 : Nat), .int .u64 (lb qy 2 : Nat), .int .u64 (lb qy 3 : Nat), .int .u64 (lb qz 0 : Nat), .int .u64 (lb qz 1 : Nat), .int .u64 (lb qz 2 : Nat), .int .u64 (lb qz 3 : Nat)]) gp #[.int .u64 (lb qx 0 : Nat), .int .u64 (lb qx 1 : Nat), .int .u64 (lb qx 2 : Nat), .int .u64 (lb qx 3 : Nat), .int .u64 (lb qy 0 : Nat), .int .u64 (lb qy 1 : Nat), .int .u64 (lb qy 2 : Nat), .int .u64 (lb qy 3 : Nat), .int .u64 (lb qz 0 : Nat), .int .u64 (lb qz 1 : Nat), .int .u64 (lb qz 2 : Nat), .int .u64 (lb qz 3 : Nat)]) := Lib.hid KP3.out.row
    have KZ5 : Hid (Bk 93 (V.setRow gp #[.int .u64 (lb qx 0 : Nat), .int .u64 (lb qx 1 : Nat), .int .u64 (lb qx 2 : Nat), .int .u64 (lb qx 3 : Nat), .int .u64 (lb qy 0 : Nat), .int .u64 (lb qy 1 : Nat), .int .u64 (lb qy 2 : Nat), .int .u64 (lb qy 3 : Nat), .int .u64 (lb qz 0 : Nat), .int .u64 (lb qz 1 : Nat), .int .u64 (lb qz 2 : Nat), .int .u64 (lb qz 3 : Nat)]) gz #[.int .u64 0, .int .u64 0, .int .u64 0, .int .u64 0, .int .u64 0, .int .u64 0, .int .u64 0, .int .u64 0, .int .u64 0, .int .u64 0, .int .u64 0, .int .u64 0]) := Lib.hid (Bk.rowo (Ne.symm HN.out.2.2.1) KZ3.out)
    have K104 : Hid (Bk 24 (V.setRow gp #[.int .u64 (lb qx 0 : Nat), .int .u64 (lb qx 1 : Nat), .int .u64 (lb qx 2 : Nat), .int .u64 (lb qx 3 : Nat), .int .u64 (lb qy 0 : Nat), .int .u64 (lb qy 1 : Nat), .int .u64 (lb qy 2 : Nat), .int .u64 (lb qy 3 : Nat), .int .u64 (lb qz 0 : Nat), .int .u64 (lb qz 1 : Nat), .int .u64 (lb qz 2 : Nat), .int .u64 (lb qz 3 : Nat)]) g10 #[.int .u64 (lb rise 0 : Nat), .int .u64 (lb rise 1 : Nat), .int .u64 (lb rise 2 : Nat), .int .u64 (lb rise 3 : Nat)]) := Lib.hid (Bk.rowo (Ne.symm HN.out.1) K103.out)
    have HB5 : Hid (Below w.heap.size w (V.setRow gp #[.int .u64 (lb qx 0 : Nat), .int .u64 (lb qx 1 : Nat), .int .u64 (lb qx 2 : Nat), .int .u64 (lb qx 3 : Nat), .int .u64 (lb qy 0 : Nat), .int .u64 (lb qy 1 : Nat), .int .u64 (lb qy 2 : Nat), .int .u64 (lb qy 3 : Nat), .int .u64 (lb qz 0 : Nat), .int .u64 (lb qz 1 : Nat), .int .u64 (lb qz 2 : Nat), .int .u64 (lb qz 3 : Nat)])) := Lib.hid (below_setRow HB3.out HN.out.2.2.2 _)
    generalize (V.setRow gp #[.int .u64 (lb qx 0 : Nat), .int .u64 (lb qx 1 : Nat), .int .u64 (lb qx 2 : Nat), .int .u64 (lb qx 3 : Nat), .int .u64 (lb qy 0 : Nat), .int .u64 (lb qy 1 : Nat), .int .u64 (lb qy 2 : Nat), .int .u64 (lb qy 3 : Nat), .int .u64 (lb qz 0 : Nat), .int .u64 (lb qz 1 : Nat), .int .u64 (lb qz 2 : Nat), .int .u64 (lb qz 3 : Nat)]) = V5 at KP4 KZ5 K104 HB5 ⊢
    clear KP3 KZ3 K103 HB3
    obtain ⟨⟨c0, c1, c2, c3⟩, ⟨c4, c5, c6, c7⟩, c8, c9, c10, c11⟩ := KP4.out.cells12
    obtain ⟨r0, r1, r2, r3⟩ := K104.out.cells
    go_wp2_with fail
    refine (keep w.heap.size w (H7.out _) HB5.out (Nat.le_refl _)).mono ?_
    rintro e w4 ⟨rfl, hb, hk⟩
    have KZ4 := Lib.hid (Bk.below KZ5.out hk)
    have HB4 := Lib.hid hb
    clear hk hb KP4 K104 KZ5 HB5 H7 c0 c1 c2 c3 c4 c5 c6 c7 c8 c9 c10 c11 r0 r1 r2 r3
    obtain ⟨⟨f0, f1, f2, f3⟩, ⟨f4, f5, f6, f7⟩, f8, f9, f10, f11⟩ := KZ4.out.fros12
    obtain ⟨⟨c0, c1, c2, c3⟩, ⟨c4, c5, c6, c7⟩, c8, c9, c10, c11⟩ := KZ4.out.cells12
    go_wp2_with fail
    refine ret_cell93 rfl gz rx ry rz rfl (Bk.put12 KZ4.out) rfl ⟨rfl, ?_⟩
    have hb := HB4.out
    have hg := HG.out.1
    go_grown
theorem twicej {p : J} (hp : p.ok) : ∀ w, Calls Try.prog 92 #[p.v] w fun e w' => e = .returned p.twice.v ∧ Below w.heap.size w w' := twice_c p hp
end Go.Proofs.Ytglmmodkflkkkaa
