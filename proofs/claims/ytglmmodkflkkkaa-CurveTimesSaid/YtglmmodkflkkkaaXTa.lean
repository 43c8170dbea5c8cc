import Derived.Test.YtglmmodkflkkkaaXKx
set_option linter.unusedVariables false
set_option linter.unusedSimpArgs false
set_option maxRecDepth 100000
namespace Go.Proofs.Ytglmmodkflkkkaa.Ref
open Go.RowKit Go.Proofs.Ytglmmodkflkkkaa.Digits Limbs Curve
def LR (w : World) (v : Value) (p : J) : Prop := ∃ ax nx cx ay ny cy az nz cz, v = .agg #[.slice ax nx cx, .slice ay ny cy, .slice az nz cz] ∧ NV w (.slice ax nx cx) p.x ∧ NV w (.slice ay ny cy) p.y ∧ NV w (.slice az nz cz) p.z
theorem LR.below {w w' : World} {v : Value} {p : J} (h : LR w v p) (hb : Below w.heap.size w w') : LR w' v p := by
  obtain ⟨ax, nx, cx, ay, ny, cy, az, nz, cz, h1, h2, h3, h4⟩ := h
  exact ⟨ax, nx, cx, ay, ny, cy, az, nz, cz, h1, h2.below hb, h3.below hb, h4.below hb⟩
theorem u101 : Try.prog.underlying 101 = some (.struct (Try.prog.fieldsOf 101)) := by kernel_rfl
theorem i101 : (Try.prog.info? 101).map (·.size) = some 3 := by kernel_rfl
theorem ret_cell101 {fn : Func} {R : Ending → World → Prop} {a : Act} {w : World} {p : Tmp} (h : fn.results = #[.cell p 101]) (g : Nat) (x y z : Value) (hp : a.tmps.getD p undef = .pointer (some ⟨g, 0, none⟩)) (hk : Bk 101 w g #[x, y, z]) (hd : a.defers = []) (hR : R (.returned (.agg #[x, y, z])) w) : bodyPost Try.prog fn R .ret a w :=
  bodyPost_ret (v := .agg #[x, y, z]) (results_cell_row h a.tmps w g 101 #[x, y, z] (0, 0) _ hp hk u101 rfl i101) hd hR
theorem no3s {ax ay az : Option Addr} {nx cx ny cy nz cz : Nat} : ∀ (i : Nat) (z : Int), (#[.slice ax nx cx, .slice ay ny cy, .slice az nz cz] : Array Value)[i]? ≠ some (Value.int .u32 z) := by
  intro i z
  rcases i with _ | _ | _ | i <;> simp
theorem put3s {w : World} {v : Value} {n g : Nat} {ax ay az : Option Addr} {nx cx ny cy nz cz : Nat} {d e f : Value} (h : NV w v n) (hk : Bk 101 w g #[.slice ax nx cx, .slice ay ny cy, .slice az nz cz]) : NV (((w.setCell ⟨g, 0, none⟩ d).setCell ⟨g, 1, none⟩ e).setCell ⟨g, 2, none⟩ f) v n :=
  h.except hk no3s (by simp) (fun g' hn => (heap_setCell_other _ _ _ _ hn).trans ((heap_setCell_other _ _ _ _ hn).trans (heap_setCell_other _ _ _ _ hn)))
theorem four_nv (w : World) : NV (w.alloc (.cells #[.int .u32 4] 75)) (.slice (some ⟨w.heap.size, 0, none⟩) 1 1) 4 :=
  ⟨[4], us_dr (l := [4]) (Go.heap_alloc_new w _) (by decide), by unfold Dig; decide, by unfold Trim; decide, rfl⟩
set_option maxHeartbeats 16000000 in
theorem twice7 (v : Value) (p : J) (hp : p.lt) (w : World) (h : LR w v p) : Calls Try.prog 84 #[v] w fun e w' => ∃ v', e = .returned v' ∧ LR w' v' (dblR p) ∧ Below w.heap.size w w' := by
  obtain ⟨xa, ya, za⟩ := p
  obtain ⟨ax, nx, cx, ay, ny, cy, az, nz, cz, rfl, hnx, hny, hnz⟩ := h
  have HBG : Hid (xa < big ∧ ya < big ∧ za < big) := Lib.hid ⟨mp_big hp.1, mp_big hp.2.1, mp_big hp.2.2⟩
  have NX := Lib.hid hnx
  have NY := Lib.hid hny
  have NZ := Lib.hid hnz
  have HE1 : Hid (dblA ⟨xa, ya, za⟩ = mj 4 (mj xa (mj ya ya))) := Lib.hid rfl
  have HE2 : Hid (dblB ⟨xa, ya, za⟩ = mj 3 (sj (mj xa xa) (mj (mj za za) (mj za za)))) := Lib.hid rfl
  have HE3 : Hid (dblX ⟨xa, ya, za⟩ = sj (mj (dblB ⟨xa, ya, za⟩) (dblB ⟨xa, ya, za⟩)) (aj (dblA ⟨xa, ya, za⟩) (dblA ⟨xa, ya, za⟩))) := Lib.hid rfl
  have HE4 : Hid (dblR ⟨xa, ya, za⟩ = ⟨dblX ⟨xa, ya, za⟩, sj (mj (dblB ⟨xa, ya, za⟩) (sj (dblA ⟨xa, ya, za⟩) (dblX ⟨xa, ya, za⟩))) (mj 8 (mj (mj ya ya) (mj ya ya))), mj (aj ya ya) za⟩) := Lib.hid rfl
  rw [HE4.out]
  clear hp hnx hny hnz HE4
  generalize dblX ⟨xa, ya, za⟩ = xv at *
  generalize dblA ⟨xa, ya, za⟩ = av at *
  generalize dblB ⟨xa, ya, za⟩ = bw at *
  have HAB : Hid (av < big ∧ bw < big ∧ xv < big) := Lib.hid ⟨by rw [HE1.out]; exact mj_b _ _, by rw [HE2.out]; exact mj_b _ _, by rw [HE3.out]; exact sj_b _ _⟩
  go_enter Try.func84, Try.ntmps84
  go_wp2_with fail
  have KP : Hid (Bk 101 ((w.alloc (.cells #[.slice ax nx cx, .slice ay ny cy, .slice az nz cz] 101)).alloc (.cells #[.slice none 0 0, .slice none 0 0, .slice none 0 0] 101)) w.heap.size #[.slice ax nx cx, .slice ay ny cy, .slice az nz cz]) := Lib.hid (Bk.alloc (Bk.new rfl))
  have KR : Hid (Bk 101 ((w.alloc (.cells #[.slice ax nx cx, .slice ay ny cy, .slice az nz cz] 101)).alloc (.cells #[.slice none 0 0, .slice none 0 0, .slice none 0 0] 101)) (w.heap.size + 1) #[.slice none 0 0, .slice none 0 0, .slice none 0 0]) := Lib.hid (Bk.new (by simp))
  have HB : Hid (Below w.heap.size w ((w.alloc (.cells #[.slice ax nx cx, .slice ay ny cy, .slice az nz cz] 101)).alloc (.cells #[.slice none 0 0, .slice none 0 0, .slice none 0 0] 101))) := Lib.hid (by go_grown)
  obtain ⟨gR, hgR⟩ : ∃ g, g = w.heap.size + 1 := ⟨_, rfl⟩
  rw [← hgR] at KR ⊢
  have HG := Lib.hid (show w.heap.size ≤ gR by omega)
  clear hgR
  generalize ((w.alloc (.cells #[.slice ax nx cx, .slice ay ny cy, .slice az nz cz] 101)).alloc (.cells #[.slice none 0 0, .slice none 0 0, .slice none 0 0] 101)) = w0 at KP KR HB ⊢
  replace NX := Lib.hid (NX.out.below HB.out)
  replace NY := Lib.hid (NY.out.below HB.out)
  replace NZ := Lib.hid (NZ.out.below HB.out)
  refine tw1 w.heap.size gR ya za nx cx ny cy nz cz ax ay az w0 KP.out HBG.out.2.1 HBG.out.2.2 NY.out NZ.out ?_
  intros
  rename_i vyy vzz w1 hb1 hn3 hn4
  have NYY := Lib.hid hn3
  have NZZ := Lib.hid hn4
  clear hn3 hn4
  replace KP := Lib.hid (KP.out.below hb1)
  replace KR := Lib.hid (KR.out.below hb1)
  replace NX := Lib.hid (NX.out.below hb1)
  replace NY := Lib.hid (NY.out.below hb1)
  replace NZ := Lib.hid (NZ.out.below hb1)
  replace HB := Lib.hid (HB.out.trans (hb1.mono HB.out.size))
  clear hb1
  obtain ⟨a0, a1, a2⟩ := Bk.cellsA3 KP.out
  go_wp2_with fail
  clear a0 a1 a2
  have NL := Lib.hid (four_nv w1)
  have hal := al_below w1 (.cells #[.int .u32 4] 75)
  replace KP := Lib.hid (KP.out.below hal)
  replace KR := Lib.hid (KR.out.below hal)
  replace NX := Lib.hid (NX.out.below hal)
  replace NY := Lib.hid (NY.out.below hal)
  replace NZ := Lib.hid (NZ.out.below hal)
  replace NYY := Lib.hid (NYY.out.below hal)
  replace NZZ := Lib.hid (NZZ.out.below hal)
  replace HB := Lib.hid (HB.out.trans (hal.mono HB.out.size))
  clear hal
  refine (nk w.heap.size w (times_nv _ _ _ xa (mj ya ya) HBG.out.1 (mj_b _ _) NX.out NYY.out) HB.out (Nat.le_refl _)).mono ?_
  rintro e w2 ⟨vq, rfl, hn, hb, hk⟩
  replace KP := Lib.hid (KP.out.below hk)
  replace KR := Lib.hid (KR.out.below hk)
  replace NX := Lib.hid (NX.out.below hk)
  replace NY := Lib.hid (NY.out.below hk)
  replace NZ := Lib.hid (NZ.out.below hk)
  replace NYY := Lib.hid (NYY.out.below hk)
  replace NZZ := Lib.hid (NZZ.out.below hk)
  replace NL := Lib.hid (NL.out.below hk)
  have NQ := Lib.hid hn
  replace HB := Lib.hid hb
  clear hn hb hk
  go_wp2_with fail
  refine (nk w.heap.size w (times_nv _ _ _ 4 (mj xa (mj ya ya)) (by decide +kernel) (mj_b _ _) NL.out NQ.out) HB.out (Nat.le_refl _)).mono ?_
  rintro e w3 ⟨va, rfl, hn, hb, hk⟩
  replace KP := Lib.hid (KP.out.below hk)
  replace KR := Lib.hid (KR.out.below hk)
  replace NX := Lib.hid (NX.out.below hk)
  replace NY := Lib.hid (NY.out.below hk)
  replace NZ := Lib.hid (NZ.out.below hk)
  replace NYY := Lib.hid (NYY.out.below hk)
  replace NZZ := Lib.hid (NZZ.out.below hk)
  replace NL := Lib.hid (NL.out.below hk)
  replace NQ := Lib.hid (NQ.out.below hk)
  have NA := Lib.hid hn
  replace HB := Lib.hid hb
  clear hn hb hk
  rw [← HE1.out] at NA
  clear NL NQ
  obtain ⟨a0, a1, a2⟩ := Bk.cellsA3 KP.out
  go_wp2_with fail
  clear a0 a1 a2
  have NL := Lib.hid (three_nv w3)
  have hal := al_below w3 (.cells #[.int .u32 3] 75)
  replace KP := Lib.hid (KP.out.below hal)
  replace KR := Lib.hid (KR.out.below hal)
  replace NX := Lib.hid (NX.out.below hal)
  replace NY := Lib.hid (NY.out.below hal)
  replace NZ := Lib.hid (NZ.out.below hal)
  replace NYY := Lib.hid (NYY.out.below hal)
  replace NZZ := Lib.hid (NZZ.out.below hal)
  replace NA := Lib.hid (NA.out.below hal)
  replace HB := Lib.hid (HB.out.trans (hal.mono HB.out.size))
  clear hal
  refine (nk w.heap.size w (times_nv _ _ _ xa xa HBG.out.1 HBG.out.1 NX.out NX.out) HB.out (Nat.le_refl _)).mono ?_
  rintro e w4 ⟨vq, rfl, hn, hb, hk⟩
  replace KP := Lib.hid (KP.out.below hk)
  replace KR := Lib.hid (KR.out.below hk)
  replace NX := Lib.hid (NX.out.below hk)
  replace NY := Lib.hid (NY.out.below hk)
  replace NZ := Lib.hid (NZ.out.below hk)
  replace NYY := Lib.hid (NYY.out.below hk)
  replace NZZ := Lib.hid (NZZ.out.below hk)
  replace NA := Lib.hid (NA.out.below hk)
  replace NL := Lib.hid (NL.out.below hk)
  have NQ := Lib.hid hn
  replace HB := Lib.hid hb
  clear hn hb hk
  go_wp2_with fail
  refine (nk w.heap.size w (times_nv _ _ _ (mj za za) (mj za za) (mj_b _ _) (mj_b _ _) NZZ.out NZZ.out) HB.out (Nat.le_refl _)).mono ?_
  rintro e w5 ⟨vr, rfl, hn, hb, hk⟩
  replace KP := Lib.hid (KP.out.below hk)
  replace KR := Lib.hid (KR.out.below hk)
  replace NX := Lib.hid (NX.out.below hk)
  replace NY := Lib.hid (NY.out.below hk)
  replace NZ := Lib.hid (NZ.out.below hk)
  replace NYY := Lib.hid (NYY.out.below hk)
  replace NZZ := Lib.hid (NZZ.out.below hk)
  replace NA := Lib.hid (NA.out.below hk)
  replace NL := Lib.hid (NL.out.below hk)
  replace NQ := Lib.hid (NQ.out.below hk)
  have NQ2 := Lib.hid hn
  replace HB := Lib.hid hb
  clear hn hb hk
  go_wp2_with fail
  refine (nk w.heap.size w (minus_nv' _ _ _ (mj xa xa) (mj (mj za za) (mj za za)) (mj_b _ _) (mj_b _ _) NQ.out NQ2.out) HB.out (Nat.le_refl _)).mono ?_
  rintro e w6 ⟨vs, rfl, hn, hb, hk⟩
  replace KP := Lib.hid (KP.out.below hk)
  replace KR := Lib.hid (KR.out.below hk)
  replace NX := Lib.hid (NX.out.below hk)
  replace NY := Lib.hid (NY.out.below hk)
  replace NZ := Lib.hid (NZ.out.below hk)
  replace NYY := Lib.hid (NYY.out.below hk)
  replace NZZ := Lib.hid (NZZ.out.below hk)
  replace NA := Lib.hid (NA.out.below hk)
  replace NL := Lib.hid (NL.out.below hk)
  replace NQ := Lib.hid (NQ.out.below hk)
  replace NQ2 := Lib.hid (NQ2.out.below hk)
  have NQ3 := Lib.hid hn
  replace HB := Lib.hid hb
  clear hn hb hk
  go_wp2_with fail
  refine (nk w.heap.size w (times_nv _ _ _ 3 (sj (mj xa xa) (mj (mj za za) (mj za za))) (by decide +kernel) (sj_b _ _) NL.out NQ3.out) HB.out (Nat.le_refl _)).mono ?_
  rintro e w7 ⟨vb, rfl, hn, hb, hk⟩
  replace KP := Lib.hid (KP.out.below hk)
  replace KR := Lib.hid (KR.out.below hk)
  replace NX := Lib.hid (NX.out.below hk)
  replace NY := Lib.hid (NY.out.below hk)
  replace NZ := Lib.hid (NZ.out.below hk)
  replace NYY := Lib.hid (NYY.out.below hk)
  replace NZZ := Lib.hid (NZZ.out.below hk)
  replace NA := Lib.hid (NA.out.below hk)
  replace NL := Lib.hid (NL.out.below hk)
  replace NQ := Lib.hid (NQ.out.below hk)
  replace NQ2 := Lib.hid (NQ2.out.below hk)
  replace NQ3 := Lib.hid (NQ3.out.below hk)
  have NBW := Lib.hid hn
  replace HB := Lib.hid hb
  clear hn hb hk
  rw [← HE2.out] at NBW
  clear NL NQ NQ2 NQ3
  go_wp2_with fail
  refine (nk w.heap.size w (times_nv _ _ _ bw bw HAB.out.2.1 HAB.out.2.1 NBW.out NBW.out) HB.out (Nat.le_refl _)).mono ?_
  rintro e w8 ⟨vq, rfl, hn, hb, hk⟩
  replace KP := Lib.hid (KP.out.below hk)
  replace KR := Lib.hid (KR.out.below hk)
  replace NX := Lib.hid (NX.out.below hk)
  replace NY := Lib.hid (NY.out.below hk)
  replace NZ := Lib.hid (NZ.out.below hk)
  replace NYY := Lib.hid (NYY.out.below hk)
  replace NZZ := Lib.hid (NZZ.out.below hk)
  replace NA := Lib.hid (NA.out.below hk)
  replace NBW := Lib.hid (NBW.out.below hk)
  have NQ := Lib.hid hn
  replace HB := Lib.hid hb
  clear hn hb hk
  go_wp2_with fail
  refine (nk w.heap.size w (plus_nv' _ _ _ av av HAB.out.1 HAB.out.1 NA.out NA.out) HB.out (Nat.le_refl _)).mono ?_
  rintro e w9 ⟨vr, rfl, hn, hb, hk⟩
  replace KP := Lib.hid (KP.out.below hk)
  replace KR := Lib.hid (KR.out.below hk)
  replace NX := Lib.hid (NX.out.below hk)
  replace NY := Lib.hid (NY.out.below hk)
  replace NZ := Lib.hid (NZ.out.below hk)
  replace NYY := Lib.hid (NYY.out.below hk)
  replace NZZ := Lib.hid (NZZ.out.below hk)
  replace NA := Lib.hid (NA.out.below hk)
  replace NBW := Lib.hid (NBW.out.below hk)
  replace NQ := Lib.hid (NQ.out.below hk)
  have NQ2 := Lib.hid hn
  replace HB := Lib.hid hb
  clear hn hb hk
  go_wp2_with fail
  refine (nk w.heap.size w (minus_nv' _ _ _ (mj bw bw) (aj av av) (mj_b _ _) (aj_b _ _) NQ.out NQ2.out) HB.out (Nat.le_refl _)).mono ?_
  rintro e w10 ⟨vx, rfl, hn, hb, hk⟩
  replace KP := Lib.hid (KP.out.below hk)
  replace KR := Lib.hid (KR.out.below hk)
  replace NX := Lib.hid (NX.out.below hk)
  replace NY := Lib.hid (NY.out.below hk)
  replace NZ := Lib.hid (NZ.out.below hk)
  replace NYY := Lib.hid (NYY.out.below hk)
  replace NZZ := Lib.hid (NZZ.out.below hk)
  replace NA := Lib.hid (NA.out.below hk)
  replace NBW := Lib.hid (NBW.out.below hk)
  replace NQ := Lib.hid (NQ.out.below hk)
  replace NQ2 := Lib.hid (NQ2.out.below hk)
  have NXV := Lib.hid hn
  replace HB := Lib.hid hb
  clear hn hb hk
  rw [← HE3.out] at NXV
  clear NQ NQ2
  obtain ⟨a7, n7, c7, rfl⟩ := NXV.out.shape
  go_wp2_with fail
  refine tw5 w.heap.size gR ya za (mj ya ya) av bw xv n7 c7 nx cx ny cy nz cz ax ay az a7 vyy va vb w10 KP.out KR.out HBG.out.2.1 HBG.out.2.2 NY.out NZ.out (mj_b _ _) HAB.out.1 HAB.out.2.1 HAB.out.2.2 NYY.out NA.out NBW.out NXV.out ?_
  intros
  rename_i y11 y12 y13 y14 y15 y16 y17 y18 y19 y20 wz hb1 hn11 hn19
  obtain ⟨a11, n11, c11, rfl⟩ := hn11.shape
  obtain ⟨a19, n19, c19, rfl⟩ := hn19.shape
  have K1 := Lib.hid (KR.out.below hb1)
  have HB1 := Lib.hid (HB.out.trans (hb1.mono HB.out.size))
  have HN := Lib.hid (And.intro (put3s (d := .slice a7 n7 c7) (e := .slice a11 n11 c11) (f := .slice a19 n19 c19) (NXV.out.below hb1) K1.out) (And.intro (put3s (d := .slice a7 n7 c7) (e := .slice a11 n11 c11) (f := .slice a19 n19 c19) hn11 K1.out) (put3s (d := .slice a7 n7 c7) (e := .slice a11 n11 c11) (f := .slice a19 n19 c19) hn19 K1.out)))
  clear hb1 hn11 hn19
  go_wp2_with fail
  refine ret_cell101 rfl gR (.slice a7 n7 c7) (.slice a11 n11 c11) (.slice a19 n19 c19) rfl (Bk.put3 K1.out) rfl ⟨_, rfl, ⟨_, _, _, _, _, _, _, _, _, rfl, HN.out.1, HN.out.2.1, HN.out.2.2⟩, ?_⟩
  have hb := HB1.out
  have hg := HG.out
  go_grown
end Go.Proofs.Ytglmmodkflkkkaa.Ref
