/- The double of a point, as the reference tells it: the walk. Condition: a point of the curve. The sum of two points, as the reference tells it, is the curve's. Condition: points of the curve. Points without a division, as the reference reckons with them: double, sum, end (plain laws). Condition: points of the curve. The drawn regions of the reference's double of a point under way. Condition: its nu -/
import Derived.Test.YtpggkfdijmnmiaaGreatZup10
set_option linter.unusedVariables false
set_option linter.unusedSimpArgs false
set_option maxRecDepth 100000
namespace Go.Proofs.YtpggkfdijmnmiaaGreat.Ref
open Go.RowKit Go.Proofs.YtpggkfdijmnmiaaGreat.Digits Limbs Curve
set_option maxHeartbeats 16000000 in
theorem sum7_dbl (xa ya xb yb up dn s : Nat) (nx cx ny cy mx dx my dy : Nat) (ax ay bx bb : Option Addr) (hp : (Po.mk xa ya false).on = true) (hq : (Po.mk xb yb false).on = true) (w : World) (hn1 : NV w (.slice ax nx cx) xa) (hn2 : NV w (.slice ay ny cy) ya) (hm1 : NV w (.slice bx mx dx) xb) (hm2 : NV w (.slice bb my dy) yb) (hs : Po.same (Po.mk xa ya false) (Po.mk xb yb false).neg = false) (hs2 : Po.same (Po.mk xa ya false) (Po.mk xb yb false) = true) (hup : up = sj (mj 3 (mj xa xa)) 3) (hdn : dn = aj ya ya) (hd0 : dn % mP ≠ 0) (hsl : s = mj up (iN dn)) : Calls Tryz.prog 66 #[.agg #[.bool false, .slice ax nx cx, .slice ay ny cy], .agg #[.bool false, .slice bx mx dx, .slice bb my dy]] w fun e w' => ∃ v', e = .returned v' ∧ RP w' v' ⟨sj (sj (mj s s) xa) xb, sj (mj s (sj xa (sj (sj (mj s s) xa) xb))) ya, false⟩ ∧ Below w.heap.size w w' := by
  have HS := Lib.hid hs
  have HS2 := Lib.hid hs2
  have HU := Lib.hid hup
  have HD := Lib.hid hdn
  have HSL := Lib.hid hsl
  have HDN : Hid (dn < big ∧ dn % mP ≠ 0) := Lib.hid ⟨by rw [hdn]; exact aj_b _ _, hd0⟩
  have HUP : Hid (up < big) := Lib.hid (by rw [hup]; exact sj_b _ _)
  have HSB : Hid (s < big) := Lib.hid (by rw [hsl]; exact mj_b _ _)
  clear hs2 hup hdn hd0 hsl
  have NX := Lib.hid hn1
  have NY := Lib.hid hn2
  have MX := Lib.hid hm1
  have MY := Lib.hid hm2
  have HBG : Hid (xa < big ∧ ya < big ∧ xb < big ∧ yb < big) := Lib.hid ⟨mp_big (on_lt hp).1, mp_big (on_lt hp).2, mp_big (on_lt hq).1, mp_big (on_lt hq).2⟩
  clear hn1 hn2 hm1 hm2 hp hq
  clear hs
  go_enter Tryz.func66, Tryz.ntmps66
  go_wp2_with fail
  have KP : Hid (Bk 72 (((w.alloc (.cells #[.bool false, .slice ax nx cx, .slice ay ny cy] 72)).alloc (.cells #[.bool false, .slice bx mx dx, .slice bb my dy] 72)).alloc (.cells #[.bool false, .slice none 0 0, .slice none 0 0] 72)) w.heap.size #[.bool false, .slice ax nx cx, .slice ay ny cy]) := Lib.hid (Bk.alloc (Bk.alloc (Bk.new rfl)))
  have KQ : Hid (Bk 72 (((w.alloc (.cells #[.bool false, .slice ax nx cx, .slice ay ny cy] 72)).alloc (.cells #[.bool false, .slice bx mx dx, .slice bb my dy] 72)).alloc (.cells #[.bool false, .slice none 0 0, .slice none 0 0] 72)) (w.heap.size + 1) #[.bool false, .slice bx mx dx, .slice bb my dy]) := Lib.hid (Bk.alloc (Bk.new (by simp)))
  have KR : Hid (Bk 72 (((w.alloc (.cells #[.bool false, .slice ax nx cx, .slice ay ny cy] 72)).alloc (.cells #[.bool false, .slice bx mx dx, .slice bb my dy] 72)).alloc (.cells #[.bool false, .slice none 0 0, .slice none 0 0] 72)) (w.heap.size + 1 + 1) #[.bool false, .slice none 0 0, .slice none 0 0]) := Lib.hid (Bk.new (by simp))
  have HB : Hid (Below w.heap.size w (((w.alloc (.cells #[.bool false, .slice ax nx cx, .slice ay ny cy] 72)).alloc (.cells #[.bool false, .slice bx mx dx, .slice bb my dy] 72)).alloc (.cells #[.bool false, .slice none 0 0, .slice none 0 0] 72))) := Lib.hid (by go_grown)
  obtain ⟨gQ, hgQ⟩ : ∃ g, g = w.heap.size + 1 := ⟨_, rfl⟩
  rw [← hgQ] at KQ KR ⊢
  obtain ⟨gR, hgR⟩ : ∃ g, g = gQ + 1 := ⟨_, rfl⟩
  rw [← hgR] at KR ⊢
  have HG := Lib.hid (show w.heap.size ≤ gR by omega)
  clear hgR hgQ
  generalize (((w.alloc (.cells #[.bool false, .slice ax nx cx, .slice ay ny cy] 72)).alloc (.cells #[.bool false, .slice bx mx dx, .slice bb my dy] 72)).alloc (.cells #[.bool false, .slice none 0 0, .slice none 0 0] 72)) = w0 at KP KQ KR HB ⊢
  replace NX := Lib.hid (NX.out.below HB.out)
  replace NY := Lib.hid (NY.out.below HB.out)
  replace MX := Lib.hid (MX.out.below HB.out)
  replace MY := Lib.hid (MY.out.below HB.out)
  obtain ⟨a0, a1, a2⟩ := Bk.cells3 KP.out
  obtain ⟨b0, b1, b2⟩ := Bk.cells3 KQ.out
  go_wp2_with fail
  clear a0 a1 a2 b0 b1 b2
  refine su5 w.heap.size gQ gR xa ya xb yb nx cx ny cy mx dx my dy ax ay bx bb w0 KP.out KQ.out HBG.out.2.2.2 ⟨_, _, _, _, _, _, rfl, fun _ => ⟨NX.out, NY.out⟩⟩ ⟨_, _, _, _, _, _, rfl, fun _ => ⟨MX.out, MY.out⟩⟩ ?_
  intros
  rename_i w1 hb1
  rw [HS.out]
  replace KP := Lib.hid (KP.out.below hb1)
  replace KQ := Lib.hid (KQ.out.below hb1)
  replace KR := Lib.hid (KR.out.below hb1)
  replace NX := Lib.hid (NX.out.below hb1)
  replace NY := Lib.hid (NY.out.below hb1)
  replace MX := Lib.hid (MX.out.below hb1)
  replace MY := Lib.hid (MY.out.below hb1)
  replace HB := Lib.hid (HB.out.trans (hb1.mono HB.out.size))
  clear hb1
  go_wp2_with fail
  refine su7 w.heap.size gQ gR xa ya xb yb nx cx ny cy mx dx my dy ax ay bx bb w1 KP.out KQ.out HBG.out.1 HBG.out.2.1 HBG.out.2.2.1 HBG.out.2.2.2 NX.out NY.out MX.out MY.out ?_
  intros
  rename_i vu vd w2 hb1 hnu hnd
  have NU := Lib.hid hnu
  have ND := Lib.hid hnd
  clear hnu hnd
  replace KP := Lib.hid (KP.out.below hb1)
  replace KQ := Lib.hid (KQ.out.below hb1)
  replace KR := Lib.hid (KR.out.below hb1)
  replace NX := Lib.hid (NX.out.below hb1)
  replace NY := Lib.hid (NY.out.below hb1)
  replace MX := Lib.hid (MX.out.below hb1)
  replace MY := Lib.hid (MY.out.below hb1)
  replace HB := Lib.hid (HB.out.trans (hb1.mono HB.out.size))
  clear hb1
  obtain ⟨a0, a1, a2⟩ := Bk.cells3 KP.out
  obtain ⟨b0, b1, b2⟩ := Bk.cells3 KQ.out
  go_wp2_with fail
  clear a0 a1 a2 b0 b1 b2
  refine (keep w.heap.size w (same7 _ _ (Po.mk xa ya false) (Po.mk xb yb false) _ ⟨_, _, _, _, _, _, rfl, fun _ => ⟨NX.out, NY.out⟩⟩ ⟨_, _, _, _, _, _, rfl, fun _ => ⟨MX.out, MY.out⟩⟩) HB.out (Nat.le_refl _)).mono ?_
  rintro e w3 ⟨rfl, hb, hk⟩
  replace KP := Lib.hid (KP.out.below hk)
  replace KQ := Lib.hid (KQ.out.below hk)
  replace KR := Lib.hid (KR.out.below hk)
  replace NX := Lib.hid (NX.out.below hk)
  replace NY := Lib.hid (NY.out.below hk)
  replace MX := Lib.hid (MX.out.below hk)
  replace MY := Lib.hid (MY.out.below hk)
  replace NU := Lib.hid (NU.out.below hk)
  replace ND := Lib.hid (ND.out.below hk)
  replace HB := Lib.hid hb
  clear hb hk
  rw [HS2.out]
  clear NU ND
  obtain ⟨a0, a1, a2⟩ := Bk.cellsA3 KP.out
  go_wp2_with fail
  clear a0 a1 a2
  have NL := Lib.hid (three_nv w3)
  have hal := al_below w3 (.cells #[.int .u32 3] 111)
  replace KP := Lib.hid (KP.out.below hal)
  replace KQ := Lib.hid (KQ.out.below hal)
  replace KR := Lib.hid (KR.out.below hal)
  replace NX := Lib.hid (NX.out.below hal)
  replace NY := Lib.hid (NY.out.below hal)
  replace MX := Lib.hid (MX.out.below hal)
  replace MY := Lib.hid (MY.out.below hal)
  replace HB := Lib.hid (HB.out.trans (hal.mono HB.out.size))
  clear hal
  refine (nk w.heap.size w (times_nv _ _ _ xa xa HBG.out.1 HBG.out.1 NX.out NX.out) HB.out (Nat.le_refl _)).mono ?_
  rintro e w4 ⟨va, rfl, hn, hb, hk⟩
  replace KP := Lib.hid (KP.out.below hk)
  replace KQ := Lib.hid (KQ.out.below hk)
  replace KR := Lib.hid (KR.out.below hk)
  replace NX := Lib.hid (NX.out.below hk)
  replace NY := Lib.hid (NY.out.below hk)
  replace MX := Lib.hid (MX.out.below hk)
  replace MY := Lib.hid (MY.out.below hk)
  replace NL := Lib.hid (NL.out.below hk)
  have NA := Lib.hid hn
  replace HB := Lib.hid hb
  clear hn hb hk
  go_wp2_with fail
  refine (nk w.heap.size w (times_nv _ _ _ 3 (mj xa xa) (by decide +kernel) (mj_b _ _) NL.out NA.out) HB.out (Nat.le_refl _)).mono ?_
  rintro e w5 ⟨vb, rfl, hn, hb, hk⟩
  replace KP := Lib.hid (KP.out.below hk)
  replace KQ := Lib.hid (KQ.out.below hk)
  replace KR := Lib.hid (KR.out.below hk)
  replace NX := Lib.hid (NX.out.below hk)
  replace NY := Lib.hid (NY.out.below hk)
  replace MX := Lib.hid (MX.out.below hk)
  replace MY := Lib.hid (MY.out.below hk)
  replace NL := Lib.hid (NL.out.below hk)
  replace NA := Lib.hid (NA.out.below hk)
  have NB := Lib.hid hn
  replace HB := Lib.hid hb
  clear hn hb hk
  go_wp2_with fail
  clear NL NA
  have NL := Lib.hid (three_nv w5)
  have hal := al_below w5 (.cells #[.int .u32 3] 111)
  replace KP := Lib.hid (KP.out.below hal)
  replace KQ := Lib.hid (KQ.out.below hal)
  replace KR := Lib.hid (KR.out.below hal)
  replace NX := Lib.hid (NX.out.below hal)
  replace NY := Lib.hid (NY.out.below hal)
  replace MX := Lib.hid (MX.out.below hal)
  replace MY := Lib.hid (MY.out.below hal)
  replace NB := Lib.hid (NB.out.below hal)
  replace HB := Lib.hid (HB.out.trans (hal.mono HB.out.size))
  clear hal
  refine (nk w.heap.size w (minus_nv' _ _ _ (mj 3 (mj xa xa)) 3 (mj_b _ _) (by decide +kernel) NB.out NL.out) HB.out (Nat.le_refl _)).mono ?_
  rintro e w6 ⟨vc, rfl, hn, hb, hk⟩
  replace KP := Lib.hid (KP.out.below hk)
  replace KQ := Lib.hid (KQ.out.below hk)
  replace KR := Lib.hid (KR.out.below hk)
  replace NX := Lib.hid (NX.out.below hk)
  replace NY := Lib.hid (NY.out.below hk)
  replace MX := Lib.hid (MX.out.below hk)
  replace MY := Lib.hid (MY.out.below hk)
  replace NB := Lib.hid (NB.out.below hk)
  replace NL := Lib.hid (NL.out.below hk)
  have NU := Lib.hid hn
  replace HB := Lib.hid hb
  clear hn hb hk
  clear NL NB
  rw [← HU.out] at NU
  obtain ⟨a0, a1, a2⟩ := Bk.cells3 KP.out
  go_wp2_with fail
  clear a0 a1 a2
  refine (nk w.heap.size w (plus_nv' _ _ _ ya ya HBG.out.2.1 HBG.out.2.1 NY.out NY.out) HB.out (Nat.le_refl _)).mono ?_
  rintro e w7 ⟨ve, rfl, hn, hb, hk⟩
  replace KP := Lib.hid (KP.out.below hk)
  replace KQ := Lib.hid (KQ.out.below hk)
  replace KR := Lib.hid (KR.out.below hk)
  replace NX := Lib.hid (NX.out.below hk)
  replace NY := Lib.hid (NY.out.below hk)
  replace MX := Lib.hid (MX.out.below hk)
  replace MY := Lib.hid (MY.out.below hk)
  replace NU := Lib.hid (NU.out.below hk)
  have ND := Lib.hid hn
  replace HB := Lib.hid hb
  clear hn hb hk
  rw [← HD.out] at ND
  go_wp2_with fail
  refine (nk w.heap.size w (inv_c _ _ dn HDN.out.1 HDN.out.2 ND.out) HB.out (Nat.le_refl _)).mono ?_
  rintro e w8 ⟨vi, rfl, hn, hb, hk⟩
  replace KP := Lib.hid (KP.out.below hk)
  replace KQ := Lib.hid (KQ.out.below hk)
  replace KR := Lib.hid (KR.out.below hk)
  replace NX := Lib.hid (NX.out.below hk)
  replace NY := Lib.hid (NY.out.below hk)
  replace MX := Lib.hid (MX.out.below hk)
  replace MY := Lib.hid (MY.out.below hk)
  replace NU := Lib.hid (NU.out.below hk)
  replace ND := Lib.hid (ND.out.below hk)
  have NI := Lib.hid hn
  replace HB := Lib.hid hb
  clear hn hb hk
  go_wp2_with fail
  refine (nk w.heap.size w (times_nv _ _ _ up (iN dn) HUP.out (mp_big (Nat.mod_lt _ (by decide +kernel))) NU.out NI.out) HB.out (Nat.le_refl _)).mono ?_
  rintro e w9 ⟨vs, rfl, hn, hb, hk⟩
  replace KP := Lib.hid (KP.out.below hk)
  replace KQ := Lib.hid (KQ.out.below hk)
  replace KR := Lib.hid (KR.out.below hk)
  replace NX := Lib.hid (NX.out.below hk)
  replace NY := Lib.hid (NY.out.below hk)
  replace MX := Lib.hid (MX.out.below hk)
  replace MY := Lib.hid (MY.out.below hk)
  replace NU := Lib.hid (NU.out.below hk)
  replace ND := Lib.hid (ND.out.below hk)
  replace NI := Lib.hid (NI.out.below hk)
  have NS := Lib.hid hn
  replace HB := Lib.hid hb
  clear hn hb hk
  rw [← HSL.out] at NS
  clear NU ND NI
  go_wp2_with fail
  refine su12 w.heap.size gQ gR xa xb s (.slice ay ny cy) (.slice bb my dy) nx cx mx dx ax bx vs w9 KP.out KQ.out HBG.out.1 HBG.out.2.2.1 HSB.out NX.out MX.out NS.out ?_
  intros
  rename_i v8 w12 hb1 hn8
  obtain ⟨a8, n8, c8, rfl⟩ := hn8.shape
  have N8 := Lib.hid hn8
  clear hn8
  replace KP := Lib.hid (KP.out.below hb1)
  replace KQ := Lib.hid (KQ.out.below hb1)
  replace KR := Lib.hid (KR.out.below hb1)
  replace NX := Lib.hid (NX.out.below hb1)
  replace NY := Lib.hid (NY.out.below hb1)
  replace MX := Lib.hid (MX.out.below hb1)
  replace MY := Lib.hid (MY.out.below hb1)
  replace NS := Lib.hid (NS.out.below hb1)
  replace HB := Lib.hid (HB.out.trans (hb1.mono HB.out.size))
  clear hb1
  go_wp2_with fail
  refine su13 w.heap.size gR xa ya s (sj (sj (mj s s) xa) xb) nx cx ny cy n8 c8 ax ay a8 vs w12 KP.out KR.out HBG.out.1 HBG.out.2.1 HSB.out (sj_b _ _) NX.out NY.out NS.out N8.out ?_
  intros
  rename_i v9 v10 w13 hb1 hn9
  obtain ⟨a9, n9, c9, rfl⟩ := hn9.shape
  have N9 := Lib.hid hn9
  clear hn9
  replace KP := Lib.hid (KP.out.below hb1)
  replace KQ := Lib.hid (KQ.out.below hb1)
  replace KR := Lib.hid (KR.out.below hb1)
  replace N8 := Lib.hid (N8.out.below hb1)
  replace HB := Lib.hid (HB.out.trans (hb1.mono HB.out.size))
  clear hb1
  have HN := Lib.hid (And.intro (put3_ex (d := .bool false) (e := .slice a8 n8 c8) (f := .slice a9 n9 c9) N8.out KR.out) (put3_ex (d := .bool false) (e := .slice a8 n8 c8) (f := .slice a9 n9 c9) N9.out KR.out))
  go_wp2_with fail
  refine ret_cell64 rfl gR (.bool false) (.slice a8 n8 c8) (.slice a9 n9 c9) rfl (Bk.put3 KR.out) rfl ⟨_, rfl, ⟨_, _, _, _, _, _, rfl, fun _ => HN.out⟩, ?_⟩
  have hb := HB.out
  have hg := HG.out
  go_grown
theorem sum7 (v u : Value) (p q : Po) (hp : p.on = true) (hq : q.on = true) (w : World) (h : RP w v p) (k : RP w u q) : Calls Tryz.prog 66 #[v, u] w fun e w' => ∃ v', e = .returned v' ∧ RP w' v' (p.add q) ∧ Below w.heap.size w w' := by
  obtain ⟨xa, ya, pi⟩ := p
  obtain ⟨xb, yb, qi⟩ := q
  obtain ⟨ax, nx, cx, ay, ny, cy, rfl, hn⟩ := h
  obtain ⟨bx, mx, dx, bb, my, dy, rfl, hm⟩ := k
  cases pi
  · cases qi
    · cases hs : Po.same (Po.mk xa ya false) (Po.mk xb yb false).neg
      · obtain ⟨hd, hX⟩ := sum_ref hp hq hs
        rw [hX]
        cases hs2 : Po.same (Po.mk xa ya false) (Po.mk xb yb false)
        · simp only [downR, hs2, Bool.false_eq_true, if_false] at hd
          simp only [xR, yR, slR, upR, downR, hs2, Bool.false_eq_true, if_false]
          exact sum7_two xa ya xb yb _ _ _ nx cx ny cy mx dx my dy ax ay bx bb hp hq w (hn rfl).1 (hn rfl).2 (hm rfl).1 (hm rfl).2 hs hs2 rfl rfl hd rfl
        · simp only [downR, hs2, if_true] at hd
          simp only [xR, yR, slR, upR, downR, hs2, if_true]
          exact sum7_dbl xa ya xb yb _ _ _ nx cx ny cy mx dx my dy ax ay bx bb hp hq w (hn rfl).1 (hn rfl).2 (hm rfl).1 (hm rfl).2 hs hs2 rfl rfl hd rfl
      · rw [sum_opp hp hq hs]
        exact sum7_far xa ya xb yb nx cx ny cy mx dx my dy ax ay bx bb hp hq w (hn rfl).1 (hn rfl).2 (hm rfl).1 (hm rfl).2 hs
    · rw [(add_far hp hq).2 rfl]
      exact sum7_q xa ya xb yb nx cx ny cy mx dx my dy ax ay bx bb w (hn rfl)
  · rw [(add_far hp hq).1 rfl]
    exact sum7_p xa ya xb yb qi nx cx ny cy mx dx my dy ax ay bx bb w hm
theorem d_z {y z i j : Fin PP} (hz : z * i = 1) (hj : (y + y) * j = 1) : (y + y) * z * (i * j) = 1 := by grobner
theorem d_s {x y z i j : Fin PP} (hz : z * i = 1) (hj : (y + y) * j = 1) : (y * (i * i * i) + y * (i * i * i)) * (3 * (x * x - z * z * (z * z)) * (i * j)) = 3 * (x * (i * i) * (x * (i * i))) + -3 := by grobner
theorem d_x {x y b i j s : Fin PP} (hj : (y + y) * j = 1) (hs : s = b * (i * j)) : (b * b - (4 * (x * (y * y)) + 4 * (x * (y * y)))) * (i * j * (i * j)) = s * s - x * (i * i) - x * (i * i) := by grobner
theorem d_y {x y b i j s xx : Fin PP} (hj : (y + y) * j = 1) (hs : s = b * (i * j)) (hx : xx * (i * j * (i * j)) = s * s - x * (i * i) - x * (i * i)) : (b * (4 * (x * (y * y)) - xx) - 8 * (y * y * (y * y))) * (i * j * (i * j) * (i * j)) = s * (x * (i * i) - (s * s - x * (i * i) - x * (i * i))) - y * (i * i * i) := by grobner
theorem a_z {z h i k : Fin PP} (hz : z * i = 1) (hk : h * k = 1) : z * h * (i * k) = 1 := by grobner
theorem a_h {x z i X : Fin PP} (hz : z * i = 1) : (X * (z * z) - x) * (i * i) = X - x * (i * i) := by grobner
theorem a_r {y z i Y : Fin PP} (hz : z * i = 1) : (Y * (z * z * z) - y) * (i * i * i) = Y - y * (i * i * i) := by grobner
theorem a_s {h r i k dX dY : Fin PP} (hk : h * k = 1) (hh : h * (i * i) = dX) (hr : r * (i * i * i) = dY) : dX * (r * (i * k)) = dY := by grobner
theorem a_x {x h r i k s dX : Fin PP} (hk : h * k = 1) (hs : s = r * (i * k)) (hh : h * (i * i) = dX) : (r * r - h * (h * h) - (x * (h * h) + x * (h * h))) * (i * k * (i * k)) = s * s - dX - (x * (i * i) + x * (i * i)) := by grobner
theorem a_y {x y h r i k s xx X3 : Fin PP} (hk : h * k = 1) (hs : s = r * (i * k)) (hx : xx * (i * k * (i * k)) = X3) : (r * (x * (h * h) - xx) - y * (h * (h * h))) * (i * k * (i * k) * (i * k)) = s * (x * (i * i) - X3) - y * (i * i * i) := by grobner
theorem sub_self_x (x : Fin PP) : x - x = 0 := by grobner
theorem ch_x {a b s : Fin PP} : s * s - (b - a) - (a + a) = s * s - a - b := by grobner
theorem c_four : c 4 = 4 := rfl
theorem c_eight : c 8 = 8 := rfl
def dblA (p : J) : Nat := mj 4 (mj p.x (mj p.y p.y))
def dblB (p : J) : Nat := mj 3 (sj (mj p.x p.x) (mj (mj p.z p.z) (mj p.z p.z)))
def dblX (p : J) : Nat := sj (mj (dblB p) (dblB p)) (aj (dblA p) (dblA p))
def dblR (p : J) : J := ⟨dblX p, sj (mj (dblB p) (sj (dblA p) (dblX p))) (mj 8 (mj (mj p.y p.y) (mj p.y p.y))), mj (aj p.y p.y) p.z⟩
theorem y_ne {y i Y : Fin PP} (hY : Y = y * (i * i * i)) (h : Y + Y ≠ 0) : y + y ≠ 0 := fun h0 => h (by
  rw [hY]
  have : y * (i * i * i) + y * (i * i * i) = (y + y) * (i * i * i) := by grobner
  rw [this, h0, zero_mul_x])
theorem near_dbl {p : J} {i X Y : Fin PP} (h : Near p i X Y) (hP : On aP bP (.aff X Y)) : ∃ i' X' Y', Near (dblR p) i' X' Y' ∧ sum inv aP (.aff X Y) (.aff X Y) = .aff X' Y' := by
  obtain ⟨hl, hz, hX, hY⟩ := h
  have hyy : c p.y + c p.y ≠ 0 := y_ne hY (fit.yy hP)
  have hj := mul_inv (c p.y + c p.y) hyy
  generalize hjj : inv (c p.y + c p.y) = j at hj
  have hn : ¬ (X = X ∧ Y = -Y) := by
    rintro ⟨_, h2⟩
    have : Y + Y = 0 := by
      generalize Y = Y' at h2
      grobner
    exact fit.yy hP this
  rw [sum_aff, if_neg hn]
  have hs : slope inv aP X Y X Y = c (dblB p) * (i * j) := by
    unfold slope
    rw [if_pos rfl]
    have h1 := d_s (x := c p.x) hz hj
    rw [← hX, ← hY] at h1
    have h2 := mul_inv (Y + Y) (fit.yy hP)
    have hb : c (dblB p) = 3 * (c p.x * c p.x - c p.z * c p.z * (c p.z * c p.z)) := by
      unfold dblB
      rw [c_mj, c_sj, c_mj, c_mj, c_mj, c_three]
    rw [hb]
    have h3 : (3 * (X * X) + aP) = 3 * (X * X) + -3 := rfl
    rw [h3]
    exact sl_x h2 h1
  have hA : c (dblA p) = 4 * (c p.x * (c p.y * c p.y)) := by
    unfold dblA
    rw [c_mj, c_mj, c_mj, c_four]
  have ex : c (dblX p) = c (dblB p) * c (dblB p) - (4 * (c p.x * (c p.y * c p.y)) + 4 * (c p.x * (c p.y * c p.y))) := by
    unfold dblX
    rw [c_sj, c_mj, c_aj, hA]
  have hx := d_x (x := c p.x) hj hs
  rw [← ex, ← hX] at hx
  have hy := d_y (x := c p.x) (xx := c (dblX p)) hj hs (by rw [← hX]; exact hx)
  rw [← hX, ← hY] at hy
  refine ⟨i * j, _, _, ⟨⟨sj_p _ _, sj_p _ _, mj_p _ _⟩, ?_, hx.symm, ?_⟩, rfl⟩
  · show c (mj (aj p.y p.y) p.z) * (i * j) = 1
    rw [c_mj, c_aj]
    exact d_z hz hj
  · show _ = c (sj (mj (dblB p) (sj (dblA p) (dblX p))) (mj 8 (mj (mj p.y p.y) (mj p.y p.y)))) * _
    rw [c_sj, c_mj, c_sj, hA, c_mj, c_mj, c_mj, c_eight]
    exact hy.symm
def addH (p : J) (q : Po) : Nat := sj (mj q.x (mj p.z p.z)) p.x
def addRr (p : J) (q : Po) : Nat := sj (mj q.y (mj (mj p.z p.z) p.z)) p.y
def addX (p : J) (q : Po) : Nat := sj (sj (mj (addRr p q) (addRr p q)) (mj (addH p q) (mj (addH p q) (addH p q)))) (aj (mj p.x (mj (addH p q) (addH p q))) (mj p.x (mj (addH p q) (addH p q))))
def addR (p : J) (q : Po) : J := ⟨addX p q, sj (mj (addRr p q) (sj (mj p.x (mj (addH p q) (addH p q))) (addX p q))) (mj p.y (mj (addH p q) (mj (addH p q) (addH p q)))), mj p.z (addH p q)⟩
theorem near_add {p : J} {i X Y : Fin PP} {q : Po} (h : Near p i X Y) (hh0 : addH p q ≠ 0) : ∃ i' X' Y', Near (addR p q) i' X' Y' ∧ sum inv aP (.aff X Y) (.aff (c q.x) (c q.y)) = .aff X' Y' := by
  obtain ⟨hl, hz, hX, hY⟩ := h
  have eH : c (addH p q) = c q.x * (c p.z * c p.z) - c p.x := by unfold addH; rw [c_sj, c_mj, c_mj]
  have eR : c (addRr p q) = c q.y * (c p.z * c p.z * c p.z) - c p.y := by unfold addRr; rw [c_sj, c_mj, c_mj, c_mj]
  have hH : c (addH p q) ≠ 0 := fun h => hh0 (by
    have h0 : c (addH p q) = c 0 := by rw [h]; rfl
    exact c_inj (show addH p q < mP from sj_p _ _) (by decide +kernel) h0)
  have hdx : c (addH p q) * (i * i) = c q.x - X := by rw [eH, a_h hz, ← hX]
  have hdy : c (addRr p q) * (i * i * i) = c q.y - Y := by rw [eR, a_r hz, ← hY]
  have hi0 : i * i ≠ 0 := fun h => by
    have h1 : c p.z * c p.z * (i * i) = 1 := by
      generalize c p.z = z at hz
      grobner
    rw [h, mul_zero_x] at h1
    exact one_ne h1.symm
  have hne : X ≠ c q.x := fun h => by
    have h0 : c (addH p q) * (i * i) = 0 := by rw [hdx, h]; exact sub_self_x _
    rcases fit.mul_zero h0 with h1 | h1
    · exact hH h1
    · exact hi0 h1
  have hk := mul_inv (c (addH p q)) hH
  generalize hkk : inv (c (addH p q)) = k at hk
  rw [sum_aff, if_neg (fun h => hne h.1)]
  have hs : slope inv aP X Y (c q.x) (c q.y) = c (addRr p q) * (i * k) := by
    unfold slope
    rw [if_neg hne]
    exact sl_x (mul_inv _ (sub_of_ne hne)) (a_s hk hdx hdy)
  have ex : c (addX p q) = c (addRr p q) * c (addRr p q) - c (addH p q) * (c (addH p q) * c (addH p q)) - (c p.x * (c (addH p q) * c (addH p q)) + c p.x * (c (addH p q) * c (addH p q))) := by
    unfold addX
    rw [c_sj, c_sj, c_mj, c_mj, c_mj, c_aj, c_mj, c_mj]
  have hx := a_x (x := c p.x) hk hs hdx
  rw [← ex, ← hX, ch_x] at hx
  have hy := a_y (x := c p.x) (y := c p.y) (xx := c (addX p q)) hk hs hx
  rw [← hX, ← hY] at hy
  refine ⟨i * k, _, _, ⟨⟨sj_p _ _, sj_p _ _, mj_p _ _⟩, ?_, hx.symm, ?_⟩, rfl⟩
  · show c (mj p.z (addH p q)) * (i * k) = 1
    rw [c_mj]
    exact a_z hz hk
  · show _ = c (sj (mj (addRr p q) (sj (mj p.x (mj (addH p q) (addH p q))) (addX p q))) (mj p.y (mj (addH p q) (mj (addH p q) (addH p q))))) * _
    rw [c_sj, c_mj, c_sj, c_mj, c_mj, c_mj, c_mj, c_mj]
    exact hy.symm
def endR (p : J) : Po := ⟨mj p.x (mj (iN p.z) (iN p.z)), mj p.y (mj (mj (iN p.z) (iN p.z)) (iN p.z)), false⟩
theorem near_end {p : J} {i X Y : Fin PP} (h : Near p i X Y) : p.z ≠ 0 ∧ endR p = ofPt (.aff X Y) := by
  obtain ⟨hl, hz, hX, hY⟩ := h
  have hz0 : c p.z ≠ 0 := ne_of_inv hz
  have hi : inv (c p.z) = i := iv_one (mul_inv _ hz0) hz
  refine ⟨fun h => hz0 (by rw [h]; rfl), ?_⟩
  have e1 : c (mj p.x (mj (iN p.z) (iN p.z))) = X := by rw [c_mj, c_mj, c_iN, hi, hX]
  have e2 : c (mj p.y (mj (mj (iN p.z) (iN p.z)) (iN p.z))) = Y := by rw [c_mj, c_mj, c_mj, c_iN, hi, hY]
  rw [← e1, ← e2]
  have v1 : (c (mj p.x (mj (iN p.z) (iN p.z)))).val = mj p.x (mj (iN p.z) (iN p.z)) := (val_of (mj_p _ _) rfl).symm
  have v2 : (c (mj p.y (mj (mj (iN p.z) (iN p.z)) (iN p.z)))).val = mj p.y (mj (mj (iN p.z) (iN p.z)) (iN p.z)) := (val_of (mj_p _ _) rfl).symm
  show endR p = ⟨(c (mj p.x (mj (iN p.z) (iN p.z)))).val, (c (mj p.y (mj (mj (iN p.z) (iN p.z)) (iN p.z)))).val, false⟩
  rw [v1, v2]
  rfl
def tw1F (w0 : World) (gP gR ya za : Nat) (nx cx ny cy nz cz : Nat) (ax ay az : Option Addr) (t0 t5 t6 t7 t18 t19 t20 t21 t22 t23 t24 t25 t26 t27 t28 t29 t30 t31 t32 t33 t34 t35 t36 t37 t38 t39 t40 t41 t42 t43 t44 t45 t46 t47 t48 t49 t50 t51 t52 t53 t54 t55 t56 t57 t58 t59 t60 t61 t62 : Value) (ds : List Deferred) (a : Act) (w : World) : Prop :=
  ∃ y0 y1 y2 y3 y4 y5 y6 y7 y8 y9 y10 y11 : Value, ∃ wm : World, a = { tmps := #[t0, .pointer (some ⟨gP, 0, none⟩), .pointer (some ⟨gR, 0, none⟩), y10, y11, t5, t6, t7, y0, y1, y2, y3, y4, y5, y6, y7, y8, y9, t18, t19, t20, t21, t22, t23, t24, t25, t26, t27, t28, t29, t30, t31, t32, t33, t34, t35, t36, t37, t38, t39, t40, t41, t42, t43, t44, t45, t46, t47, t48, t49, t50, t51, t52, t53, t54, t55, t56, t57, t58, t59, t60, t61, t62], defers := ds } ∧ Below w0.heap.size w0 wm ∧ w = wm ∧ NV wm y10 (mj ya ya) ∧ NV wm y11 (mj za za)
def tw1I (w0 : World) (gP gR ya za : Nat) (nx cx ny cy nz cz : Nat) (ax ay az : Option Addr) (t0 t5 t6 t7 t18 t19 t20 t21 t22 t23 t24 t25 t26 t27 t28 t29 t30 t31 t32 t33 t34 t35 t36 t37 t38 t39 t40 t41 t42 t43 t44 t45 t46 t47 t48 t49 t50 t51 t52 t53 t54 t55 t56 t57 t58 t59 t60 t61 t62 : Value) (ds : List Deferred) (l : Array Bool) (a : Act) (w : World) : Prop :=
  ∃ j0 j1 j2 j3 j4 j5 j6 j7 j8 j9 j10 j11 : Bool, ∃ x0 x1 x2 x3 x4 x5 x6 x7 x8 x9 x10 x11 : Value, l = #[j0, j1, j2, j3, j4, j5, j6, j7, j8, j9, j10, j11] ∧ a = { tmps := #[t0, .pointer (some ⟨gP, 0, none⟩), .pointer (some ⟨gR, 0, none⟩), x10, x11, t5, t6, t7, x0, x1, x2, x3, x4, x5, x6, x7, x8, x9, t18, t19, t20, t21, t22, t23, t24, t25, t26, t27, t28, t29, t30, t31, t32, t33, t34, t35, t36, t37, t38, t39, t40, t41, t42, t43, t44, t45, t46, t47, t48, t49, t50, t51, t52, t53, t54, t55, t56, t57, t58, t59, t60, t61, t62], defers := ds } ∧ Below w0.heap.size w0 w ∧
  (j0 = true → x0 = .pointer (some ⟨gP, 1, none⟩)) ∧ (j1 = true → x1 = .slice ay ny cy) ∧ (j2 = true → x2 = .pointer (some ⟨gP, 1, none⟩)) ∧ (j3 = true → x3 = .slice ay ny cy) ∧ (j4 = true → NV w x4 (mj ya ya)) ∧ (j5 = true → x5 = .pointer (some ⟨gP, 2, none⟩)) ∧ (j6 = true → x6 = .slice az nz cz) ∧ (j7 = true → x7 = .pointer (some ⟨gP, 2, none⟩)) ∧ (j8 = true → x8 = .slice az nz cz) ∧ (j9 = true → NV w x9 (mj za za)) ∧ (j10 = true → NV w x10 (mj ya ya)) ∧ (j11 = true → NV w x11 (mj za za))
noncomputable def tw1O : Array Oper := (Tryz.f127.body.bind fun c => findR c 1).getD #[]
set_option maxHeartbeats 16000000 in
theorem tw1_steps (gP gR ya za : Nat) (nx cx ny cy nz cz : Nat) (ax ay az : Option Addr) (w : World) (KP : Bk 150 w gP #[.slice ax nx cx, .slice ay ny cy, .slice az nz cz]) (HY : ya < big) (HZ : za < big) (NY : NV w (.slice ay ny cy) ya) (NZ : NV w (.slice az nz cz) za)
    {t0 t5 t6 t7 t18 t19 t20 t21 t22 t23 t24 t25 t26 t27 t28 t29 t30 t31 t32 t33 t34 t35 t36 t37 t38 t39 t40 t41 t42 t43 t44 t45 t46 t47 t48 t49 t50 t51 t52 t53 t54 t55 t56 t57 t58 t59 t60 t61 t62 : Value} {ds : List Deferred} {Q : Exit → Act → World → Prop} :
    ∀ l a w', tw1I w gP gR ya za nx cx ny cy nz cz ax ay az t0 t5 t6 t7 t18 t19 t20 t21 t22 t23 t24 t25 t26 t27 t28 t29 t30 t31 t32 t33 t34 t35 t36 t37 t38 t39 t40 t41 t42 t43 t44 t45 t46 t47 t48 t49 t50 t51 t52 t53 t54 t55 t56 t57 t58 t59 t60 t61 t62 ds l a w' → ∀ i ∈ Region.ready .any tw1O l, wpOp Tryz.prog tw1O Q i (fun a' w'' => tw1I w gP gR ya za nx cx ny cy nz cz ax ay az t0 t5 t6 t7 t18 t19 t20 t21 t22 t23 t24 t25 t26 t27 t28 t29 t30 t31 t32 t33 t34 t35 t36 t37 t38 t39 t40 t41 t42 t43 t44 t45 t46 t47 t48 t49 t50 t51 t52 t53 t54 t55 t56 t57 t58 t59 t60 t61 t62 ds (l.setIfInBounds i true) a' w'') a w' := by
  simp only [tw1O, findR, Tryz.f127, Option.bind_some, Option.or, Option.getD, Nat.reduceEqDiff, if_true, if_false, reduceIte]
  rintro l a w' hI i hi
  rw [mem_ready] at hi
  obtain ⟨hu, oo, ho, hd⟩ := hi
  have hin : i < 12 := by
    have := (Array.getElem?_eq_some_iff.1 ho).1
    simpa using this
  have hcase : i = 0 ∨ i = 1 ∨ i = 2 ∨ i = 3 ∨ i = 4 ∨ i = 5 ∨ i = 6 ∨ i = 7 ∨ i = 8 ∨ i = 9 ∨ i = 10 ∨ i = 11 := by omega
  obtain ⟨j0, j1, j2, j3, j4, j5, j6, j7, j8, j9, j10, j11, x0, x1, x2, x3, x4, x5, x6, x7, x8, x9, x10, x11, rfl, rfl, hB, h0, h1, h2, h3, h4, h5, h6, h7, h8, h9, h10, h11⟩ := hI
  replace h0 := Lib.hid h0
  replace h1 := Lib.hid h1
  replace h2 := Lib.hid h2
  replace h3 := Lib.hid h3
  replace h4 := Lib.hid h4
  replace h5 := Lib.hid h5
  replace h6 := Lib.hid h6
  replace h7 := Lib.hid h7
  replace h8 := Lib.hid h8
  replace h9 := Lib.hid h9
  replace h10 := Lib.hid h10
  replace h11 := Lib.hid h11
  rcases hcase with rfl | rfl | rfl | rfl | rfl | rfl | rfl | rfl | rfl | rfl | rfl | rfl
  · obtain rfl := Option.some.inj ho
    simp [Region.binds] at hu hd
    clear hd
    refine wpOp_of rfl rfl ?_
    go_simp
    unfold tw1I
    exact ⟨true, j1, j2, j3, j4, j5, j6, j7, j8, j9, j10, j11, _, x1, x2, x3, x4, x5, x6, x7, x8, x9, x10, x11, rfl, rfl, hB, fun _ => rfl, h1.out, h2.out, h3.out, h4.out, h5.out, h6.out, h7.out, h8.out, h9.out, h10.out, h11.out⟩
  · obtain rfl := Option.some.inj ho
    simp [Region.binds] at hu hd
    have d0 : j0 = true := by simp [hd]
    have e0 := h0.out d0
    subst e0
    subst d0
    clear hd
    refine wpOp_of rfl rfl ?_
    have i1 : w'.cell? ⟨gP, 1, none⟩ = some (.slice ay ny cy) := (KP.below hB).cell 1
    go_simp
    unfold tw1I
    exact ⟨true, true, j2, j3, j4, j5, j6, j7, j8, j9, j10, j11, _, _, x2, x3, x4, x5, x6, x7, x8, x9, x10, x11, rfl, rfl, hB, h0.out, fun _ => rfl, h2.out, h3.out, h4.out, h5.out, h6.out, h7.out, h8.out, h9.out, h10.out, h11.out⟩
  · obtain rfl := Option.some.inj ho
    simp [Region.binds] at hu hd
    clear hd
    refine wpOp_of rfl rfl ?_
    go_simp
    unfold tw1I
    exact ⟨j0, j1, true, j3, j4, j5, j6, j7, j8, j9, j10, j11, x0, x1, _, x3, x4, x5, x6, x7, x8, x9, x10, x11, rfl, rfl, hB, h0.out, h1.out, fun _ => rfl, h3.out, h4.out, h5.out, h6.out, h7.out, h8.out, h9.out, h10.out, h11.out⟩
  · obtain rfl := Option.some.inj ho
    simp [Region.binds] at hu hd
    have d2 : j2 = true := by simp [hd]
    have e2 := h2.out d2
    subst e2
    subst d2
    clear hd
    refine wpOp_of rfl rfl ?_
    have i1 : w'.cell? ⟨gP, 1, none⟩ = some (.slice ay ny cy) := (KP.below hB).cell 1
    go_simp
    unfold tw1I
    exact ⟨j0, j1, true, true, j4, j5, j6, j7, j8, j9, j10, j11, x0, x1, _, _, x4, x5, x6, x7, x8, x9, x10, x11, rfl, rfl, hB, h0.out, h1.out, h2.out, fun _ => rfl, h4.out, h5.out, h6.out, h7.out, h8.out, h9.out, h10.out, h11.out⟩
  · obtain rfl := Option.some.inj ho
    simp [Region.binds] at hu hd
    have d1 : j1 = true := by simp [hd]
    have d3 : j3 = true := by simp [hd]
    have e1 := h1.out d1
    subst e1
    have e3 := h3.out d3
    subst e3
    subst d1
    subst d3
    clear hd
    refine wpOp_of rfl rfl ?_
    go_simp
    go_at_call 117
    refine (nk w.heap.size w (times_nv _ _ _ ya ya HY HY (NY.below hB) (NY.below hB)) hB (Nat.le_refl _)).mono ?_
    rintro e w2 ⟨v', rfl, hn', hB2, hb2⟩
    unfold tw1I
    exact ⟨j0, true, j2, true, true, j5, j6, j7, j8, j9, j10, j11, x0, _, x2, _, _, x5, x6, x7, x8, x9, x10, x11, rfl, rfl, hB2, h0.out, h1.out, h2.out, h3.out, fun _ => hn', h5.out, h6.out, h7.out, h8.out, fun hj => (h9.out hj).below hb2, fun hj => (h10.out hj).below hb2, fun hj => (h11.out hj).below hb2⟩
  · obtain rfl := Option.some.inj ho
    simp [Region.binds] at hu hd
    clear hd
    refine wpOp_of rfl rfl ?_
    go_simp
    unfold tw1I
    exact ⟨j0, j1, j2, j3, j4, true, j6, j7, j8, j9, j10, j11, x0, x1, x2, x3, x4, _, x6, x7, x8, x9, x10, x11, rfl, rfl, hB, h0.out, h1.out, h2.out, h3.out, h4.out, fun _ => rfl, h6.out, h7.out, h8.out, h9.out, h10.out, h11.out⟩
  · obtain rfl := Option.some.inj ho
    simp [Region.binds] at hu hd
    have d5 : j5 = true := by simp [hd]
    have e5 := h5.out d5
    subst e5
    subst d5
    clear hd
    refine wpOp_of rfl rfl ?_
    have i2 : w'.cell? ⟨gP, 2, none⟩ = some (.slice az nz cz) := (KP.below hB).cell 2
    go_simp
    unfold tw1I
    exact ⟨j0, j1, j2, j3, j4, true, true, j7, j8, j9, j10, j11, x0, x1, x2, x3, x4, _, _, x7, x8, x9, x10, x11, rfl, rfl, hB, h0.out, h1.out, h2.out, h3.out, h4.out, h5.out, fun _ => rfl, h7.out, h8.out, h9.out, h10.out, h11.out⟩
  · obtain rfl := Option.some.inj ho
    simp [Region.binds] at hu hd
    clear hd
    refine wpOp_of rfl rfl ?_
    go_simp
    unfold tw1I
    exact ⟨j0, j1, j2, j3, j4, j5, j6, true, j8, j9, j10, j11, x0, x1, x2, x3, x4, x5, x6, _, x8, x9, x10, x11, rfl, rfl, hB, h0.out, h1.out, h2.out, h3.out, h4.out, h5.out, h6.out, fun _ => rfl, h8.out, h9.out, h10.out, h11.out⟩
  · obtain rfl := Option.some.inj ho
    simp [Region.binds] at hu hd
    have d7 : j7 = true := by simp [hd]
    have e7 := h7.out d7
    subst e7
    subst d7
    clear hd
    refine wpOp_of rfl rfl ?_
    have i2 : w'.cell? ⟨gP, 2, none⟩ = some (.slice az nz cz) := (KP.below hB).cell 2
    go_simp
    unfold tw1I
    exact ⟨j0, j1, j2, j3, j4, j5, j6, true, true, j9, j10, j11, x0, x1, x2, x3, x4, x5, x6, _, _, x9, x10, x11, rfl, rfl, hB, h0.out, h1.out, h2.out, h3.out, h4.out, h5.out, h6.out, h7.out, fun _ => rfl, h9.out, h10.out, h11.out⟩
  · obtain rfl := Option.some.inj ho
    simp [Region.binds] at hu hd
    have d4 : j4 = true := by simp [hd]
    have d6 : j6 = true := by simp [hd]
    have d8 : j8 = true := by simp [hd]
    have e6 := h6.out d6
    subst e6
    have e8 := h8.out d8
    subst e8
    subst d4
    subst d6
    subst d8
    clear hd
    refine wpOp_of rfl rfl ?_
    go_simp
    go_at_call 117
    refine (nk w.heap.size w (times_nv _ _ _ za za HZ HZ (NZ.below hB) (NZ.below hB)) hB (Nat.le_refl _)).mono ?_
    rintro e w2 ⟨v', rfl, hn', hB2, hb2⟩
    unfold tw1I
    exact ⟨j0, j1, j2, j3, true, j5, true, j7, true, true, j10, j11, x0, x1, x2, x3, x4, x5, _, x7, _, _, x10, x11, rfl, rfl, hB2, h0.out, h1.out, h2.out, h3.out, fun hj => (h4.out hj).below hb2, h5.out, h6.out, h7.out, h8.out, fun _ => hn', fun hj => (h10.out hj).below hb2, fun hj => (h11.out hj).below hb2⟩
  · obtain rfl := Option.some.inj ho
    simp [Region.binds] at hu hd
    have d0 : j0 = true := by simp [hd]
    have d1 : j1 = true := by simp [hd]
    have d2 : j2 = true := by simp [hd]
    have d3 : j3 = true := by simp [hd]
    have d4 : j4 = true := by simp [hd]
    have d9 : j9 = true := by simp [hd]
    have e0 := h0.out d0
    subst e0
    have e1 := h1.out d1
    subst e1
    have e2 := h2.out d2
    subst e2
    have e3 := h3.out d3
    subst e3
    subst d0
    subst d1
    subst d2
    subst d3
    subst d4
    subst d9
    clear hd
    refine wpOp_of rfl rfl ?_
    go_simp
    unfold tw1I
    exact ⟨true, true, true, true, true, j5, j6, j7, j8, true, true, j11, _, _, _, _, x4, x5, x6, x7, x8, x9, _, x11, rfl, rfl, hB, h0.out, h1.out, h2.out, h3.out, h4.out, h5.out, h6.out, h7.out, h8.out, h9.out, fun _ => h4.out rfl, h11.out⟩
  · obtain rfl := Option.some.inj ho
    simp [Region.binds] at hu hd
    have d0 : j0 = true := by simp [hd]
    have d1 : j1 = true := by simp [hd]
    have d2 : j2 = true := by simp [hd]
    have d3 : j3 = true := by simp [hd]
    have d4 : j4 = true := by simp [hd]
    have d5 : j5 = true := by simp [hd]
    have d6 : j6 = true := by simp [hd]
    have d7 : j7 = true := by simp [hd]
    have d8 : j8 = true := by simp [hd]
    have d9 : j9 = true := by simp [hd]
    have d10 : j10 = true := by simp [hd]
    have e0 := h0.out d0
    subst e0
    have e1 := h1.out d1
    subst e1
    have e2 := h2.out d2
    subst e2
    have e3 := h3.out d3
    subst e3
    have e5 := h5.out d5
    subst e5
    have e6 := h6.out d6
    subst e6
    have e7 := h7.out d7
    subst e7
    have e8 := h8.out d8
    subst e8
    subst d0
    subst d1
    subst d2
    subst d3
    subst d4
    subst d5
    subst d6
    subst d7
    subst d8
    subst d9
    subst d10
    clear hd
    refine wpOp_of rfl rfl ?_
    go_simp
    unfold tw1I
    exact ⟨true, true, true, true, true, true, true, true, true, true, true, true, _, _, _, _, x4, _, _, _, _, x9, x10, _, rfl, rfl, hB, h0.out, h1.out, h2.out, h3.out, h4.out, h5.out, h6.out, h7.out, h8.out, h9.out, h10.out, fun _ => h9.out rfl⟩
set_option maxHeartbeats 16000000 in
theorem tw1_fin (gP gR ya za : Nat) (nx cx ny cy nz cz : Nat) (ax ay az : Option Addr) (w : World) {t0 t5 t6 t7 t18 t19 t20 t21 t22 t23 t24 t25 t26 t27 t28 t29 t30 t31 t32 t33 t34 t35 t36 t37 t38 t39 t40 t41 t42 t43 t44 t45 t46 t47 t48 t49 t50 t51 t52 t53 t54 t55 t56 t57 t58 t59 t60 t61 t62 : Value} {ds : List Deferred} : ∀ l a w1, tw1I w gP gR ya za nx cx ny cy nz cz ax ay az t0 t5 t6 t7 t18 t19 t20 t21 t22 t23 t24 t25 t26 t27 t28 t29 t30 t31 t32 t33 t34 t35 t36 t37 t38 t39 t40 t41 t42 t43 t44 t45 t46 t47 t48 t49 t50 t51 t52 t53 t54 t55 t56 t57 t58 t59 t60 t61 t62 ds l a w1 → Region.ready .any tw1O l = [] → tw1F w gP gR ya za nx cx ny cy nz cz ax ay az t0 t5 t6 t7 t18 t19 t20 t21 t22 t23 t24 t25 t26 t27 t28 t29 t30 t31 t32 t33 t34 t35 t36 t37 t38 t39 t40 t41 t42 t43 t44 t45 t46 t47 t48 t49 t50 t51 t52 t53 t54 t55 t56 t57 t58 t59 t60 t61 t62 ds a w1 := by
  simp only [tw1O, findR, Tryz.f127, Option.bind_some, Option.or, Option.getD, Nat.reduceEqDiff, if_true, if_false, reduceIte]
  rintro l a w1 hI hr
  obtain ⟨j0, j1, j2, j3, j4, j5, j6, j7, j8, j9, j10, j11, x0, x1, x2, x3, x4, x5, x6, x7, x8, x9, x10, x11, rfl, rfl, hB, h0, h1, h2, h3, h4, h5, h6, h7, h8, h9, h10, h11⟩ := hI
  have hn := fun i => List.eq_nil_iff_forall_not_mem.1 hr i
  clear hr
  cases j0; exact absurd (mem_ready.2 ⟨by simp, _, rfl, by simp [Region.binds]⟩) (hn 0)
  cases j1; exact absurd (mem_ready.2 ⟨by simp, _, rfl, by simp [Region.binds]⟩) (hn 1)
  cases j2; exact absurd (mem_ready.2 ⟨by simp, _, rfl, by simp [Region.binds]⟩) (hn 2)
  cases j3; exact absurd (mem_ready.2 ⟨by simp, _, rfl, by simp [Region.binds]⟩) (hn 3)
  cases j4; exact absurd (mem_ready.2 ⟨by simp, _, rfl, by simp [Region.binds]⟩) (hn 4)
  cases j5; exact absurd (mem_ready.2 ⟨by simp, _, rfl, by simp [Region.binds]⟩) (hn 5)
  cases j6; exact absurd (mem_ready.2 ⟨by simp, _, rfl, by simp [Region.binds]⟩) (hn 6)
  cases j7; exact absurd (mem_ready.2 ⟨by simp, _, rfl, by simp [Region.binds]⟩) (hn 7)
  cases j8; exact absurd (mem_ready.2 ⟨by simp, _, rfl, by simp [Region.binds]⟩) (hn 8)
  cases j9; exact absurd (mem_ready.2 ⟨by simp, _, rfl, by simp [Region.binds]⟩) (hn 9)
  cases j10; exact absurd (mem_ready.2 ⟨by simp, _, rfl, by simp [Region.binds]⟩) (hn 10)
  cases j11; exact absurd (mem_ready.2 ⟨by simp, _, rfl, by simp [Region.binds]⟩) (hn 11)
  exact ⟨_, _, _, _, _, _, _, _, _, _, _, _, w1, rfl, hB, rfl, h10 rfl, h11 rfl⟩
theorem tw1 (gP gR ya za : Nat) (nx cx ny cy nz cz : Nat) (ax ay az : Option Addr) (w : World) (KP : Bk 150 w gP #[.slice ax nx cx, .slice ay ny cy, .slice az nz cz]) (HY : ya < big) (HZ : za < big) (NY : NV w (.slice ay ny cy) ya) (NZ : NV w (.slice az nz cz) za) {t0 t3 t4 t5 t6 t7 t8 t9 t10 t11 t12 t13 t14 t15 t16 t17 t18 t19 t20 t21 t22 t23 t24 t25 t26 t27 t28 t29 t30 t31 t32 t33 t34 t35 t36 t37 t38 t39 t40 t41 t42 t43 t44 t45 t46 t47 t48 t49 t50 t51 t52 t53 t54 t55 t56 t57 t58 t59 t60 t61 t62 : Value} {ds : List Deferred} {K : Act → World → Prop} {Q : Exit → Act → World → Prop}
    (h : ∀ (y0 y1 y2 y3 y4 y5 y6 y7 y8 y9 y10 y11 : Value) (w1 : World) (hb : Below w.heap.size w w1) (hn10 : NV w1 y10 (mj ya ya)) (hn11 : NV w1 y11 (mj za za)), K { tmps := #[t0, .pointer (some ⟨gP, 0, none⟩), .pointer (some ⟨gR, 0, none⟩), y10, y11, t5, t6, t7, y0, y1, y2, y3, y4, y5, y6, y7, y8, y9, t18, t19, t20, t21, t22, t23, t24, t25, t26, t27, t28, t29, t30, t31, t32, t33, t34, t35, t36, t37, t38, t39, t40, t41, t42, t43, t44, t45, t46, t47, t48, t49, t50, t51, t52, t53, t54, t55, t56, t57, t58, t59, t60, t61, t62], defers := ds } w1) :
    (Code.region 1 tw1O true).wp Tryz.prog (Exit.then K Q) { tmps := #[t0, .pointer (some ⟨gP, 0, none⟩), .pointer (some ⟨gR, 0, none⟩), t3, t4, t5, t6, t7, t8, t9, t10, t11, t12, t13, t14, t15, t16, t17, t18, t19, t20, t21, t22, t23, t24, t25, t26, t27, t28, t29, t30, t31, t32, t33, t34, t35, t36, t37, t38, t39, t40, t41, t42, t43, t44, t45, t46, t47, t48, t49, t50, t51, t52, t53, t54, t55, t56, t57, t58, t59, t60, t61, t62], defers := ds } w := by
  have hsz : tw1O.size = 12 := by kernel_rfl
  refine wp_region_any (show Tryz.prog.follows .mixedOrders = true from by kernel_rfl) ?_
  rw [hsz]
  refine wpAny_inv (I := tw1I w gP gR ya za nx cx ny cy nz cz ax ay az t0 t5 t6 t7 t18 t19 t20 t21 t22 t23 t24 t25 t26 t27 t28 t29 t30 t31 t32 t33 t34 t35 t36 t37 t38 t39 t40 t41 t42 t43 t44 t45 t46 t47 t48 t49 t50 t51 t52 t53 t54 t55 t56 t57 t58 t59 t60 t61 t62 ds) (tw1_steps gP gR ya za nx cx ny cy nz cz ax ay az w KP HY HZ NY NZ) (fun l a w' hI hr => ?_) 12 _ _ _ (by decide) ?_
  · obtain ⟨y0, y1, y2, y3, y4, y5, y6, y7, y8, y9, y10, y11, wm, rfl, hb, rfl, hn10, hn11⟩ := tw1_fin gP gR ya za nx cx ny cy nz cz ax ay az w l a w' hI hr
    exact h _ _ _ _ _ _ _ _ _ _ _ _ _ hb hn10 hn11
  · exact ⟨false, false, false, false, false, false, false, false, false, false, false, false, t8, t9, t10, t11, t12, t13, t14, t15, t16, t17, t3, t4, rfl, rfl, ⟨rfl, rfl, rfl, Nat.le_refl _, fun _ _ => rfl⟩, (fun h => by cases h), (fun h => by cases h), (fun h => by cases h), (fun h => by cases h), (fun h => by cases h), (fun h => by cases h), (fun h => by cases h), (fun h => by cases h), (fun h => by cases h), (fun h => by cases h), (fun h => by cases h), (fun h => by cases h)⟩
def tw5F (w0 : World) (gP gR ya za yy av bw xv n7 c7 : Nat) (nx cx ny cy nz cz : Nat) (ax ay az : Option Addr) (a7 : Option Addr) (vy va vb : Value) (t0 t4 t8 t9 t10 t11 t12 t13 t14 t15 t16 t17 t18 t19 t20 t21 t22 t23 t24 t25 t26 t27 t28 t29 t30 t31 t32 t33 t34 t35 t36 t37 t38 t39 t40 t41 : Value) (ds : List Deferred) (a : Act) (w : World) : Prop :=
  ∃ y0 y1 y2 y3 y4 y5 y6 y7 y8 y9 y10 y11 y12 y13 y14 y15 y16 y17 y18 y19 y20 : Value, ∃ wm : World, a = { tmps := #[t0, .pointer (some ⟨gP, 0, none⟩), .pointer (some ⟨gR, 0, none⟩), vy, t4, va, vb, .slice a7 n7 c7, t8, t9, t10, t11, t12, t13, t14, t15, t16, t17, t18, t19, t20, t21, t22, t23, t24, t25, t26, t27, t28, t29, t30, t31, t32, t33, t34, t35, t36, t37, t38, t39, t40, t41, y0, y1, y2, y3, y4, y5, y6, y7, y8, y9, y10, y11, y12, y13, y14, y15, y16, y17, y18, y19, y20], defers := ds } ∧ Below w0.heap.size w0 wm ∧ w = (World.setCell (World.setCell (World.setCell wm ⟨gR, 0, none⟩ (.slice a7 n7 c7)) ⟨gR, 1, none⟩ (y11)) ⟨gR, 2, none⟩ (y19)) ∧ NV wm y11 (sj (mj bw (sj av xv)) (mj 8 (mj yy yy))) ∧ NV wm y19 (mj (aj ya ya) za)
def tw5I (w0 : World) (gP gR ya za yy av bw xv n7 c7 : Nat) (nx cx ny cy nz cz : Nat) (ax ay az : Option Addr) (a7 : Option Addr) (vy va vb : Value) (t0 t4 t8 t9 t10 t11 t12 t13 t14 t15 t16 t17 t18 t19 t20 t21 t22 t23 t24 t25 t26 t27 t28 t29 t30 t31 t32 t33 t34 t35 t36 t37 t38 t39 t40 t41 : Value) (ds : List Deferred) (l : Array Bool) (a : Act) (w : World) : Prop :=
  (l = #[true, true, true, true, true, true, true, true, true, true, true, true, true, true, true, true, true, true, true, true, true, true] ∧ tw5F w0 gP gR ya za yy av bw xv n7 c7 nx cx ny cy nz cz ax ay az a7 vy va vb t0 t4 t8 t9 t10 t11 t12 t13 t14 t15 t16 t17 t18 t19 t20 t21 t22 t23 t24 t25 t26 t27 t28 t29 t30 t31 t32 t33 t34 t35 t36 t37 t38 t39 t40 t41 ds a w) ∨ (∃ j0 j1 j2 j3 j4 j5 j6 j7 j8 j9 j10 j11 j12 j13 j14 j15 j16 j17 j18 j19 j20 : Bool, ∃ x0 x1 x2 x3 x4 x5 x6 x7 x8 x9 x10 x11 x12 x13 x14 x15 x16 x17 x18 x19 x20 : Value, l = #[j0, j1, j2, j3, j4, j5, j6, j7, j8, j9, j10, j11, j12, j13, j14, j15, j16, j17, j18, j19, j20, false] ∧ a = { tmps := #[t0, .pointer (some ⟨gP, 0, none⟩), .pointer (some ⟨gR, 0, none⟩), vy, t4, va, vb, .slice a7 n7 c7, t8, t9, t10, t11, t12, t13, t14, t15, t16, t17, t18, t19, t20, t21, t22, t23, t24, t25, t26, t27, t28, t29, t30, t31, t32, t33, t34, t35, t36, t37, t38, t39, t40, t41, x0, x1, x2, x3, x4, x5, x6, x7, x8, x9, x10, x11, x12, x13, x14, x15, x16, x17, x18, x19, x20], defers := ds } ∧ Below w0.heap.size w0 w ∧
  (j0 = true → x0 = .slice a7 n7 c7) ∧ (j1 = true → x1 = vb) ∧ (j2 = true → x2 = va) ∧ (j3 = true → x3 = .slice a7 n7 c7) ∧ (j4 = true → NV w x4 (sj av xv)) ∧ (j5 = true → NV w x5 (mj bw (sj av xv))) ∧ (j6 = true → NV w x6 (8)) ∧ (j7 = true → x7 = vy) ∧ (j8 = true → x8 = vy) ∧ (j9 = true → NV w x9 (mj yy yy)) ∧ (j10 = true → NV w x10 (mj 8 (mj yy yy))) ∧ (j11 = true → NV w x11 (sj (mj bw (sj av xv)) (mj 8 (mj yy yy)))) ∧ (j12 = true → x12 = .pointer (some ⟨gP, 1, none⟩)) ∧ (j13 = true → x13 = .slice ay ny cy) ∧ (j14 = true → x14 = .pointer (some ⟨gP, 1, none⟩)) ∧ (j15 = true → x15 = .slice ay ny cy) ∧ (j16 = true → NV w x16 (aj ya ya)) ∧ (j17 = true → x17 = .pointer (some ⟨gP, 2, none⟩)) ∧ (j18 = true → x18 = .slice az nz cz) ∧ (j19 = true → NV w x19 (mj (aj ya ya) za)) ∧ (j20 = true → x20 = .agg #[.slice a7 n7 c7, x11, x19] ∧ j11 = true ∧ j19 = true))
noncomputable def tw5O : Array Oper := (Tryz.f127.body.bind fun c => findR c 5).getD #[]
set_option maxHeartbeats 16000000 in
theorem tw5_steps (gP gR ya za yy av bw xv n7 c7 : Nat) (nx cx ny cy nz cz : Nat) (ax ay az : Option Addr) (a7 : Option Addr) (vy va vb : Value) (w : World) (KP : Bk 150 w gP #[.slice ax nx cx, .slice ay ny cy, .slice az nz cz]) (KR : Bk 150 w gR #[.slice none 0 0, .slice none 0 0, .slice none 0 0]) (HY : ya < big) (HZ : za < big) (NY : NV w (.slice ay ny cy) ya) (NZ : NV w (.slice az nz cz) za) (HYY : yy < big) (HA : av < big) (HBW : bw < big) (HX : xv < big) (NYY : NV w vy yy) (NA : NV w va av) (NB : NV w vb bw) (N7 : NV w (.slice a7 n7 c7) xv)
    {t0 t4 t8 t9 t10 t11 t12 t13 t14 t15 t16 t17 t18 t19 t20 t21 t22 t23 t24 t25 t26 t27 t28 t29 t30 t31 t32 t33 t34 t35 t36 t37 t38 t39 t40 t41 : Value} {ds : List Deferred} {Q : Exit → Act → World → Prop} :
    ∀ l a w', tw5I w gP gR ya za yy av bw xv n7 c7 nx cx ny cy nz cz ax ay az a7 vy va vb t0 t4 t8 t9 t10 t11 t12 t13 t14 t15 t16 t17 t18 t19 t20 t21 t22 t23 t24 t25 t26 t27 t28 t29 t30 t31 t32 t33 t34 t35 t36 t37 t38 t39 t40 t41 ds l a w' → ∀ i ∈ Region.ready .any tw5O l, wpOp Tryz.prog tw5O Q i (fun a' w'' => tw5I w gP gR ya za yy av bw xv n7 c7 nx cx ny cy nz cz ax ay az a7 vy va vb t0 t4 t8 t9 t10 t11 t12 t13 t14 t15 t16 t17 t18 t19 t20 t21 t22 t23 t24 t25 t26 t27 t28 t29 t30 t31 t32 t33 t34 t35 t36 t37 t38 t39 t40 t41 ds (l.setIfInBounds i true) a' w'') a w' := by
  simp only [tw5O, findR, Tryz.f127, Option.bind_some, Option.or, Option.getD, Nat.reduceEqDiff, if_true, if_false, reduceIte]
  rintro l a w' hI i hi
  rw [mem_ready] at hi
  obtain ⟨hu, oo, ho, hd⟩ := hi
  have hin : i < 22 := by
    have := (Array.getElem?_eq_some_iff.1 ho).1
    simpa using this
  have hcase : i = 0 ∨ i = 1 ∨ i = 2 ∨ i = 3 ∨ i = 4 ∨ i = 5 ∨ i = 6 ∨ i = 7 ∨ i = 8 ∨ i = 9 ∨ i = 10 ∨ i = 11 ∨ i = 12 ∨ i = 13 ∨ i = 14 ∨ i = 15 ∨ i = 16 ∨ i = 17 ∨ i = 18 ∨ i = 19 ∨ i = 20 ∨ i = 21 := by omega
  rcases hI with ⟨rfl, hF⟩ | hI
  · exfalso
    rcases hcase with rfl | rfl | rfl | rfl | rfl | rfl | rfl | rfl | rfl | rfl | rfl | rfl | rfl | rfl | rfl | rfl | rfl | rfl | rfl | rfl | rfl | rfl <;> simp at hu
  obtain ⟨j0, j1, j2, j3, j4, j5, j6, j7, j8, j9, j10, j11, j12, j13, j14, j15, j16, j17, j18, j19, j20, x0, x1, x2, x3, x4, x5, x6, x7, x8, x9, x10, x11, x12, x13, x14, x15, x16, x17, x18, x19, x20, rfl, rfl, hB, h0, h1, h2, h3, h4, h5, h6, h7, h8, h9, h10, h11, h12, h13, h14, h15, h16, h17, h18, h19, h20⟩ := hI
  replace h0 := Lib.hid h0
  replace h1 := Lib.hid h1
  replace h2 := Lib.hid h2
  replace h3 := Lib.hid h3
  replace h4 := Lib.hid h4
  replace h5 := Lib.hid h5
  replace h6 := Lib.hid h6
  replace h7 := Lib.hid h7
  replace h8 := Lib.hid h8
  replace h9 := Lib.hid h9
  replace h10 := Lib.hid h10
  replace h11 := Lib.hid h11
  replace h12 := Lib.hid h12
  replace h13 := Lib.hid h13
  replace h14 := Lib.hid h14
  replace h15 := Lib.hid h15
  replace h16 := Lib.hid h16
  replace h17 := Lib.hid h17
  replace h18 := Lib.hid h18
  replace h19 := Lib.hid h19
  replace h20 := Lib.hid h20
  rcases hcase with rfl | rfl | rfl | rfl | rfl | rfl | rfl | rfl | rfl | rfl | rfl | rfl | rfl | rfl | rfl | rfl | rfl | rfl | rfl | rfl | rfl | rfl
  · obtain rfl := Option.some.inj ho
    simp [Region.binds] at hu hd
    clear hd
    refine wpOp_of rfl rfl ?_
    go_simp
    unfold tw5I
    exact .inr ⟨true, j1, j2, j3, j4, j5, j6, j7, j8, j9, j10, j11, j12, j13, j14, j15, j16, j17, j18, j19, j20, _, x1, x2, x3, x4, x5, x6, x7, x8, x9, x10, x11, x12, x13, x14, x15, x16, x17, x18, x19, x20, rfl, rfl, hB, fun _ => rfl, h1.out, h2.out, h3.out, h4.out, h5.out, h6.out, h7.out, h8.out, h9.out, h10.out, h11.out, h12.out, h13.out, h14.out, h15.out, h16.out, h17.out, h18.out, h19.out, h20.out⟩
  · obtain rfl := Option.some.inj ho
    simp [Region.binds] at hu hd
    clear hd
    refine wpOp_of rfl rfl ?_
    go_simp
    unfold tw5I
    exact .inr ⟨j0, true, j2, j3, j4, j5, j6, j7, j8, j9, j10, j11, j12, j13, j14, j15, j16, j17, j18, j19, j20, x0, _, x2, x3, x4, x5, x6, x7, x8, x9, x10, x11, x12, x13, x14, x15, x16, x17, x18, x19, x20, rfl, rfl, hB, h0.out, fun _ => rfl, h2.out, h3.out, h4.out, h5.out, h6.out, h7.out, h8.out, h9.out, h10.out, h11.out, h12.out, h13.out, h14.out, h15.out, h16.out, h17.out, h18.out, h19.out, h20.out⟩
  · obtain rfl := Option.some.inj ho
    simp [Region.binds] at hu hd
    clear hd
    refine wpOp_of rfl rfl ?_
    go_simp
    unfold tw5I
    exact .inr ⟨j0, j1, true, j3, j4, j5, j6, j7, j8, j9, j10, j11, j12, j13, j14, j15, j16, j17, j18, j19, j20, x0, x1, _, x3, x4, x5, x6, x7, x8, x9, x10, x11, x12, x13, x14, x15, x16, x17, x18, x19, x20, rfl, rfl, hB, h0.out, h1.out, fun _ => rfl, h3.out, h4.out, h5.out, h6.out, h7.out, h8.out, h9.out, h10.out, h11.out, h12.out, h13.out, h14.out, h15.out, h16.out, h17.out, h18.out, h19.out, h20.out⟩
  · obtain rfl := Option.some.inj ho
    simp [Region.binds] at hu hd
    clear hd
    refine wpOp_of rfl rfl ?_
    go_simp
    unfold tw5I
    exact .inr ⟨j0, j1, j2, true, j4, j5, j6, j7, j8, j9, j10, j11, j12, j13, j14, j15, j16, j17, j18, j19, j20, x0, x1, x2, _, x4, x5, x6, x7, x8, x9, x10, x11, x12, x13, x14, x15, x16, x17, x18, x19, x20, rfl, rfl, hB, h0.out, h1.out, h2.out, fun _ => rfl, h4.out, h5.out, h6.out, h7.out, h8.out, h9.out, h10.out, h11.out, h12.out, h13.out, h14.out, h15.out, h16.out, h17.out, h18.out, h19.out, h20.out⟩
  · obtain rfl := Option.some.inj ho
    simp [Region.binds] at hu hd
    have d2 : j2 = true := by simp [hd]
    have d3 : j3 = true := by simp [hd]
    have e2 := h2.out d2
    subst e2
    have e3 := h3.out d3
    subst e3
    subst d2
    subst d3
    clear hd
    refine wpOp_of rfl rfl ?_
    go_simp
    go_at_call 116
    refine (nk w.heap.size w (minus_nv' _ _ _ av xv HA HX (NA.below hB) (N7.below hB)) hB (Nat.le_refl _)).mono ?_
    rintro e w2 ⟨v', rfl, hn', hB2, hb2⟩
    unfold tw5I
    exact .inr ⟨j0, j1, true, true, true, j5, j6, j7, j8, j9, j10, j11, j12, j13, j14, j15, j16, j17, j18, j19, j20, x0, x1, _, _, _, x5, x6, x7, x8, x9, x10, x11, x12, x13, x14, x15, x16, x17, x18, x19, x20, rfl, rfl, hB2, h0.out, h1.out, h2.out, h3.out, fun _ => hn', fun hj => (h5.out hj).below hb2, fun hj => (h6.out hj).below hb2, h7.out, h8.out, fun hj => (h9.out hj).below hb2, fun hj => (h10.out hj).below hb2, fun hj => (h11.out hj).below hb2, h12.out, h13.out, h14.out, h15.out, fun hj => (h16.out hj).below hb2, h17.out, h18.out, fun hj => (h19.out hj).below hb2, h20.out⟩
  · obtain rfl := Option.some.inj ho
    simp [Region.binds] at hu hd
    have d1 : j1 = true := by simp [hd]
    have d4 : j4 = true := by simp [hd]
    have e1 := h1.out d1
    subst e1
    subst d1
    subst d4
    clear hd
    refine wpOp_of rfl rfl ?_
    go_simp
    go_at_call 117
    refine (nk w.heap.size w (times_nv _ _ _ bw (sj av xv) HBW (sj_b _ _) (NB.below hB) (h4.out rfl)) hB (Nat.le_refl _)).mono ?_
    rintro e w2 ⟨v', rfl, hn', hB2, hb2⟩
    unfold tw5I
    exact .inr ⟨j0, true, j2, j3, true, true, j6, j7, j8, j9, j10, j11, j12, j13, j14, j15, j16, j17, j18, j19, j20, x0, _, x2, x3, x4, _, x6, x7, x8, x9, x10, x11, x12, x13, x14, x15, x16, x17, x18, x19, x20, rfl, rfl, hB2, h0.out, h1.out, h2.out, h3.out, fun hj => (h4.out hj).below hb2, fun _ => hn', fun hj => (h6.out hj).below hb2, h7.out, h8.out, fun hj => (h9.out hj).below hb2, fun hj => (h10.out hj).below hb2, fun hj => (h11.out hj).below hb2, h12.out, h13.out, h14.out, h15.out, fun hj => (h16.out hj).below hb2, h17.out, h18.out, fun hj => (h19.out hj).below hb2, h20.out⟩
  · obtain rfl := Option.some.inj ho
    simp [Region.binds] at hu hd
    clear hd
    refine wpOp_of rfl rfl ?_
    have hb2 := al_below w' (.cells #[.int .u32 8] 111)
    have hn2 : NV _ _ (8) := (⟨[8], us_dr (l := [8]) (Go.heap_alloc_new w' _) (by decide), by unfold Dig; decide, by unfold Trim; decide, rfl⟩)
    have hB2 := hB.trans (hb2.mono hB.size)
    go_simp
    unfold tw5I
    exact .inr ⟨j0, j1, j2, j3, j4, j5, true, j7, j8, j9, j10, j11, j12, j13, j14, j15, j16, j17, j18, j19, j20, x0, x1, x2, x3, x4, x5, _, x7, x8, x9, x10, x11, x12, x13, x14, x15, x16, x17, x18, x19, x20, rfl, rfl, hB2, h0.out, h1.out, h2.out, h3.out, fun hj => (h4.out hj).below hb2, fun hj => (h5.out hj).below hb2, fun _ => hn2, h7.out, h8.out, fun hj => (h9.out hj).below hb2, fun hj => (h10.out hj).below hb2, fun hj => (h11.out hj).below hb2, h12.out, h13.out, h14.out, h15.out, fun hj => (h16.out hj).below hb2, h17.out, h18.out, fun hj => (h19.out hj).below hb2, h20.out⟩
  · obtain rfl := Option.some.inj ho
    simp [Region.binds] at hu hd
    clear hd
    refine wpOp_of rfl rfl ?_
    go_simp
    unfold tw5I
    exact .inr ⟨j0, j1, j2, j3, j4, j5, j6, true, j8, j9, j10, j11, j12, j13, j14, j15, j16, j17, j18, j19, j20, x0, x1, x2, x3, x4, x5, x6, _, x8, x9, x10, x11, x12, x13, x14, x15, x16, x17, x18, x19, x20, rfl, rfl, hB, h0.out, h1.out, h2.out, h3.out, h4.out, h5.out, h6.out, fun _ => rfl, h8.out, h9.out, h10.out, h11.out, h12.out, h13.out, h14.out, h15.out, h16.out, h17.out, h18.out, h19.out, h20.out⟩
  · obtain rfl := Option.some.inj ho
    simp [Region.binds] at hu hd
    clear hd
    refine wpOp_of rfl rfl ?_
    go_simp
    unfold tw5I
    exact .inr ⟨j0, j1, j2, j3, j4, j5, j6, j7, true, j9, j10, j11, j12, j13, j14, j15, j16, j17, j18, j19, j20, x0, x1, x2, x3, x4, x5, x6, x7, _, x9, x10, x11, x12, x13, x14, x15, x16, x17, x18, x19, x20, rfl, rfl, hB, h0.out, h1.out, h2.out, h3.out, h4.out, h5.out, h6.out, h7.out, fun _ => rfl, h9.out, h10.out, h11.out, h12.out, h13.out, h14.out, h15.out, h16.out, h17.out, h18.out, h19.out, h20.out⟩
  · obtain rfl := Option.some.inj ho
    simp [Region.binds] at hu hd
    have d5 : j5 = true := by simp [hd]
    have d7 : j7 = true := by simp [hd]
    have d8 : j8 = true := by simp [hd]
    have e7 := h7.out d7
    subst e7
    have e8 := h8.out d8
    subst e8
    subst d5
    subst d7
    subst d8
    clear hd
    refine wpOp_of rfl rfl ?_
    go_simp
    go_at_call 117
    refine (nk w.heap.size w (times_nv _ _ _ yy yy HYY HYY (NYY.below hB) (NYY.below hB)) hB (Nat.le_refl _)).mono ?_
    rintro e w2 ⟨v', rfl, hn', hB2, hb2⟩
    unfold tw5I
    exact .inr ⟨j0, j1, j2, j3, j4, true, j6, true, true, true, j10, j11, j12, j13, j14, j15, j16, j17, j18, j19, j20, x0, x1, x2, x3, x4, x5, x6, _, _, _, x10, x11, x12, x13, x14, x15, x16, x17, x18, x19, x20, rfl, rfl, hB2, h0.out, h1.out, h2.out, h3.out, fun hj => (h4.out hj).below hb2, fun hj => (h5.out hj).below hb2, fun hj => (h6.out hj).below hb2, h7.out, h8.out, fun _ => hn', fun hj => (h10.out hj).below hb2, fun hj => (h11.out hj).below hb2, h12.out, h13.out, h14.out, h15.out, fun hj => (h16.out hj).below hb2, h17.out, h18.out, fun hj => (h19.out hj).below hb2, h20.out⟩
  · obtain rfl := Option.some.inj ho
    simp [Region.binds] at hu hd
    have d6 : j6 = true := by simp [hd]
    have d9 : j9 = true := by simp [hd]
    subst d6
    subst d9
    clear hd
    refine wpOp_of rfl rfl ?_
    go_simp
    go_at_call 117
    refine (nk w.heap.size w (times_nv _ _ _ 8 (mj yy yy) (by decide +kernel) (mj_b _ _) (h6.out rfl) (h9.out rfl)) hB (Nat.le_refl _)).mono ?_
    rintro e w2 ⟨v', rfl, hn', hB2, hb2⟩
    unfold tw5I
    exact .inr ⟨j0, j1, j2, j3, j4, j5, true, j7, j8, true, true, j11, j12, j13, j14, j15, j16, j17, j18, j19, j20, x0, x1, x2, x3, x4, x5, x6, x7, x8, x9, _, x11, x12, x13, x14, x15, x16, x17, x18, x19, x20, rfl, rfl, hB2, h0.out, h1.out, h2.out, h3.out, fun hj => (h4.out hj).below hb2, fun hj => (h5.out hj).below hb2, fun hj => (h6.out hj).below hb2, h7.out, h8.out, fun hj => (h9.out hj).below hb2, fun _ => hn', fun hj => (h11.out hj).below hb2, h12.out, h13.out, h14.out, h15.out, fun hj => (h16.out hj).below hb2, h17.out, h18.out, fun hj => (h19.out hj).below hb2, h20.out⟩
  · obtain rfl := Option.some.inj ho
    simp [Region.binds] at hu hd
    have d5 : j5 = true := by simp [hd]
    have d10 : j10 = true := by simp [hd]
    subst d5
    subst d10
    clear hd
    refine wpOp_of rfl rfl ?_
    go_simp
    go_at_call 116
    refine (nk w.heap.size w (minus_nv' _ _ _ (mj bw (sj av xv)) (mj 8 (mj yy yy)) (mj_b _ _) (mj_b _ _) (h5.out rfl) (h10.out rfl)) hB (Nat.le_refl _)).mono ?_
    rintro e w2 ⟨v', rfl, hn', hB2, hb2⟩
    unfold tw5I
    exact .inr ⟨j0, j1, j2, j3, j4, true, j6, j7, j8, j9, true, true, j12, j13, j14, j15, j16, j17, j18, j19, j20, x0, x1, x2, x3, x4, x5, x6, x7, x8, x9, x10, _, x12, x13, x14, x15, x16, x17, x18, x19, x20, rfl, rfl, hB2, h0.out, h1.out, h2.out, h3.out, fun hj => (h4.out hj).below hb2, fun hj => (h5.out hj).below hb2, fun hj => (h6.out hj).below hb2, h7.out, h8.out, fun hj => (h9.out hj).below hb2, fun hj => (h10.out hj).below hb2, fun _ => hn', h12.out, h13.out, h14.out, h15.out, fun hj => (h16.out hj).below hb2, h17.out, h18.out, fun hj => (h19.out hj).below hb2, fun hj => absurd (h20.out hj).2.1 (by simp [hu])⟩
  · obtain rfl := Option.some.inj ho
    simp [Region.binds] at hu hd
    clear hd
    refine wpOp_of rfl rfl ?_
    go_simp
    unfold tw5I
    exact .inr ⟨j0, j1, j2, j3, j4, j5, j6, j7, j8, j9, j10, j11, true, j13, j14, j15, j16, j17, j18, j19, j20, x0, x1, x2, x3, x4, x5, x6, x7, x8, x9, x10, x11, _, x13, x14, x15, x16, x17, x18, x19, x20, rfl, rfl, hB, h0.out, h1.out, h2.out, h3.out, h4.out, h5.out, h6.out, h7.out, h8.out, h9.out, h10.out, h11.out, fun _ => rfl, h13.out, h14.out, h15.out, h16.out, h17.out, h18.out, h19.out, h20.out⟩
  · obtain rfl := Option.some.inj ho
    simp [Region.binds] at hu hd
    have d12 : j12 = true := by simp [hd]
    have e12 := h12.out d12
    subst e12
    subst d12
    clear hd
    refine wpOp_of rfl rfl ?_
    have i1 : w'.cell? ⟨gP, 1, none⟩ = some (.slice ay ny cy) := (KP.below hB).cell 1
    go_simp
    unfold tw5I
    exact .inr ⟨j0, j1, j2, j3, j4, j5, j6, j7, j8, j9, j10, j11, true, true, j14, j15, j16, j17, j18, j19, j20, x0, x1, x2, x3, x4, x5, x6, x7, x8, x9, x10, x11, _, _, x14, x15, x16, x17, x18, x19, x20, rfl, rfl, hB, h0.out, h1.out, h2.out, h3.out, h4.out, h5.out, h6.out, h7.out, h8.out, h9.out, h10.out, h11.out, h12.out, fun _ => rfl, h14.out, h15.out, h16.out, h17.out, h18.out, h19.out, h20.out⟩
  · obtain rfl := Option.some.inj ho
    simp [Region.binds] at hu hd
    clear hd
    refine wpOp_of rfl rfl ?_
    go_simp
    unfold tw5I
    exact .inr ⟨j0, j1, j2, j3, j4, j5, j6, j7, j8, j9, j10, j11, j12, j13, true, j15, j16, j17, j18, j19, j20, x0, x1, x2, x3, x4, x5, x6, x7, x8, x9, x10, x11, x12, x13, _, x15, x16, x17, x18, x19, x20, rfl, rfl, hB, h0.out, h1.out, h2.out, h3.out, h4.out, h5.out, h6.out, h7.out, h8.out, h9.out, h10.out, h11.out, h12.out, h13.out, fun _ => rfl, h15.out, h16.out, h17.out, h18.out, h19.out, h20.out⟩
  · obtain rfl := Option.some.inj ho
    simp [Region.binds] at hu hd
    have d14 : j14 = true := by simp [hd]
    have e14 := h14.out d14
    subst e14
    subst d14
    clear hd
    refine wpOp_of rfl rfl ?_
    have i1 : w'.cell? ⟨gP, 1, none⟩ = some (.slice ay ny cy) := (KP.below hB).cell 1
    go_simp
    unfold tw5I
    exact .inr ⟨j0, j1, j2, j3, j4, j5, j6, j7, j8, j9, j10, j11, j12, j13, true, true, j16, j17, j18, j19, j20, x0, x1, x2, x3, x4, x5, x6, x7, x8, x9, x10, x11, x12, x13, _, _, x16, x17, x18, x19, x20, rfl, rfl, hB, h0.out, h1.out, h2.out, h3.out, h4.out, h5.out, h6.out, h7.out, h8.out, h9.out, h10.out, h11.out, h12.out, h13.out, h14.out, fun _ => rfl, h16.out, h17.out, h18.out, h19.out, h20.out⟩
  · obtain rfl := Option.some.inj ho
    simp [Region.binds] at hu hd
    have d11 : j11 = true := by simp [hd]
    have d13 : j13 = true := by simp [hd]
    have d15 : j15 = true := by simp [hd]
    have e13 := h13.out d13
    subst e13
    have e15 := h15.out d15
    subst e15
    subst d11
    subst d13
    subst d15
    clear hd
    refine wpOp_of rfl rfl ?_
    go_simp
    go_at_call 115
    refine (nk w.heap.size w (plus_nv' _ _ _ ya ya HY HY (NY.below hB) (NY.below hB)) hB (Nat.le_refl _)).mono ?_
    rintro e w2 ⟨v', rfl, hn', hB2, hb2⟩
    unfold tw5I
    exact .inr ⟨j0, j1, j2, j3, j4, j5, j6, j7, j8, j9, j10, true, j12, true, j14, true, true, j17, j18, j19, j20, x0, x1, x2, x3, x4, x5, x6, x7, x8, x9, x10, x11, x12, _, x14, _, _, x17, x18, x19, x20, rfl, rfl, hB2, h0.out, h1.out, h2.out, h3.out, fun hj => (h4.out hj).below hb2, fun hj => (h5.out hj).below hb2, fun hj => (h6.out hj).below hb2, h7.out, h8.out, fun hj => (h9.out hj).below hb2, fun hj => (h10.out hj).below hb2, fun hj => (h11.out hj).below hb2, h12.out, h13.out, h14.out, h15.out, fun _ => hn', h17.out, h18.out, fun hj => (h19.out hj).below hb2, h20.out⟩
  · obtain rfl := Option.some.inj ho
    simp [Region.binds] at hu hd
    clear hd
    refine wpOp_of rfl rfl ?_
    go_simp
    unfold tw5I
    exact .inr ⟨j0, j1, j2, j3, j4, j5, j6, j7, j8, j9, j10, j11, j12, j13, j14, j15, j16, true, j18, j19, j20, x0, x1, x2, x3, x4, x5, x6, x7, x8, x9, x10, x11, x12, x13, x14, x15, x16, _, x18, x19, x20, rfl, rfl, hB, h0.out, h1.out, h2.out, h3.out, h4.out, h5.out, h6.out, h7.out, h8.out, h9.out, h10.out, h11.out, h12.out, h13.out, h14.out, h15.out, h16.out, fun _ => rfl, h18.out, h19.out, h20.out⟩
  · obtain rfl := Option.some.inj ho
    simp [Region.binds] at hu hd
    have d17 : j17 = true := by simp [hd]
    have e17 := h17.out d17
    subst e17
    subst d17
    clear hd
    refine wpOp_of rfl rfl ?_
    have i2 : w'.cell? ⟨gP, 2, none⟩ = some (.slice az nz cz) := (KP.below hB).cell 2
    go_simp
    unfold tw5I
    exact .inr ⟨j0, j1, j2, j3, j4, j5, j6, j7, j8, j9, j10, j11, j12, j13, j14, j15, j16, true, true, j19, j20, x0, x1, x2, x3, x4, x5, x6, x7, x8, x9, x10, x11, x12, x13, x14, x15, x16, _, _, x19, x20, rfl, rfl, hB, h0.out, h1.out, h2.out, h3.out, h4.out, h5.out, h6.out, h7.out, h8.out, h9.out, h10.out, h11.out, h12.out, h13.out, h14.out, h15.out, h16.out, h17.out, fun _ => rfl, h19.out, h20.out⟩
  · obtain rfl := Option.some.inj ho
    simp [Region.binds] at hu hd
    have d16 : j16 = true := by simp [hd]
    have d18 : j18 = true := by simp [hd]
    have e18 := h18.out d18
    subst e18
    subst d16
    subst d18
    clear hd
    refine wpOp_of rfl rfl ?_
    go_simp
    go_at_call 117
    refine (nk w.heap.size w (times_nv _ _ _ (aj ya ya) za (aj_b _ _) HZ (h16.out rfl) (NZ.below hB)) hB (Nat.le_refl _)).mono ?_
    rintro e w2 ⟨v', rfl, hn', hB2, hb2⟩
    unfold tw5I
    exact .inr ⟨j0, j1, j2, j3, j4, j5, j6, j7, j8, j9, j10, j11, j12, j13, j14, j15, true, j17, true, true, j20, x0, x1, x2, x3, x4, x5, x6, x7, x8, x9, x10, x11, x12, x13, x14, x15, x16, x17, _, _, x20, rfl, rfl, hB2, h0.out, h1.out, h2.out, h3.out, fun hj => (h4.out hj).below hb2, fun hj => (h5.out hj).below hb2, fun hj => (h6.out hj).below hb2, h7.out, h8.out, fun hj => (h9.out hj).below hb2, fun hj => (h10.out hj).below hb2, fun hj => (h11.out hj).below hb2, h12.out, h13.out, h14.out, h15.out, fun hj => (h16.out hj).below hb2, h17.out, h18.out, fun _ => hn', fun hj => absurd (h20.out hj).2.2 (by simp [hu])⟩
  · obtain rfl := Option.some.inj ho
    simp [Region.binds] at hu hd
    have d0 : j0 = true := by simp [hd]
    have d11 : j11 = true := by simp [hd]
    have d19 : j19 = true := by simp [hd]
    have e0 := h0.out d0
    subst e0
    subst d0
    subst d11
    subst d19
    clear hd
    refine wpOp_of rfl rfl ?_
    obtain ⟨sa11, sn11, sc11, es11⟩ := (h11.out rfl).shape
    subst es11
    obtain ⟨sa19, sn19, sc19, es19⟩ := (h19.out rfl).shape
    subst es19
    go_simp
    unfold tw5I
    exact .inr ⟨true, j1, j2, j3, j4, j5, j6, j7, j8, j9, j10, true, j12, j13, j14, j15, j16, j17, j18, true, true, _, x1, x2, x3, x4, x5, x6, x7, x8, x9, x10, _, x12, x13, x14, x15, x16, x17, x18, _, _, rfl, rfl, hB, h0.out, h1.out, h2.out, h3.out, h4.out, h5.out, h6.out, h7.out, h8.out, h9.out, h10.out, h11.out, h12.out, h13.out, h14.out, h15.out, h16.out, h17.out, h18.out, h19.out, fun _ => ⟨rfl, rfl, rfl⟩⟩
  · obtain rfl := Option.some.inj ho
    simp [Region.binds] at hu hd
    have d0 : j0 = true := by simp [hd]
    have d1 : j1 = true := by simp [hd]
    have d2 : j2 = true := by simp [hd]
    have d3 : j3 = true := by simp [hd]
    have d4 : j4 = true := by simp [hd]
    have d5 : j5 = true := by simp [hd]
    have d6 : j6 = true := by simp [hd]
    have d7 : j7 = true := by simp [hd]
    have d8 : j8 = true := by simp [hd]
    have d9 : j9 = true := by simp [hd]
    have d10 : j10 = true := by simp [hd]
    have d11 : j11 = true := by simp [hd]
    have d12 : j12 = true := by simp [hd]
    have d13 : j13 = true := by simp [hd]
    have d14 : j14 = true := by simp [hd]
    have d15 : j15 = true := by simp [hd]
    have d16 : j16 = true := by simp [hd]
    have d17 : j17 = true := by simp [hd]
    have d18 : j18 = true := by simp [hd]
    have d19 : j19 = true := by simp [hd]
    have d20 : j20 = true := by simp [hd]
    have e0 := h0.out d0
    subst e0
    have e1 := h1.out d1
    subst e1
    have e2 := h2.out d2
    subst e2
    have e3 := h3.out d3
    subst e3
    have e7 := h7.out d7
    subst e7
    have e8 := h8.out d8
    subst e8
    have e12 := h12.out d12
    subst e12
    have e13 := h13.out d13
    subst e13
    have e14 := h14.out d14
    subst e14
    have e15 := h15.out d15
    subst e15
    have e17 := h17.out d17
    subst e17
    have e18 := h18.out d18
    subst e18
    have e20 := (h20.out d20).1
    subst e20
    subst d0
    subst d1
    subst d2
    subst d3
    subst d4
    subst d5
    subst d6
    subst d7
    subst d8
    subst d9
    subst d10
    subst d11
    subst d12
    subst d13
    subst d14
    subst d15
    subst d16
    subst d17
    subst d18
    subst d19
    subst d20
    clear hd
    refine wpOp_of rfl rfl ?_
    obtain ⟨sa11, sn11, sc11, es11⟩ := (h11.out rfl).shape
    subst es11
    obtain ⟨sa19, sn19, sc19, es19⟩ := (h19.out rfl).shape
    subst es19
    have c0 := (KR.below hB).cell 0
    have f0 := (KR.below hB).fro 0
    have c1 := (KR.below hB).cell 1
    have f1 := (KR.below hB).fro 1
    have c2 := (KR.below hB).cell 2
    have f2 := (KR.below hB).fro 2
    go_simp
    unfold tw5I tw5F
    exact .inl ⟨rfl, _, _, _, _, x4, x5, x6, _, _, x9, x10, _, _, _, _, _, x16, _, _, _, _, _, rfl, hB, rfl, h11.out rfl, h19.out rfl⟩
set_option maxHeartbeats 16000000 in
theorem tw5_fin (gP gR ya za yy av bw xv n7 c7 : Nat) (nx cx ny cy nz cz : Nat) (ax ay az : Option Addr) (a7 : Option Addr) (vy va vb : Value) (w : World) {t0 t4 t8 t9 t10 t11 t12 t13 t14 t15 t16 t17 t18 t19 t20 t21 t22 t23 t24 t25 t26 t27 t28 t29 t30 t31 t32 t33 t34 t35 t36 t37 t38 t39 t40 t41 : Value} {ds : List Deferred} : ∀ l a w1, tw5I w gP gR ya za yy av bw xv n7 c7 nx cx ny cy nz cz ax ay az a7 vy va vb t0 t4 t8 t9 t10 t11 t12 t13 t14 t15 t16 t17 t18 t19 t20 t21 t22 t23 t24 t25 t26 t27 t28 t29 t30 t31 t32 t33 t34 t35 t36 t37 t38 t39 t40 t41 ds l a w1 → Region.ready .any tw5O l = [] → tw5F w gP gR ya za yy av bw xv n7 c7 nx cx ny cy nz cz ax ay az a7 vy va vb t0 t4 t8 t9 t10 t11 t12 t13 t14 t15 t16 t17 t18 t19 t20 t21 t22 t23 t24 t25 t26 t27 t28 t29 t30 t31 t32 t33 t34 t35 t36 t37 t38 t39 t40 t41 ds a w1 := by
  simp only [tw5O, findR, Tryz.f127, Option.bind_some, Option.or, Option.getD, Nat.reduceEqDiff, if_true, if_false, reduceIte]
  rintro l a w1 hI hr
  rcases hI with ⟨rfl, hF⟩ | hI
  · exact hF
  obtain ⟨j0, j1, j2, j3, j4, j5, j6, j7, j8, j9, j10, j11, j12, j13, j14, j15, j16, j17, j18, j19, j20, x0, x1, x2, x3, x4, x5, x6, x7, x8, x9, x10, x11, x12, x13, x14, x15, x16, x17, x18, x19, x20, rfl, rfl, hB, h0, h1, h2, h3, h4, h5, h6, h7, h8, h9, h10, h11, h12, h13, h14, h15, h16, h17, h18, h19, h20⟩ := hI
  have hn := fun i => List.eq_nil_iff_forall_not_mem.1 hr i
  clear hr
  cases j0; exact absurd (mem_ready.2 ⟨by simp, _, rfl, by simp [Region.binds]⟩) (hn 0)
  cases j1; exact absurd (mem_ready.2 ⟨by simp, _, rfl, by simp [Region.binds]⟩) (hn 1)
  cases j2; exact absurd (mem_ready.2 ⟨by simp, _, rfl, by simp [Region.binds]⟩) (hn 2)
  cases j3; exact absurd (mem_ready.2 ⟨by simp, _, rfl, by simp [Region.binds]⟩) (hn 3)
  cases j4; exact absurd (mem_ready.2 ⟨by simp, _, rfl, by simp [Region.binds]⟩) (hn 4)
  cases j5; exact absurd (mem_ready.2 ⟨by simp, _, rfl, by simp [Region.binds]⟩) (hn 5)
  cases j6; exact absurd (mem_ready.2 ⟨by simp, _, rfl, by simp [Region.binds]⟩) (hn 6)
  cases j7; exact absurd (mem_ready.2 ⟨by simp, _, rfl, by simp [Region.binds]⟩) (hn 7)
  cases j8; exact absurd (mem_ready.2 ⟨by simp, _, rfl, by simp [Region.binds]⟩) (hn 8)
  cases j9; exact absurd (mem_ready.2 ⟨by simp, _, rfl, by simp [Region.binds]⟩) (hn 9)
  cases j10; exact absurd (mem_ready.2 ⟨by simp, _, rfl, by simp [Region.binds]⟩) (hn 10)
  cases j11; exact absurd (mem_ready.2 ⟨by simp, _, rfl, by simp [Region.binds]⟩) (hn 11)
  cases j12; exact absurd (mem_ready.2 ⟨by simp, _, rfl, by simp [Region.binds]⟩) (hn 12)
  cases j13; exact absurd (mem_ready.2 ⟨by simp, _, rfl, by simp [Region.binds]⟩) (hn 13)
  cases j14; exact absurd (mem_ready.2 ⟨by simp, _, rfl, by simp [Region.binds]⟩) (hn 14)
  cases j15; exact absurd (mem_ready.2 ⟨by simp, _, rfl, by simp [Region.binds]⟩) (hn 15)
  cases j16; exact absurd (mem_ready.2 ⟨by simp, _, rfl, by simp [Region.binds]⟩) (hn 16)
  cases j17; exact absurd (mem_ready.2 ⟨by simp, _, rfl, by simp [Region.binds]⟩) (hn 17)
  cases j18; exact absurd (mem_ready.2 ⟨by simp, _, rfl, by simp [Region.binds]⟩) (hn 18)
  cases j19; exact absurd (mem_ready.2 ⟨by simp, _, rfl, by simp [Region.binds]⟩) (hn 19)
  cases j20; exact absurd (mem_ready.2 ⟨by simp, _, rfl, by simp [Region.binds]⟩) (hn 20)
  exact absurd (mem_ready.2 ⟨rfl, _, rfl, by simp [Region.binds]⟩) (hn 21)
theorem tw5 (gP gR ya za yy av bw xv n7 c7 : Nat) (nx cx ny cy nz cz : Nat) (ax ay az : Option Addr) (a7 : Option Addr) (vy va vb : Value) (w : World) (KP : Bk 150 w gP #[.slice ax nx cx, .slice ay ny cy, .slice az nz cz]) (KR : Bk 150 w gR #[.slice none 0 0, .slice none 0 0, .slice none 0 0]) (HY : ya < big) (HZ : za < big) (NY : NV w (.slice ay ny cy) ya) (NZ : NV w (.slice az nz cz) za) (HYY : yy < big) (HA : av < big) (HBW : bw < big) (HX : xv < big) (NYY : NV w vy yy) (NA : NV w va av) (NB : NV w vb bw) (N7 : NV w (.slice a7 n7 c7) xv) {t0 t4 t8 t9 t10 t11 t12 t13 t14 t15 t16 t17 t18 t19 t20 t21 t22 t23 t24 t25 t26 t27 t28 t29 t30 t31 t32 t33 t34 t35 t36 t37 t38 t39 t40 t41 t42 t43 t44 t45 t46 t47 t48 t49 t50 t51 t52 t53 t54 t55 t56 t57 t58 t59 t60 t61 t62 : Value} {ds : List Deferred} {K : Act → World → Prop} {Q : Exit → Act → World → Prop}
    (h : ∀ (y0 y1 y2 y3 y4 y5 y6 y7 y8 y9 y10 y11 y12 y13 y14 y15 y16 y17 y18 y19 y20 : Value) (w1 : World) (hb : Below w.heap.size w w1) (hn11 : NV w1 y11 (sj (mj bw (sj av xv)) (mj 8 (mj yy yy)))) (hn19 : NV w1 y19 (mj (aj ya ya) za)), K { tmps := #[t0, .pointer (some ⟨gP, 0, none⟩), .pointer (some ⟨gR, 0, none⟩), vy, t4, va, vb, .slice a7 n7 c7, t8, t9, t10, t11, t12, t13, t14, t15, t16, t17, t18, t19, t20, t21, t22, t23, t24, t25, t26, t27, t28, t29, t30, t31, t32, t33, t34, t35, t36, t37, t38, t39, t40, t41, y0, y1, y2, y3, y4, y5, y6, y7, y8, y9, y10, y11, y12, y13, y14, y15, y16, y17, y18, y19, y20], defers := ds } (World.setCell (World.setCell (World.setCell w1 ⟨gR, 0, none⟩ (.slice a7 n7 c7)) ⟨gR, 1, none⟩ (y11)) ⟨gR, 2, none⟩ (y19))) :
    (Code.region 5 tw5O true).wp Tryz.prog (Exit.then K Q) { tmps := #[t0, .pointer (some ⟨gP, 0, none⟩), .pointer (some ⟨gR, 0, none⟩), vy, t4, va, vb, .slice a7 n7 c7, t8, t9, t10, t11, t12, t13, t14, t15, t16, t17, t18, t19, t20, t21, t22, t23, t24, t25, t26, t27, t28, t29, t30, t31, t32, t33, t34, t35, t36, t37, t38, t39, t40, t41, t42, t43, t44, t45, t46, t47, t48, t49, t50, t51, t52, t53, t54, t55, t56, t57, t58, t59, t60, t61, t62], defers := ds } w := by
  have hsz : tw5O.size = 22 := by kernel_rfl
  refine wp_region_any (show Tryz.prog.follows .mixedOrders = true from by kernel_rfl) ?_
  rw [hsz]
  refine wpAny_inv (I := tw5I w gP gR ya za yy av bw xv n7 c7 nx cx ny cy nz cz ax ay az a7 vy va vb t0 t4 t8 t9 t10 t11 t12 t13 t14 t15 t16 t17 t18 t19 t20 t21 t22 t23 t24 t25 t26 t27 t28 t29 t30 t31 t32 t33 t34 t35 t36 t37 t38 t39 t40 t41 ds) (tw5_steps gP gR ya za yy av bw xv n7 c7 nx cx ny cy nz cz ax ay az a7 vy va vb w KP KR HY HZ NY NZ HYY HA HBW HX NYY NA NB N7) (fun l a w' hI hr => ?_) 22 _ _ _ (by decide) ?_
  · obtain ⟨y0, y1, y2, y3, y4, y5, y6, y7, y8, y9, y10, y11, y12, y13, y14, y15, y16, y17, y18, y19, y20, wm, rfl, hb, rfl, hn11, hn19⟩ := tw5_fin gP gR ya za yy av bw xv n7 c7 nx cx ny cy nz cz ax ay az a7 vy va vb w l a w' hI hr
    exact h _ _ _ _ _ _ _ _ _ _ _ _ _ _ _ _ _ _ _ _ _ _ hb hn11 hn19
  · exact .inr ⟨false, false, false, false, false, false, false, false, false, false, false, false, false, false, false, false, false, false, false, false, false, t42, t43, t44, t45, t46, t47, t48, t49, t50, t51, t52, t53, t54, t55, t56, t57, t58, t59, t60, t61, t62, rfl, rfl, ⟨rfl, rfl, rfl, Nat.le_refl _, fun _ _ => rfl⟩, (fun h => by cases h), (fun h => by cases h), (fun h => by cases h), (fun h => by cases h), (fun h => by cases h), (fun h => by cases h), (fun h => by cases h), (fun h => by cases h), (fun h => by cases h), (fun h => by cases h), (fun h => by cases h), (fun h => by cases h), (fun h => by cases h), (fun h => by cases h), (fun h => by cases h), (fun h => by cases h), (fun h => by cases h), (fun h => by cases h), (fun h => by cases h), (fun h => by cases h), (fun h => by cases h)⟩
def LR (w : World) (v : Value) (p : J) : Prop := ∃ ax nx cx ay ny cy az nz cz, v = .agg #[.slice ax nx cx, .slice ay ny cy, .slice az nz cz] ∧ NV w (.slice ax nx cx) p.x ∧ NV w (.slice ay ny cy) p.y ∧ NV w (.slice az nz cz) p.z
theorem LR.below {w w' : World} {v : Value} {p : J} (h : LR w v p) (hb : Below w.heap.size w w') : LR w' v p := by
  obtain ⟨ax, nx, cx, ay, ny, cy, az, nz, cz, h1, h2, h3, h4⟩ := h
  exact ⟨ax, nx, cx, ay, ny, cy, az, nz, cz, h1, h2.below hb, h3.below hb, h4.below hb⟩
theorem u101 : Tryz.prog.underlying 150 = some (.struct (Tryz.prog.fieldsOf 150)) := by kernel_rfl
theorem i101 : (Tryz.prog.info? 150).map (·.size) = some 3 := by kernel_rfl
theorem ret_cell101 {fn : Func} {R : Ending → World → Prop} {a : Act} {w : World} {p : Tmp} (h : fn.results = #[.cell p 150]) (g : Nat) (x y z : Value) (hp : a.tmps.getD p undef = .pointer (some ⟨g, 0, none⟩)) (hk : Bk 150 w g #[x, y, z]) (hd : a.defers = []) (hR : R (.returned (.agg #[x, y, z])) w) : bodyPost Tryz.prog fn R .ret a w :=
  bodyPost_ret (v := .agg #[x, y, z]) (results_cell_row h a.tmps w g 150 #[x, y, z] (0, 0) _ hp hk u101 rfl i101) hd hR
theorem no3s {ax ay az : Option Addr} {nx cx ny cy nz cz : Nat} : ∀ (i : Nat) (z : Int), (#[.slice ax nx cx, .slice ay ny cy, .slice az nz cz] : Array Value)[i]? ≠ some (Value.int .u32 z) := by
  intro i z
  rcases i with _ | _ | _ | i <;> simp
theorem put3s {w : World} {v : Value} {n g : Nat} {ax ay az : Option Addr} {nx cx ny cy nz cz : Nat} {d e f : Value} (h : NV w v n) (hk : Bk 150 w g #[.slice ax nx cx, .slice ay ny cy, .slice az nz cz]) : NV (((w.setCell ⟨g, 0, none⟩ d).setCell ⟨g, 1, none⟩ e).setCell ⟨g, 2, none⟩ f) v n :=
  h.except hk no3s (by simp) (fun g' hn => (heap_setCell_other _ _ _ _ hn).trans ((heap_setCell_other _ _ _ _ hn).trans (heap_setCell_other _ _ _ _ hn)))
theorem four_nv (w : World) : NV (w.alloc (.cells #[.int .u32 4] 111)) (.slice (some ⟨w.heap.size, 0, none⟩) 1 1) 4 :=
  ⟨[4], us_dr (l := [4]) (Go.heap_alloc_new w _) (by decide), by unfold Dig; decide, by unfold Trim; decide, rfl⟩
set_option maxHeartbeats 16000000 in
theorem twice7 (v : Value) (p : J) (hp : p.lt) (w : World) (h : LR w v p) : Calls Tryz.prog 127 #[v] w fun e w' => ∃ v', e = .returned v' ∧ LR w' v' (dblR p) ∧ Below w.heap.size w w' := by
  obtain ⟨xa, ya, za⟩ := p
  obtain ⟨ax, nx, cx, ay, ny, cy, az, nz, cz, rfl, hnx, hny, hnz⟩ := h
  have HBG : Hid (xa < big ∧ ya < big ∧ za < big) := Lib.hid ⟨mp_big hp.1, mp_big hp.2.1, mp_big hp.2.2⟩
  have NX := Lib.hid hnx
  have NY := Lib.hid hny
  have NZ := Lib.hid hnz
  have HE1 : Hid (dblA ⟨xa, ya, za⟩ = mj 4 (mj xa (mj ya ya))) := Lib.hid rfl
  have HE2 : Hid (dblB ⟨xa, ya, za⟩ = mj 3 (sj (mj xa xa) (mj (mj za za) (mj za za)))) := Lib.hid rfl
  have HE3 : Hid (dblX ⟨xa, ya, za⟩ = sj (mj (dblB ⟨xa, ya, za⟩) (dblB ⟨xa, ya, za⟩)) (aj (dblA ⟨xa, ya, za⟩) (dblA ⟨xa, ya, za⟩))) := Lib.hid rfl
  have HE4 : Hid (dblR ⟨xa, ya, za⟩ = ⟨dblX ⟨xa, ya, za⟩, sj (mj (dblB ⟨xa, ya, za⟩) (sj (dblA ⟨xa, ya, za⟩) (dblX ⟨xa, ya, za⟩))) (mj 8 (mj (mj ya ya) (mj ya ya))), mj (aj ya ya) za⟩) := Lib.hid rfl
  rw [HE4.out]
  clear hp hnx hny hnz HE4
  generalize dblX ⟨xa, ya, za⟩ = xv at *
  generalize dblA ⟨xa, ya, za⟩ = av at *
  generalize dblB ⟨xa, ya, za⟩ = bw at *
  have HAB : Hid (av < big ∧ bw < big ∧ xv < big) := Lib.hid ⟨by rw [HE1.out]; exact mj_b _ _, by rw [HE2.out]; exact mj_b _ _, by rw [HE3.out]; exact sj_b _ _⟩
  go_enter Tryz.func127, Tryz.ntmps127
  go_wp2_with fail
  have KP : Hid (Bk 150 ((w.alloc (.cells #[.slice ax nx cx, .slice ay ny cy, .slice az nz cz] 150)).alloc (.cells #[.slice none 0 0, .slice none 0 0, .slice none 0 0] 150)) w.heap.size #[.slice ax nx cx, .slice ay ny cy, .slice az nz cz]) := Lib.hid (Bk.alloc (Bk.new rfl))
  have KR : Hid (Bk 150 ((w.alloc (.cells #[.slice ax nx cx, .slice ay ny cy, .slice az nz cz] 150)).alloc (.cells #[.slice none 0 0, .slice none 0 0, .slice none 0 0] 150)) (w.heap.size + 1) #[.slice none 0 0, .slice none 0 0, .slice none 0 0]) := Lib.hid (Bk.new (by simp))
  have HB : Hid (Below w.heap.size w ((w.alloc (.cells #[.slice ax nx cx, .slice ay ny cy, .slice az nz cz] 150)).alloc (.cells #[.slice none 0 0, .slice none 0 0, .slice none 0 0] 150))) := Lib.hid (by go_grown)
  obtain ⟨gR, hgR⟩ : ∃ g, g = w.heap.size + 1 := ⟨_, rfl⟩
  rw [← hgR] at KR ⊢
  have HG := Lib.hid (show w.heap.size ≤ gR by omega)
  clear hgR
  generalize ((w.alloc (.cells #[.slice ax nx cx, .slice ay ny cy, .slice az nz cz] 150)).alloc (.cells #[.slice none 0 0, .slice none 0 0, .slice none 0 0] 150)) = w0 at KP KR HB ⊢
  replace NX := Lib.hid (NX.out.below HB.out)
  replace NY := Lib.hid (NY.out.below HB.out)
  replace NZ := Lib.hid (NZ.out.below HB.out)
  refine tw1 w.heap.size gR ya za nx cx ny cy nz cz ax ay az w0 KP.out HBG.out.2.1 HBG.out.2.2 NY.out NZ.out ?_
  intros
  rename_i vyy vzz w1 hb1 hn3 hn4
  have NYY := Lib.hid hn3
  have NZZ := Lib.hid hn4
  clear hn3 hn4
  replace KP := Lib.hid (KP.out.below hb1)
  replace KR := Lib.hid (KR.out.below hb1)
  replace NX := Lib.hid (NX.out.below hb1)
  replace NY := Lib.hid (NY.out.below hb1)
  replace NZ := Lib.hid (NZ.out.below hb1)
  replace HB := Lib.hid (HB.out.trans (hb1.mono HB.out.size))
  clear hb1
  obtain ⟨a0, a1, a2⟩ := Bk.cellsA3 KP.out
  go_wp2_with fail
  clear a0 a1 a2
  have NL := Lib.hid (four_nv w1)
  have hal := al_below w1 (.cells #[.int .u32 4] 111)
  replace KP := Lib.hid (KP.out.below hal)
  replace KR := Lib.hid (KR.out.below hal)
  replace NX := Lib.hid (NX.out.below hal)
  replace NY := Lib.hid (NY.out.below hal)
  replace NZ := Lib.hid (NZ.out.below hal)
  replace NYY := Lib.hid (NYY.out.below hal)
  replace NZZ := Lib.hid (NZZ.out.below hal)
  replace HB := Lib.hid (HB.out.trans (hal.mono HB.out.size))
  clear hal
  refine (nk w.heap.size w (times_nv _ _ _ xa (mj ya ya) HBG.out.1 (mj_b _ _) NX.out NYY.out) HB.out (Nat.le_refl _)).mono ?_
  rintro e w2 ⟨vq, rfl, hn, hb, hk⟩
  replace KP := Lib.hid (KP.out.below hk)
  replace KR := Lib.hid (KR.out.below hk)
  replace NX := Lib.hid (NX.out.below hk)
  replace NY := Lib.hid (NY.out.below hk)
  replace NZ := Lib.hid (NZ.out.below hk)
  replace NYY := Lib.hid (NYY.out.below hk)
  replace NZZ := Lib.hid (NZZ.out.below hk)
  replace NL := Lib.hid (NL.out.below hk)
  have NQ := Lib.hid hn
  replace HB := Lib.hid hb
  clear hn hb hk
  go_wp2_with fail
  refine (nk w.heap.size w (times_nv _ _ _ 4 (mj xa (mj ya ya)) (by decide +kernel) (mj_b _ _) NL.out NQ.out) HB.out (Nat.le_refl _)).mono ?_
  rintro e w3 ⟨va, rfl, hn, hb, hk⟩
  replace KP := Lib.hid (KP.out.below hk)
  replace KR := Lib.hid (KR.out.below hk)
  replace NX := Lib.hid (NX.out.below hk)
  replace NY := Lib.hid (NY.out.below hk)
  replace NZ := Lib.hid (NZ.out.below hk)
  replace NYY := Lib.hid (NYY.out.below hk)
  replace NZZ := Lib.hid (NZZ.out.below hk)
  replace NL := Lib.hid (NL.out.below hk)
  replace NQ := Lib.hid (NQ.out.below hk)
  have NA := Lib.hid hn
  replace HB := Lib.hid hb
  clear hn hb hk
  rw [← HE1.out] at NA
  clear NL NQ
  obtain ⟨a0, a1, a2⟩ := Bk.cellsA3 KP.out
  go_wp2_with fail
  clear a0 a1 a2
  have NL := Lib.hid (three_nv w3)
  have hal := al_below w3 (.cells #[.int .u32 3] 111)
  replace KP := Lib.hid (KP.out.below hal)
  replace KR := Lib.hid (KR.out.below hal)
  replace NX := Lib.hid (NX.out.below hal)
  replace NY := Lib.hid (NY.out.below hal)
  replace NZ := Lib.hid (NZ.out.below hal)
  replace NYY := Lib.hid (NYY.out.below hal)
  replace NZZ := Lib.hid (NZZ.out.below hal)
  replace NA := Lib.hid (NA.out.below hal)
  replace HB := Lib.hid (HB.out.trans (hal.mono HB.out.size))
  clear hal
  refine (nk w.heap.size w (times_nv _ _ _ xa xa HBG.out.1 HBG.out.1 NX.out NX.out) HB.out (Nat.le_refl _)).mono ?_
  rintro e w4 ⟨vq, rfl, hn, hb, hk⟩
  replace KP := Lib.hid (KP.out.below hk)
  replace KR := Lib.hid (KR.out.below hk)
  replace NX := Lib.hid (NX.out.below hk)
  replace NY := Lib.hid (NY.out.below hk)
  replace NZ := Lib.hid (NZ.out.below hk)
  replace NYY := Lib.hid (NYY.out.below hk)
  replace NZZ := Lib.hid (NZZ.out.below hk)
  replace NA := Lib.hid (NA.out.below hk)
  replace NL := Lib.hid (NL.out.below hk)
  have NQ := Lib.hid hn
  replace HB := Lib.hid hb
  clear hn hb hk
  go_wp2_with fail
  refine (nk w.heap.size w (times_nv _ _ _ (mj za za) (mj za za) (mj_b _ _) (mj_b _ _) NZZ.out NZZ.out) HB.out (Nat.le_refl _)).mono ?_
  rintro e w5 ⟨vr, rfl, hn, hb, hk⟩
  replace KP := Lib.hid (KP.out.below hk)
  replace KR := Lib.hid (KR.out.below hk)
  replace NX := Lib.hid (NX.out.below hk)
  replace NY := Lib.hid (NY.out.below hk)
  replace NZ := Lib.hid (NZ.out.below hk)
  replace NYY := Lib.hid (NYY.out.below hk)
  replace NZZ := Lib.hid (NZZ.out.below hk)
  replace NA := Lib.hid (NA.out.below hk)
  replace NL := Lib.hid (NL.out.below hk)
  replace NQ := Lib.hid (NQ.out.below hk)
  have NQ2 := Lib.hid hn
  replace HB := Lib.hid hb
  clear hn hb hk
  go_wp2_with fail
  refine (nk w.heap.size w (minus_nv' _ _ _ (mj xa xa) (mj (mj za za) (mj za za)) (mj_b _ _) (mj_b _ _) NQ.out NQ2.out) HB.out (Nat.le_refl _)).mono ?_
  rintro e w6 ⟨vs, rfl, hn, hb, hk⟩
  replace KP := Lib.hid (KP.out.below hk)
  replace KR := Lib.hid (KR.out.below hk)
  replace NX := Lib.hid (NX.out.below hk)
  replace NY := Lib.hid (NY.out.below hk)
  replace NZ := Lib.hid (NZ.out.below hk)
  replace NYY := Lib.hid (NYY.out.below hk)
  replace NZZ := Lib.hid (NZZ.out.below hk)
  replace NA := Lib.hid (NA.out.below hk)
  replace NL := Lib.hid (NL.out.below hk)
  replace NQ := Lib.hid (NQ.out.below hk)
  replace NQ2 := Lib.hid (NQ2.out.below hk)
  have NQ3 := Lib.hid hn
  replace HB := Lib.hid hb
  clear hn hb hk
  go_wp2_with fail
  refine (nk w.heap.size w (times_nv _ _ _ 3 (sj (mj xa xa) (mj (mj za za) (mj za za))) (by decide +kernel) (sj_b _ _) NL.out NQ3.out) HB.out (Nat.le_refl _)).mono ?_
  rintro e w7 ⟨vb, rfl, hn, hb, hk⟩
  replace KP := Lib.hid (KP.out.below hk)
  replace KR := Lib.hid (KR.out.below hk)
  replace NX := Lib.hid (NX.out.below hk)
  replace NY := Lib.hid (NY.out.below hk)
  replace NZ := Lib.hid (NZ.out.below hk)
  replace NYY := Lib.hid (NYY.out.below hk)
  replace NZZ := Lib.hid (NZZ.out.below hk)
  replace NA := Lib.hid (NA.out.below hk)
  replace NL := Lib.hid (NL.out.below hk)
  replace NQ := Lib.hid (NQ.out.below hk)
  replace NQ2 := Lib.hid (NQ2.out.below hk)
  replace NQ3 := Lib.hid (NQ3.out.below hk)
  have NBW := Lib.hid hn
  replace HB := Lib.hid hb
  clear hn hb hk
  rw [← HE2.out] at NBW
  clear NL NQ NQ2 NQ3
  go_wp2_with fail
  refine (nk w.heap.size w (times_nv _ _ _ bw bw HAB.out.2.1 HAB.out.2.1 NBW.out NBW.out) HB.out (Nat.le_refl _)).mono ?_
  rintro e w8 ⟨vq, rfl, hn, hb, hk⟩
  replace KP := Lib.hid (KP.out.below hk)
  replace KR := Lib.hid (KR.out.below hk)
  replace NX := Lib.hid (NX.out.below hk)
  replace NY := Lib.hid (NY.out.below hk)
  replace NZ := Lib.hid (NZ.out.below hk)
  replace NYY := Lib.hid (NYY.out.below hk)
  replace NZZ := Lib.hid (NZZ.out.below hk)
  replace NA := Lib.hid (NA.out.below hk)
  replace NBW := Lib.hid (NBW.out.below hk)
  have NQ := Lib.hid hn
  replace HB := Lib.hid hb
  clear hn hb hk
  go_wp2_with fail
  refine (nk w.heap.size w (plus_nv' _ _ _ av av HAB.out.1 HAB.out.1 NA.out NA.out) HB.out (Nat.le_refl _)).mono ?_
  rintro e w9 ⟨vr, rfl, hn, hb, hk⟩
  replace KP := Lib.hid (KP.out.below hk)
  replace KR := Lib.hid (KR.out.below hk)
  replace NX := Lib.hid (NX.out.below hk)
  replace NY := Lib.hid (NY.out.below hk)
  replace NZ := Lib.hid (NZ.out.below hk)
  replace NYY := Lib.hid (NYY.out.below hk)
  replace NZZ := Lib.hid (NZZ.out.below hk)
  replace NA := Lib.hid (NA.out.below hk)
  replace NBW := Lib.hid (NBW.out.below hk)
  replace NQ := Lib.hid (NQ.out.below hk)
  have NQ2 := Lib.hid hn
  replace HB := Lib.hid hb
  clear hn hb hk
  go_wp2_with fail
  refine (nk w.heap.size w (minus_nv' _ _ _ (mj bw bw) (aj av av) (mj_b _ _) (aj_b _ _) NQ.out NQ2.out) HB.out (Nat.le_refl _)).mono ?_
  rintro e w10 ⟨vx, rfl, hn, hb, hk⟩
  replace KP := Lib.hid (KP.out.below hk)
  replace KR := Lib.hid (KR.out.below hk)
  replace NX := Lib.hid (NX.out.below hk)
  replace NY := Lib.hid (NY.out.below hk)
  replace NZ := Lib.hid (NZ.out.below hk)
  replace NYY := Lib.hid (NYY.out.below hk)
  replace NZZ := Lib.hid (NZZ.out.below hk)
  replace NA := Lib.hid (NA.out.below hk)
  replace NBW := Lib.hid (NBW.out.below hk)
  replace NQ := Lib.hid (NQ.out.below hk)
  replace NQ2 := Lib.hid (NQ2.out.below hk)
  have NXV := Lib.hid hn
  replace HB := Lib.hid hb
  clear hn hb hk
  rw [← HE3.out] at NXV
  clear NQ NQ2
  obtain ⟨a7, n7, c7, rfl⟩ := NXV.out.shape
  go_wp2_with fail
  refine tw5 w.heap.size gR ya za (mj ya ya) av bw xv n7 c7 nx cx ny cy nz cz ax ay az a7 vyy va vb w10 KP.out KR.out HBG.out.2.1 HBG.out.2.2 NY.out NZ.out (mj_b _ _) HAB.out.1 HAB.out.2.1 HAB.out.2.2 NYY.out NA.out NBW.out NXV.out ?_
  intros
  rename_i y11 y12 y13 y14 y15 y16 y17 y18 y19 y20 wz hb1 hn11 hn19
  obtain ⟨a11, n11, c11, rfl⟩ := hn11.shape
  obtain ⟨a19, n19, c19, rfl⟩ := hn19.shape
  have K1 := Lib.hid (KR.out.below hb1)
  have HB1 := Lib.hid (HB.out.trans (hb1.mono HB.out.size))
  have HN := Lib.hid (And.intro (put3s (d := .slice a7 n7 c7) (e := .slice a11 n11 c11) (f := .slice a19 n19 c19) (NXV.out.below hb1) K1.out) (And.intro (put3s (d := .slice a7 n7 c7) (e := .slice a11 n11 c11) (f := .slice a19 n19 c19) hn11 K1.out) (put3s (d := .slice a7 n7 c7) (e := .slice a11 n11 c11) (f := .slice a19 n19 c19) hn19 K1.out)))
  clear hb1 hn11 hn19
  go_wp2_with fail
  refine ret_cell101 rfl gR (.slice a7 n7 c7) (.slice a11 n11 c11) (.slice a19 n19 c19) rfl (Bk.put3 K1.out) rfl ⟨_, rfl, ⟨_, _, _, _, _, _, _, _, _, rfl, HN.out.1, HN.out.2.1, HN.out.2.2⟩, ?_⟩
  have hb := HB1.out
  have hg := HG.out
  go_grown
end Go.Proofs.YtpggkfdijmnmiaaGreat.Ref
