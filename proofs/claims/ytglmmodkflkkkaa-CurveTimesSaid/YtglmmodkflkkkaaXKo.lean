import Derived.Test.YtglmmodkflkkkaaXKn
set_option linter.unusedVariables false
set_option linter.unusedSimpArgs false
set_option maxRecDepth 100000
namespace Go.Proofs.Ytglmmodkflkkkaa.Ref
open Go.RowKit Go.Proofs.Ytglmmodkflkkkaa.Digits Limbs Curve
set_option maxHeartbeats 16000000 in
theorem sum7_far (xa ya xb yb : Nat) (nx cx ny cy mx dx my dy : Nat) (ax ay bx bb : Option Addr) (hp : (Po.mk xa ya false).on = true) (hq : (Po.mk xb yb false).on = true) (w : World) (hn1 : NV w (.slice ax nx cx) xa) (hn2 : NV w (.slice ay ny cy) ya) (hm1 : NV w (.slice bx mx dx) xb) (hm2 : NV w (.slice bb my dy) yb) (hs : Po.same (Po.mk xa ya false) (Po.mk xb yb false).neg = true) : Calls Try.prog 49 #[.agg #[.bool false, .slice ax nx cx, .slice ay ny cy], .agg #[.bool false, .slice bx mx dx, .slice bb my dy]] w fun e w' => ∃ v', e = .returned v' ∧ RP w' v' ⟨0, 0, true⟩ ∧ Below w.heap.size w w' := by
  have HS := Lib.hid hs
  have NX := Lib.hid hn1
  have NY := Lib.hid hn2
  have MX := Lib.hid hm1
  have MY := Lib.hid hm2
  have HBG : Hid (xa < big ∧ ya < big ∧ xb < big ∧ yb < big) := Lib.hid ⟨mp_big (on_lt hp).1, mp_big (on_lt hp).2, mp_big (on_lt hq).1, mp_big (on_lt hq).2⟩
  clear hn1 hn2 hm1 hm2 hp hq
  clear hs
  go_enter Try.func49, Try.ntmps49
  go_wp2_with fail
  have KP : Hid (Bk 64 (((w.alloc (.cells #[.bool false, .slice ax nx cx, .slice ay ny cy] 64)).alloc (.cells #[.bool false, .slice bx mx dx, .slice bb my dy] 64)).alloc (.cells #[.bool false, .slice none 0 0, .slice none 0 0] 64)) w.heap.size #[.bool false, .slice ax nx cx, .slice ay ny cy]) := Lib.hid (Bk.alloc (Bk.alloc (Bk.new rfl)))
  have KQ : Hid (Bk 64 (((w.alloc (.cells #[.bool false, .slice ax nx cx, .slice ay ny cy] 64)).alloc (.cells #[.bool false, .slice bx mx dx, .slice bb my dy] 64)).alloc (.cells #[.bool false, .slice none 0 0, .slice none 0 0] 64)) (w.heap.size + 1) #[.bool false, .slice bx mx dx, .slice bb my dy]) := Lib.hid (Bk.alloc (Bk.new (by simp)))
  have KR : Hid (Bk 64 (((w.alloc (.cells #[.bool false, .slice ax nx cx, .slice ay ny cy] 64)).alloc (.cells #[.bool false, .slice bx mx dx, .slice bb my dy] 64)).alloc (.cells #[.bool false, .slice none 0 0, .slice none 0 0] 64)) (w.heap.size + 1 + 1) #[.bool false, .slice none 0 0, .slice none 0 0]) := Lib.hid (Bk.new (by simp))
  have HB : Hid (Below w.heap.size w (((w.alloc (.cells #[.bool false, .slice ax nx cx, .slice ay ny cy] 64)).alloc (.cells #[.bool false, .slice bx mx dx, .slice bb my dy] 64)).alloc (.cells #[.bool false, .slice none 0 0, .slice none 0 0] 64))) := Lib.hid (by go_grown)
  obtain ⟨gQ, hgQ⟩ : ∃ g, g = w.heap.size + 1 := ⟨_, rfl⟩
  rw [← hgQ] at KQ KR ⊢
  obtain ⟨gR, hgR⟩ : ∃ g, g = gQ + 1 := ⟨_, rfl⟩
  rw [← hgR] at KR ⊢
  have HG := Lib.hid (show w.heap.size ≤ gR by omega)
  clear hgR hgQ
  generalize (((w.alloc (.cells #[.bool false, .slice ax nx cx, .slice ay ny cy] 64)).alloc (.cells #[.bool false, .slice bx mx dx, .slice bb my dy] 64)).alloc (.cells #[.bool false, .slice none 0 0, .slice none 0 0] 64)) = w0 at KP KQ KR HB ⊢
  replace NX := Lib.hid (NX.out.below HB.out)
  replace NY := Lib.hid (NY.out.below HB.out)
  replace MX := Lib.hid (MX.out.below HB.out)
  replace MY := Lib.hid (MY.out.below HB.out)
  obtain ⟨a0, a1, a2⟩ := Bk.cells3 KP.out
  obtain ⟨b0, b1, b2⟩ := Bk.cells3 KQ.out
  go_wp2_with fail
  clear a0 a1 a2 b0 b1 b2
  refine su5 w.heap.size gQ gR xa ya xb yb nx cx ny cy mx dx my dy ax ay bx bb w0 KP.out KQ.out HBG.out.2.2.2 ⟨_, _, _, _, _, _, rfl, fun _ => ⟨NX.out, NY.out⟩⟩ ⟨_, _, _, _, _, _, rfl, fun _ => ⟨MX.out, MY.out⟩⟩ ?_
  intros
  rename_i w1 hb1
  rw [HS.out]
  replace KP := Lib.hid (KP.out.below hb1)
  replace KQ := Lib.hid (KQ.out.below hb1)
  replace KR := Lib.hid (KR.out.below hb1)
  replace HB := Lib.hid (HB.out.trans (hb1.mono HB.out.size))
  clear hb1
  obtain ⟨c0, c1, c2⟩ := Bk.cells3 KR.out
  obtain ⟨f0, f1, f2⟩ := Bk.fros3 KR.out
  go_wp2_with fail
  refine ret_cell64 rfl gR (.bool true) (.slice none 0 0) (.slice none 0 0) rfl (Bk.put3 KR.out) rfl ⟨_, rfl, ⟨_, _, _, _, _, _, rfl, fun h => by cases h⟩, ?_⟩
  have hb := HB.out
  have hg := HG.out
  go_grown
set_option maxHeartbeats 16000000 in
theorem sum7_two (xa ya xb yb up dn s : Nat) (nx cx ny cy mx dx my dy : Nat) (ax ay bx bb : Option Addr) (hp : (Po.mk xa ya false).on = true) (hq : (Po.mk xb yb false).on = true) (w : World) (hn1 : NV w (.slice ax nx cx) xa) (hn2 : NV w (.slice ay ny cy) ya) (hm1 : NV w (.slice bx mx dx) xb) (hm2 : NV w (.slice bb my dy) yb) (hs : Po.same (Po.mk xa ya false) (Po.mk xb yb false).neg = false) (hs2 : Po.same (Po.mk xa ya false) (Po.mk xb yb false) = false) (hup : up = sj yb ya) (hdn : dn = sj xb xa) (hd0 : dn % mP ≠ 0) (hsl : s = mj up (iN dn)) : Calls Try.prog 49 #[.agg #[.bool false, .slice ax nx cx, .slice ay ny cy], .agg #[.bool false, .slice bx mx dx, .slice bb my dy]] w fun e w' => ∃ v', e = .returned v' ∧ RP w' v' ⟨sj (sj (mj s s) xa) xb, sj (mj s (sj xa (sj (sj (mj s s) xa) xb))) ya, false⟩ ∧ Below w.heap.size w w' := by
  have HS := Lib.hid hs
  have HS2 := Lib.hid hs2
  have HU := Lib.hid hup
  have HD := Lib.hid hdn
  have HSL := Lib.hid hsl
  have HDN : Hid (dn < big ∧ dn % mP ≠ 0) := Lib.hid ⟨by rw [hdn]; exact sj_b _ _, hd0⟩
  have HUP : Hid (up < big) := Lib.hid (by rw [hup]; exact sj_b _ _)
  have HSB : Hid (s < big) := Lib.hid (by rw [hsl]; exact mj_b _ _)
  clear hs2 hup hdn hd0 hsl
  have NX := Lib.hid hn1
  have NY := Lib.hid hn2
  have MX := Lib.hid hm1
  have MY := Lib.hid hm2
  have HBG : Hid (xa < big ∧ ya < big ∧ xb < big ∧ yb < big) := Lib.hid ⟨mp_big (on_lt hp).1, mp_big (on_lt hp).2, mp_big (on_lt hq).1, mp_big (on_lt hq).2⟩
  clear hn1 hn2 hm1 hm2 hp hq
  clear hs
  go_enter Try.func49, Try.ntmps49
  go_wp2_with fail
  have KP : Hid (Bk 64 (((w.alloc (.cells #[.bool false, .slice ax nx cx, .slice ay ny cy] 64)).alloc (.cells #[.bool false, .slice bx mx dx, .slice bb my dy] 64)).alloc (.cells #[.bool false, .slice none 0 0, .slice none 0 0] 64)) w.heap.size #[.bool false, .slice ax nx cx, .slice ay ny cy]) := Lib.hid (Bk.alloc (Bk.alloc (Bk.new rfl)))
  have KQ : Hid (Bk 64 (((w.alloc (.cells #[.bool false, .slice ax nx cx, .slice ay ny cy] 64)).alloc (.cells #[.bool false, .slice bx mx dx, .slice bb my dy] 64)).alloc (.cells #[.bool false, .slice none 0 0, .slice none 0 0] 64)) (w.heap.size + 1) #[.bool false, .slice bx mx dx, .slice bb my dy]) := Lib.hid (Bk.alloc (Bk.new (by simp)))
  have KR : Hid (Bk 64 (((w.alloc (.cells #[.bool false, .slice ax nx cx, .slice ay ny cy] 64)).alloc (.cells #[.bool false, .slice bx mx dx, .slice bb my dy] 64)).alloc (.cells #[.bool false, .slice none 0 0, .slice none 0 0] 64)) (w.heap.size + 1 + 1) #[.bool false, .slice none 0 0, .slice none 0 0]) := Lib.hid (Bk.new (by simp))
  have HB : Hid (Below w.heap.size w (((w.alloc (.cells #[.bool false, .slice ax nx cx, .slice ay ny cy] 64)).alloc (.cells #[.bool false, .slice bx mx dx, .slice bb my dy] 64)).alloc (.cells #[.bool false, .slice none 0 0, .slice none 0 0] 64))) := Lib.hid (by go_grown)
  obtain ⟨gQ, hgQ⟩ : ∃ g, g = w.heap.size + 1 := ⟨_, rfl⟩
  rw [← hgQ] at KQ KR ⊢
  obtain ⟨gR, hgR⟩ : ∃ g, g = gQ + 1 := ⟨_, rfl⟩
  rw [← hgR] at KR ⊢
  have HG := Lib.hid (show w.heap.size ≤ gR by omega)
  clear hgR hgQ
  generalize (((w.alloc (.cells #[.bool false, .slice ax nx cx, .slice ay ny cy] 64)).alloc (.cells #[.bool false, .slice bx mx dx, .slice bb my dy] 64)).alloc (.cells #[.bool false, .slice none 0 0, .slice none 0 0] 64)) = w0 at KP KQ KR HB ⊢
  replace NX := Lib.hid (NX.out.below HB.out)
  replace NY := Lib.hid (NY.out.below HB.out)
  replace MX := Lib.hid (MX.out.below HB.out)
  replace MY := Lib.hid (MY.out.below HB.out)
  obtain ⟨a0, a1, a2⟩ := Bk.cells3 KP.out
  obtain ⟨b0, b1, b2⟩ := Bk.cells3 KQ.out
  go_wp2_with fail
  clear a0 a1 a2 b0 b1 b2
  refine su5 w.heap.size gQ gR xa ya xb yb nx cx ny cy mx dx my dy ax ay bx bb w0 KP.out KQ.out HBG.out.2.2.2 ⟨_, _, _, _, _, _, rfl, fun _ => ⟨NX.out, NY.out⟩⟩ ⟨_, _, _, _, _, _, rfl, fun _ => ⟨MX.out, MY.out⟩⟩ ?_
  intros
  rename_i w1 hb1
  rw [HS.out]
  replace KP := Lib.hid (KP.out.below hb1)
  replace KQ := Lib.hid (KQ.out.below hb1)
  replace KR := Lib.hid (KR.out.below hb1)
  replace NX := Lib.hid (NX.out.below hb1)
  replace NY := Lib.hid (NY.out.below hb1)
  replace MX := Lib.hid (MX.out.below hb1)
  replace MY := Lib.hid (MY.out.below hb1)
  replace HB := Lib.hid (HB.out.trans (hb1.mono HB.out.size))
  clear hb1
  go_wp2_with fail
  refine su7 w.heap.size gQ gR xa ya xb yb nx cx ny cy mx dx my dy ax ay bx bb w1 KP.out KQ.out HBG.out.1 HBG.out.2.1 HBG.out.2.2.1 HBG.out.2.2.2 NX.out NY.out MX.out MY.out ?_
  intros
  rename_i vu vd w2 hb1 hnu hnd
  have NU := Lib.hid hnu
  have ND := Lib.hid hnd
  clear hnu hnd
  replace KP := Lib.hid (KP.out.below hb1)
  replace KQ := Lib.hid (KQ.out.below hb1)
  replace KR := Lib.hid (KR.out.below hb1)
  replace NX := Lib.hid (NX.out.below hb1)
  replace NY := Lib.hid (NY.out.below hb1)
  replace MX := Lib.hid (MX.out.below hb1)
  replace MY := Lib.hid (MY.out.below hb1)
  replace HB := Lib.hid (HB.out.trans (hb1.mono HB.out.size))
  clear hb1
  obtain ⟨a0, a1, a2⟩ := Bk.cells3 KP.out
  obtain ⟨b0, b1, b2⟩ := Bk.cells3 KQ.out
  go_wp2_with fail
  clear a0 a1 a2 b0 b1 b2
  refine (keep w.heap.size w (same7 _ _ (Po.mk xa ya false) (Po.mk xb yb false) _ ⟨_, _, _, _, _, _, rfl, fun _ => ⟨NX.out, NY.out⟩⟩ ⟨_, _, _, _, _, _, rfl, fun _ => ⟨MX.out, MY.out⟩⟩) HB.out (Nat.le_refl _)).mono ?_
  rintro e w3 ⟨rfl, hb, hk⟩
  replace KP := Lib.hid (KP.out.below hk)
  replace KQ := Lib.hid (KQ.out.below hk)
  replace KR := Lib.hid (KR.out.below hk)
  replace NX := Lib.hid (NX.out.below hk)
  replace NY := Lib.hid (NY.out.below hk)
  replace MX := Lib.hid (MX.out.below hk)
  replace MY := Lib.hid (MY.out.below hk)
  replace NU := Lib.hid (NU.out.below hk)
  replace ND := Lib.hid (ND.out.below hk)
  replace HB := Lib.hid hb
  clear hb hk
  rw [HS2.out]
  rw [← HU.out] at NU
  rw [← HD.out] at ND
  go_wp2_with fail
  refine (nk w.heap.size w (inv_c _ _ dn HDN.out.1 HDN.out.2 ND.out) HB.out (Nat.le_refl _)).mono ?_
  rintro e w4 ⟨vi, rfl, hn, hb, hk⟩
  replace KP := Lib.hid (KP.out.below hk)
  replace KQ := Lib.hid (KQ.out.below hk)
  replace KR := Lib.hid (KR.out.below hk)
  replace NX := Lib.hid (NX.out.below hk)
  replace NY := Lib.hid (NY.out.below hk)
  replace MX := Lib.hid (MX.out.below hk)
  replace MY := Lib.hid (MY.out.below hk)
  replace NU := Lib.hid (NU.out.below hk)
  replace ND := Lib.hid (ND.out.below hk)
  have NI := Lib.hid hn
  replace HB := Lib.hid hb
  clear hn hb hk
  go_wp2_with fail
  refine (nk w.heap.size w (times_nv _ _ _ up (iN dn) HUP.out (mp_big (Nat.mod_lt _ (by decide +kernel))) NU.out NI.out) HB.out (Nat.le_refl _)).mono ?_
  rintro e w5 ⟨vs, rfl, hn, hb, hk⟩
  replace KP := Lib.hid (KP.out.below hk)
  replace KQ := Lib.hid (KQ.out.below hk)
  replace KR := Lib.hid (KR.out.below hk)
  replace NX := Lib.hid (NX.out.below hk)
  replace NY := Lib.hid (NY.out.below hk)
  replace MX := Lib.hid (MX.out.below hk)
  replace MY := Lib.hid (MY.out.below hk)
  replace NU := Lib.hid (NU.out.below hk)
  replace ND := Lib.hid (ND.out.below hk)
  replace NI := Lib.hid (NI.out.below hk)
  have NS := Lib.hid hn
  replace HB := Lib.hid hb
  clear hn hb hk
  rw [← HSL.out] at NS
  clear NU ND NI
  go_wp2_with fail
  refine su12 w.heap.size gQ gR xa xb s (.slice ay ny cy) (.slice bb my dy) nx cx mx dx ax bx vs w5 KP.out KQ.out HBG.out.1 HBG.out.2.2.1 HSB.out NX.out MX.out NS.out ?_
  intros
  rename_i v8 w12 hb1 hn8
  obtain ⟨a8, n8, c8, rfl⟩ := hn8.shape
  have N8 := Lib.hid hn8
  clear hn8
  replace KP := Lib.hid (KP.out.below hb1)
  replace KQ := Lib.hid (KQ.out.below hb1)
  replace KR := Lib.hid (KR.out.below hb1)
  replace NX := Lib.hid (NX.out.below hb1)
  replace NY := Lib.hid (NY.out.below hb1)
  replace MX := Lib.hid (MX.out.below hb1)
  replace MY := Lib.hid (MY.out.below hb1)
  replace NS := Lib.hid (NS.out.below hb1)
  replace HB := Lib.hid (HB.out.trans (hb1.mono HB.out.size))
  clear hb1
  go_wp2_with fail
  refine su13 w.heap.size gR xa ya s (sj (sj (mj s s) xa) xb) nx cx ny cy n8 c8 ax ay a8 vs w12 KP.out KR.out HBG.out.1 HBG.out.2.1 HSB.out (sj_b _ _) NX.out NY.out NS.out N8.out ?_
  intros
  rename_i v9 v10 w13 hb1 hn9
  obtain ⟨a9, n9, c9, rfl⟩ := hn9.shape
  have N9 := Lib.hid hn9
  clear hn9
  replace KP := Lib.hid (KP.out.below hb1)
  replace KQ := Lib.hid (KQ.out.below hb1)
  replace KR := Lib.hid (KR.out.below hb1)
  replace N8 := Lib.hid (N8.out.below hb1)
  replace HB := Lib.hid (HB.out.trans (hb1.mono HB.out.size))
  clear hb1
  have HN := Lib.hid (And.intro (put3_ex (d := .bool false) (e := .slice a8 n8 c8) (f := .slice a9 n9 c9) N8.out KR.out) (put3_ex (d := .bool false) (e := .slice a8 n8 c8) (f := .slice a9 n9 c9) N9.out KR.out))
  go_wp2_with fail
  refine ret_cell64 rfl gR (.bool false) (.slice a8 n8 c8) (.slice a9 n9 c9) rfl (Bk.put3 KR.out) rfl ⟨_, rfl, ⟨_, _, _, _, _, _, rfl, fun _ => HN.out⟩, ?_⟩
  have hb := HB.out
  have hg := HG.out
  go_grown
end Go.Proofs.Ytglmmodkflkkkaa.Ref
