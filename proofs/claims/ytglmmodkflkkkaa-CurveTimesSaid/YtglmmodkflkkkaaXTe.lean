import Derived.Test.YtglmmodkflkkkaaXTc
import Derived.Test.YtglmmodkflkkkaaXTd
set_option linter.unusedVariables false
set_option linter.unusedSimpArgs false
set_option maxRecDepth 100000
namespace Go.Proofs.Ytglmmodkflkkkaa.Ref
open Go.RowKit Go.Proofs.Ytglmmodkflkkkaa.Digits Limbs Curve
theorem ret_cell101e {fn : Func} {R : Ending → World → Prop} {a : Act} {w : World} {p u : Tmp} (h : fn.results = #[.cell p 101, .tmp u]) (g : Nat) (x y z v : Value) (hp : a.tmps.getD p undef = .pointer (some ⟨g, 0, none⟩)) (hy : a.tmps.getD u undef = v) (hk : Bk 101 w g #[x, y, z]) (hd : a.defers = []) (hR : R (.returned (.tuple #[.agg #[x, y, z], v])) w) : bodyPost Try.prog fn R .ret a w := by
  subst hy
  refine bodyPost_ret (v := .tuple #[.agg #[x, y, z], a.tmps.getD u undef]) ?_ hd hR
  rw [results_cell_tmp h, hp]
  show ((loadVar 101 ⟨g, 0, none⟩).run Try.prog w).andThen _ = _
  rw [run_loadVar_row w g 101 101 #[x, y, z] (0, 0) _ hk u101 rfl i101]
  rfl
set_option maxHeartbeats 16000000 in
theorem more_no (hh : Nat) (xa ya za xb yb : Nat) (nx cx ny cy nz cz mx dx my dy : Nat) (ax ay az bx bb : Option Addr) (HBG : Hid (xa < big ∧ ya < big ∧ za < big ∧ xb < big ∧ yb < big)) (w : World) (hnx : NV w (.slice ax nx cx) xa) (hny : NV w (.slice ay ny cy) ya) (hnz : NV w (.slice az nz cz) za) (hmx : NV w (.slice bx mx dx) xb) (hmy : NV w (.slice bb my dy) yb) (HEH : Hid (hh = sj (mj xb (mj za za)) xa)) (h0 : hh = 0) : Calls Try.prog 85 #[.agg #[.slice ax nx cx, .slice ay ny cy, .slice az nz cz], .agg #[.bool false, .slice bx mx dx, .slice bb my dy]] w fun e w' => e = .returned (.tuple #[.agg #[.slice none 0 0, .slice none 0 0, .slice none 0 0], .bool false]) ∧ Below w.heap.size w w' := by
  have H0 := Lib.hid h0
  clear h0
  have NX := Lib.hid hnx
  have NY := Lib.hid hny
  have NZ := Lib.hid hnz
  have MX := Lib.hid hmx
  have MY := Lib.hid hmy
  clear hnx hny hnz hmx hmy
  go_enter Try.func85, Try.ntmps85
  go_wp2_with fail
  have KP : Hid (Bk 101 (((w.alloc (.cells #[.slice ax nx cx, .slice ay ny cy, .slice az nz cz] 101)).alloc (.cells #[.bool false, .slice bx mx dx, .slice bb my dy] 64)).alloc (.cells #[.slice none 0 0, .slice none 0 0, .slice none 0 0] 101)) w.heap.size #[.slice ax nx cx, .slice ay ny cy, .slice az nz cz]) := Lib.hid (Bk.alloc (Bk.alloc (Bk.new rfl)))
  have KQ : Hid (Bk 64 (((w.alloc (.cells #[.slice ax nx cx, .slice ay ny cy, .slice az nz cz] 101)).alloc (.cells #[.bool false, .slice bx mx dx, .slice bb my dy] 64)).alloc (.cells #[.slice none 0 0, .slice none 0 0, .slice none 0 0] 101)) (w.heap.size + 1) #[.bool false, .slice bx mx dx, .slice bb my dy]) := Lib.hid (Bk.alloc (Bk.new (by simp)))
  have KR : Hid (Bk 101 (((w.alloc (.cells #[.slice ax nx cx, .slice ay ny cy, .slice az nz cz] 101)).alloc (.cells #[.bool false, .slice bx mx dx, .slice bb my dy] 64)).alloc (.cells #[.slice none 0 0, .slice none 0 0, .slice none 0 0] 101)) (w.heap.size + 1 + 1) #[.slice none 0 0, .slice none 0 0, .slice none 0 0]) := Lib.hid (Bk.new (by simp))
  have HB : Hid (Below w.heap.size w (((w.alloc (.cells #[.slice ax nx cx, .slice ay ny cy, .slice az nz cz] 101)).alloc (.cells #[.bool false, .slice bx mx dx, .slice bb my dy] 64)).alloc (.cells #[.slice none 0 0, .slice none 0 0, .slice none 0 0] 101))) := Lib.hid (by go_grown)
  obtain ⟨gQ, hgQ⟩ : ∃ g, g = w.heap.size + 1 := ⟨_, rfl⟩
  rw [← hgQ] at KQ KR ⊢
  obtain ⟨gR, hgR⟩ : ∃ g, g = gQ + 1 := ⟨_, rfl⟩
  rw [← hgR] at KR ⊢
  have HG := Lib.hid (show w.heap.size ≤ gR by omega)
  clear hgR hgQ
  generalize (((w.alloc (.cells #[.slice ax nx cx, .slice ay ny cy, .slice az nz cz] 101)).alloc (.cells #[.bool false, .slice bx mx dx, .slice bb my dy] 64)).alloc (.cells #[.slice none 0 0, .slice none 0 0, .slice none 0 0] 101)) = w0 at KP KQ KR HB ⊢
  replace NX := Lib.hid (NX.out.below HB.out)
  replace NY := Lib.hid (NY.out.below HB.out)
  replace NZ := Lib.hid (NZ.out.below HB.out)
  replace MX := Lib.hid (MX.out.below HB.out)
  replace MY := Lib.hid (MY.out.below HB.out)
  obtain ⟨a0, a1, a2⟩ := Bk.cells3 KP.out
  go_wp2_with fail
  clear a0 a1 a2
  refine (nk w.heap.size w (times_nv _ _ _ za za HBG.out.2.2.1 HBG.out.2.2.1 NZ.out NZ.out) HB.out (Nat.le_refl _)).mono ?_
  rintro e w1 ⟨vz, rfl, hn, hb, hk⟩
  replace KP := Lib.hid (KP.out.below hk)
  replace KQ := Lib.hid (KQ.out.below hk)
  replace KR := Lib.hid (KR.out.below hk)
  replace NX := Lib.hid (NX.out.below hk)
  replace NY := Lib.hid (NY.out.below hk)
  replace NZ := Lib.hid (NZ.out.below hk)
  replace MX := Lib.hid (MX.out.below hk)
  replace MY := Lib.hid (MY.out.below hk)
  have NZZ := Lib.hid hn
  replace HB := Lib.hid hb
  clear hn hb hk
  go_wp2_with fail
  refine mo2 w.heap.size gQ gR xa xb (mj za za) nx cx ny cy nz cz mx dx my dy ax ay az bx bb vz w1 KP.out KQ.out HBG.out.1 HBG.out.2.2.2.1 (mj_b _ _) NX.out MX.out NZZ.out ?_
  intros
  rename_i vh w2 hb1 hnh
  have NH := Lib.hid hnh
  clear hnh
  rw [← HEH.out] at NH
  replace KP := Lib.hid (KP.out.below hb1)
  replace KQ := Lib.hid (KQ.out.below hb1)
  replace KR := Lib.hid (KR.out.below hb1)
  replace NX := Lib.hid (NX.out.below hb1)
  replace NY := Lib.hid (NY.out.below hb1)
  replace NZ := Lib.hid (NZ.out.below hb1)
  replace MX := Lib.hid (MX.out.below hb1)
  replace MY := Lib.hid (MY.out.below hb1)
  replace NZZ := Lib.hid (NZZ.out.below hb1)
  replace HB := Lib.hid (HB.out.trans (hb1.mono HB.out.size))
  clear hb1
  obtain ⟨ah, nh, ch, rfl⟩ := NH.out.shape
  have hl := len_nv NH.out
  have hn0 : nh = 0 := by
    rcases Nat.eq_zero_or_pos nh with h | h
    · exact h
    · exact absurd H0.out (hl.2.1 h)
  subst hn0
  clear hl
  obtain ⟨c0, c1, c2⟩ := Bk.cells3 KR.out
  obtain ⟨f0, f1, f2⟩ := Bk.fros3 KR.out
  go_wp2_with fail
  refine ret_cell101e rfl gR (.slice none 0 0) (.slice none 0 0) (.slice none 0 0) (.bool false) rfl rfl (Bk.put3 KR.out) rfl ⟨rfl, ?_⟩
  have hb := HB.out
  have hg := HG.out
  go_grown
set_option maxHeartbeats 16000000 in
theorem more_yes (hh rr xv : Nat) (xa ya za xb yb : Nat) (nx cx ny cy nz cz mx dx my dy : Nat) (ax ay az bx bb : Option Addr) (HBG : Hid (xa < big ∧ ya < big ∧ za < big ∧ xb < big ∧ yb < big)) (w : World) (hnx : NV w (.slice ax nx cx) xa) (hny : NV w (.slice ay ny cy) ya) (hnz : NV w (.slice az nz cz) za) (hmx : NV w (.slice bx mx dx) xb) (hmy : NV w (.slice bb my dy) yb) (HEH : Hid (hh = sj (mj xb (mj za za)) xa)) (HER : Hid (rr = sj (mj yb (mj (mj za za) za)) ya)) (HEX : Hid (xv = sj (sj (mj rr rr) (mj hh (mj hh hh))) (aj (mj xa (mj hh hh)) (mj xa (mj hh hh))))) (h0 : hh ≠ 0) : Calls Try.prog 85 #[.agg #[.slice ax nx cx, .slice ay ny cy, .slice az nz cz], .agg #[.bool false, .slice bx mx dx, .slice bb my dy]] w fun e w' => ∃ v', e = .returned (.tuple #[v', .bool true]) ∧ LR w' v' ⟨xv, sj (mj rr (sj (mj xa (mj hh hh)) xv)) (mj ya (mj hh (mj hh hh))), mj za hh⟩ ∧ Below w.heap.size w w' := by
  have H0 := Lib.hid h0
  have HHB : Hid (hh < big ∧ rr < big ∧ xv < big) := Lib.hid ⟨by rw [HEH.out]; exact sj_b _ _, by rw [HER.out]; exact sj_b _ _, by rw [HEX.out]; exact sj_b _ _⟩
  clear h0
  have NX := Lib.hid hnx
  have NY := Lib.hid hny
  have NZ := Lib.hid hnz
  have MX := Lib.hid hmx
  have MY := Lib.hid hmy
  clear hnx hny hnz hmx hmy
  go_enter Try.func85, Try.ntmps85
  go_wp2_with fail
  have KP : Hid (Bk 101 (((w.alloc (.cells #[.slice ax nx cx, .slice ay ny cy, .slice az nz cz] 101)).alloc (.cells #[.bool false, .slice bx mx dx, .slice bb my dy] 64)).alloc (.cells #[.slice none 0 0, .slice none 0 0, .slice none 0 0] 101)) w.heap.size #[.slice ax nx cx, .slice ay ny cy, .slice az nz cz]) := Lib.hid (Bk.alloc (Bk.alloc (Bk.new rfl)))
  have KQ : Hid (Bk 64 (((w.alloc (.cells #[.slice ax nx cx, .slice ay ny cy, .slice az nz cz] 101)).alloc (.cells #[.bool false, .slice bx mx dx, .slice bb my dy] 64)).alloc (.cells #[.slice none 0 0, .slice none 0 0, .slice none 0 0] 101)) (w.heap.size + 1) #[.bool false, .slice bx mx dx, .slice bb my dy]) := Lib.hid (Bk.alloc (Bk.new (by simp)))
  have KR : Hid (Bk 101 (((w.alloc (.cells #[.slice ax nx cx, .slice ay ny cy, .slice az nz cz] 101)).alloc (.cells #[.bool false, .slice bx mx dx, .slice bb my dy] 64)).alloc (.cells #[.slice none 0 0, .slice none 0 0, .slice none 0 0] 101)) (w.heap.size + 1 + 1) #[.slice none 0 0, .slice none 0 0, .slice none 0 0]) := Lib.hid (Bk.new (by simp))
  have HB : Hid (Below w.heap.size w (((w.alloc (.cells #[.slice ax nx cx, .slice ay ny cy, .slice az nz cz] 101)).alloc (.cells #[.bool false, .slice bx mx dx, .slice bb my dy] 64)).alloc (.cells #[.slice none 0 0, .slice none 0 0, .slice none 0 0] 101))) := Lib.hid (by go_grown)
  obtain ⟨gQ, hgQ⟩ : ∃ g, g = w.heap.size + 1 := ⟨_, rfl⟩
  rw [← hgQ] at KQ KR ⊢
  obtain ⟨gR, hgR⟩ : ∃ g, g = gQ + 1 := ⟨_, rfl⟩
  rw [← hgR] at KR ⊢
  have HG := Lib.hid (show w.heap.size ≤ gR by omega)
  clear hgR hgQ
  generalize (((w.alloc (.cells #[.slice ax nx cx, .slice ay ny cy, .slice az nz cz] 101)).alloc (.cells #[.bool false, .slice bx mx dx, .slice bb my dy] 64)).alloc (.cells #[.slice none 0 0, .slice none 0 0, .slice none 0 0] 101)) = w0 at KP KQ KR HB ⊢
  replace NX := Lib.hid (NX.out.below HB.out)
  replace NY := Lib.hid (NY.out.below HB.out)
  replace NZ := Lib.hid (NZ.out.below HB.out)
  replace MX := Lib.hid (MX.out.below HB.out)
  replace MY := Lib.hid (MY.out.below HB.out)
  obtain ⟨a0, a1, a2⟩ := Bk.cells3 KP.out
  go_wp2_with fail
  clear a0 a1 a2
  refine (nk w.heap.size w (times_nv _ _ _ za za HBG.out.2.2.1 HBG.out.2.2.1 NZ.out NZ.out) HB.out (Nat.le_refl _)).mono ?_
  rintro e w1 ⟨vz, rfl, hn, hb, hk⟩
  replace KP := Lib.hid (KP.out.below hk)
  replace KQ := Lib.hid (KQ.out.below hk)
  replace KR := Lib.hid (KR.out.below hk)
  replace NX := Lib.hid (NX.out.below hk)
  replace NY := Lib.hid (NY.out.below hk)
  replace NZ := Lib.hid (NZ.out.below hk)
  replace MX := Lib.hid (MX.out.below hk)
  replace MY := Lib.hid (MY.out.below hk)
  have NZZ := Lib.hid hn
  replace HB := Lib.hid hb
  clear hn hb hk
  go_wp2_with fail
  refine mo2 w.heap.size gQ gR xa xb (mj za za) nx cx ny cy nz cz mx dx my dy ax ay az bx bb vz w1 KP.out KQ.out HBG.out.1 HBG.out.2.2.2.1 (mj_b _ _) NX.out MX.out NZZ.out ?_
  intros
  rename_i vh w2 hb1 hnh
  have NH := Lib.hid hnh
  clear hnh
  rw [← HEH.out] at NH
  replace KP := Lib.hid (KP.out.below hb1)
  replace KQ := Lib.hid (KQ.out.below hb1)
  replace KR := Lib.hid (KR.out.below hb1)
  replace NX := Lib.hid (NX.out.below hb1)
  replace NY := Lib.hid (NY.out.below hb1)
  replace NZ := Lib.hid (NZ.out.below hb1)
  replace MX := Lib.hid (MX.out.below hb1)
  replace MY := Lib.hid (MY.out.below hb1)
  replace NZZ := Lib.hid (NZZ.out.below hb1)
  replace HB := Lib.hid (HB.out.trans (hb1.mono HB.out.size))
  clear hb1
  obtain ⟨ah, nh, ch, rfl⟩ := NH.out.shape
  have hl := len_nv NH.out
  obtain ⟨m, rfl⟩ : ∃ m, nh = m + 1 := ⟨nh - 1, by have := hl.2.2 H0.out; omega⟩
  clear hl
  go_wp2_with fail
  refine mo5 w.heap.size gQ gR ya za yb (mj za za) nx cx ny cy nz cz mx dx my dy ax ay az bx bb vz (.slice ah (m + 1) ch) w2 KP.out KQ.out HBG.out.2.1 HBG.out.2.2.1 HBG.out.2.2.2.2 (mj_b _ _) NY.out NZ.out MY.out NZZ.out ?_
  intros
  rename_i vr w3 hb1 hnr
  have NR := Lib.hid hnr
  clear hnr
  rw [← HER.out] at NR
  replace KP := Lib.hid (KP.out.below hb1)
  replace KQ := Lib.hid (KQ.out.below hb1)
  replace KR := Lib.hid (KR.out.below hb1)
  replace NX := Lib.hid (NX.out.below hb1)
  replace NY := Lib.hid (NY.out.below hb1)
  replace NZ := Lib.hid (NZ.out.below hb1)
  replace MX := Lib.hid (MX.out.below hb1)
  replace MY := Lib.hid (MY.out.below hb1)
  replace NZZ := Lib.hid (NZZ.out.below hb1)
  replace NH := Lib.hid (NH.out.below hb1)
  replace HB := Lib.hid (HB.out.trans (hb1.mono HB.out.size))
  clear hb1
  go_wp2_with fail
  refine (nk w.heap.size w (times_nv _ _ _ hh hh HHB.out.1 HHB.out.1 NH.out NH.out) HB.out (Nat.le_refl _)).mono ?_
  rintro e w4 ⟨vk, rfl, hn, hb, hk⟩
  replace KP := Lib.hid (KP.out.below hk)
  replace KQ := Lib.hid (KQ.out.below hk)
  replace KR := Lib.hid (KR.out.below hk)
  replace NX := Lib.hid (NX.out.below hk)
  replace NY := Lib.hid (NY.out.below hk)
  replace NZ := Lib.hid (NZ.out.below hk)
  replace MX := Lib.hid (MX.out.below hk)
  replace MY := Lib.hid (MY.out.below hk)
  replace NZZ := Lib.hid (NZZ.out.below hk)
  replace NH := Lib.hid (NH.out.below hk)
  replace NR := Lib.hid (NR.out.below hk)
  have NK := Lib.hid hn
  replace HB := Lib.hid hb
  clear hn hb hk
  go_wp2_with fail
  refine mo7 w.heap.size gQ gR xa hh (mj hh hh) nx cx ny cy nz cz mx dx my dy ax ay az bx bb vz (.slice ah (m + 1) ch) vr vk w4 KP.out HBG.out.1 HHB.out.1 (mj_b _ _) NX.out NH.out NK.out ?_
  intros
  rename_i vc vv w5 hb1 hnc hnv
  have NC := Lib.hid hnc
  have NW := Lib.hid hnv
  clear hnc hnv
  replace KP := Lib.hid (KP.out.below hb1)
  replace KQ := Lib.hid (KQ.out.below hb1)
  replace KR := Lib.hid (KR.out.below hb1)
  replace NX := Lib.hid (NX.out.below hb1)
  replace NY := Lib.hid (NY.out.below hb1)
  replace NZ := Lib.hid (NZ.out.below hb1)
  replace MX := Lib.hid (MX.out.below hb1)
  replace MY := Lib.hid (MY.out.below hb1)
  replace NZZ := Lib.hid (NZZ.out.below hb1)
  replace NH := Lib.hid (NH.out.below hb1)
  replace NR := Lib.hid (NR.out.below hb1)
  replace NK := Lib.hid (NK.out.below hb1)
  replace HB := Lib.hid (HB.out.trans (hb1.mono HB.out.size))
  clear hb1
  go_wp2_with fail
  refine (nk w.heap.size w (times_nv _ _ _ rr rr HHB.out.2.1 HHB.out.2.1 NR.out NR.out) HB.out (Nat.le_refl _)).mono ?_
  rintro e w6 ⟨va1, rfl, hn, hb, hk⟩
  replace KP := Lib.hid (KP.out.below hk)
  replace KQ := Lib.hid (KQ.out.below hk)
  replace KR := Lib.hid (KR.out.below hk)
  replace NX := Lib.hid (NX.out.below hk)
  replace NY := Lib.hid (NY.out.below hk)
  replace NZ := Lib.hid (NZ.out.below hk)
  replace MX := Lib.hid (MX.out.below hk)
  replace MY := Lib.hid (MY.out.below hk)
  replace NZZ := Lib.hid (NZZ.out.below hk)
  replace NH := Lib.hid (NH.out.below hk)
  replace NR := Lib.hid (NR.out.below hk)
  replace NK := Lib.hid (NK.out.below hk)
  replace NC := Lib.hid (NC.out.below hk)
  replace NW := Lib.hid (NW.out.below hk)
  have NA1 := Lib.hid hn
  replace HB := Lib.hid hb
  clear hn hb hk
  go_wp2_with fail
  refine (nk w.heap.size w (minus_nv' _ _ _ (mj rr rr) (mj hh (mj hh hh)) (mj_b _ _) (mj_b _ _) NA1.out NC.out) HB.out (Nat.le_refl _)).mono ?_
  rintro e w7 ⟨va2, rfl, hn, hb, hk⟩
  replace KP := Lib.hid (KP.out.below hk)
  replace KQ := Lib.hid (KQ.out.below hk)
  replace KR := Lib.hid (KR.out.below hk)
  replace NX := Lib.hid (NX.out.below hk)
  replace NY := Lib.hid (NY.out.below hk)
  replace NZ := Lib.hid (NZ.out.below hk)
  replace MX := Lib.hid (MX.out.below hk)
  replace MY := Lib.hid (MY.out.below hk)
  replace NZZ := Lib.hid (NZZ.out.below hk)
  replace NH := Lib.hid (NH.out.below hk)
  replace NR := Lib.hid (NR.out.below hk)
  replace NK := Lib.hid (NK.out.below hk)
  replace NC := Lib.hid (NC.out.below hk)
  replace NW := Lib.hid (NW.out.below hk)
  replace NA1 := Lib.hid (NA1.out.below hk)
  have NA2 := Lib.hid hn
  replace HB := Lib.hid hb
  clear hn hb hk
  go_wp2_with fail
  refine (nk w.heap.size w (plus_nv' _ _ _ (mj xa (mj hh hh)) (mj xa (mj hh hh)) (mj_b _ _) (mj_b _ _) NW.out NW.out) HB.out (Nat.le_refl _)).mono ?_
  rintro e w8 ⟨va3, rfl, hn, hb, hk⟩
  replace KP := Lib.hid (KP.out.below hk)
  replace KQ := Lib.hid (KQ.out.below hk)
  replace KR := Lib.hid (KR.out.below hk)
  replace NX := Lib.hid (NX.out.below hk)
  replace NY := Lib.hid (NY.out.below hk)
  replace NZ := Lib.hid (NZ.out.below hk)
  replace MX := Lib.hid (MX.out.below hk)
  replace MY := Lib.hid (MY.out.below hk)
  replace NZZ := Lib.hid (NZZ.out.below hk)
  replace NH := Lib.hid (NH.out.below hk)
  replace NR := Lib.hid (NR.out.below hk)
  replace NK := Lib.hid (NK.out.below hk)
  replace NC := Lib.hid (NC.out.below hk)
  replace NW := Lib.hid (NW.out.below hk)
  replace NA1 := Lib.hid (NA1.out.below hk)
  replace NA2 := Lib.hid (NA2.out.below hk)
  have NA3 := Lib.hid hn
  replace HB := Lib.hid hb
  clear hn hb hk
  go_wp2_with fail
  refine (nk w.heap.size w (minus_nv' _ _ _ (sj (mj rr rr) (mj hh (mj hh hh))) (aj (mj xa (mj hh hh)) (mj xa (mj hh hh))) (sj_b _ _) (aj_b _ _) NA2.out NA3.out) HB.out (Nat.le_refl _)).mono ?_
  rintro e w9 ⟨vx, rfl, hn, hb, hk⟩
  replace KP := Lib.hid (KP.out.below hk)
  replace KQ := Lib.hid (KQ.out.below hk)
  replace KR := Lib.hid (KR.out.below hk)
  replace NX := Lib.hid (NX.out.below hk)
  replace NY := Lib.hid (NY.out.below hk)
  replace NZ := Lib.hid (NZ.out.below hk)
  replace MX := Lib.hid (MX.out.below hk)
  replace MY := Lib.hid (MY.out.below hk)
  replace NZZ := Lib.hid (NZZ.out.below hk)
  replace NH := Lib.hid (NH.out.below hk)
  replace NR := Lib.hid (NR.out.below hk)
  replace NK := Lib.hid (NK.out.below hk)
  replace NC := Lib.hid (NC.out.below hk)
  replace NW := Lib.hid (NW.out.below hk)
  replace NA1 := Lib.hid (NA1.out.below hk)
  replace NA2 := Lib.hid (NA2.out.below hk)
  replace NA3 := Lib.hid (NA3.out.below hk)
  have NXV := Lib.hid hn
  replace HB := Lib.hid hb
  clear hn hb hk
  rw [← HEX.out] at NXV
  clear NA1 NA2 NA3
  obtain ⟨a7, n7, c7, rfl⟩ := NXV.out.shape
  go_wp2_with fail
  refine mo9 w.heap.size gR ya za hh rr (mj hh (mj hh hh)) (mj xa (mj hh hh)) xv n7 c7 nx cx ny cy nz cz ax ay az a7 (.slice ah (m + 1) ch) vr vc vv w9 KP.out KR.out HBG.out.2.1 HBG.out.2.2.1 HHB.out.1 HHB.out.2.1 (mj_b _ _) (mj_b _ _) HHB.out.2.2 NY.out NZ.out NH.out NR.out NC.out NW.out NXV.out ?_
  intros
  rename_i y10 y11 y12 y13 y14 y15 wz hb1 hn10 hn14
  obtain ⟨a10, n10, c10, rfl⟩ := hn10.shape
  obtain ⟨a14, n14, c14, rfl⟩ := hn14.shape
  have K1 := Lib.hid (KR.out.below hb1)
  have HB1 := Lib.hid (HB.out.trans (hb1.mono HB.out.size))
  have HN := Lib.hid (And.intro (put3s (d := .slice a7 n7 c7) (e := .slice a10 n10 c10) (f := .slice a14 n14 c14) (NXV.out.below hb1) K1.out) (And.intro (put3s (d := .slice a7 n7 c7) (e := .slice a10 n10 c10) (f := .slice a14 n14 c14) hn10 K1.out) (put3s (d := .slice a7 n7 c7) (e := .slice a10 n10 c10) (f := .slice a14 n14 c14) hn14 K1.out)))
  clear hb1 hn10 hn14
  go_wp2_with fail
  refine ret_cell101e rfl gR (.slice a7 n7 c7) (.slice a10 n10 c10) (.slice a14 n14 c14) (.bool true) rfl rfl (Bk.put3 K1.out) rfl ⟨_, rfl, ⟨_, _, _, _, _, _, _, _, _, rfl, HN.out.1, HN.out.2.1, HN.out.2.2⟩, ?_⟩
  have hb := HB1.out
  have hg := HG.out
  go_grown
end Go.Proofs.Ytglmmodkflkkkaa.Ref
