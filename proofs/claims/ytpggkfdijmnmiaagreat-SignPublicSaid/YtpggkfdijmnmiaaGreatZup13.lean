/- The reference's sum of a point under way and a point: the walk. Condition: its numbers are below P. A multiple of a point, bit by bit, as the reference tells it. Condition: a point of the curve; the number is below 65536 to the 120. The reference's Fast: what its loop keeps, and its drawn region. Condition: points of the curve. The reference's Fast: what its loop keeps. Condition: points of the cu -/
import Derived.Test.YtpggkfdijmnmiaaGreatZup12
import Derived.Test.YtpggkfdijmnmiaaGreatZup11
import Derived.Test.YtpggkfdijmnmiaaGreatZup02
import Derived.StillTail
import Derived.Test.YtpggkfdijmnmiaaGreatZup08
import Derived.Test.YtpggkfdijmnmiaaGreatZup07
import Derived.Test.YtpggkfdijmnmiaaGreatZup04
import Derived.Lib.AppendZeros
set_option linter.unusedVariables false
set_option linter.unusedSimpArgs false
set_option maxRecDepth 100000
namespace Go.Proofs.YtpggkfdijmnmiaaGreat.Ref
open Go.RowKit Go.Proofs.YtpggkfdijmnmiaaGreat.Digits Limbs Curve
theorem ret_cell101e {fn : Func} {R : Ending → World → Prop} {a : Act} {w : World} {p u : Tmp} (h : fn.results = #[.cell p 150, .tmp u]) (g : Nat) (x y z v : Value) (hp : a.tmps.getD p undef = .pointer (some ⟨g, 0, none⟩)) (hy : a.tmps.getD u undef = v) (hk : Bk 150 w g #[x, y, z]) (hd : a.defers = []) (hR : R (.returned (.tuple #[.agg #[x, y, z], v])) w) : bodyPost Tryz.prog fn R .ret a w := by
  subst hy
  refine bodyPost_ret (v := .tuple #[.agg #[x, y, z], a.tmps.getD u undef]) ?_ hd hR
  rw [results_cell_tmp h, hp]
  show ((loadVar 150 ⟨g, 0, none⟩).run Tryz.prog w).andThen _ = _
  rw [run_loadVar_row w g 150 150 #[x, y, z] (0, 0) _ hk u101 rfl i101]
  rfl
set_option maxHeartbeats 16000000 in
theorem more_no (hh : Nat) (xa ya za xb yb : Nat) (nx cx ny cy nz cz mx dx my dy : Nat) (ax ay az bx bb : Option Addr) (HBG : Hid (xa < big ∧ ya < big ∧ za < big ∧ xb < big ∧ yb < big)) (w : World) (hnx : NV w (.slice ax nx cx) xa) (hny : NV w (.slice ay ny cy) ya) (hnz : NV w (.slice az nz cz) za) (hmx : NV w (.slice bx mx dx) xb) (hmy : NV w (.slice bb my dy) yb) (HEH : Hid (hh = sj (mj xb (mj za za)) xa)) (h0 : hh = 0) : Calls Tryz.prog 128 #[.agg #[.slice ax nx cx, .slice ay ny cy, .slice az nz cz], .agg #[.bool false, .slice bx mx dx, .slice bb my dy]] w fun e w' => e = .returned (.tuple #[.agg #[.slice none 0 0, .slice none 0 0, .slice none 0 0], .bool false]) ∧ Below w.heap.size w w' := by
  have H0 := Lib.hid h0
  clear h0
  have NX := Lib.hid hnx
  have NY := Lib.hid hny
  have NZ := Lib.hid hnz
  have MX := Lib.hid hmx
  have MY := Lib.hid hmy
  clear hnx hny hnz hmx hmy
  go_enter Tryz.func128, Tryz.ntmps128
  go_wp2_with fail
  have KP : Hid (Bk 150 (((w.alloc (.cells #[.slice ax nx cx, .slice ay ny cy, .slice az nz cz] 150)).alloc (.cells #[.bool false, .slice bx mx dx, .slice bb my dy] 72)).alloc (.cells #[.slice none 0 0, .slice none 0 0, .slice none 0 0] 150)) w.heap.size #[.slice ax nx cx, .slice ay ny cy, .slice az nz cz]) := Lib.hid (Bk.alloc (Bk.alloc (Bk.new rfl)))
  have KQ : Hid (Bk 72 (((w.alloc (.cells #[.slice ax nx cx, .slice ay ny cy, .slice az nz cz] 150)).alloc (.cells #[.bool false, .slice bx mx dx, .slice bb my dy] 72)).alloc (.cells #[.slice none 0 0, .slice none 0 0, .slice none 0 0] 150)) (w.heap.size + 1) #[.bool false, .slice bx mx dx, .slice bb my dy]) := Lib.hid (Bk.alloc (Bk.new (by simp)))
  have KR : Hid (Bk 150 (((w.alloc (.cells #[.slice ax nx cx, .slice ay ny cy, .slice az nz cz] 150)).alloc (.cells #[.bool false, .slice bx mx dx, .slice bb my dy] 72)).alloc (.cells #[.slice none 0 0, .slice none 0 0, .slice none 0 0] 150)) (w.heap.size + 1 + 1) #[.slice none 0 0, .slice none 0 0, .slice none 0 0]) := Lib.hid (Bk.new (by simp))
  have HB : Hid (Below w.heap.size w (((w.alloc (.cells #[.slice ax nx cx, .slice ay ny cy, .slice az nz cz] 150)).alloc (.cells #[.bool false, .slice bx mx dx, .slice bb my dy] 72)).alloc (.cells #[.slice none 0 0, .slice none 0 0, .slice none 0 0] 150))) := Lib.hid (by go_grown)
  obtain ⟨gQ, hgQ⟩ : ∃ g, g = w.heap.size + 1 := ⟨_, rfl⟩
  rw [← hgQ] at KQ KR ⊢
  obtain ⟨gR, hgR⟩ : ∃ g, g = gQ + 1 := ⟨_, rfl⟩
  rw [← hgR] at KR ⊢
  have HG := Lib.hid (show w.heap.size ≤ gR by omega)
  clear hgR hgQ
  generalize (((w.alloc (.cells #[.slice ax nx cx, .slice ay ny cy, .slice az nz cz] 150)).alloc (.cells #[.bool false, .slice bx mx dx, .slice bb my dy] 72)).alloc (.cells #[.slice none 0 0, .slice none 0 0, .slice none 0 0] 150)) = w0 at KP KQ KR HB ⊢
  replace NX := Lib.hid (NX.out.below HB.out)
  replace NY := Lib.hid (NY.out.below HB.out)
  replace NZ := Lib.hid (NZ.out.below HB.out)
  replace MX := Lib.hid (MX.out.below HB.out)
  replace MY := Lib.hid (MY.out.below HB.out)
  obtain ⟨a0, a1, a2⟩ := Bk.cells3 KP.out
  go_wp2_with fail
  clear a0 a1 a2
  refine (nk w.heap.size w (times_nv _ _ _ za za HBG.out.2.2.1 HBG.out.2.2.1 NZ.out NZ.out) HB.out (Nat.le_refl _)).mono ?_
  rintro e w1 ⟨vz, rfl, hn, hb, hk⟩
  replace KP := Lib.hid (KP.out.below hk)
  replace KQ := Lib.hid (KQ.out.below hk)
  replace KR := Lib.hid (KR.out.below hk)
  replace NX := Lib.hid (NX.out.below hk)
  replace NY := Lib.hid (NY.out.below hk)
  replace NZ := Lib.hid (NZ.out.below hk)
  replace MX := Lib.hid (MX.out.below hk)
  replace MY := Lib.hid (MY.out.below hk)
  have NZZ := Lib.hid hn
  replace HB := Lib.hid hb
  clear hn hb hk
  go_wp2_with fail
  refine mo2 w.heap.size gQ gR xa xb (mj za za) nx cx ny cy nz cz mx dx my dy ax ay az bx bb vz w1 KP.out KQ.out HBG.out.1 HBG.out.2.2.2.1 (mj_b _ _) NX.out MX.out NZZ.out ?_
  intros
  rename_i vh w2 hb1 hnh
  have NH := Lib.hid hnh
  clear hnh
  rw [← HEH.out] at NH
  replace KP := Lib.hid (KP.out.below hb1)
  replace KQ := Lib.hid (KQ.out.below hb1)
  replace KR := Lib.hid (KR.out.below hb1)
  replace NX := Lib.hid (NX.out.below hb1)
  replace NY := Lib.hid (NY.out.below hb1)
  replace NZ := Lib.hid (NZ.out.below hb1)
  replace MX := Lib.hid (MX.out.below hb1)
  replace MY := Lib.hid (MY.out.below hb1)
  replace NZZ := Lib.hid (NZZ.out.below hb1)
  replace HB := Lib.hid (HB.out.trans (hb1.mono HB.out.size))
  clear hb1
  obtain ⟨ah, nh, ch, rfl⟩ := NH.out.shape
  have hl := len_nv NH.out
  have hn0 : nh = 0 := by
    rcases Nat.eq_zero_or_pos nh with h | h
    · exact h
    · exact absurd H0.out (hl.2.1 h)
  subst hn0
  clear hl
  obtain ⟨c0, c1, c2⟩ := Bk.cells3 KR.out
  obtain ⟨f0, f1, f2⟩ := Bk.fros3 KR.out
  go_wp2_with fail
  refine ret_cell101e rfl gR (.slice none 0 0) (.slice none 0 0) (.slice none 0 0) (.bool false) rfl rfl (Bk.put3 KR.out) rfl ⟨rfl, ?_⟩
  have hb := HB.out
  have hg := HG.out
  go_grown
set_option maxHeartbeats 16000000 in
theorem more_yes (hh rr xv : Nat) (xa ya za xb yb : Nat) (nx cx ny cy nz cz mx dx my dy : Nat) (ax ay az bx bb : Option Addr) (HBG : Hid (xa < big ∧ ya < big ∧ za < big ∧ xb < big ∧ yb < big)) (w : World) (hnx : NV w (.slice ax nx cx) xa) (hny : NV w (.slice ay ny cy) ya) (hnz : NV w (.slice az nz cz) za) (hmx : NV w (.slice bx mx dx) xb) (hmy : NV w (.slice bb my dy) yb) (HEH : Hid (hh = sj (mj xb (mj za za)) xa)) (HER : Hid (rr = sj (mj yb (mj (mj za za) za)) ya)) (HEX : Hid (xv = sj (sj (mj rr rr) (mj hh (mj hh hh))) (aj (mj xa (mj hh hh)) (mj xa (mj hh hh))))) (h0 : hh ≠ 0) : Calls Tryz.prog 128 #[.agg #[.slice ax nx cx, .slice ay ny cy, .slice az nz cz], .agg #[.bool false, .slice bx mx dx, .slice bb my dy]] w fun e w' => ∃ v', e = .returned (.tuple #[v', .bool true]) ∧ LR w' v' ⟨xv, sj (mj rr (sj (mj xa (mj hh hh)) xv)) (mj ya (mj hh (mj hh hh))), mj za hh⟩ ∧ Below w.heap.size w w' := by
  have H0 := Lib.hid h0
  have HHB : Hid (hh < big ∧ rr < big ∧ xv < big) := Lib.hid ⟨by rw [HEH.out]; exact sj_b _ _, by rw [HER.out]; exact sj_b _ _, by rw [HEX.out]; exact sj_b _ _⟩
  clear h0
  have NX := Lib.hid hnx
  have NY := Lib.hid hny
  have NZ := Lib.hid hnz
  have MX := Lib.hid hmx
  have MY := Lib.hid hmy
  clear hnx hny hnz hmx hmy
  go_enter Tryz.func128, Tryz.ntmps128
  go_wp2_with fail
  have KP : Hid (Bk 150 (((w.alloc (.cells #[.slice ax nx cx, .slice ay ny cy, .slice az nz cz] 150)).alloc (.cells #[.bool false, .slice bx mx dx, .slice bb my dy] 72)).alloc (.cells #[.slice none 0 0, .slice none 0 0, .slice none 0 0] 150)) w.heap.size #[.slice ax nx cx, .slice ay ny cy, .slice az nz cz]) := Lib.hid (Bk.alloc (Bk.alloc (Bk.new rfl)))
  have KQ : Hid (Bk 72 (((w.alloc (.cells #[.slice ax nx cx, .slice ay ny cy, .slice az nz cz] 150)).alloc (.cells #[.bool false, .slice bx mx dx, .slice bb my dy] 72)).alloc (.cells #[.slice none 0 0, .slice none 0 0, .slice none 0 0] 150)) (w.heap.size + 1) #[.bool false, .slice bx mx dx, .slice bb my dy]) := Lib.hid (Bk.alloc (Bk.new (by simp)))
  have KR : Hid (Bk 150 (((w.alloc (.cells #[.slice ax nx cx, .slice ay ny cy, .slice az nz cz] 150)).alloc (.cells #[.bool false, .slice bx mx dx, .slice bb my dy] 72)).alloc (.cells #[.slice none 0 0, .slice none 0 0, .slice none 0 0] 150)) (w.heap.size + 1 + 1) #[.slice none 0 0, .slice none 0 0, .slice none 0 0]) := Lib.hid (Bk.new (by simp))
  have HB : Hid (Below w.heap.size w (((w.alloc (.cells #[.slice ax nx cx, .slice ay ny cy, .slice az nz cz] 150)).alloc (.cells #[.bool false, .slice bx mx dx, .slice bb my dy] 72)).alloc (.cells #[.slice none 0 0, .slice none 0 0, .slice none 0 0] 150))) := Lib.hid (by go_grown)
  obtain ⟨gQ, hgQ⟩ : ∃ g, g = w.heap.size + 1 := ⟨_, rfl⟩
  rw [← hgQ] at KQ KR ⊢
  obtain ⟨gR, hgR⟩ : ∃ g, g = gQ + 1 := ⟨_, rfl⟩
  rw [← hgR] at KR ⊢
  have HG := Lib.hid (show w.heap.size ≤ gR by omega)
  clear hgR hgQ
  generalize (((w.alloc (.cells #[.slice ax nx cx, .slice ay ny cy, .slice az nz cz] 150)).alloc (.cells #[.bool false, .slice bx mx dx, .slice bb my dy] 72)).alloc (.cells #[.slice none 0 0, .slice none 0 0, .slice none 0 0] 150)) = w0 at KP KQ KR HB ⊢
  replace NX := Lib.hid (NX.out.below HB.out)
  replace NY := Lib.hid (NY.out.below HB.out)
  replace NZ := Lib.hid (NZ.out.below HB.out)
  replace MX := Lib.hid (MX.out.below HB.out)
  replace MY := Lib.hid (MY.out.below HB.out)
  obtain ⟨a0, a1, a2⟩ := Bk.cells3 KP.out
  go_wp2_with fail
  clear a0 a1 a2
  refine (nk w.heap.size w (times_nv _ _ _ za za HBG.out.2.2.1 HBG.out.2.2.1 NZ.out NZ.out) HB.out (Nat.le_refl _)).mono ?_
  rintro e w1 ⟨vz, rfl, hn, hb, hk⟩
  replace KP := Lib.hid (KP.out.below hk)
  replace KQ := Lib.hid (KQ.out.below hk)
  replace KR := Lib.hid (KR.out.below hk)
  replace NX := Lib.hid (NX.out.below hk)
  replace NY := Lib.hid (NY.out.below hk)
  replace NZ := Lib.hid (NZ.out.below hk)
  replace MX := Lib.hid (MX.out.below hk)
  replace MY := Lib.hid (MY.out.below hk)
  have NZZ := Lib.hid hn
  replace HB := Lib.hid hb
  clear hn hb hk
  go_wp2_with fail
  refine mo2 w.heap.size gQ gR xa xb (mj za za) nx cx ny cy nz cz mx dx my dy ax ay az bx bb vz w1 KP.out KQ.out HBG.out.1 HBG.out.2.2.2.1 (mj_b _ _) NX.out MX.out NZZ.out ?_
  intros
  rename_i vh w2 hb1 hnh
  have NH := Lib.hid hnh
  clear hnh
  rw [← HEH.out] at NH
  replace KP := Lib.hid (KP.out.below hb1)
  replace KQ := Lib.hid (KQ.out.below hb1)
  replace KR := Lib.hid (KR.out.below hb1)
  replace NX := Lib.hid (NX.out.below hb1)
  replace NY := Lib.hid (NY.out.below hb1)
  replace NZ := Lib.hid (NZ.out.below hb1)
  replace MX := Lib.hid (MX.out.below hb1)
  replace MY := Lib.hid (MY.out.below hb1)
  replace NZZ := Lib.hid (NZZ.out.below hb1)
  replace HB := Lib.hid (HB.out.trans (hb1.mono HB.out.size))
  clear hb1
  obtain ⟨ah, nh, ch, rfl⟩ := NH.out.shape
  have hl := len_nv NH.out
  obtain ⟨m, rfl⟩ : ∃ m, nh = m + 1 := ⟨nh - 1, by have := hl.2.2 H0.out; omega⟩
  clear hl
  go_wp2_with fail
  refine mo5 w.heap.size gQ gR ya za yb (mj za za) nx cx ny cy nz cz mx dx my dy ax ay az bx bb vz (.slice ah (m + 1) ch) w2 KP.out KQ.out HBG.out.2.1 HBG.out.2.2.1 HBG.out.2.2.2.2 (mj_b _ _) NY.out NZ.out MY.out NZZ.out ?_
  intros
  rename_i vr w3 hb1 hnr
  have NR := Lib.hid hnr
  clear hnr
  rw [← HER.out] at NR
  replace KP := Lib.hid (KP.out.below hb1)
  replace KQ := Lib.hid (KQ.out.below hb1)
  replace KR := Lib.hid (KR.out.below hb1)
  replace NX := Lib.hid (NX.out.below hb1)
  replace NY := Lib.hid (NY.out.below hb1)
  replace NZ := Lib.hid (NZ.out.below hb1)
  replace MX := Lib.hid (MX.out.below hb1)
  replace MY := Lib.hid (MY.out.below hb1)
  replace NZZ := Lib.hid (NZZ.out.below hb1)
  replace NH := Lib.hid (NH.out.below hb1)
  replace HB := Lib.hid (HB.out.trans (hb1.mono HB.out.size))
  clear hb1
  go_wp2_with fail
  refine (nk w.heap.size w (times_nv _ _ _ hh hh HHB.out.1 HHB.out.1 NH.out NH.out) HB.out (Nat.le_refl _)).mono ?_
  rintro e w4 ⟨vk, rfl, hn, hb, hk⟩
  replace KP := Lib.hid (KP.out.below hk)
  replace KQ := Lib.hid (KQ.out.below hk)
  replace KR := Lib.hid (KR.out.below hk)
  replace NX := Lib.hid (NX.out.below hk)
  replace NY := Lib.hid (NY.out.below hk)
  replace NZ := Lib.hid (NZ.out.below hk)
  replace MX := Lib.hid (MX.out.below hk)
  replace MY := Lib.hid (MY.out.below hk)
  replace NZZ := Lib.hid (NZZ.out.below hk)
  replace NH := Lib.hid (NH.out.below hk)
  replace NR := Lib.hid (NR.out.below hk)
  have NK := Lib.hid hn
  replace HB := Lib.hid hb
  clear hn hb hk
  go_wp2_with fail
  refine mo7 w.heap.size gQ gR xa hh (mj hh hh) nx cx ny cy nz cz mx dx my dy ax ay az bx bb vz (.slice ah (m + 1) ch) vr vk w4 KP.out HBG.out.1 HHB.out.1 (mj_b _ _) NX.out NH.out NK.out ?_
  intros
  rename_i vc vv w5 hb1 hnc hnv
  have NC := Lib.hid hnc
  have NW := Lib.hid hnv
  clear hnc hnv
  replace KP := Lib.hid (KP.out.below hb1)
  replace KQ := Lib.hid (KQ.out.below hb1)
  replace KR := Lib.hid (KR.out.below hb1)
  replace NX := Lib.hid (NX.out.below hb1)
  replace NY := Lib.hid (NY.out.below hb1)
  replace NZ := Lib.hid (NZ.out.below hb1)
  replace MX := Lib.hid (MX.out.below hb1)
  replace MY := Lib.hid (MY.out.below hb1)
  replace NZZ := Lib.hid (NZZ.out.below hb1)
  replace NH := Lib.hid (NH.out.below hb1)
  replace NR := Lib.hid (NR.out.below hb1)
  replace NK := Lib.hid (NK.out.below hb1)
  replace HB := Lib.hid (HB.out.trans (hb1.mono HB.out.size))
  clear hb1
  go_wp2_with fail
  refine (nk w.heap.size w (times_nv _ _ _ rr rr HHB.out.2.1 HHB.out.2.1 NR.out NR.out) HB.out (Nat.le_refl _)).mono ?_
  rintro e w6 ⟨va1, rfl, hn, hb, hk⟩
  replace KP := Lib.hid (KP.out.below hk)
  replace KQ := Lib.hid (KQ.out.below hk)
  replace KR := Lib.hid (KR.out.below hk)
  replace NX := Lib.hid (NX.out.below hk)
  replace NY := Lib.hid (NY.out.below hk)
  replace NZ := Lib.hid (NZ.out.below hk)
  replace MX := Lib.hid (MX.out.below hk)
  replace MY := Lib.hid (MY.out.below hk)
  replace NZZ := Lib.hid (NZZ.out.below hk)
  replace NH := Lib.hid (NH.out.below hk)
  replace NR := Lib.hid (NR.out.below hk)
  replace NK := Lib.hid (NK.out.below hk)
  replace NC := Lib.hid (NC.out.below hk)
  replace NW := Lib.hid (NW.out.below hk)
  have NA1 := Lib.hid hn
  replace HB := Lib.hid hb
  clear hn hb hk
  go_wp2_with fail
  refine (nk w.heap.size w (minus_nv' _ _ _ (mj rr rr) (mj hh (mj hh hh)) (mj_b _ _) (mj_b _ _) NA1.out NC.out) HB.out (Nat.le_refl _)).mono ?_
  rintro e w7 ⟨va2, rfl, hn, hb, hk⟩
  replace KP := Lib.hid (KP.out.below hk)
  replace KQ := Lib.hid (KQ.out.below hk)
  replace KR := Lib.hid (KR.out.below hk)
  replace NX := Lib.hid (NX.out.below hk)
  replace NY := Lib.hid (NY.out.below hk)
  replace NZ := Lib.hid (NZ.out.below hk)
  replace MX := Lib.hid (MX.out.below hk)
  replace MY := Lib.hid (MY.out.below hk)
  replace NZZ := Lib.hid (NZZ.out.below hk)
  replace NH := Lib.hid (NH.out.below hk)
  replace NR := Lib.hid (NR.out.below hk)
  replace NK := Lib.hid (NK.out.below hk)
  replace NC := Lib.hid (NC.out.below hk)
  replace NW := Lib.hid (NW.out.below hk)
  replace NA1 := Lib.hid (NA1.out.below hk)
  have NA2 := Lib.hid hn
  replace HB := Lib.hid hb
  clear hn hb hk
  go_wp2_with fail
  refine (nk w.heap.size w (plus_nv' _ _ _ (mj xa (mj hh hh)) (mj xa (mj hh hh)) (mj_b _ _) (mj_b _ _) NW.out NW.out) HB.out (Nat.le_refl _)).mono ?_
  rintro e w8 ⟨va3, rfl, hn, hb, hk⟩
  replace KP := Lib.hid (KP.out.below hk)
  replace KQ := Lib.hid (KQ.out.below hk)
  replace KR := Lib.hid (KR.out.below hk)
  replace NX := Lib.hid (NX.out.below hk)
  replace NY := Lib.hid (NY.out.below hk)
  replace NZ := Lib.hid (NZ.out.below hk)
  replace MX := Lib.hid (MX.out.below hk)
  replace MY := Lib.hid (MY.out.below hk)
  replace NZZ := Lib.hid (NZZ.out.below hk)
  replace NH := Lib.hid (NH.out.below hk)
  replace NR := Lib.hid (NR.out.below hk)
  replace NK := Lib.hid (NK.out.below hk)
  replace NC := Lib.hid (NC.out.below hk)
  replace NW := Lib.hid (NW.out.below hk)
  replace NA1 := Lib.hid (NA1.out.below hk)
  replace NA2 := Lib.hid (NA2.out.below hk)
  have NA3 := Lib.hid hn
  replace HB := Lib.hid hb
  clear hn hb hk
  go_wp2_with fail
  refine (nk w.heap.size w (minus_nv' _ _ _ (sj (mj rr rr) (mj hh (mj hh hh))) (aj (mj xa (mj hh hh)) (mj xa (mj hh hh))) (sj_b _ _) (aj_b _ _) NA2.out NA3.out) HB.out (Nat.le_refl _)).mono ?_
  rintro e w9 ⟨vx, rfl, hn, hb, hk⟩
  replace KP := Lib.hid (KP.out.below hk)
  replace KQ := Lib.hid (KQ.out.below hk)
  replace KR := Lib.hid (KR.out.below hk)
  replace NX := Lib.hid (NX.out.below hk)
  replace NY := Lib.hid (NY.out.below hk)
  replace NZ := Lib.hid (NZ.out.below hk)
  replace MX := Lib.hid (MX.out.below hk)
  replace MY := Lib.hid (MY.out.below hk)
  replace NZZ := Lib.hid (NZZ.out.below hk)
  replace NH := Lib.hid (NH.out.below hk)
  replace NR := Lib.hid (NR.out.below hk)
  replace NK := Lib.hid (NK.out.below hk)
  replace NC := Lib.hid (NC.out.below hk)
  replace NW := Lib.hid (NW.out.below hk)
  replace NA1 := Lib.hid (NA1.out.below hk)
  replace NA2 := Lib.hid (NA2.out.below hk)
  replace NA3 := Lib.hid (NA3.out.below hk)
  have NXV := Lib.hid hn
  replace HB := Lib.hid hb
  clear hn hb hk
  rw [← HEX.out] at NXV
  clear NA1 NA2 NA3
  obtain ⟨a7, n7, c7, rfl⟩ := NXV.out.shape
  go_wp2_with fail
  refine mo9 w.heap.size gR ya za hh rr (mj hh (mj hh hh)) (mj xa (mj hh hh)) xv n7 c7 nx cx ny cy nz cz ax ay az a7 (.slice ah (m + 1) ch) vr vc vv w9 KP.out KR.out HBG.out.2.1 HBG.out.2.2.1 HHB.out.1 HHB.out.2.1 (mj_b _ _) (mj_b _ _) HHB.out.2.2 NY.out NZ.out NH.out NR.out NC.out NW.out NXV.out ?_
  intros
  rename_i y10 y11 y12 y13 y14 y15 wz hb1 hn10 hn14
  obtain ⟨a10, n10, c10, rfl⟩ := hn10.shape
  obtain ⟨a14, n14, c14, rfl⟩ := hn14.shape
  have K1 := Lib.hid (KR.out.below hb1)
  have HB1 := Lib.hid (HB.out.trans (hb1.mono HB.out.size))
  have HN := Lib.hid (And.intro (put3s (d := .slice a7 n7 c7) (e := .slice a10 n10 c10) (f := .slice a14 n14 c14) (NXV.out.below hb1) K1.out) (And.intro (put3s (d := .slice a7 n7 c7) (e := .slice a10 n10 c10) (f := .slice a14 n14 c14) hn10 K1.out) (put3s (d := .slice a7 n7 c7) (e := .slice a10 n10 c10) (f := .slice a14 n14 c14) hn14 K1.out)))
  clear hb1 hn10 hn14
  go_wp2_with fail
  refine ret_cell101e rfl gR (.slice a7 n7 c7) (.slice a10 n10 c10) (.slice a14 n14 c14) (.bool true) rfl rfl (Bk.put3 K1.out) rfl ⟨_, rfl, ⟨_, _, _, _, _, _, _, _, _, rfl, HN.out.1, HN.out.2.1, HN.out.2.2⟩, ?_⟩
  have hb := HB1.out
  have hg := HG.out
  go_grown
theorem Bk.puto3 {t : TypeId} {w : World} {g h : Nat} {cs : Array Value} {d e f : Value} (hn : g ≠ h) (k : Bk t w g cs) : Bk t (((w.setCell ⟨h, 0, none⟩ d).setCell ⟨h, 1, none⟩ e).setCell ⟨h, 2, none⟩ f) g cs :=
  Bk.oth hn (Bk.oth hn (Bk.oth hn k))
theorem RP.nv {w : World} {i : Bool} {ax ay : Option Addr} {nx cx ny cy : Nat} {p : Po} (h : RP w (.agg #[.bool i, .slice ax nx cx, .slice ay ny cy]) p) : i = p.i ∧ (p.i = false → NV w (.slice ax nx cx) p.x ∧ NV w (.slice ay ny cy) p.y) := by
  obtain ⟨a1, n1, c1, a2, n2, c2, he, hn⟩ := h
  simp only [Value.agg.injEq, Array.mk.injEq, List.cons.injEq, Value.bool.injEq, Value.slice.injEq, and_true] at he
  obtain ⟨rfl, ⟨rfl, rfl, rfl⟩, rfl, rfl, rfl⟩ := he
  exact ⟨rfl, hn⟩
theorem RP.mk {w : World} {i : Bool} {ax ay : Option Addr} {nx cx ny cy : Nat} {p : Po} (hi : i = p.i) (h : p.i = false → NV w (.slice ax nx cx) p.x ∧ NV w (.slice ay ny cy) p.y) : RP w (.agg #[.bool i, .slice ax nx cx, .slice ay ny cy]) p :=
  ⟨ax, nx, cx, ay, ny, cy, by rw [hi], h⟩
theorem RP.put {w : World} {i b : Bool} {ax ay ex ey : Option Addr} {nx cx ny cy g m1 d1 m2 d2 : Nat} {p : Po} {d e f : Value} (h : RP w (.agg #[.bool i, .slice ax nx cx, .slice ay ny cy]) p) (hk : Bk 72 w g #[.bool b, .slice ex m1 d1, .slice ey m2 d2]) :
    RP (((w.setCell ⟨g, 0, none⟩ d).setCell ⟨g, 1, none⟩ e).setCell ⟨g, 2, none⟩ f) (.agg #[.bool i, .slice ax nx cx, .slice ay ny cy]) p :=
  RP.mk h.nv.1 (fun hi => ⟨put3_ex (h.nv.2 hi).1 hk, put3_ex (h.nv.2 hi).2 hk⟩)
def mulB (p : Po) (k j : Nat) : Po := ofPt (mul (toPt p) (k / 2 ^ j))
section
variable {P : Program} {ops : Array Oper} {md : Region.Mode} {Q : Exit → Act → World → Prop}
theorem left_count (l : Array Bool) (g : Nat) : left (l ++ Array.replicate g false) = left l + g := by
  simp [left, List.filter_append]
theorem left_zero {l : Array Bool} (h : left l = 0) : ∀ x ∈ l, x = true := by
  intro x hx
  unfold left at h
  rw [List.length_eq_zero_iff, List.filter_eq_nil_iff] at h
  have := h x (by simpa using hx)
  simpa using this
theorem wpAny_inv2 {I : Array Bool → Act → World → Prop} {g : Nat} (none : ∀ l a w, I l a w → Region.ready md ops l = [] → left l = g) (step : ∀ l a w, I l a w → left l ≠ g → ∀ i ∈ Region.ready md ops l, wpOp P ops Q i (fun a' w' => I (l.setIfInBounds i true) a' w') a w)
    (fin : ∀ l a w, I l a w → left l = g → wpAny P md ops Q g l a w) : ∀ (fuel : Nat) (l : Array Bool) (a : Act) (w : World), left l = fuel → g ≤ fuel → I l a w → wpAny P md ops Q fuel l a w
  | 0, l, a, w, hf, hg, h => by
    obtain rfl : g = 0 := by omega
    exact fin l a w h hf
  | fuel + 1, l, a, w, hf, hg, h => by
    by_cases hgf : g = fuel + 1
    · subst hgf
      exact fin l a w h hf
    · refine ⟨fun h0 => absurd (none l a w h h0) (by omega), fun i hi => ?_⟩
      have hl := left_set (mem_ready.1 hi).1
      exact wpOp_mono (fun a' w' h' => wpAny_inv2 none step fin fuel _ a' w' (by omega) (by omega) h') (step l a w h (by omega) i hi)
end
theorem left_all5_1 {j0 j1 j2 j3 j4 : Bool} (h : left #[j0, j1, j2, j3, j4, false] = 1) : j0 = true ∧ j1 = true ∧ j2 = true ∧ j3 = true ∧ j4 = true := by
  have e := left_count #[j0, j1, j2, j3, j4] 1
  have e2 : (#[j0, j1, j2, j3, j4] ++ Array.replicate 1 false) = #[j0, j1, j2, j3, j4, false] := rfl
  rw [e2, h] at e
  have hz := left_zero (l := #[j0, j1, j2, j3, j4]) (by omega)
  simpa using hz
noncomputable def fa14O : Array Oper := (Tryz.f68.body.bind fun c => findR c 14).getD #[]
def fa14I (w0 : World) (gO gP : Nat) (J : J) (p : Po) (ax ay az bx bb : Option Addr) (nx cx ny cy nz cz mx dx my dy : Nat) (t0 t1 t3 t4 t6 t7 t8 t10 t11 t12 t13 t14 t15 t16 t17 t18 t19 t20 t21 t22 t23 t24 t25 t26 t27 t28 t29 t30 t31 t32 t33 t34 t35 t36 t37 t38 t39 t40 t41 t42 t43 t44 t45 t46 t47 t48 t49 t50 t51 t52 t53 t54 t55 t60 t61 t62 t63 t64 t65 t66 t67 t68 t69 t70 t71 : Value) (ds : List Deferred) (l : Array Bool) (a : Act) (w : World) : Prop :=
  ∃ j0 j1 j2 j3 j4 : Bool, ∃ x0 x1 x2 x3 x4 : Value, l = #[j0, j1, j2, j3, j4, false] ∧ a = { tmps := #[t0, t1, .pointer (some ⟨gP, 0, none⟩), t3, t4, .pointer (some ⟨gO, 0, none⟩), t6, t7, t8, x4, t10, t11, t12, t13, t14, t15, t16, t17, t18, t19, t20, t21, t22, t23, t24, t25, t26, t27, t28, t29, t30, t31, t32, t33, t34, t35, t36, t37, t38, t39, t40, t41, t42, t43, t44, t45, t46, t47, t48, t49, t50, t51, t52, t53, t54, t55, x0, x1, x2, x3, t60, t61, t62, t63, t64, t65, t66, t67, t68, t69, t70, t71], defers := ds } ∧ Below w0.heap.size w0 w ∧
  (j0 = true → x0 = .agg #[.slice ax nx cx, .slice ay ny cy, .slice az nz cz]) ∧ (j1 = true → RP w x1 (endR J)) ∧ (j2 = true → x2 = .agg #[.bool false, .slice bx mx dx, .slice bb my dy]) ∧ (j3 = true → RP w x3 ((endR J).add p)) ∧ (j4 = true → Nw w0.heap.size 72 #[.bool false, .slice none 0 0, .slice none 0 0] w x4) ∧ (j1 = true → j0 = true) ∧ (j3 = true → j1 = true ∧ j2 = true)
set_option maxHeartbeats 16000000 in
theorem fa14_none (gO gP : Nat) (J : J) (p : Po) (ax ay az bx bb : Option Addr) (nx cx ny cy nz cz mx dx my dy : Nat) (w : World) {t0 t1 t3 t4 t6 t7 t8 t10 t11 t12 t13 t14 t15 t16 t17 t18 t19 t20 t21 t22 t23 t24 t25 t26 t27 t28 t29 t30 t31 t32 t33 t34 t35 t36 t37 t38 t39 t40 t41 t42 t43 t44 t45 t46 t47 t48 t49 t50 t51 t52 t53 t54 t55 t60 t61 t62 t63 t64 t65 t66 t67 t68 t69 t70 t71 : Value} {ds : List Deferred} : ∀ l a w1, fa14I w gO gP J p ax ay az bx bb nx cx ny cy nz cz mx dx my dy t0 t1 t3 t4 t6 t7 t8 t10 t11 t12 t13 t14 t15 t16 t17 t18 t19 t20 t21 t22 t23 t24 t25 t26 t27 t28 t29 t30 t31 t32 t33 t34 t35 t36 t37 t38 t39 t40 t41 t42 t43 t44 t45 t46 t47 t48 t49 t50 t51 t52 t53 t54 t55 t60 t61 t62 t63 t64 t65 t66 t67 t68 t69 t70 t71 ds l a w1 → Region.ready .any fa14O l = [] → left l = 1 := by
  simp only [fa14O, findR, Tryz.f68, Option.bind_some, Option.or, Option.getD, Nat.reduceEqDiff, if_true, if_false, reduceIte]
  rintro l a w1 hI hr
  obtain ⟨j0, j1, j2, j3, j4, x0, x1, x2, x3, x4, rfl, rfl, hB, h0, h1, h2, h3, h4, k1, k3⟩ := hI
  have hn := fun i => List.eq_nil_iff_forall_not_mem.1 hr i
  clear hr
  cases j0; exact absurd (mem_ready.2 ⟨by simp, _, rfl, by simp [Region.binds]⟩) (hn 0)
  cases j1; exact absurd (mem_ready.2 ⟨by simp, _, rfl, by simp [Region.binds]⟩) (hn 1)
  cases j2; exact absurd (mem_ready.2 ⟨by simp, _, rfl, by simp [Region.binds]⟩) (hn 2)
  cases j3; exact absurd (mem_ready.2 ⟨by simp, _, rfl, by simp [Region.binds]⟩) (hn 3)
  cases j4; exact absurd (mem_ready.2 ⟨by simp, _, rfl, by simp [Region.binds]⟩) (hn 4)
  rfl
set_option maxHeartbeats 16000000 in
theorem fa14_steps (gO gP : Nat) (J : J) (p : Po) (ax ay az bx bb : Option Addr) (nx cx ny cy nz cz mx dx my dy : Nat) (w : World) (KO : Bk 150 w gO #[.slice ax nx cx, .slice ay ny cy, .slice az nz cz]) (KP : Bk 72 w gP #[.bool false, .slice bx mx dx, .slice bb my dy]) (HLT : Hid (J.lt ∧ J.z ≠ 0 ∧ (endR J).on = true ∧ p.on = true)) (HLR : Hid (LR w (.agg #[.slice ax nx cx, .slice ay ny cy, .slice az nz cz]) J)) (HRP : Hid (RP w (.agg #[.bool false, .slice bx mx dx, .slice bb my dy]) p))
    {t0 t1 t3 t4 t6 t7 t8 t10 t11 t12 t13 t14 t15 t16 t17 t18 t19 t20 t21 t22 t23 t24 t25 t26 t27 t28 t29 t30 t31 t32 t33 t34 t35 t36 t37 t38 t39 t40 t41 t42 t43 t44 t45 t46 t47 t48 t49 t50 t51 t52 t53 t54 t55 t60 t61 t62 t63 t64 t65 t66 t67 t68 t69 t70 t71 : Value} {ds : List Deferred} {Q : Exit → Act → World → Prop} :
    ∀ l a w', fa14I w gO gP J p ax ay az bx bb nx cx ny cy nz cz mx dx my dy t0 t1 t3 t4 t6 t7 t8 t10 t11 t12 t13 t14 t15 t16 t17 t18 t19 t20 t21 t22 t23 t24 t25 t26 t27 t28 t29 t30 t31 t32 t33 t34 t35 t36 t37 t38 t39 t40 t41 t42 t43 t44 t45 t46 t47 t48 t49 t50 t51 t52 t53 t54 t55 t60 t61 t62 t63 t64 t65 t66 t67 t68 t69 t70 t71 ds l a w' → left l ≠ 1 → ∀ i ∈ Region.ready .any fa14O l, wpOp Tryz.prog fa14O Q i (fun a' w'' => fa14I w gO gP J p ax ay az bx bb nx cx ny cy nz cz mx dx my dy t0 t1 t3 t4 t6 t7 t8 t10 t11 t12 t13 t14 t15 t16 t17 t18 t19 t20 t21 t22 t23 t24 t25 t26 t27 t28 t29 t30 t31 t32 t33 t34 t35 t36 t37 t38 t39 t40 t41 t42 t43 t44 t45 t46 t47 t48 t49 t50 t51 t52 t53 t54 t55 t60 t61 t62 t63 t64 t65 t66 t67 t68 t69 t70 t71 ds (l.setIfInBounds i true) a' w'') a w' := by
  simp only [fa14O, findR, Tryz.f68, Option.bind_some, Option.or, Option.getD, Nat.reduceEqDiff, if_true, if_false, reduceIte]
  rintro l a w' hI hlt i hi
  rw [mem_ready] at hi
  obtain ⟨hu, oo, ho, hd⟩ := hi
  have hin : i < 6 := by
    have := (Array.getElem?_eq_some_iff.1 ho).1
    simpa using this
  have hcase : i = 0 ∨ i = 1 ∨ i = 2 ∨ i = 3 ∨ i = 4 ∨ i = 5 := by omega
  obtain ⟨j0, j1, j2, j3, j4, x0, x1, x2, x3, x4, rfl, rfl, hB, h0, h1, h2, h3, h4, k1, k3⟩ := hI
  replace h0 := Lib.hid h0
  replace h1 := Lib.hid h1
  replace h2 := Lib.hid h2
  replace h3 := Lib.hid h3
  replace h4 := Lib.hid h4
  replace k1 := Lib.hid k1
  replace k3 := Lib.hid k3
  rcases hcase with rfl | rfl | rfl | rfl | rfl | rfl
  · obtain rfl := Option.some.inj ho
    simp [Region.binds] at hu hd
    clear hd hlt
    refine wpOp_of rfl rfl ?_
    have i0 : w'.cell? ⟨gO, 0, none⟩ = some (.slice ax nx cx) := (KO.below hB).cell 0
    have i1 : w'.cell? ⟨gO, 1, none⟩ = some (.slice ay ny cy) := (KO.below hB).cell 1
    have i2 : w'.cell? ⟨gO, 2, none⟩ = some (.slice az nz cz) := (KO.below hB).cell 2
    go_simp
    unfold fa14I
    exact ⟨true, j1, j2, j3, j4, _, x1, x2, x3, x4, rfl, rfl, hB, fun _ => rfl, h1.out, h2.out, h3.out, h4.out, fun hj => absurd ((k1.out hj)) (by simp [hu]), k3.out⟩
  · obtain rfl := Option.some.inj ho
    simp [Region.binds] at hu hd
    have d0 : j0 = true := by simp [hd]
    have e0 := h0.out d0
    subst e0
    subst d0
    clear hd hlt
    refine wpOp_of rfl rfl ?_
    go_simp
    go_at_call 129
    refine (end7 (.agg #[.slice ax nx cx, .slice ay ny cy, .slice az nz cz]) J HLT.out.1 HLT.out.2.1 w' (HLR.out.below hB)).mono ?_
    rintro e w2 ⟨v', rfl, hq, hb2⟩
    have hB2 := hB.trans (hb2.mono hB.size)
    unfold fa14I
    exact ⟨true, true, j2, j3, j4, _, _, x2, x3, x4, rfl, rfl, hB2, h0.out, fun _ => hq, h2.out, fun hj => (h3.out hj).below hb2, fun hj => (h4.out hj).below hb2, fun _ => rfl, fun hj => absurd ((k3.out hj).1) (by simp [hu])⟩
  · obtain rfl := Option.some.inj ho
    simp [Region.binds] at hu hd
    clear hd hlt
    refine wpOp_of rfl rfl ?_
    have i0 : w'.cell? ⟨gP, 0, none⟩ = some (.bool false) := (KP.below hB).cell 0
    have i1 : w'.cell? ⟨gP, 1, none⟩ = some (.slice bx mx dx) := (KP.below hB).cell 1
    have i2 : w'.cell? ⟨gP, 2, none⟩ = some (.slice bb my dy) := (KP.below hB).cell 2
    go_simp
    unfold fa14I
    exact ⟨j0, j1, true, j3, j4, x0, x1, _, x3, x4, rfl, rfl, hB, h0.out, h1.out, fun _ => rfl, h3.out, h4.out, k1.out, fun hj => absurd ((k3.out hj).2) (by simp [hu])⟩
  · obtain rfl := Option.some.inj ho
    simp [Region.binds] at hu hd
    have d1 : j1 = true := by simp [hd]
    have d2 : j2 = true := by simp [hd]
    have e2 := h2.out d2
    subst e2
    subst d1
    subst d2
    clear hd hlt
    refine wpOp_of rfl rfl ?_
    go_simp
    go_at_call 66
    refine (sum7 _ _ (endR J) p HLT.out.2.2.1 HLT.out.2.2.2 w' (h1.out rfl) (HRP.out.below hB)).mono ?_
    rintro e w2 ⟨v', rfl, hq, hb2⟩
    have hB2 := hB.trans (hb2.mono hB.size)
    unfold fa14I
    exact ⟨j0, true, true, true, j4, x0, x1, _, _, x4, rfl, rfl, hB2, h0.out, fun hj => (h1.out hj).below hb2, h2.out, fun _ => hq, fun hj => (h4.out hj).below hb2, k1.out, fun _ => ⟨rfl, rfl⟩⟩
  · obtain rfl := Option.some.inj ho
    simp [Region.binds] at hu hd
    clear hd hlt
    refine wpOp_of rfl rfl ?_
    have hb2 := al_below w' (.cells #[.bool false, .slice none 0 0, .slice none 0 0] 72)
    have hB2 := hB.trans (hb2.mono hB.size)
    have hs0 := hB.size
    go_simp
    unfold fa14I
    exact ⟨j0, j1, j2, j3, true, x0, x1, x2, x3, _, rfl, rfl, hB2, h0.out, fun hj => (h1.out hj).below hb2, h2.out, fun hj => (h3.out hj).below hb2, fun _ => ⟨_, rfl, hs0, Bk.new rfl⟩, k1.out, k3.out⟩
  · obtain rfl := Option.some.inj ho
    simp [Region.binds] at hu hd
    exfalso
    have d0 : j0 = true := by simp [hd]
    have d1 : j1 = true := by simp [hd]
    have d2 : j2 = true := by simp [hd]
    have d3 : j3 = true := by simp [hd]
    have d4 : j4 = true := by simp [hd]
    subst d0
    subst d1
    subst d2
    subst d3
    subst d4
    exact hlt rfl
set_option maxHeartbeats 16000000 in
theorem fa14 (gO gP : Nat) (J : J) (p : Po) (ax ay az bx bb : Option Addr) (nx cx ny cy nz cz mx dx my dy : Nat) (w : World) (KO : Bk 150 w gO #[.slice ax nx cx, .slice ay ny cy, .slice az nz cz]) (KP : Bk 72 w gP #[.bool false, .slice bx mx dx, .slice bb my dy]) (HLT : Hid (J.lt ∧ J.z ≠ 0 ∧ (endR J).on = true ∧ p.on = true)) (HLR : Hid (LR w (.agg #[.slice ax nx cx, .slice ay ny cy, .slice az nz cz]) J)) (HRP : Hid (RP w (.agg #[.bool false, .slice bx mx dx, .slice bb my dy]) p)) {t0 t1 t3 t4 t6 t7 t8 t9 t10 t11 t12 t13 t14 t15 t16 t17 t18 t19 t20 t21 t22 t23 t24 t25 t26 t27 t28 t29 t30 t31 t32 t33 t34 t35 t36 t37 t38 t39 t40 t41 t42 t43 t44 t45 t46 t47 t48 t49 t50 t51 t52 t53 t54 t55 t56 t57 t58 t59 t60 t61 t62 t63 t64 t65 t66 t67 t68 t69 t70 t71 : Value} {ds : List Deferred} {Q : Exit → Act → World → Prop}
    (h : ∀ (y1 y3 y4 : Value) (w1 : World), Below w.heap.size w w1 → RP w1 y1 (endR J) → RP w1 y3 ((endR J).add p) → Nw w.heap.size 72 #[.bool false, .slice none 0 0, .slice none 0 0] w1 y4 → wpList Tryz.prog fa14O Q (fa14O.toList.drop 5) { tmps := #[t0, t1, .pointer (some ⟨gP, 0, none⟩), t3, t4, .pointer (some ⟨gO, 0, none⟩), t6, t7, t8, y4, t10, t11, t12, t13, t14, t15, t16, t17, t18, t19, t20, t21, t22, t23, t24, t25, t26, t27, t28, t29, t30, t31, t32, t33, t34, t35, t36, t37, t38, t39, t40, t41, t42, t43, t44, t45, t46, t47, t48, t49, t50, t51, t52, t53, t54, t55, .agg #[.slice ax nx cx, .slice ay ny cy, .slice az nz cz], y1, .agg #[.bool false, .slice bx mx dx, .slice bb my dy], y3, t60, t61, t62, t63, t64, t65, t66, t67, t68, t69, t70, t71], defers := ds } w1) :
    (Code.region 14 fa14O true).wp Tryz.prog Q { tmps := #[t0, t1, .pointer (some ⟨gP, 0, none⟩), t3, t4, .pointer (some ⟨gO, 0, none⟩), t6, t7, t8, t9, t10, t11, t12, t13, t14, t15, t16, t17, t18, t19, t20, t21, t22, t23, t24, t25, t26, t27, t28, t29, t30, t31, t32, t33, t34, t35, t36, t37, t38, t39, t40, t41, t42, t43, t44, t45, t46, t47, t48, t49, t50, t51, t52, t53, t54, t55, t56, t57, t58, t59, t60, t61, t62, t63, t64, t65, t66, t67, t68, t69, t70, t71], defers := ds } w := by
  have hsz : fa14O.size = 6 := by kernel_rfl
  refine wp_region_any (show Tryz.prog.follows .mixedOrders = true from by kernel_rfl) ?_
  rw [hsz]
  refine wpAny_inv2 (I := fa14I w gO gP J p ax ay az bx bb nx cx ny cy nz cz mx dx my dy t0 t1 t3 t4 t6 t7 t8 t10 t11 t12 t13 t14 t15 t16 t17 t18 t19 t20 t21 t22 t23 t24 t25 t26 t27 t28 t29 t30 t31 t32 t33 t34 t35 t36 t37 t38 t39 t40 t41 t42 t43 t44 t45 t46 t47 t48 t49 t50 t51 t52 t53 t54 t55 t60 t61 t62 t63 t64 t65 t66 t67 t68 t69 t70 t71 ds) (g := 1) (fa14_none gO gP J p ax ay az bx bb nx cx ny cy nz cz mx dx my dy w) (fa14_steps gO gP J p ax ay az bx bb nx cx ny cy nz cz mx dx my dy w KO KP HLT HLR HRP) (fun l a w' hI hl => ?_) 6 _ _ _ (by decide) (by decide) ?_
  · obtain ⟨j0, j1, j2, j3, j4, x0, x1, x2, x3, x4, rfl, rfl, hB, h0, h1, h2, h3, h4, k1, k3⟩ := hI
    obtain ⟨d0, d1, d2, d3, d4⟩ := left_all5_1 hl
    subst d0
    subst d1
    subst d2
    subst d3
    subst d4
    obtain rfl := h0 rfl
    obtain rfl := h2 rfl
    have hw := h _ _ _ _ hB (h1 rfl) (h3 rfl) (h4 rfl)
    have hBB : Region.seqB .any fa14O (fa14O.toList.drop 5).length 5 #[true, true, true, true, true, false] = true := by kernel_rfl
    have hlen : (fa14O.toList.drop 5).length = 1 := by kernel_rfl
    have := wpAny_of_seq (md := .any) (fa14O.toList.drop 5) 5 _ _ _ (fun j => by simp [List.getElem?_drop]) hBB hw
    rw [hlen] at this
    exact this
  · exact ⟨false, false, false, false, false, t56, t57, t58, t59, t9, rfl, rfl, ⟨rfl, rfl, rfl, Nat.le_refl _, fun _ _ => rfl⟩, (fun h => by cases h), (fun h => by cases h), (fun h => by cases h), (fun h => by cases h), (fun h => by cases h), (fun h => by cases h), (fun h => by cases h)⟩
def FS (w : World) (v : Value) (P : Pt (Fin PP)) : Prop := (v = .agg #[.slice none 0 0, .slice none 0 0, .slice none 0 0] ∧ P = .far) ∨ ∃ J i X Y, LR w v J ∧ Near J i X Y ∧ P = .aff X Y
theorem FS.below {w w' : World} {v : Value} {P : Pt (Fin PP)} (h : FS w v P) (hb : Below w.heap.size w w') : FS w' v P := by
  rcases h with h | ⟨J, i, X, Y, hl, hn, hP⟩
  · exact .inl h
  · exact .inr ⟨J, i, X, Y, hl.below hb, hn, hP⟩
theorem end_fs (v : Value) (P : Pt (Fin PP)) (w : World) (h : FS w v P) : Calls Tryz.prog 129 #[v] w fun e w' => ∃ v', e = .returned v' ∧ RP w' v' (ofPt P) ∧ Below w.heap.size w w' := by
  rcases h with ⟨rfl, rfl⟩ | ⟨J, i, X, Y, hl, hn, rfl⟩
  · exact end7_far w
  · have he := near_end hn
    rw [← he.2]
    exact end7 v J hn.1 he.1 w hl
def Mb (p : Po) (k j : Nat) : Pt (Fin PP) := mul (toPt p) (k / 2 ^ j)
theorem Mb_on {p : Po} (hp : p.on = true) (k j : Nat) : On aP bP (Mb p k j) := mul_on (on_iff hp).1 _
theorem Mb_dbl {p : Po} (hp : p.on = true) (k j : Nat) (h : k / 2 ^ j = 2 * (k / 2 ^ (j + 1))) : sum inv aP (Mb p k (j + 1)) (Mb p k (j + 1)) = Mb p k j := by
  unfold Mb
  rw [mul_two (on_iff hp).1, ← h]
theorem Mb_one {p : Po} (hp : p.on = true) (k j : Nat) (h : k / 2 ^ j = 2 * (k / 2 ^ (j + 1)) + 1) : sum inv aP (sum inv aP (Mb p k (j + 1)) (Mb p k (j + 1))) (toPt p) = Mb p k j := by
  unfold Mb
  rw [mul_two (on_iff hp).1, h]
  rfl
theorem Mb_far (p : Po) {k j : Nat} (h : k < 2 ^ j) : Mb p k j = .far := by
  unfold Mb
  rw [Nat.div_eq_of_lt h]
  rfl
theorem LR.mk {w : World} {ax ay az : Option Addr} {nx cx ny cy nz cz : Nat} {q : J} (hx : NV w (.slice ax nx cx) q.x) (hy : NV w (.slice ay ny cy) q.y) (hz : NV w (.slice az nz cz) q.z) : LR w (.agg #[.slice ax nx cx, .slice ay ny cy, .slice az nz cz]) q :=
  ⟨_, _, _, _, _, _, _, _, _, rfl, hx, hy, hz⟩
theorem LR.nv {w : World} {ax ay az : Option Addr} {nx cx ny cy nz cz : Nat} {q : J} (h : LR w (.agg #[.slice ax nx cx, .slice ay ny cy, .slice az nz cz]) q) : NV w (.slice ax nx cx) q.x ∧ NV w (.slice ay ny cy) q.y ∧ NV w (.slice az nz cz) q.z := by
  obtain ⟨a1, n1, c1, a2, n2, c2, a3, n3, c3, he, h1, h2, h3⟩ := h
  simp only [Value.agg.injEq, Array.mk.injEq, List.cons.injEq, Value.slice.injEq, and_true] at he
  obtain ⟨⟨rfl, rfl, rfl⟩, ⟨rfl, rfl, rfl⟩, rfl, rfl, rfl⟩ := he
  exact ⟨h1, h2, h3⟩
theorem LR.shape {w : World} {v : Value} {q : J} (h : LR w v q) : ∃ ax nx cx ay ny cy az nz cz, v = .agg #[.slice ax nx cx, .slice ay ny cy, .slice az nz cz] := by
  obtain ⟨a1, n1, c1, a2, n2, c2, a3, n3, c3, he, _⟩ := h
  exact ⟨a1, n1, c1, a2, n2, c2, a3, n3, c3, he⟩
theorem LR.put {w : World} {ax ay az ex ey ez : Option Addr} {nx cx ny cy nz cz m1 d1 m2 d2 m3 d3 g : Nat} {q : J} {d e f : Value} (h : LR w (.agg #[.slice ax nx cx, .slice ay ny cy, .slice az nz cz]) q) (hk : Bk 150 w g #[.slice ex m1 d1, .slice ey m2 d2, .slice ez m3 d3]) :
    LR (((World.setCell w ⟨g, 0, none⟩ (d)).setCell ⟨g, 1, none⟩ (e)).setCell ⟨g, 2, none⟩ (f)) (.agg #[.slice ax nx cx, .slice ay ny cy, .slice az nz cz]) q :=
  LR.mk (put3s h.nv.1 hk) (put3s h.nv.2.1 hk) (put3s h.nv.2.2 hk)
inductive FK (w : World) : Value → Pt (Fin PP) → Prop
  | far : FK w (.agg #[.slice none 0 0, .slice none 0 0, .slice none 0 0]) .far
  | aff {v : Value} {q : J} {i X Y : Fin PP} (h : LR w v q) (hn : Near q i X Y) : FK w v (.aff X Y)
theorem FK.below {w w' : World} {v : Value} {P : Pt (Fin PP)} (h : FK w v P) (hb : Below w.heap.size w w') : FK w' v P := by
  cases h with
  | far => exact .far
  | aff h hn => exact .aff (h.below hb) hn
theorem FK.put {w : World} {v : Value} {ex ey ez : Option Addr} {m1 d1 m2 d2 m3 d3 g : Nat} {P : Pt (Fin PP)} {d e f : Value} (h : FK w v P) (hk : Bk 150 w g #[.slice ex m1 d1, .slice ey m2 d2, .slice ez m3 d3]) :
    FK (((World.setCell w ⟨g, 0, none⟩ (d)).setCell ⟨g, 1, none⟩ (e)).setCell ⟨g, 2, none⟩ (f)) v P := by
  cases h with
  | far => exact .far
  | aff h hn =>
    obtain ⟨ax, nx, cx, ay, ny, cy, az, nz, cz, rfl⟩ := h.shape
    exact .aff (h.put hk) hn
theorem FK.fs {w : World} {v : Value} {P : Pt (Fin PP)} (h : FK w v P) : FS w v P := by
  cases h with
  | far => exact .inl ⟨rfl, rfl⟩
  | aff h hn => exact .inr ⟨_, _, _, _, h, hn, rfl⟩
structure FI (w wr : World) (gP gR gO : Nat) (bx bb ax ay az : Option Addr) (mx dx my dy nx cx ny cy nz cz : Nat) (p : Po) (P : Pt (Fin PP)) : Prop where
  kp : Bk 72 wr gP #[.bool false, .slice bx mx dx, .slice bb my dy]
  kr : Bk 72 wr gR #[.bool false, .slice none 0 0, .slice none 0 0]
  ko : Bk 150 wr gO #[.slice ax nx cx, .slice ay ny cy, .slice az nz cz]
  px : NV wr (.slice bx mx dx) p.x
  py : NV wr (.slice bb my dy) p.y
  fk : FK wr (.agg #[.slice ax nx cx, .slice ay ny cy, .slice az nz cz]) P
  below : Below w.heap.size w wr
def Gs (w : World) (gP gR gO : Nat) : Prop := gP ≠ gO ∧ gR ≠ gO ∧ gP ≠ gR ∧ w.heap.size ≤ gP ∧ w.heap.size ≤ gR ∧ w.heap.size ≤ gO
section
variable {w wr : World} {gP gR gO : Nat} {bx bb ax ay az : Option Addr} {mx dx my dy nx cx ny cy nz cz : Nat} {p : Po} {P : Pt (Fin PP)}
theorem FI.down {w' : World} (h : FI w wr gP gR gO bx bb ax ay az mx dx my dy nx cx ny cy nz cz p P) (hb : Below wr.heap.size wr w') : FI w w' gP gR gO bx bb ax ay az mx dx my dy nx cx ny cy nz cz p P :=
  ⟨h.kp.below hb, h.kr.below hb, h.ko.below hb, h.px.below hb, h.py.below hb, h.fk.below hb, h.below.trans (hb.mono h.below.size)⟩
theorem FI.store {ex ey ez : Option Addr} {m1 d1 m2 d2 m3 d3 : Nat} {P' : Pt (Fin PP)} (h : FI w wr gP gR gO bx bb ax ay az mx dx my dy nx cx ny cy nz cz p P) (hg : Gs w gP gR gO) (hf : FK wr (.agg #[.slice ex m1 d1, .slice ey m2 d2, .slice ez m3 d3]) P') :
    FI w (((World.setCell wr ⟨gO, 0, none⟩ (.slice ex m1 d1)).setCell ⟨gO, 1, none⟩ (.slice ey m2 d2)).setCell ⟨gO, 2, none⟩ (.slice ez m3 d3)) gP gR gO bx bb ex ey ez mx dx my dy m1 d1 m2 d2 m3 d3 p P' :=
  ⟨Bk.puto3 hg.1 h.kp, Bk.puto3 hg.2.1 h.kr, Bk.put3 h.ko, put3s h.px h.ko, put3s h.py h.ko, hf.put h.ko, by have hb := h.below; have hl := hg.2.2.2.2.2; go_grown⟩
theorem FI.other {ex ey ez : Option Addr} {m1 d1 m2 d2 m3 d3 gM : Nat} {d e f : Value} (h : FI w wr gP gR gO bx bb ax ay az mx dx my dy nx cx ny cy nz cz p P) (hg : gP ≠ gM ∧ gR ≠ gM ∧ gO ≠ gM ∧ w.heap.size ≤ gM) (hk : Bk 150 wr gM #[.slice ex m1 d1, .slice ey m2 d2, .slice ez m3 d3]) :
    FI w (((World.setCell wr ⟨gM, 0, none⟩ (d)).setCell ⟨gM, 1, none⟩ (e)).setCell ⟨gM, 2, none⟩ (f)) gP gR gO bx bb ax ay az mx dx my dy nx cx ny cy nz cz p P :=
  ⟨Bk.puto3 hg.1 h.kp, Bk.puto3 hg.2.1 h.kr, Bk.puto3 hg.2.2.1 h.ko, put3s h.px hk, put3s h.py hk, h.fk.put hk, by have hb := h.below; have hl := hg.2.2.2; go_grown⟩
theorem FK.put64 {w : World} {v : Value} {b : Bool} {ex ey : Option Addr} {m1 d1 m2 d2 g : Nat} {P : Pt (Fin PP)} {d e f : Value} (h : FK w v P) (hk : Bk 72 w g #[.bool b, .slice ex m1 d1, .slice ey m2 d2]) :
    FK (((World.setCell w ⟨g, 0, none⟩ (d)).setCell ⟨g, 1, none⟩ (e)).setCell ⟨g, 2, none⟩ (f)) v P := by
  cases h with
  | far => exact .far
  | aff h hn =>
    obtain ⟨ax, nx, cx, ay, ny, cy, az, nz, cz, rfl⟩ := h.shape
    exact .aff (LR.mk (put3_ex h.nv.1 hk) (put3_ex h.nv.2.1 hk) (put3_ex h.nv.2.2 hk)) hn
theorem FI.other64 {b : Bool} {ex ey : Option Addr} {m1 d1 m2 d2 gQ : Nat} {d e f : Value} (h : FI w wr gP gR gO bx bb ax ay az mx dx my dy nx cx ny cy nz cz p P) (hg : gP ≠ gQ ∧ gR ≠ gQ ∧ gO ≠ gQ ∧ w.heap.size ≤ gQ) (hk : Bk 72 wr gQ #[.bool b, .slice ex m1 d1, .slice ey m2 d2]) :
    FI w (((World.setCell wr ⟨gQ, 0, none⟩ (d)).setCell ⟨gQ, 1, none⟩ (e)).setCell ⟨gQ, 2, none⟩ (f)) gP gR gO bx bb ax ay az mx dx my dy nx cx ny cy nz cz p P :=
  ⟨Bk.puto3 hg.1 h.kp, Bk.puto3 hg.2.1 h.kr, Bk.puto3 hg.2.2.1 h.ko, put3_ex h.px hk, put3_ex h.py hk, h.fk.put64 hk, by have hb := h.below; have hl := hg.2.2.2; go_grown⟩
end
theorem near_fresh {x y : Nat} (hx : x < mP) (hy : y < mP) : Near ⟨x, y, 1⟩ 1 (c x) (c y) := by
  refine ⟨⟨hx, hy, show 1 < mP by decide +kernel⟩, ?_, ?_, ?_⟩
  · show c 1 * 1 = 1
    rw [mul_one_x]; rfl
  · show c x = c x * (1 * 1)
    rw [mul_one_x, mul_one_x]
  · show c y = c y * (1 * 1 * 1)
    rw [mul_one_x, mul_one_x, mul_one_x]
theorem near_of {x y : Fin PP} : Near ⟨x.val, y.val, 1⟩ 1 x y := by
  have h := near_fresh (x := x.val) (y := y.val) x.isLt y.isLt
  have e : ∀ z : Fin PP, c z.val = z := fun z => by
    apply Fin.ext
    rw [val_c, Nat.mod_eq_of_lt z.isLt]
  rwa [e, e] at h
set_option maxHeartbeats 32000000 in
theorem fast7_on (v u : Value) (p : Po) (k : Nat) (hp : p.on = true) (hpi : p.i = false) (hk : k < big) (w : World) (h : RP w v p) (q : NV w u k) : Calls Tryz.prog 68 #[v, u] w fun e w' => ∃ v', e = .returned v' ∧ RP w' v' (mulB p k 0) ∧ Below w.heap.size w w' := by
  obtain ⟨r, h1, h2, h3, h4⟩ := q
  have hlen := len_big h3 h4 hk
  obtain ⟨g, cap, rfl, hc, hcm, hg, hca⟩ := h1
  have HCA := Lib.hid hca
  have HD := Lib.hid h2
  have HV := Lib.hid h4
  have HG := Lib.hid hg
  obtain ⟨L, hL⟩ : ∃ L, L = r.length := ⟨_, rfl⟩
  rw [← hL] at hlen ⊢
  have HL := Lib.hid hL
  have HFAR : Hid (Mb p k (16 * L) = .far) := Lib.hid (Mb_far p (by
    have := val_lt r h2
    rw [h4, ← hL, show (65536 : Nat) = 2 ^ 16 from rfl, ← Nat.pow_mul] at this
    exact this))
  have HP := Lib.hid hp
  have HTP : Hid (toPt p = .aff (c p.x) (c p.y)) := Lib.hid (by unfold toPt; rw [if_neg (by rw [hpi]; decide)])
  have HPL : Hid (p.x < mP ∧ p.y < mP) := Lib.hid (by
    obtain ⟨x, y, i⟩ := p
    cases hpi
    exact on_lt hp)
  obtain ⟨bx, mx, dx, bb, my, dy, rfl, hn⟩ := h
  have HN := Lib.hid (hn hpi)
  rw [hpi]
  clear hca h2 h3 h4 hg hL hc hcm hn hpi hk hp
  go_enter Tryz.func68, Tryz.ntmps68
  go_wp2_with fail
  have F0 : Hid (FI w (((w.alloc (.cells #[.bool false, .slice bx mx dx, .slice bb my dy] 72)).alloc (.cells #[.bool false, .slice none 0 0, .slice none 0 0] 72)).alloc (.cells #[.slice none 0 0, .slice none 0 0, .slice none 0 0] 150)) w.heap.size (w.heap.size + 1) (w.heap.size + 1 + 1) bx bb none none none mx dx my dy 0 0 0 0 0 0 p (Mb p k (16 * L))) := Lib.hid (by
    have hb : Below w.heap.size w (((w.alloc (.cells #[.bool false, .slice bx mx dx, .slice bb my dy] 72)).alloc (.cells #[.bool false, .slice none 0 0, .slice none 0 0] 72)).alloc (.cells #[.slice none 0 0, .slice none 0 0, .slice none 0 0] 150)) := by go_grown
    rw [HFAR.out]
    exact ⟨Bk.alloc (Bk.alloc (Bk.new rfl)), Bk.alloc (Bk.new (by simp)), Bk.new (by simp), HN.out.1.below hb, HN.out.2.below hb, .far, hb⟩)
  have GS : Hid (Gs w w.heap.size (w.heap.size + 1) (w.heap.size + 1 + 1)) := Lib.hid (by unfold Gs; omega)
  generalize (((w.alloc (.cells #[.bool false, .slice bx mx dx, .slice bb my dy] 72)).alloc (.cells #[.bool false, .slice none 0 0, .slice none 0 0] 72)).alloc (.cells #[.slice none 0 0, .slice none 0 0, .slice none 0 0] 150)) = w0 at F0 ⊢
  generalize w.heap.size + 1 + 1 = gO at F0 GS ⊢
  generalize w.heap.size + 1 = gR at F0 GS ⊢
  go_loopw [6] (fun i wr => ∃ (j : Nat) (ax ay az : Option Addr) (nx cx ny cy nz cz : Nat), j ≤ 16 * L ∧ i = .int .i64 ((j : Int) - 1) ∧ Hid (FI w wr w.heap.size gR gO bx bb ax ay az mx dx my dy nx cx ny cy nz cz p (Mb p k j))) (fun i _ => (intOf i + 1).toNat)
  case atStart => exact ⟨16 * L, none, none, none, 0, 0, 0, 0, 0, 0, Nat.le_refl _, by go_num, F0⟩
  case round =>
    clear F0 HFAR HN
    obtain ⟨j, ax, ay, az, nx, cx, ny, cy, nz, cz, hj, rfl, F⟩ := hrel
    obtain ⟨o0, o1, o2⟩ := Bk.cells3 F.out.ko
    by_cases h0 : j = 0
    · subst h0
      go_wp2_with fail
      refine (end_fs _ _ wr F.out.fk.fs).mono ?_
      rintro e w1 ⟨v', rfl, hr, hb⟩
      have FE := Lib.hid (F.out.down hb)
      clear F o0 o1 o2 hb
      obtain ⟨bx1, mx1, dx1, bb1, my1, dy1, rfl, hn1⟩ := hr
      obtain ⟨ti1, hti1⟩ : ∃ b, b = (ofPt (Mb p k 0)).i := ⟨_, rfl⟩
      rw [← hti1]
      have HR1 : Hid (RP w1 (.agg #[.bool ti1, .slice bx1 mx1 dx1, .slice bb1 my1 dy1]) (mulB p k 0)) := Lib.hid (RP.mk hti1 hn1)
      clear hn1 hti1
      obtain ⟨c0, c1, c2⟩ := Bk.cells3 FE.out.kr
      obtain ⟨f0, f1, f2⟩ := Bk.fros3 FE.out.kr
      go_wp2_with fail
      refine ret_cell64 rfl gR (.bool ti1) (.slice bx1 mx1 dx1) (.slice bb1 my1 dy1) rfl (Bk.put3 FE.out.kr) rfl ⟨_, rfl, HR1.out.put FE.out.kr, ?_⟩
      have hb := FE.out.below
      have hg := GS.out.2.2.2.2.1
      go_grown
    · obtain ⟨q, rfl⟩ : ∃ q, j = q + 1 := ⟨j - 1, by omega⟩
      have e1 : ((q + 1 : Nat) : Int) - 1 = (q : Int) := by omega
      rw [e1]
      have hkr : q / 16 < r.length := by have := HL.out; omega
      have HBIT := Lib.hid (bit_at HD.out hkr)
      have hca := HCA.out (q / 16) hkr
      have hxl := HD.out _ (List.getElem_mem hkr)
      have HHALF := Lib.hid (show k / 2 ^ q = 2 * (k / 2 ^ (q + 1)) + k / 2 ^ q % 2 by
        rw [Nat.pow_succ, ← Nat.div_div_eq_div_mul]; omega)
      rw [HV.out] at HBIT
      generalize r[q / 16] = d at hca hxl HBIT
      have HCX := Lib.hid hca
      clear hca
      have t1 : Int.tdiv (q : Int) 16 = ((q / 16 : Nat) : Int) := by rw [Int.tdiv_eq_ediv_of_nonneg (by omega)]; omega
      have t2 : Int.tmod (q : Int) 16 = ((q % 16 : Nat) : Int) := by rw [Int.tmod_eq_emod_of_nonneg (by omega)]; omega
      have t3 : (((q / 16 : Nat) : Nat) : Int) < (L : Int) := by omega
      have IC : Hid (∀ X, Below w.heap.size w X → X.cell? ⟨g, q / 16, none⟩ = some (.int .u32 ((d : Nat) : Int))) := Lib.hid (fun X hX => (hX.cell (p := ⟨g, q / 16, none⟩) HG.out).trans HCX.out)
      clear HCX
      generalize q / 16 = dq at t1 t3 IC hkr
      have hs : q % 16 < 16 := Nat.mod_lt _ (by decide)
      obtain ⟨s, hss⟩ : ∃ s, s = q % 16 := ⟨_, rfl⟩
      rw [← hss] at t2 hs HBIT
      clear hss
      obtain ⟨b, hbb⟩ : ∃ b, b = k / 2 ^ q % 2 := ⟨_, rfl⟩
      have hb1 : bits .and .u32 ((d : Int) / 2 ^ s) 1 = (b : Int) := by
        have e5 : (d : Int) / 2 ^ s = ((d / 2 ^ s : Nat) : Int) := by rw [Int.natCast_ediv, Int.natCast_pow]; rfl
        have e6 : d / 2 ^ s ≤ d := Nat.div_le_self _ _
        have := u32_and_nat (d / 2 ^ s) 1 (by omega) (by decide)
        rw [show ((1 : Nat) : Int) = 1 from rfl, Nat.and_one_is_mod, HBIT.out] at this
        rw [e5, this, hbb]
      have hb01 : b = 0 ∨ b = 1 := by omega
      have HE := Lib.hid (show k / 2 ^ q = 2 * (k / 2 ^ (q + 1)) + b by rw [hbb]; exact HHALF.out)
      clear hbb HHALF
      obtain ⟨P1, hP1⟩ : ∃ P1, P1 = Mb p k (q + 1) := ⟨_, rfl⟩
      rw [← hP1] at F
      have HON : Hid (On aP bP P1) := Lib.hid (by rw [hP1]; exact Mb_on HP.out _ _)
      have HM0 : Hid (b = 0 → sum inv aP P1 P1 = Mb p k q) := Lib.hid (fun h => by rw [hP1]; exact Mb_dbl HP.out k q (by rw [HE.out, h, Nat.add_zero]))
      have HM1 : Hid (b = 1 → sum inv aP (sum inv aP P1 P1) (toPt p) = Mb p k q) := Lib.hid (fun h => by rw [hP1]; exact Mb_one HP.out k q (by rw [HE.out, h]))
      clear hP1 HE
      rcases F.out.fk.fs with ⟨hv, rfl⟩ | ⟨J, ij, X, Y, hlr, hnear, rfl⟩
      · simp only [Value.agg.injEq, Array.mk.injEq, List.cons.injEq, Value.slice.injEq, and_true] at hv
        obtain ⟨⟨rfl, rfl, rfl⟩, ⟨rfl, rfl, rfl⟩, rfl, rfl, rfl⟩ := hv
        have ic := IC.out wr F.out.below
        rcases hb01 with rfl | rfl
        · have hb2 : bits .and .u32 ((d : Int) / 2 ^ s) 1 = 0 := hb1
          clear hb1
          have hm := HM0.out rfl
          rw [show sum inv aP (.far : Pt (Fin PP)) .far = .far from rfl] at hm
          rw [hm] at F
          clear hm HM0 HM1 IC
          go_wp2_with fail
          go_roundw
          case rel => exact ⟨q, none, none, none, 0, 0, 0, 0, 0, 0, by omega, by go_num, F⟩
          case measure => simp [intOf] <;> omega
        · have hb2 : bits .and .u32 ((d : Int) / 2 ^ s) 1 = 1 := hb1
          clear hb1
          have hm := HM1.out rfl
          rw [show sum inv aP (.far : Pt (Fin PP)) .far = .far from rfl, show sum inv aP (.far : Pt (Fin PP)) (toPt p) = toPt p from rfl, HTP.out] at hm
          have HMQ := Lib.hid hm
          clear hm HM0 HM1
          obtain ⟨p0, p1, p2⟩ := Bk.cells3 F.out.kp
          have F1 : Hid (FI w (wr.alloc (.cells #[.int .u32 1] 111)) w.heap.size gR gO bx bb none none none mx dx my dy 0 0 0 0 0 0 p .far) := Lib.hid (F.out.down (al_below _ _))
          have F2 := Lib.hid (F1.out.store GS.out (.aff (LR.mk (q := ⟨p.x, p.y, 1⟩) F1.out.px F1.out.py (nv_one wr)) (near_fresh HPL.out.1 HPL.out.2)))
          rw [HMQ.out] at F2
          obtain ⟨v0, v1, v2⟩ := Bk.cells3 F1.out.ko
          obtain ⟨f0, f1, f2⟩ := Bk.fros3 F1.out.ko
          clear F F1 IC
          go_wp2_with fail
          go_roundw
          case rel => exact ⟨q, bx, bb, some ⟨wr.heap.size, 0, none⟩, mx, dx, my, dy, 1, 1, by omega, by go_num, F2⟩
          case measure => simp [intOf] <;> omega
      · obtain ⟨nxx, nyy, nzz⟩ := hlr.nv
        have hl0 := (len_nv nzz).2.2 (near_end hnear).1
        obtain ⟨mz, rfl⟩ : ∃ mz, nz = mz + 1 := ⟨nz - 1, by omega⟩
        clear hl0 nxx nyy nzz
        obtain ⟨i2, X2, Y2, hn2, hs2⟩ := near_dbl hnear HON.out
        have HT := Lib.hid (twice7 _ J hnear.1 wr hlr)
        have ND := Lib.hid hn2
        have HM0' : Hid (b = 0 → .aff X2 Y2 = Mb p k q) := Lib.hid (fun h => by rw [← hs2]; exact HM0.out h)
        have HM1' : Hid (b = 1 → sum inv aP (.aff X2 Y2) (toPt p) = Mb p k q) := Lib.hid (fun h => by rw [← hs2]; exact HM1.out h)
        have HO2 : Hid (On aP bP (.aff X2 Y2)) := Lib.hid (by rw [← hs2]; exact on_sum fit HON.out HON.out)
        clear hn2 hs2 hlr hnear HM0 HM1 HON
        go_wp2_with fail
        refine HT.out.mono ?_
        rintro e w1 ⟨v1, rfl, hlr, hb⟩
        obtain ⟨ex, m1, d1, ey, m2, d2, ez, m3, d3, rfl⟩ := hlr.shape
        have F1 := Lib.hid (F.out.down hb)
        have L1 := Lib.hid hlr
        have F2 := Lib.hid (F1.out.store GS.out (.aff L1.out ND.out))
        have L2 := Lib.hid (L1.out.put (d := .slice ex m1 d1) (e := .slice ey m2 d2) (f := .slice ez m3 d3) F1.out.ko)
        have ic := IC.out _ F2.out.below
        clear F hb hlr HT o0 o1 o2
        obtain ⟨o0, o1, o2⟩ := Bk.cells3 F1.out.ko
        obtain ⟨f0, f1, f2⟩ := Bk.fros3 F1.out.ko
        have hl1 := (len_nv L1.out.nv.2.2).2.2 (near_end ND.out).1
        obtain ⟨mz1, rfl⟩ : ∃ mz1, m3 = mz1 + 1 := ⟨m3 - 1, by omega⟩
        clear hl1
        rcases hb01 with rfl | rfl
        · have hb2 : bits .and .u32 ((d : Int) / 2 ^ s) 1 = 0 := hb1
          clear hb1
          have hm := HM0'.out rfl
          rw [hm] at F2
          clear hm HM0' HM1' IC L1 L2 F1
          go_wp2_with fail
          go_roundw
          case rel => exact ⟨q, ex, ey, ez, m1, d1, m2, d2, mz1 + 1, d3, by omega, by go_num, F2⟩
          case measure => simp [intOf] <;> omega
        · have hb2 : bits .and .u32 ((d : Int) / 2 ^ s) 1 = 1 := hb1
          clear hb1
          have HMQ := Lib.hid (HM1'.out rfl)
          clear HM0' HM1' L1
          obtain ⟨p0, p1, p2⟩ := Bk.cells3 F2.out.kp
          obtain ⟨q0, q1, q2⟩ := Bk.cells3 F2.out.ko
          go_wp2_with fail
          clear p0 p1 p2 q0 q1 q2 o0 o1 o2 f0 f1 f2 ic IC F1
          generalize (((World.setCell w1 ⟨gO, 0, none⟩ (.slice ex m1 d1)).setCell ⟨gO, 1, none⟩ (.slice ey m2 d2)).setCell ⟨gO, 2, none⟩ (.slice ez (mz1 + 1) d3)) = w2 at F2 L2 ⊢
          generalize dblR J = D at F2 L2 ND
          have HBG : Hid (D.x < big ∧ D.y < big ∧ D.z < big ∧ p.x < big ∧ p.y < big) := Lib.hid ⟨mp_big ND.out.1.1, mp_big ND.out.1.2.1, mp_big ND.out.1.2.2, mp_big HPL.out.1, mp_big HPL.out.2⟩
          by_cases hh : addH D p = 0
          · refine (more_no (addH D p) D.x D.y D.z p.x p.y _ _ _ _ _ _ _ _ _ _ _ _ _ _ _ HBG w2 L2.out.nv.1 L2.out.nv.2.1 L2.out.nv.2.2 F2.out.px F2.out.py (Lib.hid rfl) hh).mono ?_
            rintro e w3 ⟨rfl, hb⟩
            have F4 := Lib.hid ((F2.out.down hb).down (al_below w3 (.cells #[.slice none 0 0, .slice none 0 0, .slice none 0 0] 150)))
            have L4 := Lib.hid ((L2.out.below hb).below (al_below w3 (.cells #[.slice none 0 0, .slice none 0 0, .slice none 0 0] 150)))
            have KM4 : Hid (Bk 150 (w3.alloc (.cells #[.slice none 0 0, .slice none 0 0, .slice none 0 0] 150)) w3.heap.size #[.slice none 0 0, .slice none 0 0, .slice none 0 0]) := Lib.hid (Bk.new rfl)
            have GM : Hid (w.heap.size ≠ w3.heap.size ∧ gR ≠ w3.heap.size ∧ gO ≠ w3.heap.size ∧ w.heap.size ≤ w3.heap.size) := Lib.hid (by
              have h0 := (F2.out.down hb).below.size
              have h1 := (F2.out.down hb).kp.lt
              have h2 := (F2.out.down hb).kr.lt
              have h3 := (F2.out.down hb).ko.lt
              omega)
            clear F2 L2 hb hh
            have HEO : Hid (endR D = ofPt (.aff X2 Y2)) := Lib.hid (near_end ND.out).2
            have HLT : Hid (D.lt ∧ D.z ≠ 0 ∧ (endR D).on = true ∧ p.on = true) := Lib.hid ⟨ND.out.1, (near_end ND.out).1, by rw [HEO.out]; exact (on_ofPt HO2.out).1, HP.out⟩
            have HSM : Hid ((endR D).add p = ofPt (Mb p k q)) := Lib.hid (by
              rw [add_is HLT.out.2.2.1 HP.out, HEO.out, (on_ofPt HO2.out).2.1, HMQ.out])
            have HRP4 : Hid (RP (w3.alloc (.cells #[.slice none 0 0, .slice none 0 0, .slice none 0 0] 150)) (.agg #[.bool false, .slice bx mx dx, .slice bb my dy]) p) := Lib.hid (RP.mk (by
              have := HTP.out
              unfold toPt at this
              cases hi : p.i
              · rfl
              · rw [hi, if_pos rfl] at this; cases this) (fun _ => ⟨F4.out.px, F4.out.py⟩))
            go_wp2_with fail
            generalize w3.heap.size = gM at KM4 GM ⊢
            generalize (w3.alloc (.cells #[.slice none 0 0, .slice none 0 0, .slice none 0 0] 150)) = w4 at F4 L4 KM4 HRP4 ⊢
            refine fa14 gO w.heap.size D p _ _ _ _ _ _ _ _ _ _ _ _ _ _ _ w4 F4.out.ko F4.out.kp HLT L4 HRP4 ?_
            intro y1 y3 y4 w5 hb hr1 hr3 hnw
            rw [HSM.out] at hr3
            obtain ⟨gQ, rfl, hgQ, KQ⟩ := hnw
            obtain ⟨qx, n1, k1, qy, n2, k2, rfl, hq3⟩ := hr3
            have F5 := Lib.hid (F4.out.down hb)
            have KM5 := Lib.hid (KM4.out.below hb)
            have KQ5 := Lib.hid KQ
            have GQ : Hid (w.heap.size ≠ gQ ∧ gR ≠ gQ ∧ gO ≠ gQ ∧ w.heap.size ≤ gQ ∧ gM ≠ gQ ∧ gQ ≠ gM) := Lib.hid (by
              have h0 := F4.out.below.size
              have h1 := F4.out.kp.lt
              have h2 := F4.out.kr.lt
              have h3 := F4.out.ko.lt
              have h4 := KM4.out.lt
              omega)
            have HQ3 := Lib.hid hq3
            clear hb hr1 hgQ KQ hq3 F4 L4 KM4 HRP4 HLT
            simp only [fa14O, findR, Tryz.f68, Option.bind_some, Option.or, Option.getD, Nat.reduceEqDiff, if_true, if_false, reduceIte, List.drop_succ_cons, List.drop_zero]
            obtain ⟨a0, a1, a2⟩ := Bk.cells3 KQ5.out
            obtain ⟨b0, b1, b2⟩ := Bk.fros3 KQ5.out
            obtain ⟨PQ, hPQ⟩ : ∃ P, Mb p k q = P := ⟨_, rfl⟩
            rw [hPQ] at HQ3 ⊢
            have HPQ := Lib.hid hPQ
            clear hPQ HSM HMQ
            have fit2 : ∀ qi : Bool, Hid (FI w (((World.setCell w5 ⟨gQ, 0, none⟩ (.bool qi)).setCell ⟨gQ, 1, none⟩ (.slice qx n1 k1)).setCell ⟨gQ, 2, none⟩ (.slice qy n2 k2)) w.heap.size gR gO bx bb ex ey ez mx dx my dy m1 d1 m2 d2 (mz1 + 1) d3 p (.aff X2 Y2)) := fun qi => Lib.hid (F5.out.other64 ⟨GQ.out.1, GQ.out.2.1, GQ.out.2.2.1, GQ.out.2.2.2.1⟩ KQ5.out)
            have kmB : ∀ qi : Bool, Hid (Bk 150 ((((World.setCell w5 ⟨gQ, 0, none⟩ (.bool qi)).setCell ⟨gQ, 1, none⟩ (.slice qx n1 k1)).setCell ⟨gQ, 2, none⟩ (.slice qy n2 k2)).alloc (.cells #[.int .u32 1] 111)) gM #[.slice none 0 0, .slice none 0 0, .slice none 0 0]) := fun qi => Lib.hid (Bk.alloc (Bk.puto3 GQ.out.2.2.2.2.1 KM5.out))
            have kqA : ∀ qi : Bool, Hid (Bk 72 (((World.setCell w5 ⟨gQ, 0, none⟩ (.bool qi)).setCell ⟨gQ, 1, none⟩ (.slice qx n1 k1)).setCell ⟨gQ, 2, none⟩ (.slice qy n2 k2)) gQ #[.bool qi, .slice qx n1 k1, .slice qy n2 k2]) := fun qi => Lib.hid (Bk.put3 KQ5.out)
            have sA : ∀ qi : Bool, (((World.setCell w5 ⟨gQ, 0, none⟩ (.bool qi)).setCell ⟨gQ, 1, none⟩ (.slice qx n1 k1)).setCell ⟨gQ, 2, none⟩ (.slice qy n2 k2)).heap.size = w5.heap.size := fun qi => by simp
            cases PQ with
            | far =>
              have e : (ofPt (.far : Pt (Fin PP))).i = true := rfl
              rw [e]
              clear e
              have FB := Lib.hid ((fit2 true).out.down (al_below _ (.cells #[.int .u32 1] 111)))
              have KMB := kmB true
              have KQA := kqA true
              have KQC : Hid (Bk 72 (((World.setCell ((((World.setCell w5 ⟨gQ, 0, none⟩ (.bool true)).setCell ⟨gQ, 1, none⟩ (.slice qx n1 k1)).setCell ⟨gQ, 2, none⟩ (.slice qy n2 k2)).alloc (.cells #[.int .u32 1] 111)) ⟨gM, 0, none⟩ (.slice qx n1 k1)).setCell ⟨gM, 1, none⟩ (.slice qy n2 k2)).setCell ⟨gM, 2, none⟩ (.slice (some ⟨w5.heap.size, 0, none⟩) 1 1)) gQ #[.bool true, .slice qx n1 k1, .slice qy n2 k2]) := Lib.hid (Bk.puto3 GQ.out.2.2.2.2.2 (Bk.alloc KQA.out))
              have FC := Lib.hid (FB.out.other (d := .slice qx n1 k1) (e := .slice qy n2 k2) (f := .slice (some ⟨w5.heap.size, 0, none⟩) 1 1) GM.out KMB.out)
              have KMC : Hid (Bk 150 (((World.setCell ((((World.setCell w5 ⟨gQ, 0, none⟩ (.bool true)).setCell ⟨gQ, 1, none⟩ (.slice qx n1 k1)).setCell ⟨gQ, 2, none⟩ (.slice qy n2 k2)).alloc (.cells #[.int .u32 1] 111)) ⟨gM, 0, none⟩ (.slice qx n1 k1)).setCell ⟨gM, 1, none⟩ (.slice qy n2 k2)).setCell ⟨gM, 2, none⟩ (.slice (some ⟨w5.heap.size, 0, none⟩) 1 1)) gM #[.slice qx n1 k1, .slice qy n2 k2, .slice (some ⟨w5.heap.size, 0, none⟩) 1 1]) := Lib.hid (Bk.put3 KMB.out)
              have FDD := Lib.hid (FC.out.other (d := .slice none 0 0) (e := .slice none 0 0) (f := .slice none 0 0) GM.out KMC.out)
              have KMD : Hid (Bk 150 (((World.setCell (((World.setCell ((((World.setCell w5 ⟨gQ, 0, none⟩ (.bool true)).setCell ⟨gQ, 1, none⟩ (.slice qx n1 k1)).setCell ⟨gQ, 2, none⟩ (.slice qy n2 k2)).alloc (.cells #[.int .u32 1] 111)) ⟨gM, 0, none⟩ (.slice qx n1 k1)).setCell ⟨gM, 1, none⟩ (.slice qy n2 k2)).setCell ⟨gM, 2, none⟩ (.slice (some ⟨w5.heap.size, 0, none⟩) 1 1)) ⟨gM, 0, none⟩ (.slice none 0 0)).setCell ⟨gM, 1, none⟩ (.slice none 0 0)).setCell ⟨gM, 2, none⟩ (.slice none 0 0)) gM #[.slice none 0 0, .slice none 0 0, .slice none 0 0]) := Lib.hid (Bk.put3 KMC.out)
              have FE := Lib.hid (FDD.out.store GS.out .far)
              rw [← HPQ.out] at FE
              have s0 := sA true
              obtain ⟨c0, c1, c2⟩ := Bk.cells3 KQA.out
              obtain ⟨g0, g1, g2⟩ := Bk.cells3 KMB.out
              obtain ⟨h0, h1, h2⟩ := Bk.fros3 KMB.out
              obtain ⟨l0, l1, l2⟩ := Bk.cells3 KQC.out
              obtain ⟨r0, r1, r2⟩ := Bk.cells3 KMC.out
              obtain ⟨s0', s1, s2⟩ := Bk.fros3 KMC.out
              obtain ⟨u0, u1, u2⟩ := Bk.cells3 KMD.out
              obtain ⟨x0, x1, x2⟩ := Bk.cells3 FDD.out.ko
              obtain ⟨z0, z1, z2⟩ := Bk.fros3 FDD.out.ko
              clear fit2 kmB kqA sA FB KMB KQA KQC FC KMC FDD KMD F5 KM5 KQ5 HQ3
              go_wp2_with fail
              go_roundw
              case rel => exact ⟨q, none, none, none, 0, 0, 0, 0, 0, 0, by omega, by go_num, FE⟩
              case measure => simp [intOf] <;> omega
            | aff xq yq =>
              have e : (ofPt (.aff xq yq : Pt (Fin PP))).i = false := rfl
              rw [e]
              clear e
              have FB := Lib.hid ((fit2 false).out.down (al_below _ (.cells #[.int .u32 1] 111)))
              have KMB := kmB false
              have KQA := kqA false
              have hq := HQ3.out rfl
              have hn1 := nv_one (((World.setCell w5 ⟨gQ, 0, none⟩ (.bool false)).setCell ⟨gQ, 1, none⟩ (.slice qx n1 k1)).setCell ⟨gQ, 2, none⟩ (.slice qy n2 k2))
              rw [sA false] at hn1
              have LQ : LR (((World.setCell ((((World.setCell w5 ⟨gQ, 0, none⟩ (.bool false)).setCell ⟨gQ, 1, none⟩ (.slice qx n1 k1)).setCell ⟨gQ, 2, none⟩ (.slice qy n2 k2)).alloc (.cells #[.int .u32 1] 111)) ⟨gM, 0, none⟩ (.slice qx n1 k1)).setCell ⟨gM, 1, none⟩ (.slice qy n2 k2)).setCell ⟨gM, 2, none⟩ (.slice (some ⟨w5.heap.size, 0, none⟩) 1 1)) (.agg #[.slice qx n1 k1, .slice qy n2 k2, .slice (some ⟨w5.heap.size, 0, none⟩) 1 1]) ⟨xq.val, yq.val, 1⟩ := LR.mk (put3s ((put3_ex hq.1 KQ5.out).al _) KMB.out) (put3s ((put3_ex hq.2 KQ5.out).al _) KMB.out) (put3s hn1 KMB.out)
              have KQC : Hid (Bk 72 (((World.setCell ((((World.setCell w5 ⟨gQ, 0, none⟩ (.bool false)).setCell ⟨gQ, 1, none⟩ (.slice qx n1 k1)).setCell ⟨gQ, 2, none⟩ (.slice qy n2 k2)).alloc (.cells #[.int .u32 1] 111)) ⟨gM, 0, none⟩ (.slice qx n1 k1)).setCell ⟨gM, 1, none⟩ (.slice qy n2 k2)).setCell ⟨gM, 2, none⟩ (.slice (some ⟨w5.heap.size, 0, none⟩) 1 1)) gQ #[.bool false, .slice qx n1 k1, .slice qy n2 k2]) := Lib.hid (Bk.puto3 GQ.out.2.2.2.2.2 (Bk.alloc KQA.out))
              have FC := Lib.hid (FB.out.other (d := .slice qx n1 k1) (e := .slice qy n2 k2) (f := .slice (some ⟨w5.heap.size, 0, none⟩) 1 1) GM.out KMB.out)
              have KMC : Hid (Bk 150 (((World.setCell ((((World.setCell w5 ⟨gQ, 0, none⟩ (.bool false)).setCell ⟨gQ, 1, none⟩ (.slice qx n1 k1)).setCell ⟨gQ, 2, none⟩ (.slice qy n2 k2)).alloc (.cells #[.int .u32 1] 111)) ⟨gM, 0, none⟩ (.slice qx n1 k1)).setCell ⟨gM, 1, none⟩ (.slice qy n2 k2)).setCell ⟨gM, 2, none⟩ (.slice (some ⟨w5.heap.size, 0, none⟩) 1 1)) gM #[.slice qx n1 k1, .slice qy n2 k2, .slice (some ⟨w5.heap.size, 0, none⟩) 1 1]) := Lib.hid (Bk.put3 KMB.out)
              have FE := Lib.hid (FC.out.store GS.out (.aff LQ near_of))
              rw [← HPQ.out] at FE
              have s0 := sA false
              obtain ⟨c0, c1, c2⟩ := Bk.cells3 KQA.out
              obtain ⟨g0, g1, g2⟩ := Bk.cells3 KMB.out
              obtain ⟨h0, h1, h2⟩ := Bk.fros3 KMB.out
              obtain ⟨l0, l1, l2⟩ := Bk.cells3 KQC.out
              obtain ⟨r0, r1, r2⟩ := Bk.cells3 KMC.out
              obtain ⟨x0, x1, x2⟩ := Bk.cells3 FC.out.ko
              obtain ⟨z0, z1, z2⟩ := Bk.fros3 FC.out.ko
              clear fit2 kmB kqA sA FB KMB KQA KQC FC KMC F5 KM5 KQ5 HQ3 hq hn1 LQ
              go_wp2_with fail
              go_roundw
              case rel => exact ⟨q, qx, qy, some ⟨w5.heap.size, 0, none⟩, n1, k1, n2, k2, 1, 1, by omega, by go_num, FE⟩
              case measure => simp [intOf] <;> omega
          · obtain ⟨i3, X3, Y3, hn3, hs3⟩ := near_add ND.out hh
            have ND3 := Lib.hid hn3
            have HM3 : Hid (.aff X3 Y3 = Mb p k q) := Lib.hid (by rw [← hs3, ← HTP.out]; exact HMQ.out)
            clear hn3 hs3
            refine (more_yes (addH D p) (addRr D p) (addX D p) D.x D.y D.z p.x p.y _ _ _ _ _ _ _ _ _ _ _ _ _ _ _ HBG w2 L2.out.nv.1 L2.out.nv.2.1 L2.out.nv.2.2 F2.out.px F2.out.py (Lib.hid rfl) (Lib.hid rfl) (Lib.hid rfl) hh).mono ?_
            rintro e w3 ⟨v', rfl, hlr, hb⟩
            have hlr' : LR w3 v' (addR D p) := hlr
            obtain ⟨ex', m1', d1', ey', m2', d2', ez', m3', d3', rfl⟩ := hlr'.shape
            have F4 := Lib.hid ((F2.out.down hb).down (al_below w3 (.cells #[.slice ex' m1' d1', .slice ey' m2' d2', .slice ez' m3' d3'] 150)))
            have L4 := Lib.hid (hlr'.below (al_below w3 (.cells #[.slice ex' m1' d1', .slice ey' m2' d2', .slice ez' m3' d3'] 150)))
            have F6 := Lib.hid (F4.out.store GS.out (.aff L4.out ND3.out))
            rw [HM3.out] at F6
            have KM4 : Hid (Bk 150 (w3.alloc (.cells #[.slice ex' m1' d1', .slice ey' m2' d2', .slice ez' m3' d3'] 150)) w3.heap.size #[.slice ex' m1' d1', .slice ey' m2' d2', .slice ez' m3' d3']) := Lib.hid (Bk.new rfl)
            clear F2 L2 hlr hlr' hb hh HM3 ND3 L4
            obtain ⟨a0, a1, a2⟩ := Bk.cells3 KM4.out
            obtain ⟨o0, o1, o2⟩ := Bk.cells3 F4.out.ko
            obtain ⟨f0, f1, f2⟩ := Bk.fros3 F4.out.ko
            go_wp2_with fail
            go_roundw
            case rel => exact ⟨q, ex', ey', ez', m1', d1', m2', d2', m3', d3', by omega, by go_num, F6⟩
            case measure => simp [intOf] <;> omega
theorem mul_far_p : ∀ n, mul (.far : Pt (Fin PP)) n = .far
  | 0 => rfl
  | n + 1 => by
    show sum inv aP (mul .far n) .far = .far
    rw [mul_far_p n]
    rfl
theorem fast7 (v u : Value) (p : Po) (k : Nat) (hp : p.on = true) (hk : k < big) (w : World) (h : RP w v p) (q : NV w u k) : Calls Tryz.prog 68 #[v, u] w fun e w' => ∃ v', e = .returned v' ∧ RP w' v' (mulB p k 0) ∧ Below w.heap.size w w' := by
  cases hi : p.i
  · exact fast7_on v u p k hp hi hk w h q
  · have hm : mulB p k 0 = ⟨0, 0, true⟩ := by
      unfold mulB
      rw [show toPt p = .far by unfold toPt; rw [hi]; rfl, mul_far_p]
      rfl
    rw [hm]
    obtain ⟨ua, un, uc, rfl⟩ := q.shape
    obtain ⟨bx, mx, dx, bb, my, dy, rfl, hn⟩ := h
    rw [hi]
    clear hm hn hi hp hk q
    go_enter Tryz.func68, Tryz.ntmps68
    go_wp2_with fail
    refine ret_cell64 rfl (w.heap.size + 1) (.bool true) (.slice bx mx dx) (.slice bb my dy) rfl (Bk.new (by simp)) rfl ⟨_, rfl, RP.mk rfl (fun h => by cases h), ?_⟩
    go_grown
end Go.Proofs.YtpggkfdijmnmiaaGreat.Ref
namespace Go.Proofs.YtpggkfdijmnmiaaGreat
open Curve
theorem pigeon : ∀ (m n : Nat) (f : Nat → Nat), (∀ i, i < n → f i < m) → (∀ i j, i < n → j < n → f i = f j → i = j) → n ≤ m
  | 0, n, f, h, _ => by
    rcases Nat.eq_zero_or_pos n with h0 | h0
    · omega
    · exact absurd (h 0 h0) (by omega)
  | m + 1, 0, f, h, inj => by omega
  | m + 1, n + 1, f, h, inj => by
    have := pigeon m n (fun i => if f i = m then f n else f i) (fun i hi => by
      show (if f i = m then f n else f i) < m
      have h1 := h i (by omega)
      have h2 := h n (by omega)
      by_cases h3 : f i = m
      · rw [if_pos h3]
        have : f n ≠ m := fun h4 => by
          have := inj i n (by omega) (by omega) (by rw [h3, h4])
          omega
        omega
      · rw [if_neg h3]; omega) (fun i j hi hj he => by
      have he' : (if f i = m then f n else f i) = (if f j = m then f n else f j) := he
      by_cases h3 : f i = m
      · by_cases h4 : f j = m
        · exact inj i j (by omega) (by omega) (by rw [h3, h4])
        · rw [if_pos h3, if_neg h4] at he'
          have := inj n j (by omega) (by omega) he'
          omega
      · by_cases h4 : f j = m
        · rw [if_neg h3, if_pos h4] at he'
          have := inj i n (by omega) (by omega) he'
          omega
        · rw [if_neg h3, if_neg h4] at he'
          exact inj i j (by omega) (by omega) he')
    omega
def code : Pt (Fin PP) → Nat
  | .far => 2 * PP
  | .aff x y => 2 * x.val + y.val % 2
theorem code_lt (P : Pt (Fin PP)) : code P < 2 * PP + 1 := by
  cases P with
  | far => show 2 * PP < 2 * PP + 1; omega
  | aff x y =>
    have := x.isLt
    show 2 * x.val + y.val % 2 < 2 * PP + 1
    omega
theorem neg_val {y : Fin PP} (h : y ≠ 0) : (-y).val = PP - y.val := by
  have h0 : y.val ≠ 0 := fun h0 => h (Fin.ext h0)
  have := y.isLt
  show (PP - y.val) % PP = _
  exact Nat.mod_eq_of_lt (by omega)
theorem PP_odd : PP % 2 = 1 := by decide +kernel
theorem code_inj {P Q : Pt (Fin PP)} (hP : On aP bP P) (hQ : On aP bP Q) (h : code P = code Q) : P = Q := by
  cases P with
  | far =>
    cases Q with
    | far => rfl
    | aff x y =>
      have := x.isLt
      have h' : 2 * PP = 2 * x.val + y.val % 2 := h
      omega
  | aff x y =>
    cases Q with
    | far =>
      have := x.isLt
      have h' : 2 * x.val + y.val % 2 = 2 * PP := h
      omega
    | aff u v =>
      have h' : 2 * x.val + y.val % 2 = 2 * u.val + v.val % 2 := h
      have hx : x = u := Fin.ext (by omega)
      subst hx
      have hy : y.val % 2 = v.val % 2 := by omega
      rcases fit.mul_zero (sq_x hP hQ) with h5 | h5
      · rw [eq_of_sub h5]
      · have e := neg_of_add h5
        have hv := neg_val (fit.y hQ)
        rw [← e] at hv
        have := v.isLt
        have := PP_odd
        omega
def GP : Pt (Fin PP) := toPt G
theorem GP_on : On aP bP GP := (on_iff G_on).1
theorem G_N : Po.mul mN G = ⟨0, 0, true⟩ := by
  have h : (J.begin G.x G.y G.i).mulN mN 64 = J.far := by decide +kernel
  unfold Po.mul
  rw [h]
  exact J.point_far rfl
theorem of_far_inj {P : Pt (Fin PP)} (h : ofPt P = ⟨0, 0, true⟩) : P = .far := by
  cases P with
  | far => rfl
  | aff x y => injection h with _ _ h; cases h
theorem GP_N : mul GP mN = .far := by
  have := mul_is (k := mN) (by decide +kernel) G_on
  rw [G_N] at this
  exact of_far_inj this.symm
theorem far_mul (n : Nat) : mul .far n = .far := by
  induction n with
  | zero => rfl
  | succ n ih => rw [mul_succ_p, ih]; rfl
theorem canc_p {P Q R : Pt (Fin PP)} (hP : On aP bP P) (hQ : On aP bP Q) (hR : On aP bP R) (h : sum inv aP P Q = sum inv aP P R) : Q = R := by
  have h1 := sum_back fit hP hQ
  rw [h, sum_back fit hP hR] at h1
  exact h1.symm
theorem mN_pos : 0 < mN := by decide +kernel
theorem GP_mod (n : Nat) : mul GP n = mul GP (n % mN) := by
  have e := Nat.div_add_mod n mN
  have := mul_add GP_on (mN * (n / mN)) (n % mN)
  rw [e] at this
  rw [this, Nat.mul_comm, ← mul_mul GP_on, GP_N, far_mul, far_sum]
theorem GP_ne : GP ≠ .far := by
  intro h
  have : toPt G = .far := h
  cases this
theorem GP_order {d : Nat} (h0 : 0 < d) (h1 : d < mN) : mul GP d ≠ .far := by
  intro h
  have hd : ¬ mN ∣ d := fun hd => by have := Nat.le_of_dvd h0 hd; omega
  have hpr : Primes.Prm mN := Primes.N256
  have hf := Primes.fermat hpr hd
  have e : mul GP (d ^ (mN - 1)) = .far := by
    rw [show mN - 1 = (mN - 2).succ by have : 2 < mN := by decide +kernel
                                       omega, Nat.pow_succ, ← mul_mul GP_on, h, far_mul]
  rw [GP_mod] at e
  rw [hf, mul_one_p] at e
  exact GP_ne e
theorem GP_inj {r s : Nat} (hr : r < mN) (hs : s < mN) (h : mul GP r = mul GP s) : r = s := by
  rcases Nat.lt_trichotomy r s with hlt | he | hlt
  · exfalso
    have e := mul_add GP_on r (s - r)
    rw [show r + (s - r) = s by omega, ← h] at e
    have := canc_p (mul_on GP_on r) on_far_p (mul_on GP_on (s - r)) (by rw [sum_far]; exact e)
    exact GP_order (by omega) (by omega) this.symm
  · exact he
  · exfalso
    have e := mul_add GP_on s (r - s)
    rw [show s + (r - s) = r by omega, h] at e
    have := canc_p (mul_on GP_on s) on_far_p (mul_on GP_on (r - s)) (by rw [sum_far]; exact e)
    exact GP_order (by omega) (by omega) this.symm
def three (Q : Pt (Fin PP)) (t : Nat) : Pt (Fin PP) := sum inv aP (mul Q (t / mN)) (mul GP (t % mN))
theorem three_on {Q : Pt (Fin PP)} (h : On aP bP Q) (t : Nat) : On aP bP (three Q t) := on_sum fit (mul_on h _) (mul_on GP_on _)
theorem three_step {Q : Pt (Fin PP)} (h : On aP bP Q) {a b r s : Nat} (hab : a < b) (hr : r < mN) (hs : s < mN) (he : sum inv aP (mul Q a) (mul GP r) = sum inv aP (mul Q b) (mul GP s)) : ∃ k, mul Q (b - a) = mul GP k := by
  have e := mul_add h a (b - a)
  rw [show a + (b - a) = b by omega] at e
  rw [e, sum_assoc fit (mul_on h a) (mul_on h (b - a)) (mul_on GP_on s)] at he
  have h2 := canc_p (mul_on h a) (mul_on GP_on r) (on_sum fit (mul_on h (b - a)) (mul_on GP_on s)) he
  refine ⟨r + (mN - s), ?_⟩
  rw [mul_add GP_on, h2, sum_assoc fit (mul_on h _) (mul_on GP_on s) (mul_on GP_on _), ← mul_add GP_on, show s + (mN - s) = mN by omega, GP_N, sum_far]
theorem c12 {a b : Nat} (h : a < b) (hb : b < 3) : b - a = 1 ∨ b - a = 2 := by omega
theorem half_or {Q : Pt (Fin PP)} (h : On aP bP Q) : ∃ c k, (c = 1 ∨ c = 2) ∧ mul Q c = mul GP k := by
  refine Classical.byContradiction fun hn => ?_
  have hle := pigeon (2 * PP + 1) (3 * mN) (fun t => code (three Q t)) (fun t _ => code_lt _) (fun t u ht hu he => by
    have he' := code_inj (three_on h t) (three_on h u) he
    unfold three at he'
    have hp := mN_pos
    have ht1 := Nat.mod_lt t hp
    have hu1 := Nat.mod_lt u hp
    have ht2 : t / mN < 3 := Nat.div_lt_of_lt_mul (by omega)
    have hu2 : u / mN < 3 := Nat.div_lt_of_lt_mul (by omega)
    rcases Nat.lt_trichotomy (t / mN) (u / mN) with hlt | heq | hlt
    · obtain ⟨k, hk⟩ := three_step h hlt ht1 hu1 he'
      exact absurd ⟨u / mN - t / mN, k, c12 hlt hu2, hk⟩ hn
    · rw [heq] at he'
      have h3 := GP_inj ht1 hu1 (canc_p (mul_on h _) (mul_on GP_on _) (mul_on GP_on _) he')
      rw [← Nat.div_add_mod t mN, ← Nat.div_add_mod u mN, heq, h3]
    · obtain ⟨k, hk⟩ := three_step h hlt hu1 ht1 he'.symm
      exact absurd ⟨t / mN - u / mN, k, c12 hlt ht2, hk⟩ hn)
  have : 2 * PP + 1 < 3 * mN := by decide +kernel
  omega
theorem no_half {T : Pt (Fin PP)} (h : On aP bP T) (h2 : sum inv aP T T = .far) : T = .far := by
  cases T with
  | far => rfl
  | aff x y =>
    exfalso
    have hy := fit.yy h
    simp only [sum] at h2
    rw [if_neg (fun hc => hy (opp_z hc.2))] at h2
    cases h2
theorem mul_N {Q : Pt (Fin PP)} (h : On aP bP Q) : mul Q mN = .far := by
  obtain ⟨c, k, hc, hk⟩ := half_or h
  have h1 : mul (mul Q c) mN = .far := by
    rw [hk, mul_mul GP_on, Nat.mul_comm, ← mul_mul GP_on, GP_N, far_mul]
  rw [mul_mul h] at h1
  have hg : ∀ n, mul Q (n * c) = .far → mul Q n = .far := fun n hn => by
    rcases hc with rfl | rfl
    · rwa [Nat.mul_one] at hn
    · refine no_half (mul_on h n) ?_
      rw [mul_two h, Nat.mul_comm]
      exact hn
  exact hg mN h1
theorem mul_mod {Q : Pt (Fin PP)} (h : On aP bP Q) (n : Nat) : mul Q (n % mN) = mul Q n := by
  have e := Nat.div_add_mod n mN
  have := mul_add h (mN * (n / mN)) (n % mN)
  rw [e] at this
  rw [this, Nat.mul_comm, ← mul_mul h, mul_N h, far_mul, far_sum]
end Go.Proofs.YtpggkfdijmnmiaaGreat
namespace Go.Proofs.YtpggkfdijmnmiaaGreat
open Go.RowKit Limbs
set_option maxHeartbeats 8000000 in
theorem sleft_any (a : Nat) (ha : a < W256) (w : World) : Calls Tryz.prog 92 #[nv a] w fun e w' => e = .returned (nv (a % mN)) ∧ Below w.heap.size w w' := by
  have h := add_any 1 a 0 ha (by decide)
  rw [show md 1 = mN by unfold md; rw [if_neg (by decide)], Nat.add_zero] at h
  have HADD := Lib.hid h
  clear h
  have hz : nv 0 = .agg #[.int .u64 0, .int .u64 0, .int .u64 0, .int .u64 0] := rfl
  rw [hz] at HADD
  simp only [nv, num] at HADD ⊢
  go_enter Tryz.func92, Tryz.ntmps92
  go_wp2_with fail
  refine (keep w.heap.size w (HADD.out _) (by go_grown) (Nat.le_refl _)).mono ?_
  rintro e w1 ⟨rfl, hb, hk⟩
  have KR : Bk 24 w1 (w.heap.size + 1) cs0 := Bk.below (Bk.new (by simp)) hk
  obtain ⟨f0, f1, f2, f3⟩ := KR.fros
  obtain ⟨j0, j1, j2, j3⟩ := KR.cells
  go_wp2_with fail
  refine ret_cell rfl (w.heap.size + 1) (a % mN) rfl (Bk.put KR) rfl ⟨rfl, ?_⟩
  go_grown
set_option maxHeartbeats 8000000 in
theorem inRange_any (a : Nat) (ha : a < W256) (w : World) : Calls Tryz.prog 41 #[nv a] w fun e w' => e = .returned (.bool (decide (0 < a ∧ a < mN))) ∧ Below w.heap.size w w' := by
  have hmN : mN < W256 := by decide
  have HL := Lib.hid (sleft_any a ha)
  have HZ : Hid (∀ w, (Op.equalIn 10000 24 (.agg #[.int .u64 (lb a 0 : Nat), .int .u64 (lb a 1 : Nat), .int .u64 (lb a 2 : Nat), .int .u64 (lb a 3 : Nat)]) (.agg #[.int .u64 0, .int .u64 0, .int .u64 0, .int .u64 0])).run Tryz.prog w = .ok (decide (a = 0)) w) := Lib.hid fun w => eqN a 0 ha (by decide) w
  have HE : Hid (∀ w, (Op.equalIn 10000 24 (.agg #[.int .u64 (lb (a % mN) 0 : Nat), .int .u64 (lb (a % mN) 1 : Nat), .int .u64 (lb (a % mN) 2 : Nat), .int .u64 (lb (a % mN) 3 : Nat)]) (.agg #[.int .u64 (lb a 0 : Nat), .int .u64 (lb a 1 : Nat), .int .u64 (lb a 2 : Nat), .int .u64 (lb a 3 : Nat)])).run Tryz.prog w = .ok (decide (a % mN = a)) w) := Lib.hid fun w => eqN (a % mN) a (Nat.lt_trans (Nat.mod_lt _ (by decide)) hmN) ha w
  have hv : decide (0 < a ∧ a < mN) = (!decide (a = 0) && decide (a % mN = a)) := by
    have h1 : a % mN = a ↔ a < mN := ⟨fun h => by rw [← h]; exact Nat.mod_lt _ (by decide), Nat.mod_eq_of_lt⟩
    by_cases h0 : a = 0
    · subst h0; simp
    · have : 0 < a := by omega
      simp [h0, this, h1]
  rw [hv]
  clear hv hmN ha
  by_cases h0 : a = 0
  · rw [decide_eq_true h0] at HZ ⊢
    clear h0
    have hz := HZ.out
    simp only [nv, num] at HL ⊢
    go_enter Tryz.func41, Tryz.ntmps41
    go_wp2_with fail
    have K : Bk 24 (w.alloc (.cells (cs4 a) 24)) w.heap.size (cs4 a) := Bk.new rfl
    have hb0 : Below w.heap.size w (w.alloc (.cells (cs4 a) 24)) := by go_grown
    unfold cs4 at K hb0
    generalize (w.alloc (.cells #[.int .u64 (lb a 0 : Nat), .int .u64 (lb a 1 : Nat), .int .u64 (lb a 2 : Nat), .int .u64 (lb a 3 : Nat)] 24)) = W at K hb0 ⊢
    obtain ⟨x0, x1, x2, x3⟩ := K.reg
    refine wp_region_quiet_below mixed (by kernel_rfl) ?_
    repeat (first | go_big_quiet_step (exact qg HL.out) | quiet_step (exact qg HL.out))
    refine wpQuiet_nil ?_
    intro _ hw'
    obtain ⟨⟨dq, osq⟩, hw''⟩ := hw'
    subst hw''
    go_wp2_with fail
    go_returns
    exact ⟨rfl, hb0.trans ((below_regrown W dq osq).mono hb0.size)⟩
  · rw [decide_eq_false h0] at HZ ⊢
    clear h0
    have hz := HZ.out
    have he := HE.out
    generalize decide (a % mN = a) = bb at he ⊢
    simp only [nv, num] at HL ⊢
    go_enter Tryz.func41, Tryz.ntmps41
    go_wp2_with fail
    have K : Bk 24 (w.alloc (.cells (cs4 a) 24)) w.heap.size (cs4 a) := Bk.new rfl
    have hb0 : Below w.heap.size w (w.alloc (.cells (cs4 a) 24)) := by go_grown
    unfold cs4 at K hb0
    generalize (w.alloc (.cells #[.int .u64 (lb a 0 : Nat), .int .u64 (lb a 1 : Nat), .int .u64 (lb a 2 : Nat), .int .u64 (lb a 3 : Nat)] 24)) = W at K hb0 ⊢
    obtain ⟨x0, x1, x2, x3⟩ := K.reg
    refine wp_region_quiet_below mixed (by kernel_rfl) ?_
    repeat (first | go_big_quiet_step (exact qg HL.out) | quiet_step (exact qg HL.out))
    refine wpQuiet_nil ?_
    intro _ hw'
    obtain ⟨⟨dq, osq⟩, hw''⟩ := hw'
    subst hw''
    go_wp2_with fail
    go_returns
    exact ⟨by simp, hb0.trans ((below_regrown W dq osq).mono hb0.size)⟩
end Go.Proofs.YtpggkfdijmnmiaaGreat
namespace Go.Proofs.YtpggkfdijmnmiaaGreat.Pl
open Go.RowKit Go.Sort
section
variable {P : Program} {ops : Array Oper} {md : Region.Mode} {Q : Exit → Act → World → Prop}
def findR : Code → Nat → Option (Array Oper)
  | .region i os _, n => if i = n then some os else none
  | .seq a b, n => (findR a n).or (findR b n)
  | .cond _ a b, n => (findR a n).or (findR b n)
  | .block _ a, n => findR a n
  | .loop a, n => findR a n
  | .scope a, n => findR a n
  | _, _ => none
def left (l : Array Bool) : Nat := (l.toList.filter (fun x => !x)).length
theorem left_set_list : ∀ (l : List Bool) (i : Nat) (h : i < l.length), l[i] = false → ((l.set i true).filter (fun x => !x)).length + 1 = (l.filter (fun x => !x)).length
  | x :: l, 0, h, hx => by
    have : x = false := hx
    subst this
    simp
  | x :: l, i + 1, h, hx => by
    have ih := left_set_list l i (by simpa using h) (by simpa using hx)
    cases x <;> simp [List.filter_cons] <;> omega
theorem left_set {l : Array Bool} {i : Nat} (h : l.getD i true = false) : left (l.setIfInBounds i true) + 1 = left l := by
  have hi : i < l.size := by
    rcases Nat.lt_or_ge i l.size with h' | h'
    · exact h'
    · simp [Array.getElem?_eq_none h'] at h
  have hx : l[i] = false := by simpa [hi] using h
  unfold left
  have := left_set_list l.toList i (by simpa using hi) (by simpa using hx)
  simpa [Array.toList_setIfInBounds, hi] using this
theorem left_count (l : Array Bool) (g : Nat) : left (l ++ Array.replicate g false) = left l + g := by
  simp [left, List.filter_append]
theorem left_zero {l : Array Bool} (h : left l = 0) : ∀ x ∈ l, x = true := by
  intro x hx
  unfold left at h
  rw [List.length_eq_zero_iff, List.filter_eq_nil_iff] at h
  have := h x (by simpa using hx)
  simpa using this
theorem wpAny_inv2 {I : Array Bool → Act → World → Prop} {g : Nat} (none : ∀ l a w, I l a w → Region.ready md ops l = [] → left l = g) (step : ∀ l a w, I l a w → left l ≠ g → ∀ i ∈ Region.ready md ops l, wpOp P ops Q i (fun a' w' => I (l.setIfInBounds i true) a' w') a w)
    (fin : ∀ l a w, I l a w → left l = g → wpAny P md ops Q g l a w) : ∀ (fuel : Nat) (l : Array Bool) (a : Act) (w : World), left l = fuel → g ≤ fuel → I l a w → wpAny P md ops Q fuel l a w
  | 0, l, a, w, hf, hg, h => by
    obtain rfl : g = 0 := by omega
    exact fin l a w h hf
  | fuel + 1, l, a, w, hf, hg, h => by
    by_cases hgf : g = fuel + 1
    · subst hgf
      exact fin l a w h hf
    · refine ⟨fun h0 => absurd (none l a w h h0) (by omega), fun i hi => ?_⟩
      have hl := left_set (mem_ready.1 hi).1
      exact wpOp_mono (fun a' w' h' => wpAny_inv2 none step fin fuel _ a' w' (by omega) (by omega) h') (step l a w h (by omega) i hi)
theorem wpOp_of {i : Nat} {o : Oper} {K : Act → World → Prop} {a : Act} {w : World} (hi : ops[i]? = some o) (hg : o.guard = none) (h : o.wp P a w K Q) : wpOp P ops Q i K a w := by
  unfold wpOp
  simp only [hi]
  rw [if_pos (by simp [Region.wanted, hg])]
  exact .inl h
end
end Go.Proofs.YtpggkfdijmnmiaaGreat.Pl
