import Derived.Test.YtglmmodkflkkkaaXKj
set_option linter.unusedVariables false
set_option linter.unusedSimpArgs false
set_option maxRecDepth 100000
namespace Go.Proofs.Ytglmmodkflkkkaa.Ref
open Go.RowKit Go.Proofs.Ytglmmodkflkkkaa.Digits Limbs Curve
def upR (p q : Po) : Nat := if Po.same p q = true then sj (mj 3 (mj p.x p.x)) 3 else sj q.y p.y
def downR (p q : Po) : Nat := if Po.same p q = true then aj p.y p.y else sj q.x p.x
def slR (p q : Po) : Nat := mj (upR p q) (iN (downR p q))
def xR (p q : Po) : Nat := sj (sj (mj (slR p q) (slR p q)) p.x) q.x
def yR (p q : Po) : Nat := sj (mj (slR p q) (sj p.x (xR p q))) p.y
theorem c_ngj (y : Nat) : c (ngj y) = - c y := by unfold ngj; rw [mPP, c_mod, c_opp]
theorem ne_c {a : Nat} (h : c a ≠ 0) : a % mP ≠ 0 := fun h0 => h (by
  have : c a = c 0 := c_eq.2 (by rw [← mPP, h0]; rfl)
  rw [this]; rfl)
theorem toAff (x y : Nat) : toPt ⟨x, y, false⟩ = .aff (c x) (c y) := rfl
theorem m3_x (x : Fin PP) : 3 * (x * x) - 3 = 3 * (x * x) + -3 := by grobner
theorem sum_aff (iv : Fin PP → Fin PP) (a xa ya xb yb : Fin PP) : sum iv a (.aff xa ya) (.aff xb yb) = if xa = xb ∧ ya = -yb then .far else .aff (slope iv a xa ya xb yb * slope iv a xa ya xb yb - xa - xb) (slope iv a xa ya xb yb * (xa - (slope iv a xa ya xb yb * slope iv a xa ya xb yb - xa - xb)) - ya) := rfl
theorem sum_ref {xa ya xb yb : Nat} (hp : (Po.mk xa ya false).on = true) (hq : (Po.mk xb yb false).on = true) (hn : Po.same (Po.mk xa ya false) (Po.mk xb yb false).neg = false) :
    downR (Po.mk xa ya false) (Po.mk xb yb false) % mP ≠ 0 ∧ (Po.mk xa ya false).add (Po.mk xb yb false) = ⟨xR (Po.mk xa ya false) (Po.mk xb yb false), yR (Po.mk xa ya false) (Po.mk xb yb false), false⟩ := by
  obtain ⟨hxa, hya⟩ := on_lt hp
  obtain ⟨hxb, hyb⟩ := on_lt hq
  have o1 := (on_iff hp).1
  have o2 := (on_iff hq).1
  rw [toAff] at o1 o2
  have e1 : c ya * c ya = c xa * c xa * c xa + aP * c xa + bP := o1
  have e2 : c yb * c yb = c xb * c xb * c xb + aP * c xb + bP := o2
  have hnot : ¬ (c xa = c xb ∧ c ya = - c yb) := by
    rintro ⟨h1, h2⟩
    have h3 := c_inj hxa hxb h1
    rw [← c_ngj] at h2
    have h4 := c_inj hya (ngj_p yb) h2
    subst h3
    subst h4
    simp [Po.same, Po.neg] at hn
  have hsame : Po.same (Po.mk xa ya false) (Po.mk xb yb false) = decide (c xa = c xb) := by
    by_cases h : c xa = c xb
    · have h3 := c_inj hxa hxb h
      subst h3
      have h5 := same_y fit e1 e2 (fun h => hnot ⟨rfl, h.2⟩)
      have h4 := c_inj hya hyb h5
      subst h4
      simp [Po.same]
    · have : xa ≠ xb := fun h' => h (by rw [h'])
      simp [Po.same, this, h]
  have hsl : c (slR (Po.mk xa ya false) (Po.mk xb yb false)) = slope inv aP (c xa) (c ya) (c xb) (c yb) ∧ downR (Po.mk xa ya false) (Po.mk xb yb false) % mP ≠ 0 := by
    unfold slR upR downR slope
    rw [hsame]
    by_cases h : c xa = c xb
    · rw [decide_eq_true h, if_pos rfl, if_pos rfl, if_pos h]
      refine ⟨?_, ne_c ?_⟩
      · rw [c_mj, c_iN, c_sj, c_mj, c_mj, c_aj, c_three, m3_x]
        rfl
      · rw [c_aj]
        exact fit.yy e1
    · rw [decide_eq_false h, if_neg (by decide), if_neg (by decide), if_neg h]
      refine ⟨?_, ne_c ?_⟩
      · rw [c_mj, c_iN, c_sj, c_sj]
      · rw [c_sj]
        exact sub_of_ne h
  refine ⟨hsl.2, ?_⟩
  rw [add_is hp hq, toAff, toAff, sum_aff, if_neg hnot]
  have hX : c (xR (Po.mk xa ya false) (Po.mk xb yb false)) = slope inv aP (c xa) (c ya) (c xb) (c yb) * slope inv aP (c xa) (c ya) (c xb) (c yb) - c xa - c xb := by
    unfold xR
    rw [c_sj, c_sj, c_mj, hsl.1]
  have hY : c (yR (Po.mk xa ya false) (Po.mk xb yb false)) = slope inv aP (c xa) (c ya) (c xb) (c yb) * (c xa - (slope inv aP (c xa) (c ya) (c xb) (c yb) * slope inv aP (c xa) (c ya) (c xb) (c yb) - c xa - c xb)) - c ya := by
    unfold yR
    rw [c_sj, c_mj, c_sj, hX, hsl.1]
  rw [← hX] at hY ⊢
  rw [← hY]
  have v1 : xR (Po.mk xa ya false) (Po.mk xb yb false) = (c (xR (Po.mk xa ya false) (Po.mk xb yb false))).val := val_of (sj_p _ _) rfl
  have v2 : yR (Po.mk xa ya false) (Po.mk xb yb false) = (c (yR (Po.mk xa ya false) (Po.mk xb yb false))).val := val_of (sj_p _ _) rfl
  show (⟨_, _, _⟩ : Po) = _
  rw [← v1, ← v2]
theorem sum_opp {xa ya xb yb : Nat} (hp : (Po.mk xa ya false).on = true) (hq : (Po.mk xb yb false).on = true) (hn : Po.same (Po.mk xa ya false) (Po.mk xb yb false).neg = true) :
    (Po.mk xa ya false).add (Po.mk xb yb false) = ⟨0, 0, true⟩ := by
  have h : xa = xb ∧ ya = ngj yb := by
    have h' := hn
    simp [Po.same, Po.neg] at h'
    exact ⟨of_decide_eq_true h'.1, of_decide_eq_true h'.2⟩
  rw [add_is hp hq, toAff, toAff, sum_aff, if_pos ⟨by rw [h.1], by rw [h.2, c_ngj]⟩]
  rfl
theorem add_far {p q : Po} (hp : p.on = true) (hq : q.on = true) : (p.i = true → p.add q = q) ∧ (q.i = true → p.add q = p) := by
  have a := add_is hp hq
  constructor
  · intro h
    rw [a, show toPt p = .far from by unfold toPt; rw [if_pos h], far_sum, (on_iff hq).2.1]
  · intro h
    rw [a, show toPt q = .far from by unfold toPt; rw [if_pos h], sum_far, (on_iff hp).2.1]
theorem Bk.cellsA3 {t : TypeId} {w : World} {g : Nat} {a b c : Value} (h : Bk t w g #[a, b, c]) : (∀ o, (w.alloc o).cell? ⟨g, 0, none⟩ = some a) ∧ (∀ o, (w.alloc o).cell? ⟨g, 1, none⟩ = some b) ∧ (∀ o, (w.alloc o).cell? ⟨g, 2, none⟩ = some c) := ⟨fun o => (Bk.alloc h).cell 0, fun o => (Bk.alloc h).cell 1, fun o => (Bk.alloc h).cell 2⟩
theorem inv_c (v : Value) (w : World) (a : Nat) (ha : a < big) (h0 : a % mP ≠ 0) (h : NV w v a) : Calls Try.prog 28 #[.int .i64 0, v] w fun e w' => ∃ v', e = .returned v' ∧ Nr w w' v' (iN a) := by
  have := inverse_is 0 v w a ha (by rw [md0]; exact h0) h
  rwa [md0] at this
set_option maxHeartbeats 16000000 in
theorem sum7_p (xa ya xb yb : Nat) (qi : Bool) (nx cx ny cy mx dx my dy : Nat) (ax ay bx bb : Option Addr) (w : World) (hm : qi = false → NV w (.slice bx mx dx) xb ∧ NV w (.slice bb my dy) yb) : Calls Try.prog 49 #[.agg #[.bool true, .slice ax nx cx, .slice ay ny cy], .agg #[.bool qi, .slice bx mx dx, .slice bb my dy]] w fun e w' => ∃ v', e = .returned v' ∧ RP w' v' ⟨xb, yb, qi⟩ ∧ Below w.heap.size w w' := by
  have hb : Below w.heap.size w (((w.alloc (.cells #[.bool true, .slice ax nx cx, .slice ay ny cy] 64)).alloc (.cells #[.bool qi, .slice bx mx dx, .slice bb my dy] 64)).alloc (.cells #[.bool qi, .slice bx mx dx, .slice bb my dy] 64)) := by go_grown
  have HB := Lib.hid hb
  clear hb
  go_enter Try.func49, Try.ntmps49
  go_wp2_with fail
  refine ret_cell64 rfl (w.heap.size + 1 + 1) (.bool qi) (.slice bx mx dx) (.slice bb my dy) rfl (Bk.new (by simp)) rfl ⟨_, rfl, ⟨_, _, _, _, _, _, rfl, fun h => ⟨(hm h).1.below HB.out, (hm h).2.below HB.out⟩⟩, HB.out⟩
set_option maxHeartbeats 16000000 in
theorem sum7_q (xa ya xb yb : Nat) (nx cx ny cy mx dx my dy : Nat) (ax ay bx bb : Option Addr) (w : World) (hn : NV w (.slice ax nx cx) xa ∧ NV w (.slice ay ny cy) ya) : Calls Try.prog 49 #[.agg #[.bool false, .slice ax nx cx, .slice ay ny cy], .agg #[.bool true, .slice bx mx dx, .slice bb my dy]] w fun e w' => ∃ v', e = .returned v' ∧ RP w' v' ⟨xa, ya, false⟩ ∧ Below w.heap.size w w' := by
  have hb : Below w.heap.size w (((w.alloc (.cells #[.bool false, .slice ax nx cx, .slice ay ny cy] 64)).alloc (.cells #[.bool true, .slice bx mx dx, .slice bb my dy] 64)).alloc (.cells #[.bool false, .slice ax nx cx, .slice ay ny cy] 64)) := by go_grown
  have HB := Lib.hid hb
  clear hb
  go_enter Try.func49, Try.ntmps49
  go_wp2_with fail
  refine ret_cell64 rfl (w.heap.size + 1 + 1) (.bool false) (.slice ax nx cx) (.slice ay ny cy) rfl (Bk.new (by simp)) rfl ⟨_, rfl, ⟨_, _, _, _, _, _, rfl, fun h => ⟨hn.1.below HB.out, hn.2.below HB.out⟩⟩, HB.out⟩
end Go.Proofs.Ytglmmodkflkkkaa.Ref
