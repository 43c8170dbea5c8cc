import Derived.Test.YtglmmodkflkkkaaXCj
set_option linter.unusedVariables false
set_option linter.unusedSimpArgs false
set_option maxRecDepth 100000
namespace Go.Proofs.Ytglmmodkflkkkaa
open Go.RowKit Go.Sort Limbs
def BN : Nat := 41058363725152142129326129780047268409114441015993725554835256314039467401291
theorem nv_BN : nv BN = .agg #[.int .u64 4309448131093880907, .int .u64 7285987128567378166, .int .u64 12964664127075681980, .int .u64 6540974713487397863] := by
  have h : lb BN 0 = 4309448131093880907 ∧ lb BN 1 = 7285987128567378166 ∧ lb BN 2 = 12964664127075681980 ∧ lb BN 3 = 6540974713487397863 := by decide +kernel
  unfold nv num
  rw [h.1, h.2.1, h.2.2.1, h.2.2.2]
  rfl
def rightN (x : Nat) : Nat := aj (sj (mj (mj x x) x) (tj x)) BN
def Po.on (p : Po) : Bool := if p.i = true then decide (p.x = 0 ∧ p.y = 0) else decide (p.x < mP ∧ p.y < mP ∧ mj p.y p.y = rightN p.x)
set_option maxHeartbeats 16000000 in
theorem on_c (p : Po) (hp : p.ok) (w : World) :
    Calls Try.prog 42 #[p.v] w fun e w' => e = .returned (.bool p.on) ∧ Below w.heap.size w w' := by
  obtain ⟨x, y, i⟩ := p
  obtain ⟨hx, hy⟩ := hp
  simp only [] at hx hy
  unfold Po.v
  cases i
  · have e : (Po.mk x y false).on = decide (x < mP ∧ y < mP ∧ mj y y = rightN x) := rfl
    rw [e]
    clear e
    unfold rightN
    have H1 := Lib.hid (mulj hx hx)
    have H2 := Lib.hid (mulj (mj_lt x x) hx)
    have H3 := Lib.hid (mulj hy hy)
    have H4 := Lib.hid (tripj hx)
    have H5 := Lib.hid (subj (mj_lt (mj x x) x) (tj_lt x))
    have H6 := Lib.hid (addj (sj_lt (mj (mj x x) x) (tj x)) (show BN < W256 by decide +kernel))
    have HE := Lib.hid (fun w => eqN (mj y y) (aj (sj (mj (mj x x) x) (tj x)) BN) (mj_lt _ _) (aj_lt _ _) w)
    have HX := Lib.hid (below_c x hx)
    have HY := Lib.hid (below_c y hy)
    clear hx hy
    generalize aj (sj (mj (mj x x) x) (tj x)) BN = rr at *
    generalize sj (mj (mj x x) x) (tj x) = d5 at *
    generalize tj x = t4 at *
    generalize mj (mj x x) x = cube at *
    generalize mj x x = sq at *
    generalize mj y y = yy at *
    rw [nv_BN] at H6
    simp only [pn, nv, num] at H1 H2 H3 H4 H5 H6 HX HY HE ⊢
    by_cases hxp : x < mP
    · rw [decide_eq_true hxp] at HX
      by_cases hyp : y < mP
      · rw [decide_eq_true hyp] at HY
        obtain ⟨res, hres⟩ : ∃ z, z = decide (yy = rr) := ⟨_, rfl⟩
        rw [← hres] at HE
        rw [show decide (x < mP ∧ y < mP ∧ yy = rr) = res from by rw [hres]; simp [hxp, hyp]]
        clear hres hxp hyp
        go_enter Try.func42, Try.ntmps42
        go_wp2_with fail
        refine (keep w.heap.size w (HX.out _) (by go_grown) (Nat.le_refl _)).mono ?_
        rintro e w1 ⟨rfl, hb, hk⟩
        have KP : Hid (Bk 51 w1 w.heap.size #[.int .u64 (lb x 0 : Nat), .int .u64 (lb x 1 : Nat), .int .u64 (lb x 2 : Nat), .int .u64 (lb x 3 : Nat), .int .u64 (lb y 0 : Nat), .int .u64 (lb y 1 : Nat), .int .u64 (lb y 2 : Nat), .int .u64 (lb y 3 : Nat), .bool false]) := Lib.hid (Bk.below (Bk.new rfl) hk)
        have HB := Lib.hid hb
        clear hk hb HX
        obtain ⟨⟨x0, x1, x2, x3⟩, ⟨y0, y1, y2, y3⟩, i0⟩ := KP.out.cells9
        go_wp2_with fail
        refine (keep w.heap.size w (HY.out _) HB.out (Nat.le_refl _)).mono ?_
        rintro e w2 ⟨rfl, hb, hk⟩
        have KP2 : Hid (Bk 51 (w2.alloc (.cells #[.int .u64 4309448131093880907, .int .u64 7285987128567378166, .int .u64 12964664127075681980, .int .u64 6540974713487397863] 24)) w.heap.size #[.int .u64 (lb x 0 : Nat), .int .u64 (lb x 1 : Nat), .int .u64 (lb x 2 : Nat), .int .u64 (lb x 3 : Nat), .int .u64 (lb y 0 : Nat), .int .u64 (lb y 1 : Nat), .int .u64 (lb y 2 : Nat), .int .u64 (lb y 3 : Nat), .bool false]) := Lib.hid (Bk.alloc (KP.out.below hk))
        have KB2 : Hid (Bk 24 (w2.alloc (.cells #[.int .u64 4309448131093880907, .int .u64 7285987128567378166, .int .u64 12964664127075681980, .int .u64 6540974713487397863] 24)) w2.heap.size #[.int .u64 4309448131093880907, .int .u64 7285987128567378166, .int .u64 12964664127075681980, .int .u64 6540974713487397863]) := Lib.hid (Bk.new rfl)
        have HB2 : Hid (Below w.heap.size w (w2.alloc (.cells #[.int .u64 4309448131093880907, .int .u64 7285987128567378166, .int .u64 12964664127075681980, .int .u64 6540974713487397863] 24))) := Lib.hid (by have hs := hb.size; go_grown)
        clear hk hb HY KP HB x0 x1 x2 x3 y0 y1 y2 y3 i0
        go_wp2_with fail
        generalize (w2.alloc (.cells #[.int .u64 4309448131093880907, .int .u64 7285987128567378166, .int .u64 12964664127075681980, .int .u64 6540974713487397863] 24)) = W at KP2 KB2 HB2 ⊢
        generalize w2.heap.size = gb at KB2 ⊢
        obtain ⟨gp, hgp⟩ : ∃ z, z = w.heap.size := ⟨_, rfl⟩
        have e : (Value.pointer (some ⟨w.heap.size, 0, none⟩)) = .pointer (some ⟨gp, 0, none⟩) := by rw [hgp]
        rw [e]
        rw [← hgp] at KP2
        clear e hgp
        refine on6 gp x y sq cube false W KP2.out H1 H2 ?_
        intro _ _ _ _ _ _ _ _ g8 W2 hb2 hg8 hk8
        have KP3 := Lib.hid (KP2.out.below hb2)
        have KB3 := Lib.hid (KB2.out.below hb2)
        have K83 := Lib.hid hk8
        have HB3 := Lib.hid (HB2.out.trans (hb2.mono HB2.out.size))
        clear KP2 KB2 HB2 hb2 hg8 hk8 H1 H2
        go_wp2_with fail
        obtain ⟨⟨x0, x1, x2, x3⟩, ⟨y0, y1, y2, y3⟩, i0⟩ := KP3.out.reg9
        obtain ⟨b0, b1, b2, b3⟩ := KB3.out.reg
        obtain ⟨c0, c1, c2, c3⟩ := K83.out.reg
        have heq := HE.out
        refine wp_region_quiet_below mixed (by kernel_rfl) ?_
        iterate 4 go_big_quiet_step (fail)
        go_big_quiet_step (exact qg H3.out)
        iterate 3 go_big_quiet_step (fail)
        go_big_quiet_step (exact qg H4.out)
        go_big_quiet_step (exact qg H5.out)
        go_big_quiet_step (fail)
        go_big_quiet_step (exact qg H6.out)
        repeat (first | go_big_quiet_step (fail) | quiet_step (fail))
        refine wpQuiet_nil ?_
        intro _ hw'
        obtain ⟨⟨dq, osq⟩, hw''⟩ := hw'
        subst hw''
        have HB4 := Lib.hid (HB3.out.trans ((below_regrown W2 dq osq).mono HB3.out.size))
        go_wp2_with fail
        go_ret
        exact ⟨rfl, HB4.out⟩
      · rw [decide_eq_false hyp] at HY
        rw [show decide (x < mP ∧ y < mP ∧ yy = rr) = false from by simp [hyp]]
        clear hxp hyp
        go_enter Try.func42, Try.ntmps42
        go_wp2_with fail
        refine (keep w.heap.size w (HX.out _) (by go_grown) (Nat.le_refl _)).mono ?_
        rintro e w1 ⟨rfl, hb, hk⟩
        have KP : Hid (Bk 51 w1 w.heap.size #[.int .u64 (lb x 0 : Nat), .int .u64 (lb x 1 : Nat), .int .u64 (lb x 2 : Nat), .int .u64 (lb x 3 : Nat), .int .u64 (lb y 0 : Nat), .int .u64 (lb y 1 : Nat), .int .u64 (lb y 2 : Nat), .int .u64 (lb y 3 : Nat), .bool false]) := Lib.hid (Bk.below (Bk.new rfl) hk)
        have HB := Lib.hid hb
        clear hk hb HX
        obtain ⟨⟨x0, x1, x2, x3⟩, ⟨y0, y1, y2, y3⟩, i0⟩ := KP.out.cells9
        go_wp2_with fail
        refine (keep w.heap.size w (HY.out _) HB.out (Nat.le_refl _)).mono ?_
        rintro e w2 ⟨rfl, hb, hk⟩
        go_wp2_with fail
        go_ret
        exact ⟨rfl, hb⟩
    · rw [decide_eq_false hxp] at HX
      rw [show decide (x < mP ∧ y < mP ∧ yy = rr) = false from by simp [hxp]]
      clear hxp
      go_enter Try.func42, Try.ntmps42
      go_wp2_with fail
      refine (keep w.heap.size w (HX.out _) (by go_grown) (Nat.le_refl _)).mono ?_
      rintro e w1 ⟨rfl, hb, hk⟩
      go_wp2_with fail
      go_ret
      exact ⟨rfl, hb⟩
  · have e : (Po.mk x y true).on = decide (x = 0 ∧ y = 0) := rfl
    rw [e]
    clear e
    have HE := Lib.hid (fun w => eqP x y 0 0 true true hx hy (by decide) (by decide) w)
    obtain ⟨res, hres⟩ : ∃ z, z = decide (x = 0 ∧ y = 0) := ⟨_, rfl⟩
    have e2 : decide (x = 0 ∧ y = 0 ∧ true = true) = res := by rw [hres]; simp
    rw [e2] at HE
    rw [← hres]
    clear e2 hres hx hy
    have heq : ∀ w, (Op.equalIn 10000 51 (.agg #[.int .u64 (lb x 0 : Nat), .int .u64 (lb x 1 : Nat), .int .u64 (lb x 2 : Nat), .int .u64 (lb x 3 : Nat), .int .u64 (lb y 0 : Nat), .int .u64 (lb y 1 : Nat), .int .u64 (lb y 2 : Nat), .int .u64 (lb y 3 : Nat), .bool true]) (.agg #[.int .u64 0, .int .u64 0, .int .u64 0, .int .u64 0, .int .u64 0, .int .u64 0, .int .u64 0, .int .u64 0, .bool true])).run Try.prog w = .ok res w := HE.out
    clear HE
    simp only [pn]
    go_enter Try.func42, Try.ntmps42
    go_wp2_with fail
    go_ret
    refine ⟨rfl, ?_⟩
    go_grown
theorem onj {p : Po} (hp : p.ok) : ∀ w, Calls Try.prog 42 #[p.v] w fun e w' => e = .returned (.bool p.on) ∧ Below w.heap.size w w' := on_c p hp
end Go.Proofs.Ytglmmodkflkkkaa
