/- Multiples of points, and that the points are a group: the walks. No condition but that each number is below 2 to the 256. -/
import Derived.Test.YtglmmodkflkkkaaMc
import Derived.Test.YtglmmodkflkkkaaMm
import Derived.Test.YtglmmodkflkkkaaMr
set_option linter.unusedVariables false
set_option linter.unusedSimpArgs false
set_option maxRecDepth 100000
namespace Go.Proofs.Ytglmmodkflkkkaa
open Go.RowKit Go.Sort Limbs Curve

def Po.mul (k : Nat) (p : Po) : Po := ((J.begin p.x p.y p.i).mulN k 64).point
set_option maxHeartbeats 8000000 in
theorem mul_p (k : Nat) (p : Po) (hk : k < W256) (hp : p.ok) (w : World) :
    Calls Try.prog 50 #[nv k, p.v] w fun e w' => e = .returned (if p.on = true then .tuple #[(Po.mul k p).v, .int .i64 0] else .tuple #[Po.zero.v, .int .i64 70]) ∧ Below w.heap.size w w' := by
  have HOP := Lib.hid (onj hp)
  have hj := J.begin_ok (i := p.i) hp.1 hp.2
  have H1 := Lib.hid (fun w => begin_c p.x p.y p.i w)
  have H2 := Lib.hid (fun w => adders_c (J.begin p.x p.y p.i) hj w)
  have H3 := Lib.hid (fun w => multiple_c k (J.begin p.x p.y p.i) hk hj w)
  have H4 := Lib.hid (pointj (J.mulN_ok (k := k) hj 64))
  unfold Po.mul
  clear hp hk hj
  generalize ((J.begin p.x p.y p.i).mulN k 64).point = res at *
  generalize (J.begin p.x p.y p.i).mulN k 64 = pq at *
  generalize J.begin p.x p.y p.i = jp at *
  cases honp : p.on
  · rw [if_neg (by simp)]
    rw [honp] at HOP
    clear honp H1 H2 H3 H4
    obtain ⟨x, y, i⟩ := p
    simp only [Po.v, pn, nv, num] at HOP ⊢
    go_enter Try.func50, Try.ntmps50
    go_wp2_with fail
    refine (keep w.heap.size w (HOP.out _) (by go_grown) (Nat.le_refl _)).mono ?_
    rintro e w1 ⟨rfl, hb, hk⟩
    have KZ : Hid (Bk 51 w1 (w.heap.size + 1 + 1) #[.int .u64 0, .int .u64 0, .int .u64 0, .int .u64 0, .int .u64 0, .int .u64 0, .int .u64 0, .int .u64 0, .bool false]) := Lib.hid (Bk.below (Bk.new (by simp)) hk)
    have HB := Lib.hid hb
    clear hk hb HOP
    obtain ⟨⟨f0, f1, f2, f3⟩, ⟨f4, f5, f6, f7⟩, f8⟩ := KZ.out.fros9
    obtain ⟨⟨c0, c1, c2, c3⟩, ⟨c4, c5, c6, c7⟩, c8⟩ := KZ.out.cells9
    go_wp2_with fail
    refine ret_cell51e rfl (w.heap.size + 1 + 1) 0 0 false (.int .i64 70) rfl rfl (Bk.put9 KZ.out) rfl ⟨rfl, ?_⟩
    have hb := HB.out
    go_grown
  rw [if_pos rfl]
  rw [honp] at HOP
  clear honp
  obtain ⟨x, y, i⟩ := p
  obtain ⟨rx, ry, ri⟩ := res
  generalize hf : fv jp = F at *
  have HF : Hid (∃ cs, F = .agg cs) := Lib.hid ⟨_, hf.symm⟩
  clear hf
  obtain ⟨px, py, pz⟩ := jp
  obtain ⟨sx, sy, sz⟩ := pq
  simp only [Po.v, pn, J.v, jn, nv, num] at HOP H1 H2 H3 H4 ⊢
  go_enter Try.func50, Try.ntmps50
  go_wp2_with fail
  refine (keep w.heap.size w (HOP.out _) (by go_grown) (Nat.le_refl _)).mono ?_
  rintro e w1 ⟨rfl, hb, hk⟩
  have KK : Hid (Bk 24 w1 w.heap.size #[.int .u64 (lb k 0 : Nat), .int .u64 (lb k 1 : Nat), .int .u64 (lb k 2 : Nat), .int .u64 (lb k 3 : Nat)]) := Lib.hid (Bk.below (Bk.alloc (Bk.alloc (Bk.new rfl))) hk)
  have KP : Hid (Bk 51 w1 (w.heap.size + 1) #[.int .u64 (lb x 0 : Nat), .int .u64 (lb x 1 : Nat), .int .u64 (lb x 2 : Nat), .int .u64 (lb x 3 : Nat), .int .u64 (lb y 0 : Nat), .int .u64 (lb y 1 : Nat), .int .u64 (lb y 2 : Nat), .int .u64 (lb y 3 : Nat), .bool i]) := Lib.hid (Bk.below (Bk.alloc (Bk.new (by simp))) hk)
  have KZ : Hid (Bk 51 w1 (w.heap.size + 1 + 1) #[.int .u64 0, .int .u64 0, .int .u64 0, .int .u64 0, .int .u64 0, .int .u64 0, .int .u64 0, .int .u64 0, .bool false]) := Lib.hid (Bk.below (Bk.new (by simp)) hk)
  have HB := Lib.hid hb
  clear hk hb HOP
  go_wp2_with fail
  obtain ⟨⟨x0, x1, x2, x3⟩, ⟨y0, y1, y2, y3⟩, i0⟩ := KP.out.reg9
  obtain ⟨k0, k1, k2, k3⟩ := KK.out.reg
  refine wp_region_below_tail 6 mixed (by kernel_rfl) ?_
  simp only [List.take_succ_cons, List.take_zero, List.drop_succ_cons, List.drop_zero]
  iterate 2 go_big_quiet_step (fail)
  go_big_quiet_step (exact qg H1.out)
  go_big_quiet_step (exact qg H2.out)
  go_big_quiet_step (exact qg H3.out)
  go_big_quiet_step (exact qg H4.out)
  refine wpQuiet_nil ?_
  intro _ hw'
  obtain ⟨⟨dq, osq⟩, hw''⟩ := hw'
  subst hw''
  have KZ3 := Lib.hid (KZ.out.regrown dq osq)
  have HB3 := Lib.hid (HB.out.trans ((below_regrown w1 dq osq).mono HB.out.size))
  clear KK KP KZ HB x0 x1 x2 x3 y0 y1 y2 y3 i0 k0 k1 k2 k3 H1 H2 H3 H4
  generalize grow (redrawn w1 dq) osq = V at KZ3 HB3 ⊢
  obtain ⟨⟨f0, f1, f2, f3⟩, ⟨f4, f5, f6, f7⟩, f8⟩ := KZ3.out.fros9
  obtain ⟨⟨c0, c1, c2, c3⟩, ⟨c4, c5, c6, c7⟩, c8⟩ := KZ3.out.cells9
  go_wp2_with fail
  refine ret_cell51e rfl (w.heap.size + 1 + 1) rx ry ri (.int .i64 0) rfl rfl (Bk.put9 KZ3.out) rfl ⟨rfl, ?_⟩
  have hb := HB3.out
  go_grown
theorem mulp {k : Nat} {p : Po} (hk : k < W256) (hp : p.ok) : ∀ w, Calls Try.prog 50 #[nv k, p.v] w fun e w' => e = .returned (if p.on = true then .tuple #[(Po.mul k p).v, .int .i64 0] else .tuple #[Po.zero.v, .int .i64 70]) ∧ Below w.heap.size w w' := mul_p k p hk hp
theorem Rep.tim {p : J} {P : Pt (Fin PP)} (h : Rep p P) (hP : On aP bP P) : ∀ n, Rep (p.tim n) (mul P n)
  | 0 => Or.inl ⟨rfl, rfl⟩
  | n + 1 => (Rep.tim h hP n).plus h (mul_on hP n) hP
theorem Rep.four {q : J} {P : Pt (Fin PP)} (hP : On aP bP P) {n : Nat} (h : Rep q (mul P n)) : Rep q.twice.twice.twice.twice (mul P (16 * n)) := by
  have h1 := h.twice (mul_on hP n)
  rw [mul_two hP] at h1
  have h2 := h1.twice (mul_on hP _)
  rw [mul_two hP] at h2
  have h3 := h2.twice (mul_on hP _)
  rw [mul_two hP] at h3
  have h4 := h3.twice (mul_on hP _)
  rw [mul_two hP] at h4
  rw [show 16 * n = 2 * (2 * (2 * (2 * n))) by omega]
  exact h4
theorem Rep.mulN {p : J} {P : Pt (Fin PP)} (h : Rep p P) (hP : On aP bP P) {k : Nat} (hk : k < W256) : ∀ i, i ≤ 64 → Rep (p.mulN k i) (mul P (k / 16 ^ (64 - i)))
  | 0, _ => by
    have : k / 16 ^ (64 - 0) = 0 := Nat.div_eq_of_lt (by unfold W256 at hk; simpa using hk)
    rw [this]
    exact Or.inl ⟨rfl, rfl⟩
  | i + 1, hi => by
    have ih := Rep.four hP (Rep.mulN h hP hk i (by omega))
    have := (Rep.tim h hP (dg k i)).plus ih (mul_on hP _) (mul_on hP _)
    rw [← mul_add hP] at this
    have e : dg k i + 16 * (k / 16 ^ (64 - i)) = k / 16 ^ (64 - (i + 1)) := by
      unfold dg
      rw [show 64 - i = 63 - i + 1 by omega, show 64 - (i + 1) = 63 - i by omega, Nat.pow_succ, ← Nat.div_div_eq_div_mul]
      omega
    rw [e] at this
    exact this
/-- the multiple that the program tells is the curve's -/
theorem mul_is {k : Nat} {p : Po} (hk : k < W256) (hp : p.on = true) : Po.mul k p = ofPt (mul (toPt p) k) := by
  obtain ⟨o1, _, r1⟩ := on_iff hp
  have := (Rep.mulN r1 o1 hk 64 (Nat.le_refl _)).point
  rw [Nat.sub_self, Nat.pow_zero, Nat.div_one] at this
  exact this
/-- the opposite that the program tells is the curve's -/
theorem neg_is {p : Po} (hp : p.on = true) : p.neg = ofPt (Curve.neg (toPt p)) := by
  obtain ⟨x, y, i⟩ := p
  cases i
  · obtain ⟨hx, hy⟩ := on_lt hp
    show Po.mk x (ngj y) false = Po.mk (c x).val (-(c y)).val false
    have e2 : c (ngj y) = - c y := by unfold ngj; rw [mPP, c_mod, c_opp]
    rw [← e2, val_c, val_c, ← mPP, Nat.mod_eq_of_lt hx]
    congr 1
    unfold ngj
    rw [Nat.mod_mod]
  · obtain ⟨rfl, rfl⟩ := on_far hp
    show Po.mk 0 (ngj 0) true = Po.mk 0 0 true
    decide +kernel
end Go.Proofs.Ytglmmodkflkkkaa
set_option linter.unusedVariables false
set_option linter.unusedSimpArgs false
set_option maxRecDepth 100000
namespace Go.Proofs.Ytglmmodkflkkkaa
open Go.RowKit Go.Sort Limbs Curve

theorem onP {p : Po} (hp : p.on = true) (ok : p.ok) : ∀ w, Calls Try.prog 42 #[p.v] w fun e w' => e = .returned (.bool true) ∧ Below w.heap.size w w' := fun w => by
  have h := onj ok w
  rw [hp] at h
  exact h
theorem addP {p q : Po} (hp : p.on = true) (okp : p.ok) (hq : q.on = true) (okq : q.ok) : ∀ w, Calls Try.prog 45 #[p.v, q.v] w fun e w' => e = .returned (.tuple #[(p.add q).v, .int .i64 0]) ∧ Below w.heap.size w w' := fun w => by
  have h := addp okp okq w
  rw [if_pos ⟨hp, hq⟩] at h
  exact h
theorem mulP {k : Nat} {p : Po} (hk : k < W256) (hp : p.on = true) (okp : p.ok) : ∀ w, Calls Try.prog 50 #[nv k, p.v] w fun e w' => e = .returned (.tuple #[(Po.mul k p).v, .int .i64 0]) ∧ Below w.heap.size w w' := fun w => by
  have h := mulp hk okp w
  rw [if_pos hp] at h
  exact h
theorem negP {p : Po} (hp : p.on = true) (okp : p.ok) : ∀ w, Calls Try.prog 44 #[p.v] w fun e w' => e = .returned (.tuple #[p.neg.v, .int .i64 0]) ∧ Below w.heap.size w w' := fun w => by
  have h := negp okp w
  rw [if_pos hp] at h
  exact h
set_option maxHeartbeats 64000000 in
theorem group_walk (p : Po) (hp : p.ok) (t0 t1 t2 : Nat) (h0 : t0 < W256) (h1 : t1 < W256) (h2 : t2 < W256) (w : World) :
    Calls Try.prog 11 #[p.v, .agg #[.int .u64 (lb t0 0 : Nat), .int .u64 (lb t0 1 : Nat), .int .u64 (lb t0 2 : Nat), .int .u64 (lb t0 3 : Nat), .int .u64 (lb t1 0 : Nat), .int .u64 (lb t1 1 : Nat), .int .u64 (lb t1 2 : Nat), .int .u64 (lb t1 3 : Nat), .int .u64 (lb t2 0 : Nat), .int .u64 (lb t2 1 : Nat), .int .u64 (lb t2 2 : Nat), .int .u64 (lb t2 3 : Nat)]] w fun r w' => r = .returned (.bool true) ∧ Below w.heap.size w w' := by
  have HAW := Lib.hid awake7_any
  cases hon : p.on
  · have hO := onj hp
    rw [hon] at hO
    have HO := Lib.hid hO
    clear hO hon hp h0 h1 h2
    obtain ⟨px, py, pi⟩ := p
    simp only [Po.v, pn] at HO ⊢
    go_enter Try.func11, Try.ntmps11
    go_wp2_with fail
    refine (keep w.heap.size w (HAW.out _) (by go_grown) (Nat.le_refl _)).mono ?_
    rintro e w1 ⟨rfl, hb, hkk⟩
    have KP : Hid (Bk 51 w1 w.heap.size #[.int .u64 (lb px 0 : Nat), .int .u64 (lb px 1 : Nat), .int .u64 (lb px 2 : Nat), .int .u64 (lb px 3 : Nat), .int .u64 (lb py 0 : Nat), .int .u64 (lb py 1 : Nat), .int .u64 (lb py 2 : Nat), .int .u64 (lb py 3 : Nat), .bool pi]) := Lib.hid (Bk.below (Bk.alloc (Bk.new rfl)) hkk)
    have HB := Lib.hid hb
    clear hb hkk HAW
    obtain ⟨⟨p_0, p_1, p_2, p_3⟩, ⟨p_4, p_5, p_6, p_7⟩, p_8⟩ := KP.out.cells9
    go_wp2_with fail
    refine (keep w.heap.size w (HO.out _) HB.out (Nat.le_refl _)).mono ?_
    rintro e w2 ⟨rfl, hb, hkk⟩
    go_wp2_with fail
    go_ret
    exact ⟨rfl, hb⟩
  obtain ⟨oP, _, _⟩ := on_iff hon
  have HO := Lib.hid (onP hon hp)
  obtain ⟨onA, toA, okA⟩ := on_ofPt (mul_on oP t0)
  obtain ⟨onB, toB, okB⟩ := on_ofPt (mul_on oP t1)
  obtain ⟨onC, toC, okC⟩ := on_ofPt (mul_on oP t2)
  have m0 := mulP h0 hon hp
  have m1 := mulP h1 hon hp
  have m2 := mulP h2 hon hp
  rw [mul_is h0 hon] at m0
  rw [mul_is h1 hon] at m1
  rw [mul_is h2 hon] at m2
  have oA := mul_on oP t0
  have oB := mul_on oP t1
  have oC := mul_on oP t2
  generalize mul (toPt p) t0 = A at *
  generalize mul (toPt p) t1 = B at *
  generalize mul (toPt p) t2 = C at *
  have oAB := on_sum fit oA oB
  have oBC := on_sum fit oB oC
  have oX := on_sum fit oAB oC
  obtain ⟨onAB, toAB, okAB⟩ := on_ofPt oAB
  obtain ⟨onBC, toBC, okBC⟩ := on_ofPt oBC
  obtain ⟨onX, toX, okX⟩ := on_ofPt oX
  have oN := on_neg oA
  obtain ⟨onN, toN, okN⟩ := on_ofPt oN
  have dAB := addP onA okA onB okB
  rw [add_is onA onB, toA, toB] at dAB
  have dBA := addP onB okB onA okA
  rw [add_is onB onA, toA, toB, sum_comm fit oB oA] at dBA
  have dBC := addP onB okB onC okC
  rw [add_is onB onC, toB, toC] at dBC
  have dX := addP onAB okAB onC okC
  rw [add_is onAB onC, toAB, toC] at dX
  have dY := addP onA okA onBC okBC
  rw [add_is onA onBC, toA, toBC, ← sum_assoc fit oA oB oC] at dY
  have dN := negP onA okA
  rw [neg_is onA, toA] at dN
  have dZ := addP onA okA onN okN
  rw [add_is onA onN, toA, toN, sum_neg] at dZ
  have dW := addP onA okA (q := ⟨0, 0, true⟩) (by decide) ⟨by decide, by decide⟩
  rw [add_is onA (by decide), toA, show toPt ⟨0, 0, true⟩ = .far from rfl, sum_far] at dW
  have HA := Lib.hid (onP onA okA)
  have HBb := Lib.hid (onP onB okB)
  have HC := Lib.hid (onP onC okC)
  have HOAB := Lib.hid (onP onAB okAB)
  have eAB := eq_same okAB
  have eX := eq_same okX
  have eA := eq_same okA
  have eF := qF
  clear onA toA okA onB toB okB onC toC okC oA oB oC oAB oBC oX onAB toAB okAB onBC toBC okBC onX toX okX oN onN toN okN hon hp h0 h1 h2 oP
  generalize ofPt (sum inv aP (sum inv aP A B) C) = x at *
  generalize ofPt (sum inv aP A B) = ab at *
  generalize ofPt (sum inv aP B C) = bc at *
  generalize ofPt (Curve.neg A) = n at *
  generalize ofPt A = a at *
  generalize ofPt B = b at *
  generalize ofPt C = c at *
  rw [show ofPt .far = ⟨0, 0, true⟩ from rfl] at dZ
  have H0 := Lib.hid m0
  have H1 := Lib.hid m1
  have H2 := Lib.hid m2
  have HAB := Lib.hid dAB
  have HBA := Lib.hid dBA
  have HBC := Lib.hid dBC
  have HX := Lib.hid dX
  have HY := Lib.hid dY
  have HN := Lib.hid dN
  have HZ : Hid (∀ w, Calls Try.prog 45 #[a.v, n.v] w fun e w' => e = .returned (.tuple #[.agg #[.int .u64 0, .int .u64 0, .int .u64 0, .int .u64 0, .int .u64 0, .int .u64 0, .int .u64 0, .int .u64 0, .bool true], .int .i64 0]) ∧ Below w.heap.size w w') := Lib.hid dZ
  have HW : Hid (∀ w, Calls Try.prog 45 #[a.v, .agg #[.int .u64 0, .int .u64 0, .int .u64 0, .int .u64 0, .int .u64 0, .int .u64 0, .int .u64 0, .int .u64 0, .bool true]] w fun e w' => e = .returned (.tuple #[a.v, .int .i64 0]) ∧ Below w.heap.size w w') := Lib.hid dW
  have EQ := Lib.hid (And.intro eAB (And.intro eX eA))
  clear m0 m1 m2 dAB dBA dBC dX dY dN dZ dW eAB eX eA A B C
  obtain ⟨px, py, pi⟩ := p
  obtain ⟨ax, ay, ai⟩ := a
  obtain ⟨bx, bys, bi⟩ := b
  obtain ⟨cx, cy, ci⟩ := c
  obtain ⟨abx, aby, abi⟩ := ab
  obtain ⟨bcx, bcy, bci⟩ := bc
  obtain ⟨xx, xy, xi⟩ := x
  obtain ⟨nx, ny, ni⟩ := n
  simp only [Po.v, pn, nv, num] at HO H0 H1 H2 HA HBb HC HAB HBA HBC HX HY HN HZ HW HOAB EQ ⊢
  go_enter Try.func11, Try.ntmps11
  go_wp2_with fail
  refine (keep w.heap.size w (HAW.out _) (by go_grown) (Nat.le_refl _)).mono ?_
  rintro e w1 ⟨rfl, hb, hkk⟩
  have KP : Hid (Bk 51 w1 w.heap.size #[.int .u64 (lb px 0 : Nat), .int .u64 (lb px 1 : Nat), .int .u64 (lb px 2 : Nat), .int .u64 (lb px 3 : Nat), .int .u64 (lb py 0 : Nat), .int .u64 (lb py 1 : Nat), .int .u64 (lb py 2 : Nat), .int .u64 (lb py 3 : Nat), .bool pi]) := Lib.hid (Bk.below (Bk.alloc (Bk.new rfl)) hkk)
  have KT : Hid (Bk 48 w1 (w.heap.size + 1) #[.int .u64 (lb t0 0 : Nat), .int .u64 (lb t0 1 : Nat), .int .u64 (lb t0 2 : Nat), .int .u64 (lb t0 3 : Nat), .int .u64 (lb t1 0 : Nat), .int .u64 (lb t1 1 : Nat), .int .u64 (lb t1 2 : Nat), .int .u64 (lb t1 3 : Nat), .int .u64 (lb t2 0 : Nat), .int .u64 (lb t2 1 : Nat), .int .u64 (lb t2 2 : Nat), .int .u64 (lb t2 3 : Nat)]) := Lib.hid (Bk.below (Bk.new (by simp)) hkk)
  have HB := Lib.hid hb
  clear hb hkk HAW
  obtain ⟨⟨P_0, P_1, P_2, P_3⟩, ⟨P_4, P_5, P_6, P_7⟩, P_8⟩ := KP.out.cells9
  go_wp2_with fail
  clear P_0 P_1 P_2 P_3 P_4 P_5 P_6 P_7 P_8
  refine (keep w.heap.size w (HO.out _) HB.out (Nat.le_refl _)).mono ?_
  rintro e w2 ⟨rfl, hb, hkk⟩
  replace KP := Lib.hid (Bk.below KP.out hkk)
  replace KT := Lib.hid (Bk.below KT.out hkk)
  clear HB
  have HB := Lib.hid hb
  clear hb hkk HO
  obtain ⟨⟨T_0, T_1, T_2, T_3⟩, ⟨T_4, T_5, T_6, T_7⟩, T_8, T_9, T_10, T_11⟩ := KT.out.cells12
  obtain ⟨⟨P_0, P_1, P_2, P_3⟩, ⟨P_4, P_5, P_6, P_7⟩, P_8⟩ := KP.out.cells9
  go_wp2_with fail
  clear T_0 T_1 T_2 T_3 T_4 T_5 T_6 T_7 T_8 T_9 T_10 T_11 P_0 P_1 P_2 P_3 P_4 P_5 P_6 P_7 P_8
  refine (keep w.heap.size w (H0.out _) HB.out (Nat.le_refl _)).mono ?_
  rintro e w3 ⟨rfl, hb, hkk⟩
  replace KP := Lib.hid (Bk.below KP.out hkk)
  replace KT := Lib.hid (Bk.below KT.out hkk)
  clear HB
  have HB := Lib.hid hb
  clear hb hkk H0
  obtain ⟨⟨T_0, T_1, T_2, T_3⟩, ⟨T_4, T_5, T_6, T_7⟩, T_8, T_9, T_10, T_11⟩ := KT.out.cellsA12
  obtain ⟨⟨P_0, P_1, P_2, P_3⟩, ⟨P_4, P_5, P_6, P_7⟩, P_8⟩ := KP.out.cellsA9
  go_wp2_with fail
  clear T_0 T_1 T_2 T_3 T_4 T_5 T_6 T_7 T_8 T_9 T_10 T_11 P_0 P_1 P_2 P_3 P_4 P_5 P_6 P_7 P_8
  refine (keep w.heap.size w (H1.out _) (by have hb := HB.out; have hs := hb.size; go_grown) (Nat.le_refl _)).mono ?_
  rintro e w4 ⟨rfl, hb, hkk⟩
  replace KP := Lib.hid (Bk.below (Bk.alloc KP.out) hkk)
  replace KT := Lib.hid (Bk.below (Bk.alloc KT.out) hkk)
  have Ka : Hid (Bk 51 w4 w3.heap.size #[.int .u64 (lb ax 0 : Nat), .int .u64 (lb ax 1 : Nat), .int .u64 (lb ax 2 : Nat), .int .u64 (lb ax 3 : Nat), .int .u64 (lb ay 0 : Nat), .int .u64 (lb ay 1 : Nat), .int .u64 (lb ay 2 : Nat), .int .u64 (lb ay 3 : Nat), .bool ai]) := Lib.hid (Bk.below (Bk.new rfl) hkk)
  generalize w3.heap.size = ga at Ka ⊢
  clear HB
  have HB := Lib.hid hb
  clear hb hkk H1
  obtain ⟨⟨T_0, T_1, T_2, T_3⟩, ⟨T_4, T_5, T_6, T_7⟩, T_8, T_9, T_10, T_11⟩ := KT.out.cellsA12
  obtain ⟨⟨P_0, P_1, P_2, P_3⟩, ⟨P_4, P_5, P_6, P_7⟩, P_8⟩ := KP.out.cellsA9
  go_wp2_with fail
  clear T_0 T_1 T_2 T_3 T_4 T_5 T_6 T_7 T_8 T_9 T_10 T_11 P_0 P_1 P_2 P_3 P_4 P_5 P_6 P_7 P_8
  refine (keep w.heap.size w (H2.out _) (by have hb := HB.out; have hs := hb.size; go_grown) (Nat.le_refl _)).mono ?_
  rintro e w5 ⟨rfl, hb, hkk⟩
  replace KP := Lib.hid (Bk.below (Bk.alloc KP.out) hkk)
  replace KT := Lib.hid (Bk.below (Bk.alloc KT.out) hkk)
  replace Ka := Lib.hid (Bk.below (Bk.alloc Ka.out) hkk)
  have Kb : Hid (Bk 51 w5 w4.heap.size #[.int .u64 (lb bx 0 : Nat), .int .u64 (lb bx 1 : Nat), .int .u64 (lb bx 2 : Nat), .int .u64 (lb bx 3 : Nat), .int .u64 (lb bys 0 : Nat), .int .u64 (lb bys 1 : Nat), .int .u64 (lb bys 2 : Nat), .int .u64 (lb bys 3 : Nat), .bool bi]) := Lib.hid (Bk.below (Bk.new rfl) hkk)
  generalize w4.heap.size = gb at Kb ⊢
  clear HB
  have HB := Lib.hid hb
  clear hb hkk H2
  clear KT KP
  obtain ⟨⟨a_0, a_1, a_2, a_3⟩, ⟨a_4, a_5, a_6, a_7⟩, a_8⟩ := Ka.out.cellsA9
  go_wp2_with fail
  clear a_0 a_1 a_2 a_3 a_4 a_5 a_6 a_7 a_8
  refine (keep w.heap.size w (HA.out _) (by have hb := HB.out; have hs := hb.size; go_grown) (Nat.le_refl _)).mono ?_
  rintro e w6 ⟨rfl, hb, hkk⟩
  replace Ka := Lib.hid (Bk.below (Bk.alloc Ka.out) hkk)
  replace Kb := Lib.hid (Bk.below (Bk.alloc Kb.out) hkk)
  have Kc : Hid (Bk 51 w6 w5.heap.size #[.int .u64 (lb cx 0 : Nat), .int .u64 (lb cx 1 : Nat), .int .u64 (lb cx 2 : Nat), .int .u64 (lb cx 3 : Nat), .int .u64 (lb cy 0 : Nat), .int .u64 (lb cy 1 : Nat), .int .u64 (lb cy 2 : Nat), .int .u64 (lb cy 3 : Nat), .bool ci]) := Lib.hid (Bk.below (Bk.new rfl) hkk)
  generalize w5.heap.size = gc at Kc ⊢
  clear HB
  have HB := Lib.hid hb
  clear hb hkk HA
  obtain ⟨⟨b_0, b_1, b_2, b_3⟩, ⟨b_4, b_5, b_6, b_7⟩, b_8⟩ := Kb.out.cells9
  go_wp2_with fail
  clear b_0 b_1 b_2 b_3 b_4 b_5 b_6 b_7 b_8
  refine (keep w.heap.size w (HBb.out _) HB.out (Nat.le_refl _)).mono ?_
  rintro e w7 ⟨rfl, hb, hkk⟩
  replace Ka := Lib.hid (Bk.below Ka.out hkk)
  replace Kb := Lib.hid (Bk.below Kb.out hkk)
  replace Kc := Lib.hid (Bk.below Kc.out hkk)
  clear HB
  have HB := Lib.hid hb
  clear hb hkk HBb
  obtain ⟨⟨c_0, c_1, c_2, c_3⟩, ⟨c_4, c_5, c_6, c_7⟩, c_8⟩ := Kc.out.cells9
  go_wp2_with fail
  clear c_0 c_1 c_2 c_3 c_4 c_5 c_6 c_7 c_8
  refine (keep w.heap.size w (HC.out _) HB.out (Nat.le_refl _)).mono ?_
  rintro e w8 ⟨rfl, hb, hkk⟩
  replace Ka := Lib.hid (Bk.below Ka.out hkk)
  replace Kb := Lib.hid (Bk.below Kb.out hkk)
  replace Kc := Lib.hid (Bk.below Kc.out hkk)
  clear HB
  have HB := Lib.hid hb
  clear hb hkk HC
  obtain ⟨⟨a_0, a_1, a_2, a_3⟩, ⟨a_4, a_5, a_6, a_7⟩, a_8⟩ := Ka.out.cells9
  obtain ⟨⟨b_0, b_1, b_2, b_3⟩, ⟨b_4, b_5, b_6, b_7⟩, b_8⟩ := Kb.out.cells9
  go_wp2_with fail
  clear a_0 a_1 a_2 a_3 a_4 a_5 a_6 a_7 a_8 b_0 b_1 b_2 b_3 b_4 b_5 b_6 b_7 b_8
  refine (keep w.heap.size w (HAB.out _) HB.out (Nat.le_refl _)).mono ?_
  rintro e w9 ⟨rfl, hb, hkk⟩
  replace Ka := Lib.hid (Bk.below Ka.out hkk)
  replace Kb := Lib.hid (Bk.below Kb.out hkk)
  replace Kc := Lib.hid (Bk.below Kc.out hkk)
  clear HB
  have HB := Lib.hid hb
  clear hb hkk HAB
  obtain ⟨⟨b_0, b_1, b_2, b_3⟩, ⟨b_4, b_5, b_6, b_7⟩, b_8⟩ := Kb.out.cellsA9
  obtain ⟨⟨a_0, a_1, a_2, a_3⟩, ⟨a_4, a_5, a_6, a_7⟩, a_8⟩ := Ka.out.cellsA9
  go_wp2_with fail
  clear b_0 b_1 b_2 b_3 b_4 b_5 b_6 b_7 b_8 a_0 a_1 a_2 a_3 a_4 a_5 a_6 a_7 a_8
  refine (keep w.heap.size w (HBA.out _) (by have hb := HB.out; have hs := hb.size; go_grown) (Nat.le_refl _)).mono ?_
  rintro e w10 ⟨rfl, hb, hkk⟩
  replace Ka := Lib.hid (Bk.below (Bk.alloc Ka.out) hkk)
  replace Kb := Lib.hid (Bk.below (Bk.alloc Kb.out) hkk)
  replace Kc := Lib.hid (Bk.below (Bk.alloc Kc.out) hkk)
  have Kab : Hid (Bk 51 w10 w9.heap.size #[.int .u64 (lb abx 0 : Nat), .int .u64 (lb abx 1 : Nat), .int .u64 (lb abx 2 : Nat), .int .u64 (lb abx 3 : Nat), .int .u64 (lb aby 0 : Nat), .int .u64 (lb aby 1 : Nat), .int .u64 (lb aby 2 : Nat), .int .u64 (lb aby 3 : Nat), .bool abi]) := Lib.hid (Bk.below (Bk.new rfl) hkk)
  generalize w9.heap.size = gab at Kab ⊢
  clear HB
  have HB := Lib.hid hb
  clear hb hkk HBA
  obtain ⟨⟨b_0, b_1, b_2, b_3⟩, ⟨b_4, b_5, b_6, b_7⟩, b_8⟩ := Kb.out.cellsA9
  obtain ⟨⟨c_0, c_1, c_2, c_3⟩, ⟨c_4, c_5, c_6, c_7⟩, c_8⟩ := Kc.out.cellsA9
  go_wp2_with fail
  clear b_0 b_1 b_2 b_3 b_4 b_5 b_6 b_7 b_8 c_0 c_1 c_2 c_3 c_4 c_5 c_6 c_7 c_8
  refine (keep w.heap.size w (HBC.out _) (by have hb := HB.out; have hs := hb.size; go_grown) (Nat.le_refl _)).mono ?_
  rintro e w11 ⟨rfl, hb, hkk⟩
  replace Ka := Lib.hid (Bk.below (Bk.alloc Ka.out) hkk)
  replace Kb := Lib.hid (Bk.below (Bk.alloc Kb.out) hkk)
  replace Kc := Lib.hid (Bk.below (Bk.alloc Kc.out) hkk)
  replace Kab := Lib.hid (Bk.below (Bk.alloc Kab.out) hkk)
  have Kba : Hid (Bk 51 w11 w10.heap.size #[.int .u64 (lb abx 0 : Nat), .int .u64 (lb abx 1 : Nat), .int .u64 (lb abx 2 : Nat), .int .u64 (lb abx 3 : Nat), .int .u64 (lb aby 0 : Nat), .int .u64 (lb aby 1 : Nat), .int .u64 (lb aby 2 : Nat), .int .u64 (lb aby 3 : Nat), .bool abi]) := Lib.hid (Bk.below (Bk.new rfl) hkk)
  generalize w10.heap.size = gba at Kba ⊢
  clear HB
  have HB := Lib.hid hb
  clear hb hkk HBC
  have heq := EQ.out.1
  obtain ⟨⟨ab_0, ab_1, ab_2, ab_3⟩, ⟨ab_4, ab_5, ab_6, ab_7⟩, ab_8⟩ := Kab.out.cellsA9
  obtain ⟨⟨ba_0, ba_1, ba_2, ba_3⟩, ⟨ba_4, ba_5, ba_6, ba_7⟩, ba_8⟩ := Kba.out.cellsA9
  go_wp2_with fail
  clear ab_0 ab_1 ab_2 ab_3 ab_4 ab_5 ab_6 ab_7 ab_8 ba_0 ba_1 ba_2 ba_3 ba_4 ba_5 ba_6 ba_7 ba_8
  refine (keep w.heap.size w (HOAB.out _) (by have hb := HB.out; have hs := hb.size; go_grown) (Nat.le_refl _)).mono ?_
  rintro e w12 ⟨rfl, hb, hkk⟩
  replace Ka := Lib.hid (Bk.below (Bk.alloc Ka.out) hkk)
  replace Kb := Lib.hid (Bk.below (Bk.alloc Kb.out) hkk)
  replace Kc := Lib.hid (Bk.below (Bk.alloc Kc.out) hkk)
  replace Kab := Lib.hid (Bk.below (Bk.alloc Kab.out) hkk)
  replace Kba := Lib.hid (Bk.below (Bk.alloc Kba.out) hkk)
  have Kbc : Hid (Bk 51 w12 w11.heap.size #[.int .u64 (lb bcx 0 : Nat), .int .u64 (lb bcx 1 : Nat), .int .u64 (lb bcx 2 : Nat), .int .u64 (lb bcx 3 : Nat), .int .u64 (lb bcy 0 : Nat), .int .u64 (lb bcy 1 : Nat), .int .u64 (lb bcy 2 : Nat), .int .u64 (lb bcy 3 : Nat), .bool bci]) := Lib.hid (Bk.below (Bk.new rfl) hkk)
  generalize w11.heap.size = gbc at Kbc ⊢
  clear HB
  have HB := Lib.hid hb
  clear hb hkk HOAB
  clear heq
  obtain ⟨⟨ab_0, ab_1, ab_2, ab_3⟩, ⟨ab_4, ab_5, ab_6, ab_7⟩, ab_8⟩ := Kab.out.cells9
  obtain ⟨⟨c_0, c_1, c_2, c_3⟩, ⟨c_4, c_5, c_6, c_7⟩, c_8⟩ := Kc.out.cells9
  go_wp2_with fail
  clear ab_0 ab_1 ab_2 ab_3 ab_4 ab_5 ab_6 ab_7 ab_8 c_0 c_1 c_2 c_3 c_4 c_5 c_6 c_7 c_8
  refine (keep w.heap.size w (HX.out _) HB.out (Nat.le_refl _)).mono ?_
  rintro e w13 ⟨rfl, hb, hkk⟩
  replace Ka := Lib.hid (Bk.below Ka.out hkk)
  replace Kb := Lib.hid (Bk.below Kb.out hkk)
  replace Kc := Lib.hid (Bk.below Kc.out hkk)
  replace Kab := Lib.hid (Bk.below Kab.out hkk)
  replace Kba := Lib.hid (Bk.below Kba.out hkk)
  replace Kbc := Lib.hid (Bk.below Kbc.out hkk)
  clear HB
  have HB := Lib.hid hb
  clear hb hkk HX
  obtain ⟨⟨a_0, a_1, a_2, a_3⟩, ⟨a_4, a_5, a_6, a_7⟩, a_8⟩ := Ka.out.cellsA9
  obtain ⟨⟨bc_0, bc_1, bc_2, bc_3⟩, ⟨bc_4, bc_5, bc_6, bc_7⟩, bc_8⟩ := Kbc.out.cellsA9
  go_wp2_with fail
  clear a_0 a_1 a_2 a_3 a_4 a_5 a_6 a_7 a_8 bc_0 bc_1 bc_2 bc_3 bc_4 bc_5 bc_6 bc_7 bc_8
  refine (keep w.heap.size w (HY.out _) (by have hb := HB.out; have hs := hb.size; go_grown) (Nat.le_refl _)).mono ?_
  rintro e w14 ⟨rfl, hb, hkk⟩
  replace Ka := Lib.hid (Bk.below (Bk.alloc Ka.out) hkk)
  replace Kb := Lib.hid (Bk.below (Bk.alloc Kb.out) hkk)
  replace Kc := Lib.hid (Bk.below (Bk.alloc Kc.out) hkk)
  replace Kab := Lib.hid (Bk.below (Bk.alloc Kab.out) hkk)
  replace Kba := Lib.hid (Bk.below (Bk.alloc Kba.out) hkk)
  replace Kbc := Lib.hid (Bk.below (Bk.alloc Kbc.out) hkk)
  have Kx1 : Hid (Bk 51 w14 w13.heap.size #[.int .u64 (lb xx 0 : Nat), .int .u64 (lb xx 1 : Nat), .int .u64 (lb xx 2 : Nat), .int .u64 (lb xx 3 : Nat), .int .u64 (lb xy 0 : Nat), .int .u64 (lb xy 1 : Nat), .int .u64 (lb xy 2 : Nat), .int .u64 (lb xy 3 : Nat), .bool xi]) := Lib.hid (Bk.below (Bk.new rfl) hkk)
  generalize w13.heap.size = gx1 at Kx1 ⊢
  clear HB
  have HB := Lib.hid hb
  clear hb hkk HY
  obtain ⟨⟨a_0, a_1, a_2, a_3⟩, ⟨a_4, a_5, a_6, a_7⟩, a_8⟩ := Ka.out.cellsA9
  go_wp2_with fail
  clear a_0 a_1 a_2 a_3 a_4 a_5 a_6 a_7 a_8
  refine (keep w.heap.size w (HN.out _) (by have hb := HB.out; have hs := hb.size; go_grown) (Nat.le_refl _)).mono ?_
  rintro e w15 ⟨rfl, hb, hkk⟩
  replace Ka := Lib.hid (Bk.below (Bk.alloc Ka.out) hkk)
  replace Kb := Lib.hid (Bk.below (Bk.alloc Kb.out) hkk)
  replace Kc := Lib.hid (Bk.below (Bk.alloc Kc.out) hkk)
  replace Kab := Lib.hid (Bk.below (Bk.alloc Kab.out) hkk)
  replace Kba := Lib.hid (Bk.below (Bk.alloc Kba.out) hkk)
  replace Kbc := Lib.hid (Bk.below (Bk.alloc Kbc.out) hkk)
  replace Kx1 := Lib.hid (Bk.below (Bk.alloc Kx1.out) hkk)
  have Kx2 : Hid (Bk 51 w15 w14.heap.size #[.int .u64 (lb xx 0 : Nat), .int .u64 (lb xx 1 : Nat), .int .u64 (lb xx 2 : Nat), .int .u64 (lb xx 3 : Nat), .int .u64 (lb xy 0 : Nat), .int .u64 (lb xy 1 : Nat), .int .u64 (lb xy 2 : Nat), .int .u64 (lb xy 3 : Nat), .bool xi]) := Lib.hid (Bk.below (Bk.new rfl) hkk)
  generalize w14.heap.size = gx2 at Kx2 ⊢
  clear HB
  have HB := Lib.hid hb
  clear hb hkk HN
  have heq := EQ.out.2.1
  obtain ⟨⟨x1_0, x1_1, x1_2, x1_3⟩, ⟨x1_4, x1_5, x1_6, x1_7⟩, x1_8⟩ := Kx1.out.cellsA9
  obtain ⟨⟨x2_0, x2_1, x2_2, x2_3⟩, ⟨x2_4, x2_5, x2_6, x2_7⟩, x2_8⟩ := Kx2.out.cellsA9
  obtain ⟨⟨a_0, a_1, a_2, a_3⟩, ⟨a_4, a_5, a_6, a_7⟩, a_8⟩ := Ka.out.cellsA9
  go_wp2_with fail
  clear x1_0 x1_1 x1_2 x1_3 x1_4 x1_5 x1_6 x1_7 x1_8 x2_0 x2_1 x2_2 x2_3 x2_4 x2_5 x2_6 x2_7 x2_8 a_0 a_1 a_2 a_3 a_4 a_5 a_6 a_7 a_8
  refine (keep w.heap.size w (HZ.out _) (by have hb := HB.out; have hs := hb.size; go_grown) (Nat.le_refl _)).mono ?_
  rintro e w16 ⟨rfl, hb, hkk⟩
  replace Ka := Lib.hid (Bk.below (Bk.alloc Ka.out) hkk)
  replace Kb := Lib.hid (Bk.below (Bk.alloc Kb.out) hkk)
  replace Kc := Lib.hid (Bk.below (Bk.alloc Kc.out) hkk)
  replace Kab := Lib.hid (Bk.below (Bk.alloc Kab.out) hkk)
  replace Kba := Lib.hid (Bk.below (Bk.alloc Kba.out) hkk)
  replace Kbc := Lib.hid (Bk.below (Bk.alloc Kbc.out) hkk)
  replace Kx1 := Lib.hid (Bk.below (Bk.alloc Kx1.out) hkk)
  replace Kx2 := Lib.hid (Bk.below (Bk.alloc Kx2.out) hkk)
  have Kn : Hid (Bk 51 w16 w15.heap.size #[.int .u64 (lb nx 0 : Nat), .int .u64 (lb nx 1 : Nat), .int .u64 (lb nx 2 : Nat), .int .u64 (lb nx 3 : Nat), .int .u64 (lb ny 0 : Nat), .int .u64 (lb ny 1 : Nat), .int .u64 (lb ny 2 : Nat), .int .u64 (lb ny 3 : Nat), .bool ni]) := Lib.hid (Bk.below (Bk.new rfl) hkk)
  generalize w15.heap.size = gn at Kn ⊢
  clear HB
  have HB := Lib.hid hb
  clear hb hkk HZ
  clear heq
  obtain ⟨⟨a_0, a_1, a_2, a_3⟩, ⟨a_4, a_5, a_6, a_7⟩, a_8⟩ := Ka.out.cellsA9
  go_wp2_with fail
  clear a_0 a_1 a_2 a_3 a_4 a_5 a_6 a_7 a_8
  refine (keep w.heap.size w (HW.out _) (by have hb := HB.out; have hs := hb.size; go_grown) (Nat.le_refl _)).mono ?_
  rintro e w17 ⟨rfl, hb, hkk⟩
  replace Ka := Lib.hid (Bk.below (Bk.alloc Ka.out) hkk)
  replace Kb := Lib.hid (Bk.below (Bk.alloc Kb.out) hkk)
  replace Kc := Lib.hid (Bk.below (Bk.alloc Kc.out) hkk)
  replace Kab := Lib.hid (Bk.below (Bk.alloc Kab.out) hkk)
  replace Kba := Lib.hid (Bk.below (Bk.alloc Kba.out) hkk)
  replace Kbc := Lib.hid (Bk.below (Bk.alloc Kbc.out) hkk)
  replace Kx1 := Lib.hid (Bk.below (Bk.alloc Kx1.out) hkk)
  replace Kx2 := Lib.hid (Bk.below (Bk.alloc Kx2.out) hkk)
  replace Kn := Lib.hid (Bk.below (Bk.alloc Kn.out) hkk)
  have Kz : Hid (Bk 51 w17 w16.heap.size #[.int .u64 0, .int .u64 0, .int .u64 0, .int .u64 0, .int .u64 0, .int .u64 0, .int .u64 0, .int .u64 0, .bool true]) := Lib.hid (Bk.below (Bk.new rfl) hkk)
  generalize w16.heap.size = gz at Kz ⊢
  clear HB
  have HB := Lib.hid hb
  clear hb hkk HW
  have heq := EQ.out.2.2
  obtain ⟨⟨z_0, z_1, z_2, z_3⟩, ⟨z_4, z_5, z_6, z_7⟩, z_8⟩ := Kz.out.cellsA9
  obtain ⟨⟨a_0, a_1, a_2, a_3⟩, ⟨a_4, a_5, a_6, a_7⟩, a_8⟩ := Ka.out.cellsA9
  go_wp2_with fail
  go_ret
  refine ⟨rfl, ?_⟩
  have hb := HB.out
  have hs := hb.size
  go_grown
end Go.Proofs.Ytglmmodkflkkkaa
