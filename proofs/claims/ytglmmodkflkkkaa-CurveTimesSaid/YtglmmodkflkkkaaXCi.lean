import Derived.Test.YtglmmodkflkkkaaXCg
set_option linter.unusedVariables false
set_option linter.unusedSimpArgs false
set_option maxRecDepth 100000
namespace Go.Proofs.Ytglmmodkflkkkaa
open Go.RowKit Go.Sort Limbs
def J.plus (p q : J) : J :=
  if p = J.far then q else if q = J.far then p
  else if p.over q.z = q.over p.z then (p.over q.z).twice
  else if (p.over q.z).x = (q.over p.z).x then J.far
  else ((p.over q.z).over (sj (q.over p.z).x (p.over q.z).x)).along (sj (q.over p.z).y (p.over q.z).y) (mj (q.over p.z).x (mj (sj (q.over p.z).x (p.over q.z).x) (sj (q.over p.z).x (p.over q.z).x)))
section
variable {p q : J}
theorem J.plus_1 (h : p = J.far) : p.plus q = q := if_pos h
theorem J.plus_2 (h : ¬ p = J.far) (h2 : q = J.far) : p.plus q = p := (if_neg h).trans (if_pos h2)
theorem J.plus_3 (h : ¬ p = J.far) (h2 : ¬ q = J.far) (h3 : p.over q.z = q.over p.z) : p.plus q = (p.over q.z).twice := (if_neg h).trans ((if_neg h2).trans (if_pos h3))
theorem J.plus_4 (h : ¬ p = J.far) (h2 : ¬ q = J.far) (h3 : ¬ p.over q.z = q.over p.z) (h4 : (p.over q.z).x = (q.over p.z).x) : p.plus q = J.far := (if_neg h).trans ((if_neg h2).trans ((if_neg h3).trans (if_pos h4)))
theorem J.plus_5 (h : ¬ p = J.far) (h2 : ¬ q = J.far) (h3 : ¬ p.over q.z = q.over p.z) (h4 : ¬ (p.over q.z).x = (q.over p.z).x) : p.plus q =
  ((p.over q.z).over (sj (q.over p.z).x (p.over q.z).x)).along (sj (q.over p.z).y (p.over q.z).y) (mj (q.over p.z).x (mj (sj (q.over p.z).x (p.over q.z).x) (sj (q.over p.z).x (p.over q.z).x))) := (if_neg h).trans ((if_neg h2).trans ((if_neg h3).trans (if_neg h4)))
end
theorem J.far_ok : J.far.ok := ⟨by decide, by decide, by decide⟩
theorem J.plus_ok {p q : J} (hp : p.ok) (hq : q.ok) : (p.plus q).ok := by
  by_cases h1 : p = J.far
  · rw [J.plus_1 h1]; exact hq
  · by_cases h2 : q = J.far
    · rw [J.plus_2 h1 h2]; exact hp
    · by_cases h3 : p.over q.z = q.over p.z
      · rw [J.plus_3 h1 h2 h3]; exact J.twice_ok (J.over_ok _ _)
      · by_cases h4 : (p.over q.z).x = (q.over p.z).x
        · rw [J.plus_4 h1 h2 h3 h4]; exact J.far_ok
        · rw [J.plus_5 h1 h2 h3 h4]; exact J.along_ok _ _ _ (J.over_ok _ _).2.2
theorem eq_j {p q : J} (hp : p.ok) (hq : q.ok) : ∀ w, (Op.equalIn 10000 93 p.v q.v).run Try.prog w = .ok (decide (p = q)) w := fun w => by
  have h := eqJ p.x p.y p.z q.x q.y q.z hp.1 hp.2.1 hp.2.2 hq.1 hq.2.1 hq.2.2 w
  have e2 : decide (p = q) = decide (p.x = q.x ∧ p.y = q.y ∧ p.z = q.z) := by
    congr 1
    obtain ⟨x, y, z⟩ := p
    obtain ⟨u, v, s⟩ := q
    simp
  rw [e2]
  exact h
set_option maxHeartbeats 16000000 in
theorem plus_c (p q : J) (hp : p.ok) (hq : q.ok) (w : World) :
    Calls Try.prog 79 #[p.v, q.v] w fun e w' => e = .returned (p.plus q).v ∧ Below w.heap.size w w' := by
  have HEP := Lib.hid (eq_far hp)
  have HEQ := Lib.hid (eq_far hq)
  by_cases h1 : p = J.far
  · rw [J.plus_1 h1]
    rw [decide_eq_true h1] at HEP
    have heq := HEP.out
    clear HEP HEQ h1 hp hq
    obtain ⟨x, y, z⟩ := p
    obtain ⟨u, v, s⟩ := q
    simp only [J.v, jn] at heq ⊢
    go_enter Try.func79, Try.ntmps79
    go_wp2_with fail
    refine ret_cell93 rfl (w.heap.size + 1 + 1) u v s rfl (Bk.new (by simp)) rfl ⟨rfl, ?_⟩
    go_grown
  by_cases h2 : q = J.far
  · rw [J.plus_2 h1 h2]
    rw [decide_eq_false h1] at HEP
    rw [decide_eq_true h2] at HEQ
    have heq := HEP.out
    have heq2 := HEQ.out
    clear HEP HEQ h1 h2 hp hq
    obtain ⟨x, y, z⟩ := p
    obtain ⟨u, v, s⟩ := q
    simp only [J.v, jn] at heq heq2 ⊢
    go_enter Try.func79, Try.ntmps79
    go_wp2_with fail
    refine ret_cell93 rfl (w.heap.size + 1 + 1) x y z rfl (Bk.new (by simp)) rfl ⟨rfl, ?_⟩
    go_grown
  rw [decide_eq_false h1] at HEP
  rw [decide_eq_false h2] at HEQ
  have H1 := Lib.hid (overj hp hq.2.2)
  have H2 := Lib.hid (overj hq hp.2.2)
  have HE3 := Lib.hid (eq_j (J.over_ok p q.z) (J.over_ok q p.z))
  have HE4 := Lib.hid (fun w => eqN (p.over q.z).x (q.over p.z).x (J.over_ok p q.z).1 (J.over_ok q p.z).1 w)
  have HTW := Lib.hid (twicej (J.over_ok p q.z))
  have H3 := Lib.hid (subj (J.over_ok q p.z).1 (J.over_ok p q.z).1)
  have H4 := Lib.hid (subj (J.over_ok q p.z).2.1 (J.over_ok p q.z).2.1)
  have H5 := Lib.hid (overj (J.over_ok p q.z) (sj_lt (q.over p.z).x (p.over q.z).x))
  have H6 := Lib.hid (mulj (sj_lt (q.over p.z).x (p.over q.z).x) (sj_lt (q.over p.z).x (p.over q.z).x))
  have H7 := Lib.hid (mulj (J.over_ok q p.z).1 (mj_lt (sj (q.over p.z).x (p.over q.z).x) (sj (q.over p.z).x (p.over q.z).x)))
  have H8 := Lib.hid (alongj (J.over_ok (p.over q.z) (sj (q.over p.z).x (p.over q.z).x)) (sj_lt (q.over p.z).y (p.over q.z).y) (mj_lt (q.over p.z).x (mj (sj (q.over p.z).x (p.over q.z).x) (sj (q.over p.z).x (p.over q.z).x))))
  have HP : Hid ((p.over q.z = q.over p.z → p.plus q = (p.over q.z).twice) ∧ (¬ p.over q.z = q.over p.z → (p.over q.z).x = (q.over p.z).x → p.plus q = J.far) ∧ (¬ p.over q.z = q.over p.z → ¬ (p.over q.z).x = (q.over p.z).x → p.plus q = ((p.over q.z).over (sj (q.over p.z).x (p.over q.z).x)).along (sj (q.over p.z).y (p.over q.z).y) (mj (q.over p.z).x (mj (sj (q.over p.z).x (p.over q.z).x) (sj (q.over p.z).x (p.over q.z).x))))) :=
    Lib.hid ⟨J.plus_3 h1 h2, J.plus_4 h1 h2, J.plus_5 h1 h2⟩
  clear h1 h2 hp hq
  generalize p.plus q = res at HP ⊢
  generalize p.over q.z = a at *
  generalize q.over p.z = b at *
  obtain ⟨x, y, z⟩ := p
  obtain ⟨u, v, s⟩ := q
  obtain ⟨ax, ay, az⟩ := a
  obtain ⟨bx, bys, bz⟩ := b
  simp only [] at HE4 H3 H4 H5 H6 H7 H8 HP
  generalize (J.mk ax ay az).twice = tw at *
  generalize ((J.mk ax ay az).over (sj bx ax)) = aa at *
  generalize aa.along (sj bys ay) (mj bx (mj (sj bx ax) (sj bx ax))) = al at *
  generalize mj bx (mj (sj bx ax) (sj bx ax)) = m7 at *
  generalize mj (sj bx ax) (sj bx ax) = m6 at *
  generalize sj bx ax = run at *
  generalize sj bys ay = rise at *
  obtain ⟨tx, ty, tz⟩ := tw
  obtain ⟨cx, cy, cz⟩ := aa
  obtain ⟨dx, dy, dz⟩ := al
  have heq := HEP.out
  have heq2 := HEQ.out
  clear HEP HEQ
  simp only [J.v, jn, nv, num] at heq heq2 H1 H2 HE3 HTW H3 H4 H5 H6 H7 H8
  show Calls Try.prog 79 #[.agg #[.int .u64 (lb x 0 : Nat), .int .u64 (lb x 1 : Nat), .int .u64 (lb x 2 : Nat), .int .u64 (lb x 3 : Nat), .int .u64 (lb y 0 : Nat), .int .u64 (lb y 1 : Nat), .int .u64 (lb y 2 : Nat), .int .u64 (lb y 3 : Nat), .int .u64 (lb z 0 : Nat), .int .u64 (lb z 1 : Nat), .int .u64 (lb z 2 : Nat), .int .u64 (lb z 3 : Nat)], .agg #[.int .u64 (lb u 0 : Nat), .int .u64 (lb u 1 : Nat), .int .u64 (lb u 2 : Nat), .int .u64 (lb u 3 : Nat), .int .u64 (lb v 0 : Nat), .int .u64 (lb v 1 : Nat), .int .u64 (lb v 2 : Nat), .int .u64 (lb v 3 : Nat), .int .u64 (lb s 0 : Nat), .int .u64 (lb s 1 : Nat), .int .u64 (lb s 2 : Nat), .int .u64 (lb s 3 : Nat)]] w _
  go_enter Try.func79, Try.ntmps79
  have KP : Hid (Bk 93 (((w.alloc (.cells #[.int .u64 (lb x 0 : Nat), .int .u64 (lb x 1 : Nat), .int .u64 (lb x 2 : Nat), .int .u64 (lb x 3 : Nat), .int .u64 (lb y 0 : Nat), .int .u64 (lb y 1 : Nat), .int .u64 (lb y 2 : Nat), .int .u64 (lb y 3 : Nat), .int .u64 (lb z 0 : Nat), .int .u64 (lb z 1 : Nat), .int .u64 (lb z 2 : Nat), .int .u64 (lb z 3 : Nat)] 93)).alloc (.cells #[.int .u64 (lb u 0 : Nat), .int .u64 (lb u 1 : Nat), .int .u64 (lb u 2 : Nat), .int .u64 (lb u 3 : Nat), .int .u64 (lb v 0 : Nat), .int .u64 (lb v 1 : Nat), .int .u64 (lb v 2 : Nat), .int .u64 (lb v 3 : Nat), .int .u64 (lb s 0 : Nat), .int .u64 (lb s 1 : Nat), .int .u64 (lb s 2 : Nat), .int .u64 (lb s 3 : Nat)] 93)).alloc (.cells #[.int .u64 0, .int .u64 0, .int .u64 0, .int .u64 0, .int .u64 0, .int .u64 0, .int .u64 0, .int .u64 0, .int .u64 0, .int .u64 0, .int .u64 0, .int .u64 0] 93)) w.heap.size #[.int .u64 (lb x 0 : Nat), .int .u64 (lb x 1 : Nat), .int .u64 (lb x 2 : Nat), .int .u64 (lb x 3 : Nat), .int .u64 (lb y 0 : Nat), .int .u64 (lb y 1 : Nat), .int .u64 (lb y 2 : Nat), .int .u64 (lb y 3 : Nat), .int .u64 (lb z 0 : Nat), .int .u64 (lb z 1 : Nat), .int .u64 (lb z 2 : Nat), .int .u64 (lb z 3 : Nat)]) := Lib.hid (Bk.alloc (Bk.alloc (Bk.new rfl)))
  have KQ : Hid (Bk 93 (((w.alloc (.cells #[.int .u64 (lb x 0 : Nat), .int .u64 (lb x 1 : Nat), .int .u64 (lb x 2 : Nat), .int .u64 (lb x 3 : Nat), .int .u64 (lb y 0 : Nat), .int .u64 (lb y 1 : Nat), .int .u64 (lb y 2 : Nat), .int .u64 (lb y 3 : Nat), .int .u64 (lb z 0 : Nat), .int .u64 (lb z 1 : Nat), .int .u64 (lb z 2 : Nat), .int .u64 (lb z 3 : Nat)] 93)).alloc (.cells #[.int .u64 (lb u 0 : Nat), .int .u64 (lb u 1 : Nat), .int .u64 (lb u 2 : Nat), .int .u64 (lb u 3 : Nat), .int .u64 (lb v 0 : Nat), .int .u64 (lb v 1 : Nat), .int .u64 (lb v 2 : Nat), .int .u64 (lb v 3 : Nat), .int .u64 (lb s 0 : Nat), .int .u64 (lb s 1 : Nat), .int .u64 (lb s 2 : Nat), .int .u64 (lb s 3 : Nat)] 93)).alloc (.cells #[.int .u64 0, .int .u64 0, .int .u64 0, .int .u64 0, .int .u64 0, .int .u64 0, .int .u64 0, .int .u64 0, .int .u64 0, .int .u64 0, .int .u64 0, .int .u64 0] 93)) (w.heap.size + 1) #[.int .u64 (lb u 0 : Nat), .int .u64 (lb u 1 : Nat), .int .u64 (lb u 2 : Nat), .int .u64 (lb u 3 : Nat), .int .u64 (lb v 0 : Nat), .int .u64 (lb v 1 : Nat), .int .u64 (lb v 2 : Nat), .int .u64 (lb v 3 : Nat), .int .u64 (lb s 0 : Nat), .int .u64 (lb s 1 : Nat), .int .u64 (lb s 2 : Nat), .int .u64 (lb s 3 : Nat)]) := Lib.hid (Bk.alloc (Bk.new (by simp)))
  have KZ : Hid (Bk 93 (((w.alloc (.cells #[.int .u64 (lb x 0 : Nat), .int .u64 (lb x 1 : Nat), .int .u64 (lb x 2 : Nat), .int .u64 (lb x 3 : Nat), .int .u64 (lb y 0 : Nat), .int .u64 (lb y 1 : Nat), .int .u64 (lb y 2 : Nat), .int .u64 (lb y 3 : Nat), .int .u64 (lb z 0 : Nat), .int .u64 (lb z 1 : Nat), .int .u64 (lb z 2 : Nat), .int .u64 (lb z 3 : Nat)] 93)).alloc (.cells #[.int .u64 (lb u 0 : Nat), .int .u64 (lb u 1 : Nat), .int .u64 (lb u 2 : Nat), .int .u64 (lb u 3 : Nat), .int .u64 (lb v 0 : Nat), .int .u64 (lb v 1 : Nat), .int .u64 (lb v 2 : Nat), .int .u64 (lb v 3 : Nat), .int .u64 (lb s 0 : Nat), .int .u64 (lb s 1 : Nat), .int .u64 (lb s 2 : Nat), .int .u64 (lb s 3 : Nat)] 93)).alloc (.cells #[.int .u64 0, .int .u64 0, .int .u64 0, .int .u64 0, .int .u64 0, .int .u64 0, .int .u64 0, .int .u64 0, .int .u64 0, .int .u64 0, .int .u64 0, .int .u64 0] 93)) (w.heap.size + 1 + 1) #[.int .u64 0, .int .u64 0, .int .u64 0, .int .u64 0, .int .u64 0, .int .u64 0, .int .u64 0, .int .u64 0, .int .u64 0, .int .u64 0, .int .u64 0, .int .u64 0]) := Lib.hid (Bk.new (by simp))
  have HB : Hid (Below w.heap.size w (((w.alloc (.cells #[.int .u64 (lb x 0 : Nat), .int .u64 (lb x 1 : Nat), .int .u64 (lb x 2 : Nat), .int .u64 (lb x 3 : Nat), .int .u64 (lb y 0 : Nat), .int .u64 (lb y 1 : Nat), .int .u64 (lb y 2 : Nat), .int .u64 (lb y 3 : Nat), .int .u64 (lb z 0 : Nat), .int .u64 (lb z 1 : Nat), .int .u64 (lb z 2 : Nat), .int .u64 (lb z 3 : Nat)] 93)).alloc (.cells #[.int .u64 (lb u 0 : Nat), .int .u64 (lb u 1 : Nat), .int .u64 (lb u 2 : Nat), .int .u64 (lb u 3 : Nat), .int .u64 (lb v 0 : Nat), .int .u64 (lb v 1 : Nat), .int .u64 (lb v 2 : Nat), .int .u64 (lb v 3 : Nat), .int .u64 (lb s 0 : Nat), .int .u64 (lb s 1 : Nat), .int .u64 (lb s 2 : Nat), .int .u64 (lb s 3 : Nat)] 93)).alloc (.cells #[.int .u64 0, .int .u64 0, .int .u64 0, .int .u64 0, .int .u64 0, .int .u64 0, .int .u64 0, .int .u64 0, .int .u64 0, .int .u64 0, .int .u64 0, .int .u64 0] 93))) := Lib.hid (by go_grown)
  go_wp2_with fail
  generalize (((w.alloc (.cells #[.int .u64 (lb x 0 : Nat), .int .u64 (lb x 1 : Nat), .int .u64 (lb x 2 : Nat), .int .u64 (lb x 3 : Nat), .int .u64 (lb y 0 : Nat), .int .u64 (lb y 1 : Nat), .int .u64 (lb y 2 : Nat), .int .u64 (lb y 3 : Nat), .int .u64 (lb z 0 : Nat), .int .u64 (lb z 1 : Nat), .int .u64 (lb z 2 : Nat), .int .u64 (lb z 3 : Nat)] 93)).alloc (.cells #[.int .u64 (lb u 0 : Nat), .int .u64 (lb u 1 : Nat), .int .u64 (lb u 2 : Nat), .int .u64 (lb u 3 : Nat), .int .u64 (lb v 0 : Nat), .int .u64 (lb v 1 : Nat), .int .u64 (lb v 2 : Nat), .int .u64 (lb v 3 : Nat), .int .u64 (lb s 0 : Nat), .int .u64 (lb s 1 : Nat), .int .u64 (lb s 2 : Nat), .int .u64 (lb s 3 : Nat)] 93)).alloc (.cells #[.int .u64 0, .int .u64 0, .int .u64 0, .int .u64 0, .int .u64 0, .int .u64 0, .int .u64 0, .int .u64 0, .int .u64 0, .int .u64 0, .int .u64 0, .int .u64 0] 93)) = W at KP KQ KZ HB ⊢
  obtain ⟨gq, hgq⟩ : ∃ z, z = w.heap.size + 1 := ⟨_, rfl⟩
  obtain ⟨gz, hgz⟩ : ∃ z, z = w.heap.size + 1 + 1 := ⟨_, rfl⟩
  rw [← hgz] at KZ ⊢
  rw [← hgq] at KQ ⊢
  obtain ⟨gp, hgp⟩ : ∃ z, z = w.heap.size := ⟨_, rfl⟩
  have e : (Value.pointer (some ⟨w.heap.size, 0, none⟩)) = .pointer (some ⟨gp, 0, none⟩) := by rw [hgp]
  rw [e]
  rw [← hgp] at KP
  have HG := Lib.hid (show w.heap.size ≤ gp ∧ w.heap.size ≤ gq ∧ w.heap.size ≤ gz ∧ gp ≠ gq ∧ gp ≠ gz ∧ gq ≠ gz by omega)
  clear e hgp hgq hgz heq heq2
  obtain ⟨⟨x0, x1, x2, x3⟩, ⟨y0, y1, y2, y3⟩, z0, z1, z2, z3⟩ := KP.out.reg12
  obtain ⟨⟨u0, u1, u2, u3⟩, ⟨v0, v1, v2, v3⟩, s0, s1, s2, s3⟩ := KQ.out.reg12
  refine wp_region_below_tail 8 mixed (by kernel_rfl) ?_
  simp only [List.take_succ_cons, List.take_zero, List.drop_succ_cons, List.drop_zero]
  iterate 3 go_big_quiet_step (fail)
  go_big_quiet_step (exact qg H1.out)
  iterate 3 go_big_quiet_step (fail)
  go_big_quiet_step (exact qg H2.out)
  refine wpQuiet_nil ?_
  intro _ hw'
  obtain ⟨⟨dq, osq⟩, hw''⟩ := hw'
  subst hw''
  have KP2 := Lib.hid (KP.out.regrown dq osq)
  have KQ2 := Lib.hid (KQ.out.regrown dq osq)
  have KZ2 := Lib.hid (KZ.out.regrown dq osq)
  have HB2 := Lib.hid (HB.out.trans ((below_regrown W dq osq).mono HB.out.size))
  clear KP KQ KZ HB x0 x1 x2 x3 y0 y1 y2 y3 z0 z1 z2 z3 u0 u1 u2 u3 v0 v1 v2 v3 s0 s1 s2 s3 H1 H2
  generalize grow (redrawn W dq) osq = V at KP2 KQ2 KZ2 HB2 ⊢
  refine wpList_put rfl 93 (.tmp 2) (.tmp 18) rfl gp #[.int .u64 (lb x 0 : Nat), .int .u64 (lb x 1 : Nat), .int .u64 (lb x 2 : Nat), .int .u64 (lb x 3 : Nat), .int .u64 (lb y 0 : Nat), .int .u64 (lb y 1 : Nat), .int .u64 (lb y 2 : Nat), .int .u64 (lb y 3 : Nat), .int .u64 (lb z 0 : Nat), .int .u64 (lb z 1 : Nat), .int .u64 (lb z 2 : Nat), .int .u64 (lb z 3 : Nat)] #[.int .u64 (lb ax 0 : Nat), .int .u64 (lb ax 1 : Nat), .int .u64 (lb ax 2 : Nat), .int .u64 (lb ax 3 : Nat), .int .u64 (lb ay 0 : Nat), .int .u64 (lb ay 1 : Nat), .int .u64 (lb ay 2 : Nat), .int .u64 (lb ay 3 : Nat), .int .u64 (lb az 0 : Nat), .int .u64 (lb az 1 : Nat), .int .u64 (lb az 2 : Nat), .int .u64 (lb az 3 : Nat)] rfl rfl KP2.out i93 rfl (one12 _ _ _) ?_
  have KP3 : Hid (Bk 93 (V.setRow gp #[.int .u64 (lb ax 0 : Nat), .int .u64 (lb ax 1 : Nat), .int .u64 (lb ax 2 : Nat), .int .u64 (lb ax 3 : Nat), .int .u64 (lb ay 0 : Nat), .int .u64 (lb ay 1 : Nat), .int .u64 (lb ay 2 : Nat), .int .u64 (lb ay 3 : Nat), .int .u64 (lb az 0 : Nat), .int .u64 (lb az 1 : Nat), .int .u64 (lb az 2 : Nat), .int .u64 (lb az 3 : Nat)]) gp #[.int .u64 (lb ax 0 : Nat), .int .u64 (lb ax 1 : Nat), .int .u64 (lb ax 2 : Nat), .int .u64 (lb ax 3 : Nat), .int .u64 (lb ay 0 : Nat), .int .u64 (lb ay 1 : Nat), .int .u64 (lb ay 2 : Nat), .int .u64 (lb ay 3 : Nat), .int .u64 (lb az 0 : Nat), .int .u64 (lb az 1 : Nat), .int .u64 (lb az 2 : Nat), .int .u64 (lb az 3 : Nat)]) := Lib.hid KP2.out.row
  have KQ3 : Hid (Bk 93 (V.setRow gp #[.int .u64 (lb ax 0 : Nat), .int .u64 (lb ax 1 : Nat), .int .u64 (lb ax 2 : Nat), .int .u64 (lb ax 3 : Nat), .int .u64 (lb ay 0 : Nat), .int .u64 (lb ay 1 : Nat), .int .u64 (lb ay 2 : Nat), .int .u64 (lb ay 3 : Nat), .int .u64 (lb az 0 : Nat), .int .u64 (lb az 1 : Nat), .int .u64 (lb az 2 : Nat), .int .u64 (lb az 3 : Nat)]) gq #[.int .u64 (lb u 0 : Nat), .int .u64 (lb u 1 : Nat), .int .u64 (lb u 2 : Nat), .int .u64 (lb u 3 : Nat), .int .u64 (lb v 0 : Nat), .int .u64 (lb v 1 : Nat), .int .u64 (lb v 2 : Nat), .int .u64 (lb v 3 : Nat), .int .u64 (lb s 0 : Nat), .int .u64 (lb s 1 : Nat), .int .u64 (lb s 2 : Nat), .int .u64 (lb s 3 : Nat)]) := Lib.hid (Bk.rowo (Ne.symm HG.out.2.2.2.1) KQ2.out)
  have KZ3 : Hid (Bk 93 (V.setRow gp #[.int .u64 (lb ax 0 : Nat), .int .u64 (lb ax 1 : Nat), .int .u64 (lb ax 2 : Nat), .int .u64 (lb ax 3 : Nat), .int .u64 (lb ay 0 : Nat), .int .u64 (lb ay 1 : Nat), .int .u64 (lb ay 2 : Nat), .int .u64 (lb ay 3 : Nat), .int .u64 (lb az 0 : Nat), .int .u64 (lb az 1 : Nat), .int .u64 (lb az 2 : Nat), .int .u64 (lb az 3 : Nat)]) gz #[.int .u64 0, .int .u64 0, .int .u64 0, .int .u64 0, .int .u64 0, .int .u64 0, .int .u64 0, .int .u64 0, .int .u64 0, .int .u64 0, .int .u64 0, .int .u64 0]) := Lib.hid (Bk.rowo (Ne.symm HG.out.2.2.2.2.1) KZ2.out)
  have HB3 : Hid (Below w.heap.size w (V.setRow gp #[.int .u64 (lb ax 0 : Nat), .int .u64 (lb ax 1 : Nat), .int .u64 (lb ax 2 : Nat), .int .u64 (lb ax 3 : Nat), .int .u64 (lb ay 0 : Nat), .int .u64 (lb ay 1 : Nat), .int .u64 (lb ay 2 : Nat), .int .u64 (lb ay 3 : Nat), .int .u64 (lb az 0 : Nat), .int .u64 (lb az 1 : Nat), .int .u64 (lb az 2 : Nat), .int .u64 (lb az 3 : Nat)])) := Lib.hid (below_setRow HB2.out HG.out.1 _)
  generalize (V.setRow gp #[.int .u64 (lb ax 0 : Nat), .int .u64 (lb ax 1 : Nat), .int .u64 (lb ax 2 : Nat), .int .u64 (lb ax 3 : Nat), .int .u64 (lb ay 0 : Nat), .int .u64 (lb ay 1 : Nat), .int .u64 (lb ay 2 : Nat), .int .u64 (lb ay 3 : Nat), .int .u64 (lb az 0 : Nat), .int .u64 (lb az 1 : Nat), .int .u64 (lb az 2 : Nat), .int .u64 (lb az 3 : Nat)]) = V3 at KP3 KQ3 KZ3 HB3 ⊢
  clear KP2 KQ2 KZ2 HB2
  refine wpList_put rfl 93 (.tmp 3) (.tmp 22) rfl gq #[.int .u64 (lb u 0 : Nat), .int .u64 (lb u 1 : Nat), .int .u64 (lb u 2 : Nat), .int .u64 (lb u 3 : Nat), .int .u64 (lb v 0 : Nat), .int .u64 (lb v 1 : Nat), .int .u64 (lb v 2 : Nat), .int .u64 (lb v 3 : Nat), .int .u64 (lb s 0 : Nat), .int .u64 (lb s 1 : Nat), .int .u64 (lb s 2 : Nat), .int .u64 (lb s 3 : Nat)] #[.int .u64 (lb bx 0 : Nat), .int .u64 (lb bx 1 : Nat), .int .u64 (lb bx 2 : Nat), .int .u64 (lb bx 3 : Nat), .int .u64 (lb bys 0 : Nat), .int .u64 (lb bys 1 : Nat), .int .u64 (lb bys 2 : Nat), .int .u64 (lb bys 3 : Nat), .int .u64 (lb bz 0 : Nat), .int .u64 (lb bz 1 : Nat), .int .u64 (lb bz 2 : Nat), .int .u64 (lb bz 3 : Nat)] rfl rfl KQ3.out i93 rfl (one12 _ _ _) ?_
  have KQ4 : Hid (Bk 93 (V3.setRow gq #[.int .u64 (lb bx 0 : Nat), .int .u64 (lb bx 1 : Nat), .int .u64 (lb bx 2 : Nat), .int .u64 (lb bx 3 : Nat), .int .u64 (lb bys 0 : Nat), .int .u64 (lb bys 1 : Nat), .int .u64 (lb bys 2 : Nat), .int .u64 (lb bys 3 : Nat), .int .u64 (lb bz 0 : Nat), .int .u64 (lb bz 1 : Nat), .int .u64 (lb bz 2 : Nat), .int .u64 (lb bz 3 : Nat)]) gq #[.int .u64 (lb bx 0 : Nat), .int .u64 (lb bx 1 : Nat), .int .u64 (lb bx 2 : Nat), .int .u64 (lb bx 3 : Nat), .int .u64 (lb bys 0 : Nat), .int .u64 (lb bys 1 : Nat), .int .u64 (lb bys 2 : Nat), .int .u64 (lb bys 3 : Nat), .int .u64 (lb bz 0 : Nat), .int .u64 (lb bz 1 : Nat), .int .u64 (lb bz 2 : Nat), .int .u64 (lb bz 3 : Nat)]) := Lib.hid KQ3.out.row
  have KP4 : Hid (Bk 93 (V3.setRow gq #[.int .u64 (lb bx 0 : Nat), .int .u64 (lb bx 1 : Nat), .int .u64 (lb bx 2 : Nat), .int .u64 (lb bx 3 : Nat), .int .u64 (lb bys 0 : Nat), .int .u64 (lb bys 1 : Nat), .int .u64 (lb bys 2 : Nat), .int .u64 (lb bys 3 : Nat), .int .u64 (lb bz 0 : Nat), .int .u64 (lb bz 1 : Nat), .int .u64 (lb bz 2 : Nat), .int .u64 (lb bz 3 : Nat)]) gp #[.int .u64 (lb ax 0 : Nat), .int .u64 (lb ax 1 : Nat), .int .u64 (lb ax 2 : Nat), .int .u64 (lb ax 3 : Nat), .int .u64 (lb ay 0 : Nat), .int .u64 (lb ay 1 : Nat), .int .u64 (lb ay 2 : Nat), .int .u64 (lb ay 3 : Nat), .int .u64 (lb az 0 : Nat), .int .u64 (lb az 1 : Nat), .int .u64 (lb az 2 : Nat), .int .u64 (lb az 3 : Nat)]) := Lib.hid (Bk.rowo HG.out.2.2.2.1 KP3.out)
  have KZ4 : Hid (Bk 93 (V3.setRow gq #[.int .u64 (lb bx 0 : Nat), .int .u64 (lb bx 1 : Nat), .int .u64 (lb bx 2 : Nat), .int .u64 (lb bx 3 : Nat), .int .u64 (lb bys 0 : Nat), .int .u64 (lb bys 1 : Nat), .int .u64 (lb bys 2 : Nat), .int .u64 (lb bys 3 : Nat), .int .u64 (lb bz 0 : Nat), .int .u64 (lb bz 1 : Nat), .int .u64 (lb bz 2 : Nat), .int .u64 (lb bz 3 : Nat)]) gz #[.int .u64 0, .int .u64 0, .int .u64 0, .int .u64 0, .int .u64 0, .int .u64 0, .int .u64 0, .int .u64 0, .int .u64 0, .int .u64 0, .int .u64 0, .int .u64 0]) := Lib.hid (Bk.rowo (Ne.symm HG.out.2.2.2.2.2) KZ3.out)
  have HB4 : Hid (Below w.heap.size w (V3.setRow gq #[.int .u64 (lb bx 0 : Nat), .int .u64 (lb bx 1 : Nat), .int .u64 (lb bx 2 : Nat), .int .u64 (lb bx 3 : Nat), .int .u64 (lb bys 0 : Nat), .int .u64 (lb bys 1 : Nat), .int .u64 (lb bys 2 : Nat), .int .u64 (lb bys 3 : Nat), .int .u64 (lb bz 0 : Nat), .int .u64 (lb bz 1 : Nat), .int .u64 (lb bz 2 : Nat), .int .u64 (lb bz 3 : Nat)])) := Lib.hid (below_setRow HB3.out HG.out.2.1 _)
  generalize (V3.setRow gq #[.int .u64 (lb bx 0 : Nat), .int .u64 (lb bx 1 : Nat), .int .u64 (lb bx 2 : Nat), .int .u64 (lb bx 3 : Nat), .int .u64 (lb bys 0 : Nat), .int .u64 (lb bys 1 : Nat), .int .u64 (lb bys 2 : Nat), .int .u64 (lb bys 3 : Nat), .int .u64 (lb bz 0 : Nat), .int .u64 (lb bz 1 : Nat), .int .u64 (lb bz 2 : Nat), .int .u64 (lb bz 3 : Nat)]) = V4 at KP4 KQ4 KZ4 HB4 ⊢
  clear KP3 KQ3 KZ3 HB3
  obtain ⟨⟨x0, x1, x2, x3⟩, ⟨y0, y1, y2, y3⟩, z0, z1, z2, z3⟩ := KP4.out.cells12
  obtain ⟨⟨u0, u1, u2, u3⟩, ⟨v0, v1, v2, v3⟩, s0, s1, s2, s3⟩ := KQ4.out.cells12
  by_cases h3 : (J.mk ax ay az) = (J.mk bx bys bz)
  · rw [decide_eq_true h3] at HE3
    have hres := HP.out.1 h3
    subst hres
    have heq := HE3.out
    clear h3 HE3 HE4 HP H3 H4 H5 H6 H7 H8
    go_wp2_with fail
    refine (keep w.heap.size w (HTW.out _) HB4.out (Nat.le_refl _)).mono ?_
    rintro e w5 ⟨rfl, hb, hk⟩
    have KZ5 := Lib.hid (KZ4.out.below hk)
    have HB5 := Lib.hid hb
    clear hk hb KP4 KQ4 KZ4 HB4 HTW x0 x1 x2 x3 y0 y1 y2 y3 z0 z1 z2 z3 u0 u1 u2 u3 v0 v1 v2 v3 s0 s1 s2 s3
    obtain ⟨⟨f0, f1, f2, f3⟩, ⟨f4, f5, f6, f7⟩, f8, f9, f10, f11⟩ := KZ5.out.fros12
    obtain ⟨⟨c0, c1, c2, c3⟩, ⟨c4, c5, c6, c7⟩, c8, c9, c10, c11⟩ := KZ5.out.cells12
    go_wp2_with fail
    refine ret_cell93 rfl gz tx ty tz rfl (Bk.put12 KZ5.out) rfl ⟨rfl, ?_⟩
    have hb := HB5.out
    have hg := HG.out.2.2.1
    go_grown
  rw [decide_eq_false h3] at HE3
  have heq := HE3.out
  clear HTW HE3
  by_cases h4 : ax = bx
  · rw [decide_eq_true h4] at HE4
    have hres := HP.out.2.1 h3 h4
    subst hres
    have heq4 : ∀ w, (Op.equalIn 10000 24 (.agg #[.int .u64 (lb ax 0 : Nat), .int .u64 (lb ax 1 : Nat), .int .u64 (lb ax 2 : Nat), .int .u64 (lb ax 3 : Nat)]) (.agg #[.int .u64 (lb bx 0 : Nat), .int .u64 (lb bx 1 : Nat), .int .u64 (lb bx 2 : Nat), .int .u64 (lb bx 3 : Nat)])).run Try.prog w = .ok true w := HE4.out
    clear h3 h4 HE4 HP H3 H4 H5 H6 H7 H8
    obtain ⟨⟨f0, f1, f2, f3⟩, ⟨f4, f5, f6, f7⟩, f8, f9, f10, f11⟩ := KZ4.out.fros12
    obtain ⟨⟨c0, c1, c2, c3⟩, ⟨c4, c5, c6, c7⟩, c8, c9, c10, c11⟩ := KZ4.out.cells12
    go_wp2_with fail
    refine ret_cell93 rfl gz 0 0 0 rfl (Bk.put12 KZ4.out) rfl ⟨rfl, ?_⟩
    have hb := HB4.out
    have hg := HG.out.2.2.1
    go_grown
  rw [decide_eq_false h4] at HE4
  have hres := HP.out.2.2 h3 h4
  subst hres
  have heq4 : ∀ w, (Op.equalIn 10000 24 (.agg #[.int .u64 (lb ax 0 : Nat), .int .u64 (lb ax 1 : Nat), .int .u64 (lb ax 2 : Nat), .int .u64 (lb ax 3 : Nat)]) (.agg #[.int .u64 (lb bx 0 : Nat), .int .u64 (lb bx 1 : Nat), .int .u64 (lb bx 2 : Nat), .int .u64 (lb bx 3 : Nat)])).run Try.prog w = .ok false w := HE4.out
  clear h3 h4 HE4 HP
  go_wp2_with fail
  clear x0 x1 x2 x3 y0 y1 y2 y3 z0 z1 z2 z3 u0 u1 u2 u3 v0 v1 v2 v3 s0 s1 s2 s3 heq heq4
  refine pl10 gp gq ax ay az bx bys bz run rise V4 KP4.out KQ4.out H3 H4 ?_
  intro _ _ _ _ _ _ _ _ _ _ g10 g11 W2 hb2 hg10 hg11 hk10 hk11 hn
  have KP5 := Lib.hid (KP4.out.below hb2)
  have KQ5 := Lib.hid (KQ4.out.below hb2)
  have KZ5 := Lib.hid (KZ4.out.below hb2)
  have K10 := Lib.hid hk10
  have K11 := Lib.hid hk11
  have HB5 := Lib.hid (HB4.out.trans (hb2.mono HB4.out.size))
  clear KP4 KQ4 KZ4 HB4 hb2 hg10 hg11 hk10 hk11 hn H3 H4
  go_wp2_with fail
  obtain ⟨⟨x0, x1, x2, x3⟩, ⟨y0, y1, y2, y3⟩, z0, z1, z2, z3⟩ := KP5.out.reg12
  obtain ⟨⟨u0, u1, u2, u3⟩, -⟩ := KQ5.out.reg12
  obtain ⟨r0, r1, r2, r3⟩ := K10.out.reg
  obtain ⟨s0, s1, s2, s3⟩ := K11.out.reg
  refine wp_region_below_tail 11 mixed (by kernel_rfl) ?_
  simp only [List.take_succ_cons, List.take_zero, List.drop_succ_cons, List.drop_zero]
  iterate 2 go_big_quiet_step (fail)
  go_big_quiet_step (exact qg H5.out)
  iterate 5 go_big_quiet_step (fail)
  go_big_quiet_step (exact qg H6.out)
  go_big_quiet_step (exact qg H7.out)
  go_big_quiet_step (exact qg H8.out)
  refine wpQuiet_nil ?_
  intro _ hw'
  obtain ⟨⟨dq, osq⟩, hw''⟩ := hw'
  subst hw''
  have KZ6 := Lib.hid (KZ5.out.regrown dq osq)
  have HB6 := Lib.hid (HB5.out.trans ((below_regrown W2 dq osq).mono HB5.out.size))
  clear KP5 KQ5 KZ5 K10 K11 HB5 x0 x1 x2 x3 y0 y1 y2 y3 z0 z1 z2 z3 u0 u1 u2 u3 r0 r1 r2 r3 s0 s1 s2 s3 H5 H6 H7 H8
  generalize grow (redrawn W2 dq) osq = V6 at KZ6 HB6 ⊢
  obtain ⟨⟨f0, f1, f2, f3⟩, ⟨f4, f5, f6, f7⟩, f8, f9, f10, f11⟩ := KZ6.out.fros12
  obtain ⟨⟨c0, c1, c2, c3⟩, ⟨c4, c5, c6, c7⟩, c8, c9, c10, c11⟩ := KZ6.out.cells12
  go_wp2_with fail
  refine ret_cell93 rfl gz dx dy dz rfl (Bk.put12 KZ6.out) rfl ⟨rfl, ?_⟩
  have hb := HB6.out
  have hg := HG.out.2.2.1
  go_grown
theorem plusj {p q : J} (hp : p.ok) (hq : q.ok) : ∀ w, Calls Try.prog 79 #[p.v, q.v] w fun e w' => e = .returned (p.plus q).v ∧ Below w.heap.size w w' := plus_c p q hp hq
end Go.Proofs.Ytglmmodkflkkkaa
