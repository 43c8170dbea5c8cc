import Derived.Test.YtglmmodkflkkkaaXCk
set_option linter.unusedVariables false
set_option linter.unusedSimpArgs false
set_option maxRecDepth 100000
namespace Go.Proofs.Ytglmmodkflkkkaa
open Go.RowKit Go.Sort Limbs
def ngj (y : Nat) : Nat := (mP - y % mP) % mP
def Po.zero : Po := ⟨0, 0, false⟩
def Po.far : Po := ⟨0, 0, true⟩
def Po.neg (p : Po) : Po := ⟨p.x, ngj p.y, p.i⟩
def Po.add (p q : Po) : Po := ((J.begin p.x p.y p.i).plus (J.begin q.x q.y q.i)).point
theorem negj (y : Nat) (hy : y < W256) : ∀ w, Calls Try.prog 25 #[.int .i64 0, nv y] w fun e w' => e = .returned (nv (ngj y)) ∧ Below w.heap.size w w' := by
  have h := neg_any 0 y hy
  rw [md0] at h
  exact h
theorem Bk.puto4o {t : TypeId} {w : World} {g h : Nat} {cs : Array Value} {a' b' c' d' : Value} (hn : g ≠ h) (k : Bk t w g cs) : Bk t ((((w.setCell ⟨h, 4, none⟩ a').setCell ⟨h, 5, none⟩ b').setCell ⟨h, 6, none⟩ c').setCell ⟨h, 7, none⟩ d') g cs :=
  Bk.oth hn (Bk.oth hn (Bk.oth hn (Bk.oth hn k)))
set_option maxHeartbeats 8000000 in
theorem neg_c (p : Po) (hp : p.ok) (w : World) :
    Calls Try.prog 44 #[p.v] w fun e w' => e = .returned (if p.on = true then .tuple #[p.neg.v, .int .i64 0] else .tuple #[Po.zero.v, .int .i64 70]) ∧ Below w.heap.size w w' := by
  have HO := Lib.hid (onj hp)
  have HN := Lib.hid (negj p.y hp.2)
  cases hon : p.on
  · rw [if_neg (by simp)]
    rw [hon] at HO
    clear hp hon HN
    obtain ⟨x, y, i⟩ := p
    simp only [Po.v, pn] at HO ⊢
    go_enter Try.func44, Try.ntmps44
    go_wp2_with fail
    refine (keep w.heap.size w (HO.out _) (by go_grown) (Nat.le_refl _)).mono ?_
    rintro e w1 ⟨rfl, hb, hk⟩
    have KZ : Hid (Bk 51 w1 (w.heap.size + 1) #[.int .u64 0, .int .u64 0, .int .u64 0, .int .u64 0, .int .u64 0, .int .u64 0, .int .u64 0, .int .u64 0, .bool false]) := Lib.hid (Bk.below (Bk.new (by simp)) hk)
    have HB := Lib.hid hb
    clear hk hb HO
    obtain ⟨⟨f0, f1, f2, f3⟩, ⟨f4, f5, f6, f7⟩, f8⟩ := KZ.out.fros9
    obtain ⟨⟨c0, c1, c2, c3⟩, ⟨c4, c5, c6, c7⟩, c8⟩ := KZ.out.cells9
    go_wp2_with fail
    refine ret_cell51e rfl (w.heap.size + 1) 0 0 false (.int .i64 70) rfl rfl (Bk.put9 KZ.out) rfl ⟨rfl, ?_⟩
    have hb := HB.out
    go_grown
  · rw [if_pos rfl]
    rw [hon] at HO
    unfold Po.neg
    clear hp hon
    obtain ⟨x, y, i⟩ := p
    simp only [] at HN ⊢
    generalize ngj y = ny at *
    simp only [Po.v, pn, nv, num] at HO HN ⊢
    go_enter Try.func44, Try.ntmps44
    go_wp2_with fail
    refine (keep w.heap.size w (HO.out _) (by go_grown) (Nat.le_refl _)).mono ?_
    rintro e w1 ⟨rfl, hb, hk⟩
    have KP : Hid (Bk 51 w1 w.heap.size #[.int .u64 (lb x 0 : Nat), .int .u64 (lb x 1 : Nat), .int .u64 (lb x 2 : Nat), .int .u64 (lb x 3 : Nat), .int .u64 (lb y 0 : Nat), .int .u64 (lb y 1 : Nat), .int .u64 (lb y 2 : Nat), .int .u64 (lb y 3 : Nat), .bool i]) := Lib.hid (Bk.below (Bk.alloc (Bk.new rfl)) hk)
    have KZ : Hid (Bk 51 w1 (w.heap.size + 1) #[.int .u64 0, .int .u64 0, .int .u64 0, .int .u64 0, .int .u64 0, .int .u64 0, .int .u64 0, .int .u64 0, .bool false]) := Lib.hid (Bk.below (Bk.new (by simp)) hk)
    have HB := Lib.hid hb
    clear hk hb HO
    obtain ⟨⟨x0, x1, x2, x3⟩, ⟨y0, y1, y2, y3⟩, i0⟩ := KP.out.cells9
    go_wp2_with fail
    refine (keep w.heap.size w (HN.out _) HB.out (Nat.le_refl _)).mono ?_
    rintro e w2 ⟨rfl, hb, hk⟩
    have KP2 := Lib.hid (Bk.below KP.out hk)
    have KZ2 := Lib.hid (Bk.below KZ.out hk)
    have HB2 := Lib.hid hb
    clear hk hb KP KZ HB HN x0 x1 x2 x3 y0 y1 y2 y3 i0
    obtain ⟨gz, hgz⟩ : ∃ z, z = w.heap.size + 1 := ⟨_, rfl⟩
    rw [← hgz] at KZ2 ⊢
    obtain ⟨gp, hgp⟩ : ∃ z, z = w.heap.size := ⟨_, rfl⟩
    have e : (Value.pointer (some ⟨w.heap.size, 0, none⟩)) = .pointer (some ⟨gp, 0, none⟩) := by rw [hgp]
    rw [e]
    rw [← hgp] at KP2
    have hne : gp ≠ gz := by omega
    have HG := Lib.hid (show w.heap.size ≤ gp ∧ w.heap.size ≤ gz by omega)
    clear e hgp hgz
    obtain ⟨⟨x0, x1, x2, x3⟩, ⟨y0, y1, y2, y3⟩, i0⟩ := KP2.out.cells9
    obtain ⟨⟨g0, g1, g2, g3⟩, ⟨g4, g5, g6, g7⟩, g8⟩ := KP2.out.fros9
    obtain ⟨⟨f0, f1, f2, f3⟩, ⟨f4, f5, f6, f7⟩, f8⟩ := KZ2.out.fros9
    obtain ⟨⟨c0, c1, c2, c3⟩, ⟨c4, c5, c6, c7⟩, c8⟩ := KZ2.out.cells9
    have hne2 : gz ≠ gp := Ne.symm hne
    go_wp2_with fail
    refine ret_cell51e rfl gz x ny i (.int .i64 0) rfl rfl (Bk.put9 (Bk.puto4o hne2 KZ2.out)) rfl ⟨rfl, ?_⟩
    have hb := HB2.out
    have hg := HG.out
    go_grown
theorem negp {p : Po} (hp : p.ok) : ∀ w, Calls Try.prog 44 #[p.v] w fun e w' => e = .returned (if p.on = true then .tuple #[p.neg.v, .int .i64 0] else .tuple #[Po.zero.v, .int .i64 70]) ∧ Below w.heap.size w w' := neg_c p hp
set_option maxHeartbeats 8000000 in
theorem add_p (p q : Po) (hp : p.ok) (hq : q.ok) (w : World) :
    Calls Try.prog 45 #[p.v, q.v] w fun e w' => e = .returned (if p.on = true ∧ q.on = true then .tuple #[(p.add q).v, .int .i64 0] else .tuple #[Po.zero.v, .int .i64 70]) ∧ Below w.heap.size w w' := by
  have HOP := Lib.hid (onj hp)
  have HOQ := Lib.hid (onj hq)
  have H1 := Lib.hid (fun w => begin_c p.x p.y p.i w)
  have H2 := Lib.hid (fun w => begin_c q.x q.y q.i w)
  have H3 := Lib.hid (plusj (J.begin_ok (i := p.i) hp.1 hp.2) (J.begin_ok (i := q.i) hq.1 hq.2))
  have H4 := Lib.hid (pointj (J.plus_ok (J.begin_ok (i := p.i) hp.1 hp.2) (J.begin_ok (i := q.i) hq.1 hq.2)))
  unfold Po.add
  clear hp hq
  generalize ((J.begin p.x p.y p.i).plus (J.begin q.x q.y q.i)).point = res at *
  generalize (J.begin p.x p.y p.i).plus (J.begin q.x q.y q.i) = pq at *
  generalize J.begin p.x p.y p.i = jp at *
  generalize J.begin q.x q.y q.i = jq at *
  cases honp : p.on
  · rw [if_neg (by simp)]
    rw [honp] at HOP
    clear honp HOQ H1 H2 H3 H4
    obtain ⟨x, y, i⟩ := p
    obtain ⟨u, v, k⟩ := q
    simp only [Po.v, pn] at HOP ⊢
    go_enter Try.func45, Try.ntmps45
    go_wp2_with fail
    refine (keep w.heap.size w (HOP.out _) (by go_grown) (Nat.le_refl _)).mono ?_
    rintro e w1 ⟨rfl, hb, hk⟩
    have KZ : Hid (Bk 51 w1 (w.heap.size + 1 + 1) #[.int .u64 0, .int .u64 0, .int .u64 0, .int .u64 0, .int .u64 0, .int .u64 0, .int .u64 0, .int .u64 0, .bool false]) := Lib.hid (Bk.below (Bk.new (by simp)) hk)
    have HB := Lib.hid hb
    clear hk hb HOP
    obtain ⟨⟨f0, f1, f2, f3⟩, ⟨f4, f5, f6, f7⟩, f8⟩ := KZ.out.fros9
    obtain ⟨⟨c0, c1, c2, c3⟩, ⟨c4, c5, c6, c7⟩, c8⟩ := KZ.out.cells9
    go_wp2_with fail
    refine ret_cell51e rfl (w.heap.size + 1 + 1) 0 0 false (.int .i64 70) rfl rfl (Bk.put9 KZ.out) rfl ⟨rfl, ?_⟩
    have hb := HB.out
    go_grown
  cases honq : q.on
  · rw [if_neg (by simp)]
    rw [honp] at HOP
    rw [honq] at HOQ
    clear honp honq H1 H2 H3 H4
    obtain ⟨x, y, i⟩ := p
    obtain ⟨u, v, k⟩ := q
    simp only [Po.v, pn] at HOP HOQ ⊢
    go_enter Try.func45, Try.ntmps45
    go_wp2_with fail
    refine (keep w.heap.size w (HOP.out _) (by go_grown) (Nat.le_refl _)).mono ?_
    rintro e w1 ⟨rfl, hb, hk⟩
    have KQ : Hid (Bk 51 w1 (w.heap.size + 1) #[.int .u64 (lb u 0 : Nat), .int .u64 (lb u 1 : Nat), .int .u64 (lb u 2 : Nat), .int .u64 (lb u 3 : Nat), .int .u64 (lb v 0 : Nat), .int .u64 (lb v 1 : Nat), .int .u64 (lb v 2 : Nat), .int .u64 (lb v 3 : Nat), .bool k]) := Lib.hid (Bk.below (Bk.alloc (Bk.new (by simp))) hk)
    have KZ : Hid (Bk 51 w1 (w.heap.size + 1 + 1) #[.int .u64 0, .int .u64 0, .int .u64 0, .int .u64 0, .int .u64 0, .int .u64 0, .int .u64 0, .int .u64 0, .bool false]) := Lib.hid (Bk.below (Bk.new (by simp)) hk)
    have HB := Lib.hid hb
    clear hk hb HOP
    obtain ⟨⟨x0, x1, x2, x3⟩, ⟨y0, y1, y2, y3⟩, i0⟩ := KQ.out.cells9
    go_wp2_with fail
    refine (keep w.heap.size w (HOQ.out _) HB.out (Nat.le_refl _)).mono ?_
    rintro e w2 ⟨rfl, hb, hk⟩
    have KZ2 := Lib.hid (Bk.below KZ.out hk)
    have HB2 := Lib.hid hb
    clear hk hb KQ KZ HB HOQ x0 x1 x2 x3 y0 y1 y2 y3 i0
    obtain ⟨⟨f0, f1, f2, f3⟩, ⟨f4, f5, f6, f7⟩, f8⟩ := KZ2.out.fros9
    obtain ⟨⟨c0, c1, c2, c3⟩, ⟨c4, c5, c6, c7⟩, c8⟩ := KZ2.out.cells9
    go_wp2_with fail
    refine ret_cell51e rfl (w.heap.size + 1 + 1) 0 0 false (.int .i64 70) rfl rfl (Bk.put9 KZ2.out) rfl ⟨rfl, ?_⟩
    have hb := HB2.out
    go_grown
  rw [if_pos (by simp)]
  rw [honp] at HOP
  rw [honq] at HOQ
  clear honp honq
  obtain ⟨x, y, i⟩ := p
  obtain ⟨u, v, k⟩ := q
  obtain ⟨rx, ry, ri⟩ := res
  obtain ⟨px, py, pz⟩ := jp
  obtain ⟨qx, qy, qz⟩ := jq
  obtain ⟨sx, sy, sz⟩ := pq
  simp only [Po.v, pn, J.v, jn] at HOP HOQ H1 H2 H3 H4 ⊢
  go_enter Try.func45, Try.ntmps45
  go_wp2_with fail
  refine (keep w.heap.size w (HOP.out _) (by go_grown) (Nat.le_refl _)).mono ?_
  rintro e w1 ⟨rfl, hb, hk⟩
  have KP : Hid (Bk 51 w1 w.heap.size #[.int .u64 (lb x 0 : Nat), .int .u64 (lb x 1 : Nat), .int .u64 (lb x 2 : Nat), .int .u64 (lb x 3 : Nat), .int .u64 (lb y 0 : Nat), .int .u64 (lb y 1 : Nat), .int .u64 (lb y 2 : Nat), .int .u64 (lb y 3 : Nat), .bool i]) := Lib.hid (Bk.below (Bk.alloc (Bk.alloc (Bk.new rfl))) hk)
  have KQ : Hid (Bk 51 w1 (w.heap.size + 1) #[.int .u64 (lb u 0 : Nat), .int .u64 (lb u 1 : Nat), .int .u64 (lb u 2 : Nat), .int .u64 (lb u 3 : Nat), .int .u64 (lb v 0 : Nat), .int .u64 (lb v 1 : Nat), .int .u64 (lb v 2 : Nat), .int .u64 (lb v 3 : Nat), .bool k]) := Lib.hid (Bk.below (Bk.alloc (Bk.new (by simp))) hk)
  have KZ : Hid (Bk 51 w1 (w.heap.size + 1 + 1) #[.int .u64 0, .int .u64 0, .int .u64 0, .int .u64 0, .int .u64 0, .int .u64 0, .int .u64 0, .int .u64 0, .bool false]) := Lib.hid (Bk.below (Bk.new (by simp)) hk)
  have HB := Lib.hid hb
  clear hk hb HOP
  obtain ⟨⟨x0, x1, x2, x3⟩, ⟨y0, y1, y2, y3⟩, i0⟩ := KQ.out.cells9
  go_wp2_with fail
  refine (keep w.heap.size w (HOQ.out _) HB.out (Nat.le_refl _)).mono ?_
  rintro e w2 ⟨rfl, hb, hk⟩
  have KP2 := Lib.hid (Bk.below KP.out hk)
  have KQ2 := Lib.hid (Bk.below KQ.out hk)
  have KZ2 := Lib.hid (Bk.below KZ.out hk)
  have HB2 := Lib.hid hb
  clear hk hb KP KQ KZ HB HOQ x0 x1 x2 x3 y0 y1 y2 y3 i0
  go_wp2_with fail
  obtain ⟨⟨x0, x1, x2, x3⟩, ⟨y0, y1, y2, y3⟩, i0⟩ := KP2.out.reg9
  obtain ⟨⟨u0, u1, u2, u3⟩, ⟨v0, v1, v2, v3⟩, k0⟩ := KQ2.out.reg9
  refine wp_region_below_tail 6 mixed (by kernel_rfl) ?_
  simp only [List.take_succ_cons, List.take_zero, List.drop_succ_cons, List.drop_zero]
  go_big_quiet_step (fail)
  go_big_quiet_step (exact qg H1.out)
  go_big_quiet_step (fail)
  go_big_quiet_step (exact qg H2.out)
  go_big_quiet_step (exact qg H3.out)
  go_big_quiet_step (exact qg H4.out)
  refine wpQuiet_nil ?_
  intro _ hw'
  obtain ⟨⟨dq, osq⟩, hw''⟩ := hw'
  subst hw''
  have KZ3 := Lib.hid (KZ2.out.regrown dq osq)
  have HB3 := Lib.hid (HB2.out.trans ((below_regrown w2 dq osq).mono HB2.out.size))
  clear KP2 KQ2 KZ2 HB2 x0 x1 x2 x3 y0 y1 y2 y3 i0 u0 u1 u2 u3 v0 v1 v2 v3 k0 H1 H2 H3 H4
  generalize grow (redrawn w2 dq) osq = V at KZ3 HB3 ⊢
  obtain ⟨⟨f0, f1, f2, f3⟩, ⟨f4, f5, f6, f7⟩, f8⟩ := KZ3.out.fros9
  obtain ⟨⟨c0, c1, c2, c3⟩, ⟨c4, c5, c6, c7⟩, c8⟩ := KZ3.out.cells9
  go_wp2_with fail
  refine ret_cell51e rfl (w.heap.size + 1 + 1) rx ry ri (.int .i64 0) rfl rfl (Bk.put9 KZ3.out) rfl ⟨rfl, ?_⟩
  have hb := HB3.out
  go_grown
theorem addp {p q : Po} (hp : p.ok) (hq : q.ok) : ∀ w, Calls Try.prog 45 #[p.v, q.v] w fun e w' => e = .returned (if p.on = true ∧ q.on = true then .tuple #[(p.add q).v, .int .i64 0] else .tuple #[Po.zero.v, .int .i64 70]) ∧ Below w.heap.size w w' := add_p p q hp hq
end Go.Proofs.Ytglmmodkflkkkaa
