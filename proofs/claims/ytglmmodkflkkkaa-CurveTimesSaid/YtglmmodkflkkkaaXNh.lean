import Derived.Test.YtglmmodkflkkkaaXShelf
set_option linter.unusedVariables false
set_option linter.unusedSimpArgs false
set_option maxRecDepth 100000
namespace Go.Proofs.Ytglmmodkflkkkaa
open Go.RowKit Limbs
theorem nvP : nv mP = .agg #[.int .u64 18446744073709551615, .int .u64 4294967295, .int .u64 0, .int .u64 18446744069414584321] := by
  unfold nv num; rw [lbP.1, lbP.2.1, lbP.2.2.1, lbP.2.2.2]; rfl
theorem nvN : nv mN = .agg #[.int .u64 17562291160714782033, .int .u64 13611842547513532036, .int .u64 18446744073709551615, .int .u64 18446744069414584320] := by
  unfold nv num; rw [lbN.1, lbN.2.1, lbN.2.2.1, lbN.2.2.2]; rfl
set_option maxHeartbeats 4000000 in
theorem mod_any (m : Int) (w : World) : Calls Try.prog 16 #[.int .i64 m] w fun e w' => e = .returned (nv (md m)) ∧ Below w.heap.size w w' := by
  by_cases h : m = 0
  · subst h
    show Calls Try.prog 16 #[.int .i64 0] w fun e w' => e = .returned (nv mP) ∧ Below w.heap.size w w'
    rw [nvP]
    go_enter Try.func16, Try.ntmps16
    go_wp2_with fail
    go_returns
    exact ⟨rfl, by go_grown⟩
  · have e : md m = mN := by unfold md; rw [if_neg h]
    rw [e, nvN]
    have t : (m == 0) = false := by simpa using h
    clear e h
    go_enter Try.func16, Try.ntmps16
    go_wp2_with fail
    go_returns
    exact ⟨rfl, by go_grown⟩
end Go.Proofs.Ytglmmodkflkkkaa
set_option linter.unusedVariables false
set_option linter.unusedSimpArgs false
set_option maxRecDepth 100000
namespace Go.Proofs.Ytglmmodkflkkkaa
open Go.RowKit Limbs
set_option maxHeartbeats 16000000 in
theorem behind_any (r l M : Nat) (hM : M = mP ∨ M = mN) (hr : r < M) (hl : l < 18446744073709551616) (w : World) :
    Calls Try.prog 60 #[nv r, .int .u64 (l : Int), nv M] w fun e w' => e = .returned (nv ((r * 18446744073709551616 + l) % M)) ∧ Below w.heap.size w w' := by
  obtain ⟨hMW, hM2, hM3, hMp⟩ := md_lt hM
  have HC := Lib.hid (quot_any r M hM hr)
  have hqb := quo_bounds (lb_lt r 0) (lb_lt r 1) (lb_lt r 2) (lb_lt r 3) (lb_lt M 0) (lb_lt M 1) (lb_lt M 2) (lb_lt M 3) hl hM3 (by rw [v4_lb hMW, v4_lb (by omega)]; exact hr)
  rw [v4_lb hMW, v4_lb (by omega)] at hqb
  have hql := quo_lt (lb_le hr hMW) (lb_lt r 2)
  have hXE : r * 18446744073709551616 + l = v4 l (lb r 0) (lb r 1) (lb r 2) + W256 * lb r 3 := by
    have := v4_lb (x := r) (by omega)
    unfold v4 at *
    unfold W256
    omega
  have hME := v4_lb hMW
  have hr0 := lb_lt r 0
  have hr1 := lb_lt r 1
  have hr2 := lb_lt r 2
  have hr3 := lb_lt r 3
  have hm0 := lb_lt M 0
  have hm1 := lb_lt M 1
  have hm2 := lb_lt M 2
  have hm3 := lb_lt M 3
  obtain ⟨X, hX⟩ : ∃ z, z = r * 18446744073709551616 + l := ⟨_, rfl⟩
  rw [← hX] at hqb hXE ⊢
  simp only [nv, num] at HC ⊢
  generalize quo (lb r 3) (lb r 2) (lb M 3) = q at *
  obtain ⟨Y, hY⟩ : ∃ z, z = X % M := ⟨_, rfl⟩
  rw [← hY]
  obtain ⟨r0, er0⟩ : ∃ z, z = lb r 0 := ⟨_, rfl⟩
  obtain ⟨r1, er1⟩ : ∃ z, z = lb r 1 := ⟨_, rfl⟩
  obtain ⟨r2, er2⟩ : ∃ z, z = lb r 2 := ⟨_, rfl⟩
  obtain ⟨r3, er3⟩ : ∃ z, z = lb r 3 := ⟨_, rfl⟩
  obtain ⟨m0, em0⟩ : ∃ z, z = lb M 0 := ⟨_, rfl⟩
  obtain ⟨m1, em1⟩ : ∃ z, z = lb M 1 := ⟨_, rfl⟩
  obtain ⟨m2, em2⟩ : ∃ z, z = lb M 2 := ⟨_, rfl⟩
  obtain ⟨m3, em3⟩ : ∃ z, z = lb M 3 := ⟨_, rfl⟩
  rw [← er0, ← er1, ← er2, ← er3] at HC hXE ⊢
  rw [← em0, ← em1, ← em2, ← em3] at HC hME ⊢
  rw [← er0] at hr0
  rw [← er1] at hr1
  rw [← er2] at hr2
  rw [← er3] at hr3
  rw [← em0] at hm0
  rw [← em1] at hm1
  rw [← em2] at hm2
  rw [← em3] at hm3 hM3
  have HA := Lib.hid (And.intro hqb.1 (And.intro hqb.2 (And.intro hM2 (And.intro hMW (And.intro hMp (And.intro hXE (And.intro hME hY)))))))
  have HL := Lib.hid (And.intro hql (And.intro hl (And.intro hr0 (And.intro hr1 (And.intro hr2 (And.intro hr3 (And.intro hm0 (And.intro hm1 (And.intro hm2 hm3)))))))))
  clear hqb hM2 hMW hMp hXE hME hY hX hql hl hr0 hr1 hr2 hr3 hm0 hm1 hm2 hm3 hM3 hr hM er0 er1 er2 er3 em0 em1 em2 em3
  go_enter Try.func60, Try.ntmps60
  go_wp2_with fail
  refine (keep w.heap.size w (HC.out _) (by go_grown) (Nat.le_refl _)).mono ?_
  rintro e w2 ⟨rfl, hb, hk⟩
  have K0 : Hid (Bk 24 w2 w.heap.size #[.int .u64 (r0 : Int), .int .u64 (r1 : Int), .int .u64 (r2 : Int), .int .u64 (r3 : Int)]) := Lib.hid (Bk.below (Bk.alloc (Bk.alloc (Bk.new rfl))) hk)
  have K1 : Hid (Bk 24 w2 (w.heap.size + 1) #[.int .u64 (m0 : Int), .int .u64 (m1 : Int), .int .u64 (m2 : Int), .int .u64 (m3 : Int)]) := Lib.hid (Bk.below (Bk.alloc (Bk.new (by simp))) hk)
  have K2 : Hid (Bk 24 w2 (w.heap.size + 1 + 1) cs0) := Lib.hid (Bk.below (Bk.new (by simp)) hk)
  have HB := Lib.hid hb
  clear hk hb HC
  obtain ⟨i0, i1, i2, i3⟩ := K0.out.cells
  obtain ⟨x0, x1, x2, x3⟩ := K0.out.cellsA
  obtain ⟨j0, j1, j2, j3⟩ := K1.out.cellsA
  go_wp2_with fail
  refine wp_loop_rounds 5 ?_
  rw [rounds_succ]
  go_wp2_with fail
  refine (times_any (a := q) (b := m0) (c := 0) (d := 0) HL.out.1 HL.out.2.2.2.2.2.2.1 (by decide) (by decide) _).mono ?_
  rintro e wz ⟨⟨n0, k0, hn0, hk0, en0, rfl⟩, rfl⟩
  obtain ⟨d0, b0, hd0, hb0, ed0, kd0⟩ := sub64 l n0 0 (by decide) HL.out.2.1 hn0
  rw [show ((0 : Nat) : Int) = 0 from rfl] at kd0
  have HK0 := Lib.hid (And.intro hn0 (And.intro hk0 (And.intro hd0 (And.intro hb0 (And.intro en0 ed0)))))
  clear hn0 hk0 hd0 hb0 en0 ed0
  go_wp2_with fail
  clear kd0
  rw [rounds_succ]
  go_wp2_with fail
  refine (times_any (a := q) (b := m1) (c := k0) (d := 0) HL.out.1 HL.out.2.2.2.2.2.2.2.1 HK0.out.2.1 (by decide) _).mono ?_
  rintro e wz ⟨⟨n1, k1, hn1, hk1, en1, rfl⟩, rfl⟩
  obtain ⟨d1, b1, hd1, hb1, ed1, kd1⟩ := sub64 r0 n1 b0 HK0.out.2.2.2.1 HL.out.2.2.1 hn1
  have HK1 := Lib.hid (And.intro hn1 (And.intro hk1 (And.intro hd1 (And.intro hb1 (And.intro en1 ed1)))))
  clear hn1 hk1 hd1 hb1 en1 ed1
  go_wp2_with fail
  clear kd1
  rw [rounds_succ]
  go_wp2_with fail
  refine (times_any (a := q) (b := m2) (c := k1) (d := 0) HL.out.1 HL.out.2.2.2.2.2.2.2.2.1 HK1.out.2.1 (by decide) _).mono ?_
  rintro e wz ⟨⟨n2, k2, hn2, hk2, en2, rfl⟩, rfl⟩
  obtain ⟨d2, b2, hd2, hb2, ed2, kd2⟩ := sub64 r1 n2 b1 HK1.out.2.2.2.1 HL.out.2.2.2.1 hn2
  have HK2 := Lib.hid (And.intro hn2 (And.intro hk2 (And.intro hd2 (And.intro hb2 (And.intro en2 ed2)))))
  clear hn2 hk2 hd2 hb2 en2 ed2
  go_wp2_with fail
  clear kd2
  rw [rounds_succ]
  go_wp2_with fail
  refine (times_any (a := q) (b := m3) (c := k2) (d := 0) HL.out.1 HL.out.2.2.2.2.2.2.2.2.2 HK2.out.2.1 (by decide) _).mono ?_
  rintro e wz ⟨⟨n3, k3, hn3, hk3, en3, rfl⟩, rfl⟩
  obtain ⟨d3, b3, hd3, hb3, ed3, kd3⟩ := sub64 r2 n3 b2 HK2.out.2.2.2.1 HL.out.2.2.2.2.1 hn3
  have HK3 := Lib.hid (And.intro hn3 (And.intro hk3 (And.intro hd3 (And.intro hb3 (And.intro en3 ed3)))))
  clear hn3 hk3 hd3 hb3 en3 ed3
  go_wp2_with fail
  clear kd3
  obtain ⟨hi, hhi, hz, ehi⟩ : ∃ hi : Nat, hi < 18446744073709551616 ∧ (∃ z : Nat, hi + k3 + b3 = r3 + 18446744073709551616 * z) ∧ IntKind.u64.wrap ((r3 : Int) - IntKind.u64.wrap ((k3 : Int) + (b3 : Int))) = (hi : Int) := by
    have h1 := HK3.out.2.1
    have h2 := HK3.out.2.2.2.1
    have h3 := HL.out.2.2.2.2.2.1
    refine ⟨(r3 + 36893488147419103232 - (k3 + b3)) % 18446744073709551616, by omega, ⟨(k3 + b3 + (r3 + 36893488147419103232 - (k3 + b3)) % 18446744073709551616 - r3) / 18446744073709551616, by omega⟩, by rw [IntKind.wrap_u64, IntKind.wrap_u64]; omega⟩
  have HE := Lib.hid (show (q = X / M ∧ hi = 0 ∧ v4 d0 d1 d2 d3 = Y) ∨ (q = X / M + 1 ∧ v4 d0 d1 d2 d3 + M = W256 + Y ∧ hi = 18446744073709551615) ∨ (q = X / M + 2 ∧ v4 d0 d1 d2 d3 + W256 * hi + 2 * M = W256 * 18446744073709551616 + Y) from by
    obtain ⟨g1, g2, g3, g4, g5, g6, g7, g8⟩ := HA.out
    obtain ⟨f1, f2, f3, f4, f5, f6, f7, f8, f9, f10⟩ := HL.out
    obtain ⟨hn0, hk0, hd0, hb0, en0, ed0⟩ := HK0.out
    obtain ⟨hn1, hk1, hd1, hb1, en1, ed1⟩ := HK1.out
    obtain ⟨hn2, hk2, hd2, hb2, en2, ed2⟩ := HK2.out
    obtain ⟨hn3, hk3, hd3, hb3, en3, ed3⟩ := HK3.out
    rw [g8]
    refine behind_arith (N := v4 n0 n1 n2 n3) (low := v4 l r0 r1 r2) (k3 := k3) (b3 := b3) (r3 := r3) (by omega) g1 g2 g3 g4 ?_ (v4_lt hd0 hd1 hd2 hd3) hb3 ?_ g6 f6 hk3 hhi hz
    · rw [← g7, mul_v4]
      generalize q * m0 = t0 at *
      generalize q * m1 = t1 at *
      generalize q * m2 = t2 at *
      generalize q * m3 = t3 at *
      unfold v4 W256
      omega
    · unfold v4 W256
      omega)
  have HD := Lib.hid (And.intro HK0.out.2.2.1 (And.intro HK1.out.2.2.1 (And.intro HK2.out.2.2.1 HK3.out.2.2.1)))
  have HHI := Lib.hid hhi
  clear hz hhi HK0 HK1 HK2 HK3
  rw [rounds_succ]
  go_wp2_with fail
  clear x0 x1 x2 x3 i0 i1 i2 i3 j0 j1 j2 j3
  obtain ⟨f0, f1, f2, f3⟩ := K2.out.frosA
  obtain ⟨c0, c1, c2, c3⟩ := K2.out.cellsA
  rcases HE.out with ⟨_, h0, hY⟩ | ⟨_, hY, h1⟩ | ⟨_, hY⟩
  · subst h0
    have HY := Lib.hid hY
    clear hY
    refine wp_loop_rounds 1 ?_
    rw [rounds_succ]
    go_wp2_with fail
    refine ret_cell rfl (w.heap.size + 1 + 1) Y rfl (by rw [← HY.out, cs4_v4 HD.out.1 HD.out.2.1 HD.out.2.2.1 HD.out.2.2.2]; exact Bk.put K2.out.alloc) rfl ⟨rfl, ?_⟩
    have hb := HB.out
    have hs := hb.size
    go_grown
  · subst h1
    have hYM : Y < M := by
      have h1 := HA.out.2.2.2.2.2.2.2
      have h2 := HA.out.2.2.2.2.1
      rw [h1]; exact Nat.mod_lt _ (by omega)
    have HY := Lib.hid (And.intro hY hYM)
    clear hY hYM
    refine wp_loop_rounds 2 ?_
    rw [rounds_succ]
    obtain ⟨j0, j1, j2, j3⟩ := K1.out.cellsA
    have HD1 := HD
    go_wp2_with fail
    refine (keep w.heap.size w (plus_any HD1.out.1 HD1.out.2.1 HD1.out.2.2.1 HD1.out.2.2.2 HL.out.2.2.2.2.2.2.1 HL.out.2.2.2.2.2.2.2.1 HL.out.2.2.2.2.2.2.2.2.1 HL.out.2.2.2.2.2.2.2.2.2 _) (by have hb := HB.out; have hs := hb.size; go_grown) (Nat.le_refl _)).mono ?_
    rintro e w3 ⟨⟨s0, s1, s2, s3, c, z0, z1, z2, z3, zc, ze, rfl⟩, hb, hk⟩
    have HD2 := Lib.hid (And.intro z0 (And.intro z1 (And.intro z2 z3)))
    obtain ⟨hc1, hs1⟩ : c = 1 ∧ v4 s0 s1 s2 s3 = Y := by
      rw [HA.out.2.2.2.2.2.2.1] at ze
      have h1 := HY.out.1
      have h2 := HY.out.2
      have h3 := HA.out.2.2.2.1
      have h4 := v4_lt z0 z1 z2 z3
      generalize v4 s0 s1 s2 s3 = S at *
      generalize v4 d0 d1 d2 d3 = DD at *
      unfold W256 at *
      omega
    subst hc1
    have HS := Lib.hid hs1
    have KK2 : Hid (Bk 24 w3 (w.heap.size + 1 + 1) cs0) := Lib.hid (Bk.below (Bk.alloc K2.out) hk)
    have KKL : Hid (Bk 24 w3 w2.heap.size #[.int .u64 (d0 : Int), .int .u64 (d1 : Int), .int .u64 (d2 : Int), .int .u64 (d3 : Int)]) := Lib.hid (Bk.below (Bk.new rfl) hk)
    have hne1 : ¬ (w.heap.size + 1 + 1 = w2.heap.size) := by have := K2.out.lt; omega
    have hne2 : ¬ (w2.heap.size = w.heap.size + 1 + 1) := by have := K2.out.lt; omega
    have HB3 := Lib.hid hb
    clear z0 z1 z2 z3 zc ze hs1 hk hb f0 f1 f2 f3 c0 c1 c2 c3 j0 j1 j2 j3
    obtain ⟨f0, f1, f2, f3⟩ := KK2.out.fros
    obtain ⟨c0, c1, c2, c3⟩ := KK2.out.cells
    obtain ⟨y0, y1, y2, y3⟩ := KKL.out.fros
    obtain ⟨x0, x1, x2, x3⟩ := KKL.out.cells
    simp only [num]
    go_wp2_with fail
    rw [rounds_succ]
    go_wp2_with fail
    refine ret_cell rfl (w.heap.size + 1 + 1) Y rfl (by rw [← HS.out, cs4_v4 HD2.out.1 HD2.out.2.1 HD2.out.2.2.1 HD2.out.2.2.2]; exact Bk.put (Bk.puto hne1 KK2.out)) rfl ⟨rfl, ?_⟩
    have hb := HB3.out
    have hs := HB.out.size
    go_grown
  · have hYM : Y < M := by
      have h1 := HA.out.2.2.2.2.2.2.2
      have h2 := HA.out.2.2.2.2.1
      rw [h1]; exact Nat.mod_lt _ (by omega)
    have HY := Lib.hid (And.intro hY hYM)
    have hi1 : ((hi : Int) != 0) = true := by
      have h3 := HA.out.2.2.2.1
      have h4 := v4_lt HD.out.1 HD.out.2.1 HD.out.2.2.1 HD.out.2.2.2
      generalize v4 d0 d1 d2 d3 = DD at *
      unfold W256 at *
      simp
      omega
    clear hY hYM
    refine wp_loop_rounds 3 ?_
    rw [rounds_succ]
    obtain ⟨j0, j1, j2, j3⟩ := K1.out.cellsA
    have HD1 := HD
    go_wp2_with fail
    refine (keep w.heap.size w (plus_any HD1.out.1 HD1.out.2.1 HD1.out.2.2.1 HD1.out.2.2.2 HL.out.2.2.2.2.2.2.1 HL.out.2.2.2.2.2.2.2.1 HL.out.2.2.2.2.2.2.2.2.1 HL.out.2.2.2.2.2.2.2.2.2 _) (by have hb := HB.out; have hs := hb.size; have hs2 := HB.out.size; go_grown) (Nat.le_refl _)).mono ?_
    rintro e w3 ⟨⟨s0, s1, s2, s3, c, z0, z1, z2, z3, zc, ze, rfl⟩, hb, hk⟩
    have HD2 := Lib.hid (And.intro z0 (And.intro z1 (And.intro z2 z3)))
    obtain ⟨hc1, hs1⟩ : IntKind.u64.wrap ((hi : Int) + (c : Int)) = 18446744073709551615 ∧ v4 s0 s1 s2 s3 + M = W256 + Y := by
      rw [HA.out.2.2.2.2.2.2.1] at ze
      have h1 := HY.out.1
      have h2 := HY.out.2
      have h3 := HA.out.2.2.2.1
      have h4 := v4_lt z0 z1 z2 z3
      have h5 := HHI.out
      generalize v4 s0 s1 s2 s3 = S at *
      generalize v4 d0 d1 d2 d3 = DD at *
      rw [IntKind.wrap_u64]
      unfold W256 at *
      omega
    have HS := Lib.hid hs1
    have KM : Hid (Bk 24 w3 (w.heap.size + 1) #[.int .u64 (m0 : Int), .int .u64 (m1 : Int), .int .u64 (m2 : Int), .int .u64 (m3 : Int)]) := Lib.hid (Bk.below (Bk.alloc K1.out) hk)
    have KK2 : Hid (Bk 24 w3 (w.heap.size + 1 + 1) cs0) := Lib.hid (Bk.below (Bk.alloc K2.out) hk)
    have KKL : Hid (Bk 24 w3 w2.heap.size #[.int .u64 (d0 : Int), .int .u64 (d1 : Int), .int .u64 (d2 : Int), .int .u64 (d3 : Int)]) := Lib.hid (Bk.below (Bk.new rfl) hk)
    have hne1 : ¬ (w.heap.size + 1 + 1 = w2.heap.size) := by have := K2.out.lt; omega
    have hne2 : ¬ (w2.heap.size = w.heap.size + 1 + 1) := by have := K2.out.lt; omega
    have hne3 : ¬ (w.heap.size + 1 = w2.heap.size) := by have := K2.out.lt; omega
    have hne4 : ¬ (w2.heap.size = w.heap.size + 1) := by have := K2.out.lt; omega
    have HB3 := Lib.hid hb
    clear z0 z1 z2 z3 zc ze hs1 hk hb f0 f1 f2 f3 c0 c1 c2 c3 j0 j1 j2 j3
    obtain ⟨j0, j1, j2, j3⟩ := KM.out.cells
    obtain ⟨y0, y1, y2, y3⟩ := KKL.out.fros
    obtain ⟨x0, x1, x2, x3⟩ := KKL.out.cells
    simp only [num]
    go_wp2_with fail
    rw [rounds_succ]
    go_wp2_with fail
    refine (keep w.heap.size w (plus_any HD2.out.1 HD2.out.2.1 HD2.out.2.2.1 HD2.out.2.2.2 HL.out.2.2.2.2.2.2.1 HL.out.2.2.2.2.2.2.2.1 HL.out.2.2.2.2.2.2.2.2.1 HL.out.2.2.2.2.2.2.2.2.2 _) (by have hb := HB3.out; have hs := hb.size; have hs2 := HB.out.size; go_grown) (Nat.le_refl _)).mono ?_
    rintro e w4 ⟨⟨u0, u1, u2, u3, cc, z0, z1, z2, z3, zc, ze, rfl⟩, hb, hk⟩
    have HD3 := Lib.hid (And.intro z0 (And.intro z1 (And.intro z2 z3)))
    obtain ⟨hcc1, hu1⟩ : cc = 1 ∧ v4 u0 u1 u2 u3 = Y := by
      rw [HA.out.2.2.2.2.2.2.1] at ze
      have h1 := HS.out
      have h2 := HY.out.2
      have h3 := HA.out.2.2.2.1
      have h4 := v4_lt z0 z1 z2 z3
      generalize v4 u0 u1 u2 u3 = U at *
      generalize v4 s0 s1 s2 s3 = S at *
      unfold W256 at *
      omega
    subst hcc1
    have HU := Lib.hid hu1
    have LK2 : Hid (Bk 24 w4 (w.heap.size + 1 + 1) cs0) := Lib.hid (Bk.below (Bk.puto hne1 KK2.out) hk)
    have LKL : Hid (Bk 24 w4 w2.heap.size #[.int .u64 (s0 : Int), .int .u64 (s1 : Int), .int .u64 (s2 : Int), .int .u64 (s3 : Int)]) := Lib.hid (Bk.below (Bk.put KKL.out) hk)
    have HB4 := Lib.hid hb
    clear z0 z1 z2 z3 zc ze hu1 hk hb j0 j1 j2 j3 y0 y1 y2 y3 x0 x1 x2 x3 hc1
    obtain ⟨f0, f1, f2, f3⟩ := LK2.out.fros
    obtain ⟨c0, c1, c2, c3⟩ := LK2.out.cells
    obtain ⟨y0, y1, y2, y3⟩ := LKL.out.fros
    obtain ⟨x0, x1, x2, x3⟩ := LKL.out.cells
    simp only [num]
    go_wp2_with fail
    rw [rounds_succ]
    go_wp2_with fail
    refine ret_cell rfl (w.heap.size + 1 + 1) Y rfl (by rw [← HU.out, cs4_v4 HD3.out.1 HD3.out.2.1 HD3.out.2.2.1 HD3.out.2.2.2]; exact Bk.put (Bk.puto hne1 LK2.out)) rfl ⟨rfl, ?_⟩
    have hb := HB4.out
    have hs := HB.out.size
    go_grown
end Go.Proofs.Ytglmmodkflkkkaa
