/- The difference's region that draws its order and holds three calls. No condition but what they read. Sums, differences and opposites modulo. No condition but that each number is below 2 to the 256. Products modulo. No condition but that each number is below 2 to the 256. -/
import Derived.Test.YtpggkfdijmnmiaaGreatZuk02
import Derived.Laws.Cover3
set_option linter.unusedVariables false
set_option linter.unusedSimpArgs false
set_option maxRecDepth 100000
namespace Go.Proofs.YtpggkfdijmnmiaaGreat
open Go.RowKit Limbs
def s2I (w0 : World) (ga gb gM c a0 a1 a2 a3 b0 b1 b2 b3 m0 m1 m2 m3 p0 p1 p2 p3 q0 q1 q2 q3 s0 s1 s2 s3 : Nat) (t0 t1 t2 t3 t6 t10 t11 t22 t23 t24 t25 t26 t27 t28 t29 t30 : Value) (ds : List Deferred) (l : Array Bool) (a : Act) (w : World) : Prop :=
  ∃ j0 j1 j2 j3 j4 j5 j6 j7 j8 j9 j10 j11 j12 : Bool, ∃ x0 x1 x2 x3 x4 x5 x6 x7 x8 x9 x10 x12 : Value, l = #[j0, j1, j2, j3, j4, j5, j6, j7, j8, j9, j10, j11, j12] ∧ a = { tmps := #[t0, t1, t2, t3, .pointer (some ⟨ga, 0, none⟩), .pointer (some ⟨gb, 0, none⟩), t6, .pointer (some ⟨gM, 0, none⟩), x10, x12, t10, t11, x7, x0, x1, x2, x3, x4, x5, x6, x8, x9, t22, t23, t24, t25, t26, t27, t28, t29, t30], defers := ds } ∧ Below w0.heap.size w0 w ∧
  (j0 = true → x0 = .agg #[.int .u64 (a0 : Int), .int .u64 (a1 : Int), .int .u64 (a2 : Int), .int .u64 (a3 : Int)]) ∧ (j1 = true → x1 = .agg #[.int .u64 (m0 : Int), .int .u64 (m1 : Int), .int .u64 (m2 : Int), .int .u64 (m3 : Int)]) ∧ (j2 = true → x2 = .agg #[.int .u64 (p0 : Int), .int .u64 (p1 : Int), .int .u64 (p2 : Int), .int .u64 (p3 : Int)]) ∧ (j3 = true → x3 = .agg #[.int .u64 (b0 : Int), .int .u64 (b1 : Int), .int .u64 (b2 : Int), .int .u64 (b3 : Int)]) ∧ (j4 = true → x4 = .agg #[.int .u64 (m0 : Int), .int .u64 (m1 : Int), .int .u64 (m2 : Int), .int .u64 (m3 : Int)]) ∧ (j5 = true → x5 = .agg #[.int .u64 (q0 : Int), .int .u64 (q1 : Int), .int .u64 (q2 : Int), .int .u64 (q3 : Int)]) ∧ (j6 = true → x6 = .tuple #[.agg #[.int .u64 (s0 : Int), .int .u64 (s1 : Int), .int .u64 (s2 : Int), .int .u64 (s3 : Int)], .int .u64 (c : Int)]) ∧ (j7 = true → x7 = .tuple #[.agg #[.int .u64 (s0 : Int), .int .u64 (s1 : Int), .int .u64 (s2 : Int), .int .u64 (s3 : Int)], .int .u64 (c : Int)]) ∧ (j8 = true → x8 = .agg #[.int .u64 (s0 : Int), .int .u64 (s1 : Int), .int .u64 (s2 : Int), .int .u64 (s3 : Int)]) ∧ (j9 = true → x9 = .int .u64 (c : Int)) ∧
  (j10 = true → ∃ (g : Nat) (z0 z1 z2 z3 : Value), x10 = .pointer (some ⟨g, 0, none⟩) ∧ w0.heap.size ≤ g ∧ Bk 24 w g #[z0, z1, z2, z3] ∧ (j11 = true → #[z0, z1, z2, z3] = #[.int .u64 (s0 : Int), .int .u64 (s1 : Int), .int .u64 (s2 : Int), .int .u64 (s3 : Int)])) ∧ (j12 = true → x12 = .int .u64 (c : Int)) ∧ (j11 = true → j10 = true)
set_option maxHeartbeats 16000000 in
theorem s2_steps (ga gb gM c a0 a1 a2 a3 b0 b1 b2 b3 m0 m1 m2 m3 p0 p1 p2 p3 q0 q1 q2 q3 s0 s1 s2 s3 : Nat) (w : World) (KA : Bk 24 w ga #[.int .u64 (a0 : Int), .int .u64 (a1 : Int), .int .u64 (a2 : Int), .int .u64 (a3 : Int)]) (KB : Bk 24 w gb #[.int .u64 (b0 : Int), .int .u64 (b1 : Int), .int .u64 (b2 : Int), .int .u64 (b3 : Int)]) (KM : Bk 24 w gM #[.int .u64 (m0 : Int), .int .u64 (m1 : Int), .int .u64 (m2 : Int), .int .u64 (m3 : Int)]) (HA : Hid (∀ w, Calls Tryz.prog 132 #[.agg #[.int .u64 (a0 : Int), .int .u64 (a1 : Int), .int .u64 (a2 : Int), .int .u64 (a3 : Int)], .agg #[.int .u64 (m0 : Int), .int .u64 (m1 : Int), .int .u64 (m2 : Int), .int .u64 (m3 : Int)]] w fun e w' => e = .returned (.agg #[.int .u64 (p0 : Int), .int .u64 (p1 : Int), .int .u64 (p2 : Int), .int .u64 (p3 : Int)]) ∧ Below w.heap.size w w')) (HB : Hid (∀ w, Calls Tryz.prog 132 #[.agg #[.int .u64 (b0 : Int), .int .u64 (b1 : Int), .int .u64 (b2 : Int), .int .u64 (b3 : Int)], .agg #[.int .u64 (m0 : Int), .int .u64 (m1 : Int), .int .u64 (m2 : Int), .int .u64 (m3 : Int)]] w fun e w' => e = .returned (.agg #[.int .u64 (q0 : Int), .int .u64 (q1 : Int), .int .u64 (q2 : Int), .int .u64 (q3 : Int)]) ∧ Below w.heap.size w w')) (HC : Hid (∀ w, Calls Tryz.prog 131 #[.agg #[.int .u64 (p0 : Int), .int .u64 (p1 : Int), .int .u64 (p2 : Int), .int .u64 (p3 : Int)], .agg #[.int .u64 (q0 : Int), .int .u64 (q1 : Int), .int .u64 (q2 : Int), .int .u64 (q3 : Int)]] w fun e w' => e = .returned (.tuple #[.agg #[.int .u64 (s0 : Int), .int .u64 (s1 : Int), .int .u64 (s2 : Int), .int .u64 (s3 : Int)], .int .u64 (c : Int)]) ∧ Below w.heap.size w w'))
    {t0 t1 t2 t3 t6 t10 t11 t22 t23 t24 t25 t26 t27 t28 t29 t30 : Value} {ds : List Deferred} {Q : Exit → Act → World → Prop} :
    ∀ l a w', s2I w ga gb gM c a0 a1 a2 a3 b0 b1 b2 b3 m0 m1 m2 m3 p0 p1 p2 p3 q0 q1 q2 q3 s0 s1 s2 s3 t0 t1 t2 t3 t6 t10 t11 t22 t23 t24 t25 t26 t27 t28 t29 t30 ds l a w' → ∀ i ∈ Region.ready .any (ops17 2) l, wpOp Tryz.prog (ops17 2) Q i (fun a' w'' => s2I w ga gb gM c a0 a1 a2 a3 b0 b1 b2 b3 m0 m1 m2 m3 p0 p1 p2 p3 q0 q1 q2 q3 s0 s1 s2 s3 t0 t1 t2 t3 t6 t10 t11 t22 t23 t24 t25 t26 t27 t28 t29 t30 ds (l.setIfInBounds i true) a' w'') a w' := by
  simp only [ops17, findR, Tryz.f73, Option.bind_some, Option.or, Option.getD, Nat.reduceEqDiff, if_true, if_false, reduceIte]
  rintro l a w' ⟨j0, j1, j2, j3, j4, j5, j6, j7, j8, j9, j10, j11, j12, x0, x1, x2, x3, x4, x5, x6, x7, x8, x9, x10, x12, rfl, rfl, hB, h0, h1, h2, h3, h4, h5, h6, h7, h8, h9, h10, h11, h12⟩ i hi
  rw [mem_ready] at hi
  obtain ⟨hu, oo, ho, hd⟩ := hi
  have hi13 : i < 13 := by
    have := (Array.getElem?_eq_some_iff.1 ho).1
    simpa using this
  obtain ⟨⟨ca0, ca1, ca2, ca3⟩, -⟩ := Bk.all4 KA
  obtain ⟨⟨cb0, cb1, cb2, cb3⟩, -⟩ := Bk.all4 KB
  obtain ⟨⟨cm0, cm1, cm2, cm3⟩, -⟩ := Bk.all4 KM
  clear KA KB KM
  have hcase : i = 0 ∨ i = 1 ∨ i = 2 ∨ i = 3 ∨ i = 4 ∨ i = 5 ∨ i = 6 ∨ i = 7 ∨ i = 8 ∨ i = 9 ∨ i = 10 ∨ i = 11 ∨ i = 12 := by omega
  rcases hcase with rfl | rfl | rfl | rfl | rfl | rfl | rfl | rfl | rfl | rfl | rfl | rfl | rfl
  · obtain rfl := Option.some.inj ho
    simp [Region.binds] at hu hd
    refine wpOp_of rfl rfl ?_
    go_simp
    unfold s2I
    exact ⟨true, j1, j2, j3, j4, j5, j6, j7, j8, j9, j10, j11, j12, _, x1, x2, x3, x4, x5, x6, x7, x8, x9, x10, x12, rfl, rfl, hB, fun _ => rfl, h1, h2, h3, h4, h5, h6, h7, h8, h9, h10, h11, h12⟩
  · obtain rfl := Option.some.inj ho
    simp [Region.binds] at hu hd
    refine wpOp_of rfl rfl ?_
    go_simp
    unfold s2I
    exact ⟨j0, true, j2, j3, j4, j5, j6, j7, j8, j9, j10, j11, j12, x0, _, x2, x3, x4, x5, x6, x7, x8, x9, x10, x12, rfl, rfl, hB, h0, fun _ => rfl, h2, h3, h4, h5, h6, h7, h8, h9, h10, h11, h12⟩
  · obtain rfl := Option.some.inj ho
    simp [Region.binds] at hu hd
    have d0 : j0 = true := by simp [hd]
    have e0 := h0 d0
    subst e0
    have d1 : j1 = true := by simp [hd]
    have e1 := h1 d1
    subst e1
    subst d0
    subst d1
    refine wpOp_of rfl rfl ?_
    go_simp
    go_at_call 132
    refine (keep w.heap.size w (HA.out _) hB (Nat.le_refl _)).mono ?_
    rintro e w2 ⟨rfl, hB2, hb2⟩
    unfold s2I
    exact ⟨true, true, true, j3, j4, j5, j6, j7, j8, j9, j10, j11, j12, _, _, _, x3, x4, x5, x6, x7, x8, x9, x10, x12, rfl, rfl, hB2, h0, h1, fun _ => rfl, h3, h4, h5, h6, h7, h8, h9, (fun hj => by obtain ⟨g, z0, z1, z2, z3, e1, e2, e3, e4⟩ := h10 hj; exact ⟨g, z0, z1, z2, z3, e1, e2, e3.below hb2, e4⟩), h11, h12⟩
  · obtain rfl := Option.some.inj ho
    simp [Region.binds] at hu hd
    refine wpOp_of rfl rfl ?_
    go_simp
    unfold s2I
    exact ⟨j0, j1, j2, true, j4, j5, j6, j7, j8, j9, j10, j11, j12, x0, x1, x2, _, x4, x5, x6, x7, x8, x9, x10, x12, rfl, rfl, hB, h0, h1, h2, fun _ => rfl, h4, h5, h6, h7, h8, h9, h10, h11, h12⟩
  · obtain rfl := Option.some.inj ho
    simp [Region.binds] at hu hd
    refine wpOp_of rfl rfl ?_
    go_simp
    unfold s2I
    exact ⟨j0, j1, j2, j3, true, j5, j6, j7, j8, j9, j10, j11, j12, x0, x1, x2, x3, _, x5, x6, x7, x8, x9, x10, x12, rfl, rfl, hB, h0, h1, h2, h3, fun _ => rfl, h5, h6, h7, h8, h9, h10, h11, h12⟩
  · obtain rfl := Option.some.inj ho
    simp [Region.binds] at hu hd
    have d2 : j2 = true := by simp [hd]
    have e2 := h2 d2
    subst e2
    have d3 : j3 = true := by simp [hd]
    have e3 := h3 d3
    subst e3
    have d4 : j4 = true := by simp [hd]
    have e4 := h4 d4
    subst e4
    subst d2
    subst d3
    subst d4
    refine wpOp_of rfl rfl ?_
    go_simp
    go_at_call 132
    refine (keep w.heap.size w (HB.out _) hB (Nat.le_refl _)).mono ?_
    rintro e w2 ⟨rfl, hB2, hb2⟩
    unfold s2I
    exact ⟨j0, j1, true, true, true, true, j6, j7, j8, j9, j10, j11, j12, x0, x1, _, _, _, _, x6, x7, x8, x9, x10, x12, rfl, rfl, hB2, h0, h1, h2, h3, h4, fun _ => rfl, h6, h7, h8, h9, (fun hj => by obtain ⟨g, z0, z1, z2, z3, e1, e2, e3, e4⟩ := h10 hj; exact ⟨g, z0, z1, z2, z3, e1, e2, e3.below hb2, e4⟩), h11, h12⟩
  · obtain rfl := Option.some.inj ho
    simp [Region.binds] at hu hd
    have d2 : j2 = true := by simp [hd]
    have e2 := h2 d2
    subst e2
    have d5 : j5 = true := by simp [hd]
    have e5 := h5 d5
    subst e5
    subst d2
    subst d5
    refine wpOp_of rfl rfl ?_
    go_simp
    go_at_call 131
    refine (keep w.heap.size w (HC.out _) hB (Nat.le_refl _)).mono ?_
    rintro e w2 ⟨rfl, hB2, hb2⟩
    unfold s2I
    exact ⟨j0, j1, true, j3, j4, true, true, j7, j8, j9, j10, j11, j12, x0, x1, _, x3, x4, _, _, x7, x8, x9, x10, x12, rfl, rfl, hB2, h0, h1, h2, h3, h4, h5, fun _ => rfl, h7, h8, h9, (fun hj => by obtain ⟨g, z0, z1, z2, z3, e1, e2, e3, e4⟩ := h10 hj; exact ⟨g, z0, z1, z2, z3, e1, e2, e3.below hb2, e4⟩), h11, h12⟩
  · obtain rfl := Option.some.inj ho
    simp [Region.binds] at hu hd
    have d6 : j6 = true := by simp [hd]
    have e6 := h6 d6
    subst e6
    subst d6
    refine wpOp_of rfl rfl ?_
    go_simp
    unfold s2I
    exact ⟨j0, j1, j2, j3, j4, j5, true, true, j8, j9, j10, j11, j12, x0, x1, x2, x3, x4, x5, _, _, x8, x9, x10, x12, rfl, rfl, hB, h0, h1, h2, h3, h4, h5, h6, fun _ => rfl, h8, h9, h10, h11, h12⟩
  · obtain rfl := Option.some.inj ho
    simp [Region.binds] at hu hd
    have d7 : j7 = true := by simp [hd]
    have e7 := h7 d7
    subst e7
    subst d7
    refine wpOp_of rfl rfl ?_
    go_simp
    unfold s2I
    exact ⟨j0, j1, j2, j3, j4, j5, j6, true, true, j9, j10, j11, j12, x0, x1, x2, x3, x4, x5, x6, _, _, x9, x10, x12, rfl, rfl, hB, h0, h1, h2, h3, h4, h5, h6, h7, fun _ => rfl, h9, h10, h11, h12⟩
  · obtain rfl := Option.some.inj ho
    simp [Region.binds] at hu hd
    have d7 : j7 = true := by simp [hd]
    have e7 := h7 d7
    subst e7
    subst d7
    refine wpOp_of rfl rfl ?_
    go_simp
    unfold s2I
    exact ⟨j0, j1, j2, j3, j4, j5, j6, true, j8, true, j10, j11, j12, x0, x1, x2, x3, x4, x5, x6, _, x8, _, x10, x12, rfl, rfl, hB, h0, h1, h2, h3, h4, h5, h6, h7, h8, fun _ => rfl, h10, h11, h12⟩
  · obtain rfl := Option.some.inj ho
    simp [Region.binds] at hu hd
    refine wpOp_of rfl rfl ?_
    have hs := hB.size
    go_simp
    unfold s2I
    exact ⟨j0, j1, j2, j3, j4, j5, j6, j7, j8, j9, true, j11, j12, x0, x1, x2, x3, x4, x5, x6, x7, x8, x9, _, x12, rfl, rfl, (by go_grown), h0, h1, h2, h3, h4, h5, h6, h7, h8, h9, fun _ => ⟨_, _, _, _, _, rfl, hs, Bk.new rfl, fun hj => absurd (h12 hj) (by simp [hu])⟩, h11, fun _ => rfl⟩
  · obtain rfl := Option.some.inj ho
    simp [Region.binds] at hu hd
    have d0 : j0 = true := by simp [hd]
    have e0 := h0 d0
    subst e0
    have d1 : j1 = true := by simp [hd]
    have e1 := h1 d1
    subst e1
    have d2 : j2 = true := by simp [hd]
    have e2 := h2 d2
    subst e2
    have d3 : j3 = true := by simp [hd]
    have e3 := h3 d3
    subst e3
    have d4 : j4 = true := by simp [hd]
    have e4 := h4 d4
    subst e4
    have d5 : j5 = true := by simp [hd]
    have e5 := h5 d5
    subst e5
    have d6 : j6 = true := by simp [hd]
    have e6 := h6 d6
    subst e6
    have d7 : j7 = true := by simp [hd]
    have e7 := h7 d7
    subst e7
    have d8 : j8 = true := by simp [hd]
    have e8 := h8 d8
    subst e8
    have d10 : j10 = true := by simp [hd]
    subst d0
    subst d1
    subst d2
    subst d3
    subst d4
    subst d5
    subst d6
    subst d7
    subst d8
    subst d10
    refine wpOp_of rfl rfl ?_
    obtain ⟨g, z0, z1, z2, z3, e1, e2, e3, e4⟩ := h10 rfl
    subst e1
    obtain ⟨f0, f1, f2, f3⟩ := e3.fros
    obtain ⟨c0, c1, c2, c3⟩ := e3.cells
    go_simp
    unfold s2I
    exact ⟨true, true, true, true, true, true, true, true, true, j9, true, true, j12, _, _, _, _, _, _, _, _, _, x9, _, x12, rfl, rfl, (by go_grown), h0, h1, h2, h3, h4, h5, h6, h7, h8, h9, fun _ => ⟨g, _, _, _, _, rfl, e2, Bk.put e3, fun _ => rfl⟩, h11, fun _ => rfl⟩
  · obtain rfl := Option.some.inj ho
    simp [Region.binds] at hu hd
    have d0 : j0 = true := by simp [hd]
    have e0 := h0 d0
    subst e0
    have d1 : j1 = true := by simp [hd]
    have e1 := h1 d1
    subst e1
    have d2 : j2 = true := by simp [hd]
    have e2 := h2 d2
    subst e2
    have d3 : j3 = true := by simp [hd]
    have e3 := h3 d3
    subst e3
    have d4 : j4 = true := by simp [hd]
    have e4 := h4 d4
    subst e4
    have d5 : j5 = true := by simp [hd]
    have e5 := h5 d5
    subst e5
    have d6 : j6 = true := by simp [hd]
    have e6 := h6 d6
    subst e6
    have d7 : j7 = true := by simp [hd]
    have e7 := h7 d7
    subst e7
    have d8 : j8 = true := by simp [hd]
    have e8 := h8 d8
    subst e8
    have d9 : j9 = true := by simp [hd]
    have e9 := h9 d9
    subst e9
    have d10 : j10 = true := by simp [hd]
    have d11 : j11 = true := by simp [hd]
    subst d0
    subst d1
    subst d2
    subst d3
    subst d4
    subst d5
    subst d6
    subst d7
    subst d8
    subst d9
    subst d10
    subst d11
    refine wpOp_of rfl rfl ?_
    go_simp
    unfold s2I
    exact ⟨true, true, true, true, true, true, true, true, true, true, true, true, true, _, _, _, _, _, _, _, _, _, _, x10, _, rfl, rfl, hB, h0, h1, h2, h3, h4, h5, h6, h7, h8, h9, h10, fun _ => rfl, h12⟩
set_option maxHeartbeats 16000000 in
theorem s2_fin (ga gb gM c a0 a1 a2 a3 b0 b1 b2 b3 m0 m1 m2 m3 p0 p1 p2 p3 q0 q1 q2 q3 s0 s1 s2 s3 : Nat) (w : World) (KA : Bk 24 w ga #[.int .u64 (a0 : Int), .int .u64 (a1 : Int), .int .u64 (a2 : Int), .int .u64 (a3 : Int)]) (KB : Bk 24 w gb #[.int .u64 (b0 : Int), .int .u64 (b1 : Int), .int .u64 (b2 : Int), .int .u64 (b3 : Int)]) (KM : Bk 24 w gM #[.int .u64 (m0 : Int), .int .u64 (m1 : Int), .int .u64 (m2 : Int), .int .u64 (m3 : Int)])
    {t0 t1 t2 t3 t6 t10 t11 t22 t23 t24 t25 t26 t27 t28 t29 t30 : Value} {ds : List Deferred} : ∀ l a w', s2I w ga gb gM c a0 a1 a2 a3 b0 b1 b2 b3 m0 m1 m2 m3 p0 p1 p2 p3 q0 q1 q2 q3 s0 s1 s2 s3 t0 t1 t2 t3 t6 t10 t11 t22 t23 t24 t25 t26 t27 t28 t29 t30 ds l a w' → Region.ready .any (ops17 2) l = [] →
    ∃ (y0 y1 y2 y3 y4 y5 y6 y7 y8 y9 : Value) (g : Nat), a = { tmps := #[t0, t1, t2, t3, .pointer (some ⟨ga, 0, none⟩), .pointer (some ⟨gb, 0, none⟩), t6, .pointer (some ⟨gM, 0, none⟩), .pointer (some ⟨g, 0, none⟩), .int .u64 (c : Int), t10, t11, y7, y0, y1, y2, y3, y4, y5, y6, y8, y9, t22, t23, t24, t25, t26, t27, t28, t29, t30], defers := ds } ∧ Below w.heap.size w w' ∧ w.heap.size ≤ g ∧ Bk 24 w' g #[.int .u64 (s0 : Int), .int .u64 (s1 : Int), .int .u64 (s2 : Int), .int .u64 (s3 : Int)] := by
  simp only [ops17, findR, Tryz.f73, Option.bind_some, Option.or, Option.getD, Nat.reduceEqDiff, if_true, if_false, reduceIte]
  rintro l a w' ⟨j0, j1, j2, j3, j4, j5, j6, j7, j8, j9, j10, j11, j12, x0, x1, x2, x3, x4, x5, x6, x7, x8, x9, x10, x12, rfl, rfl, hB, h0, h1, h2, h3, h4, h5, h6, h7, h8, h9, h10, h11, h12⟩ hr
  have hn := fun i => List.eq_nil_iff_forall_not_mem.1 hr i
  clear hr
  cases j0; exact absurd (mem_ready.2 ⟨by simp, _, rfl, by simp [Region.binds]⟩) (hn 0)
  obtain rfl := h0 rfl
  cases j1; exact absurd (mem_ready.2 ⟨by simp, _, rfl, by simp [Region.binds]⟩) (hn 1)
  obtain rfl := h1 rfl
  cases j2; exact absurd (mem_ready.2 ⟨by simp, _, rfl, by simp [Region.binds]⟩) (hn 2)
  obtain rfl := h2 rfl
  cases j3; exact absurd (mem_ready.2 ⟨by simp, _, rfl, by simp [Region.binds]⟩) (hn 3)
  obtain rfl := h3 rfl
  cases j4; exact absurd (mem_ready.2 ⟨by simp, _, rfl, by simp [Region.binds]⟩) (hn 4)
  obtain rfl := h4 rfl
  cases j5; exact absurd (mem_ready.2 ⟨by simp, _, rfl, by simp [Region.binds]⟩) (hn 5)
  obtain rfl := h5 rfl
  cases j6; exact absurd (mem_ready.2 ⟨by simp, _, rfl, by simp [Region.binds]⟩) (hn 6)
  obtain rfl := h6 rfl
  cases j7; exact absurd (mem_ready.2 ⟨by simp, _, rfl, by simp [Region.binds]⟩) (hn 7)
  obtain rfl := h7 rfl
  cases j8; exact absurd (mem_ready.2 ⟨by simp, _, rfl, by simp [Region.binds]⟩) (hn 8)
  obtain rfl := h8 rfl
  cases j9; exact absurd (mem_ready.2 ⟨by simp, _, rfl, by simp [Region.binds]⟩) (hn 9)
  obtain rfl := h9 rfl
  cases j10; exact absurd (mem_ready.2 ⟨by simp, _, rfl, by simp [Region.binds]⟩) (hn 10)
  cases j11; exact absurd (mem_ready.2 ⟨by simp, _, rfl, by simp [Region.binds]⟩) (hn 11)
  cases j12; exact absurd (mem_ready.2 ⟨by simp, _, rfl, by simp [Region.binds]⟩) (hn 12)
  obtain rfl := h11 rfl
  obtain ⟨g, z0, z1, z2, z3, rfl, e2, e3, e4⟩ := h10 rfl
  rw [e4 rfl] at e3
  exact ⟨_, _, _, _, _, _, _, _, _, _, g, rfl, hB, e2, e3⟩
theorem s2 (ga gb gM c a0 a1 a2 a3 b0 b1 b2 b3 m0 m1 m2 m3 p0 p1 p2 p3 q0 q1 q2 q3 s0 s1 s2 s3 : Nat) (w : World) (KA : Bk 24 w ga #[.int .u64 (a0 : Int), .int .u64 (a1 : Int), .int .u64 (a2 : Int), .int .u64 (a3 : Int)]) (KB : Bk 24 w gb #[.int .u64 (b0 : Int), .int .u64 (b1 : Int), .int .u64 (b2 : Int), .int .u64 (b3 : Int)]) (KM : Bk 24 w gM #[.int .u64 (m0 : Int), .int .u64 (m1 : Int), .int .u64 (m2 : Int), .int .u64 (m3 : Int)]) (HA : Hid (∀ w, Calls Tryz.prog 132 #[.agg #[.int .u64 (a0 : Int), .int .u64 (a1 : Int), .int .u64 (a2 : Int), .int .u64 (a3 : Int)], .agg #[.int .u64 (m0 : Int), .int .u64 (m1 : Int), .int .u64 (m2 : Int), .int .u64 (m3 : Int)]] w fun e w' => e = .returned (.agg #[.int .u64 (p0 : Int), .int .u64 (p1 : Int), .int .u64 (p2 : Int), .int .u64 (p3 : Int)]) ∧ Below w.heap.size w w')) (HB : Hid (∀ w, Calls Tryz.prog 132 #[.agg #[.int .u64 (b0 : Int), .int .u64 (b1 : Int), .int .u64 (b2 : Int), .int .u64 (b3 : Int)], .agg #[.int .u64 (m0 : Int), .int .u64 (m1 : Int), .int .u64 (m2 : Int), .int .u64 (m3 : Int)]] w fun e w' => e = .returned (.agg #[.int .u64 (q0 : Int), .int .u64 (q1 : Int), .int .u64 (q2 : Int), .int .u64 (q3 : Int)]) ∧ Below w.heap.size w w')) (HC : Hid (∀ w, Calls Tryz.prog 131 #[.agg #[.int .u64 (p0 : Int), .int .u64 (p1 : Int), .int .u64 (p2 : Int), .int .u64 (p3 : Int)], .agg #[.int .u64 (q0 : Int), .int .u64 (q1 : Int), .int .u64 (q2 : Int), .int .u64 (q3 : Int)]] w fun e w' => e = .returned (.tuple #[.agg #[.int .u64 (s0 : Int), .int .u64 (s1 : Int), .int .u64 (s2 : Int), .int .u64 (s3 : Int)], .int .u64 (c : Int)]) ∧ Below w.heap.size w w'))
    {t0 t1 t2 t3 t6 t8 t9 t10 t11 t12 t13 t14 t15 t16 t17 t18 t19 t20 t21 t22 t23 t24 t25 t26 t27 t28 t29 t30 : Value} {ds : List Deferred} {K : Act → World → Prop} {Q : Exit → Act → World → Prop}
    (h : ∀ (y0 y1 y2 y3 y4 y5 y6 y7 y8 y9 : Value) (g : Nat) (w' : World) (hb : Below w.heap.size w w') (hg : w.heap.size ≤ g) (hk : Bk 24 w' g #[.int .u64 (s0 : Int), .int .u64 (s1 : Int), .int .u64 (s2 : Int), .int .u64 (s3 : Int)]), K { tmps := #[t0, t1, t2, t3, .pointer (some ⟨ga, 0, none⟩), .pointer (some ⟨gb, 0, none⟩), t6, .pointer (some ⟨gM, 0, none⟩), .pointer (some ⟨g, 0, none⟩), .int .u64 (c : Int), t10, t11, y7, y0, y1, y2, y3, y4, y5, y6, y8, y9, t22, t23, t24, t25, t26, t27, t28, t29, t30], defers := ds } w') :
    (Code.region 2 (ops17 2) true).wp Tryz.prog (Exit.then K Q) { tmps := #[t0, t1, t2, t3, .pointer (some ⟨ga, 0, none⟩), .pointer (some ⟨gb, 0, none⟩), t6, .pointer (some ⟨gM, 0, none⟩), t8, t9, t10, t11, t12, t13, t14, t15, t16, t17, t18, t19, t20, t21, t22, t23, t24, t25, t26, t27, t28, t29, t30], defers := ds } w := by
  have hsz : (ops17 2).size = 13 := by kernel_rfl
  refine wp_region_any mixed ?_
  rw [hsz]
  refine wpAny_inv (I := s2I w ga gb gM c a0 a1 a2 a3 b0 b1 b2 b3 m0 m1 m2 m3 p0 p1 p2 p3 q0 q1 q2 q3 s0 s1 s2 s3 t0 t1 t2 t3 t6 t10 t11 t22 t23 t24 t25 t26 t27 t28 t29 t30 ds) (s2_steps ga gb gM c a0 a1 a2 a3 b0 b1 b2 b3 m0 m1 m2 m3 p0 p1 p2 p3 q0 q1 q2 q3 s0 s1 s2 s3 w KA KB KM HA HB HC) (fun l a w' hI hr => ?_) 13 _ _ _ (by decide) ?_
  · obtain ⟨y0, y1, y2, y3, y4, y5, y6, y7, y8, y9, g, rfl, hb, hg, hk⟩ := s2_fin ga gb gM c a0 a1 a2 a3 b0 b1 b2 b3 m0 m1 m2 m3 p0 p1 p2 p3 q0 q1 q2 q3 s0 s1 s2 s3 w KA KB KM l a w' hI hr
    exact h _ _ _ _ _ _ _ _ _ _ g w' hb hg hk
  · exact ⟨false, false, false, false, false, false, false, false, false, false, false, false, false, t13, t14, t15, t16, t17, t18, t19, t12, t20, t21, t8, t9, rfl, rfl, ⟨rfl, rfl, rfl, Nat.le_refl _, fun _ _ => rfl⟩, (fun h => by cases h), (fun h => by cases h), (fun h => by cases h), (fun h => by cases h), (fun h => by cases h), (fun h => by cases h), (fun h => by cases h), (fun h => by cases h), (fun h => by cases h), (fun h => by cases h), (fun h => by cases h), (fun h => by cases h), (fun h => by cases h)⟩
theorem add_arith {a b M S c d bo : Nat} (hM : M < W256) (hM2 : W256 < 2 * M) (hS : S < W256) (h : S + W256 * c = a % M + b % M) (hd : d < W256) (hbo : bo ≤ 1) (he : d + M = S + W256 * bo) : (c < bo → S = (a + b) % M) ∧ (¬ c < bo → d = (a + b) % M) := by
  have h1 := Nat.mod_lt a (show 0 < M by unfold W256 at *; omega)
  have h2 := Nat.mod_lt b (show 0 < M by unfold W256 at *; omega)
  rw [Nat.add_mod]
  generalize a % M = x at *
  generalize b % M = y at *
  have h3 : (x + y) % M = if x + y < M then x + y else x + y - M := by
    split
    · exact Nat.mod_eq_of_lt (by assumption)
    · rw [Nat.mod_eq_sub_mod (by omega), Nat.mod_eq_of_lt (by omega)]
  rw [h3]
  unfold W256 at *
  constructor <;> intro h4 <;> split <;> omega
theorem sub_arith {a b M d bo : Nat} (hM : M < W256) (hM0 : 0 < M) (hd : d < W256) (hbo : bo ≤ 1) (he : d + b % M = a % M + W256 * bo) : (bo = 0 → d = (a + (M - b % M)) % M) ∧ (bo ≠ 0 → (d + M) % W256 = (a + (M - b % M)) % M) := by
  have h1 := Nat.mod_lt a hM0
  have h2 := Nat.mod_lt b hM0
  rw [Nat.add_mod]
  have h3 : (a % M + (M - b % M) % M) % M = if b % M ≤ a % M then a % M - b % M else a % M + M - b % M := by
    rw [← Nat.add_mod, ← Nat.mod_add_mod]
    generalize a % M = x at *
    generalize b % M = y at *
    split
    · rw [show x + (M - y) = (x - y) + M from by omega, Nat.add_mod_right, Nat.mod_eq_of_lt (by omega)]
    · rw [show x + (M - y) = x + M - y from by omega, Nat.mod_eq_of_lt (by omega)]
  rw [h3]
  generalize a % M = x at *
  generalize b % M = y at *
  unfold W256 at *
  constructor <;> intro h4 <;> split <;> omega
set_option maxHeartbeats 16000000 in
theorem add_any (m : Int) (a b : Nat) (ha : a < W256) (hb : b < W256) (w : World) :
    Calls Tryz.prog 141 #[.int .i64 m, nv a, nv b] w fun e w' => e = .returned (nv ((a + b) % md m)) ∧ Below w.heap.size w w' := by
  have hM := md_or m
  obtain ⟨hMW, hM2, hM3, hMp⟩ := md_lt hM
  have HM := Lib.hid (mod_any m)
  generalize md m = M at *
  have hap : a % M < W256 := Nat.lt_trans (Nat.mod_lt _ (by omega)) hMW
  have hbp : b % M < W256 := Nat.lt_trans (Nat.mod_lt _ (by omega)) hMW
  have HLA := Lib.hid (left_any a M ha hMW (by omega))
  have HLB := Lib.hid (left_any b M hb hMW (by omega))
  obtain ⟨S, hS⟩ : ∃ z, z = (a % M + b % M) % W256 := ⟨_, rfl⟩
  obtain ⟨c, hc⟩ : ∃ z, z = (a % M + b % M) / W256 := ⟨_, rfl⟩
  have hpl := plus_nv (a % M) (b % M) hap hbp
  rw [← hS, ← hc] at hpl
  have HPL := Lib.hid hpl
  have hSW : S < W256 := by rw [hS]; exact Nat.mod_lt _ (by decide)
  have hSe : S + W256 * c = a % M + b % M := by rw [hS, hc]; exact Nat.mod_add_div _ _
  obtain ⟨res, hres⟩ : ∃ z, z = (a + b) % M := ⟨_, rfl⟩
  rw [← hres]
  have HA := Lib.hid (And.intro hMW (And.intro hM2 (And.intro hSW (And.intro hSe hres))))
  clear hM hMW hM2 hM3 hMp ha hb hap hbp hS hc hpl hSW hSe hres
  simp only [nv, num] at HLA HLB HPL ⊢
  go_enter Tryz.func141, Tryz.ntmps141
  go_wp2_with fail
  refine (keep w.heap.size w (HM.out _) (by go_grown) (Nat.le_refl _)).mono ?_
  rintro e w1 ⟨rfl, hb, hk⟩
  have KA : Hid (Bk 24 w1 w.heap.size (cs4 a)) := Lib.hid (Bk.below (Bk.alloc (Bk.alloc (Bk.new rfl))) hk)
  have KB : Hid (Bk 24 w1 (w.heap.size + 1) (cs4 b)) := Lib.hid (Bk.below (Bk.alloc (Bk.new (by simp))) hk)
  have KR : Hid (Bk 24 w1 (w.heap.size + 1 + 1) cs0) := Lib.hid (Bk.below (Bk.new (by simp)) hk)
  have HB := Lib.hid hb
  clear hk hb HM
  simp only [nv, num]
  go_wp2_with fail
  refine a2 w.heap.size (w.heap.size + 1) w1.heap.size c (lb a 0) (lb a 1) (lb a 2) (lb a 3) (lb b 0) (lb b 1) (lb b 2) (lb b 3) (lb M 0) (lb M 1) (lb M 2) (lb M 3) (lb (a % M) 0) (lb (a % M) 1) (lb (a % M) 2) (lb (a % M) 3) (lb (b % M) 0) (lb (b % M) 1) (lb (b % M) 2) (lb (b % M) 3) (lb S 0) (lb S 1) (lb S 2) (lb S 3) _ (Bk.alloc KA.out) (Bk.alloc KB.out) (Bk.new rfl) HLA HLB HPL ?_
  intro _ _ _ _ _ _ _ _ _ _ g w2 hb2 hg2 hk2
  have K2R := Lib.hid (Bk.below (Bk.alloc KR.out) hb2)
  have K2M : Hid (Bk 24 w2 w1.heap.size (cs4 M)) := Lib.hid (Bk.below (Bk.new rfl) hb2)
  have K2S : Hid (Bk 24 w2 g (cs4 S)) := Lib.hid hk2
  have HB2 : Hid (Below w.heap.size w w2) := Lib.hid (Below.trans (by have hb := HB.out; have hs := hb.size; go_grown) (hb2.mono (by have hs := HB.out.size; simp; omega)))
  have HGE : Hid (g ≠ w.heap.size + 1 + 1 ∧ w.heap.size ≤ g) := Lib.hid (by
    have h1 := KR.out.lt
    have h2 := HB.out.size
    simp at hg2
    omega)
  clear hb2 hg2 hk2 KA KB KR HLA HLB HPL HB
  generalize w1.heap.size = gM at *
  generalize hgR : w.heap.size + 1 + 1 = gR at *
  obtain ⟨i0, i1, i2, i3⟩ := K2S.out.cells
  obtain ⟨j0, j1, j2, j3⟩ := K2M.out.cells
  go_wp2_with fail
  refine (keep w.heap.size w (minus_nv S M HA.out.2.2.1 HA.out.1 _) HB2.out (Nat.le_refl _)).mono ?_
  rintro e w3 ⟨⟨d, bo, hd, hbo, he, rfl⟩, hb, hk⟩
  have K3R := Lib.hid (K2R.out.below hk)
  have K3S := Lib.hid (K2S.out.below hk)
  have HB3 := Lib.hid hb
  have HF := Lib.hid (add_arith HA.out.1 HA.out.2.1 HA.out.2.2.1 HA.out.2.2.2.1 hd hbo he)
  clear hk hb hd hbo he i0 i1 i2 i3 j0 j1 j2 j3 K2R K2S K2M HB2
  simp only [nv, num]
  obtain ⟨i0, i1, i2, i3⟩ := K3S.out.cellsA
  obtain ⟨j0, j1, j2, j3⟩ := K3R.out.cellsA
  obtain ⟨f0, f1, f2, f3⟩ := K3R.out.frosA
  by_cases hcb : c < bo
  · have HV : Hid (S = res) := Lib.hid ((HF.out.1 hcb).trans HA.out.2.2.2.2.symm)
    have t1 : decide (c < bo) = true := by simp [hcb]
    clear hcb HF
    go_wp2_with fail
    refine ret_cell rfl gR S rfl (Bk.put K3R.out.alloc) rfl ⟨by rw [HV.out]; rfl, ?_⟩
    have hb := HB3.out
    have hs := hb.size
    have hg : w.heap.size ≤ gR := by omega
    go_grown
  · have HV : Hid (d = res) := Lib.hid ((HF.out.2 hcb).trans HA.out.2.2.2.2.symm)
    have t1 : decide (c < bo) = false := by simp; omega
    clear hcb HF
    go_wp2_with fail
    refine ret_cell rfl gR d rfl (Bk.put K3R.out.alloc) rfl ⟨by rw [HV.out]; rfl, ?_⟩
    have hb := HB3.out
    have hs := hb.size
    have hg : w.heap.size ≤ gR := by omega
    go_grown
set_option maxHeartbeats 16000000 in
theorem sub_any (m : Int) (a b : Nat) (ha : a < W256) (hb : b < W256) (w : World) :
    Calls Tryz.prog 73 #[.int .i64 m, nv a, nv b] w fun e w' => e = .returned (nv ((a + (md m - b % md m)) % md m)) ∧ Below w.heap.size w w' := by
  have hM := md_or m
  obtain ⟨hMW, hM2, hM3, hMp⟩ := md_lt hM
  have HM := Lib.hid (mod_any m)
  generalize md m = M at *
  have hap : a % M < W256 := Nat.lt_trans (Nat.mod_lt _ (by omega)) hMW
  have hbp : b % M < W256 := Nat.lt_trans (Nat.mod_lt _ (by omega)) hMW
  have HLA := Lib.hid (left_any a M ha hMW (by omega))
  have HLB := Lib.hid (left_any b M hb hMW (by omega))
  have hmn : ∃ d bo : Nat, d < W256 ∧ bo ≤ 1 ∧ d + b % M = a % M + W256 * bo ∧ ∀ w, Calls Tryz.prog 131 #[nv (a % M), nv (b % M)] w fun e w' => e = .returned (.tuple #[nv d, .int .u64 (bo : Int)]) ∧ Below w.heap.size w w' := by
    refine ⟨if a % M < b % M then a % M + W256 - b % M else a % M - b % M, if a % M < b % M then 1 else 0, ?_, ?_, ?_, fun w => ?_⟩
    · split <;> omega
    · split <;> omega
    · split <;> omega
    · refine (minus_nv (a % M) (b % M) hap hbp w).mono ?_
      rintro e w' ⟨⟨d, c, hd, hc, he, rfl⟩, hw⟩
      refine ⟨?_, hw⟩
      have h2 : c = if a % M < b % M then 1 else 0 := by
        generalize a % M = x at *
        generalize b % M = y at *
        unfold W256 at *
        split <;> omega
      have h1 : d = if a % M < b % M then a % M + W256 - b % M else a % M - b % M := by
        subst h2
        generalize a % M = x at *
        generalize b % M = y at *
        split at he <;> split <;> omega
      rw [← h1, ← h2]
  obtain ⟨d, bo, hd, hbo, he, hpl⟩ := hmn
  have HPL := Lib.hid hpl
  obtain ⟨res, hres⟩ : ∃ z, z = (a + (M - b % M)) % M := ⟨_, rfl⟩
  rw [← hres]
  have HF := Lib.hid (sub_arith hMW (by omega) hd hbo he)
  have HA := Lib.hid (And.intro hMW (And.intro hd hres))
  clear hM hMW hM2 hM3 hMp ha hb hap hbp hpl hres hd hbo he
  simp only [nv, num] at HLA HLB HPL ⊢
  go_enter Tryz.func73, Tryz.ntmps73
  go_wp2_with fail
  refine (keep w.heap.size w (HM.out _) (by go_grown) (Nat.le_refl _)).mono ?_
  rintro e w1 ⟨rfl, hb, hk⟩
  have KA : Hid (Bk 24 w1 w.heap.size (cs4 a)) := Lib.hid (Bk.below (Bk.alloc (Bk.alloc (Bk.new rfl))) hk)
  have KB : Hid (Bk 24 w1 (w.heap.size + 1) (cs4 b)) := Lib.hid (Bk.below (Bk.alloc (Bk.new (by simp))) hk)
  have KR : Hid (Bk 24 w1 (w.heap.size + 1 + 1) cs0) := Lib.hid (Bk.below (Bk.new (by simp)) hk)
  have HB := Lib.hid hb
  clear hk hb HM
  simp only [nv, num]
  go_wp2_with fail
  refine s2 w.heap.size (w.heap.size + 1) w1.heap.size bo (lb a 0) (lb a 1) (lb a 2) (lb a 3) (lb b 0) (lb b 1) (lb b 2) (lb b 3) (lb M 0) (lb M 1) (lb M 2) (lb M 3) (lb (a % M) 0) (lb (a % M) 1) (lb (a % M) 2) (lb (a % M) 3) (lb (b % M) 0) (lb (b % M) 1) (lb (b % M) 2) (lb (b % M) 3) (lb d 0) (lb d 1) (lb d 2) (lb d 3) _ (Bk.alloc KA.out) (Bk.alloc KB.out) (Bk.new rfl) HLA HLB HPL ?_
  intro _ _ _ _ _ _ _ _ _ _ g w2 hb2 hg2 hk2
  have K2R := Lib.hid (Bk.below (Bk.alloc KR.out) hb2)
  have K2M : Hid (Bk 24 w2 w1.heap.size (cs4 M)) := Lib.hid (Bk.below (Bk.new rfl) hb2)
  have K2S : Hid (Bk 24 w2 g (cs4 d)) := Lib.hid hk2
  have HB2 : Hid (Below w.heap.size w w2) := Lib.hid (Below.trans (by have hb := HB.out; have hs := hb.size; go_grown) (hb2.mono (by have hs := HB.out.size; simp; omega)))
  have HGE : Hid (g ≠ w.heap.size + 1 + 1 ∧ w.heap.size ≤ g) := Lib.hid (by
    have h1 := KR.out.lt
    have h2 := HB.out.size
    simp at hg2
    omega)
  clear hb2 hg2 hk2 KA KB KR HLA HLB HPL HB
  generalize w1.heap.size = gM at *
  generalize hgR : w.heap.size + 1 + 1 = gR at *
  by_cases hcb : bo = 0
  · have HV : Hid (d = res) := Lib.hid ((HF.out.1 hcb).trans HA.out.2.2.symm)
    subst hcb
    clear HF
    obtain ⟨i0, i1, i2, i3⟩ := K2S.out.cells
    obtain ⟨j0, j1, j2, j3⟩ := K2R.out.cells
    obtain ⟨f0, f1, f2, f3⟩ := K2R.out.fros
    go_wp2_with fail
    refine ret_cell rfl gR d rfl (Bk.put K2R.out) rfl ⟨by rw [HV.out]; rfl, ?_⟩
    have hb := HB2.out
    have hs := hb.size
    have hg : w.heap.size ≤ gR := by omega
    go_grown
  · have HV : Hid ((d + M) % W256 = res) := Lib.hid ((HF.out.2 hcb).trans HA.out.2.2.symm)
    have t1 : ((bo : Int) != 0) = true := by simp; omega
    clear hcb HF
    obtain ⟨i0, i1, i2, i3⟩ := K2S.out.cells
    obtain ⟨j0, j1, j2, j3⟩ := K2M.out.cells
    go_wp2_with fail
    refine (keep w.heap.size w (plus_nv d M HA.out.2.1 HA.out.1 _) HB2.out (Nat.le_refl _)).mono ?_
    rintro e w3 ⟨rfl, hb, hk⟩
    have K3R := Lib.hid (K2R.out.below hk)
    have K3S := Lib.hid (K2S.out.below hk)
    have HB3 := Lib.hid hb
    rw [HV.out]
    clear hk hb i0 i1 i2 i3 j0 j1 j2 j3 K2R K2S K2M HB2
    simp only [nv, num]
    obtain ⟨i0, i1, i2, i3⟩ := K3S.out.cells
    obtain ⟨y0, y1, y2, y3⟩ := K3S.out.fros
    obtain ⟨j0, j1, j2, j3⟩ := K3R.out.cells
    obtain ⟨f0, f1, f2, f3⟩ := K3R.out.fros
    have n1 : ¬ (g = gR) := HGE.out.1
    have n2 : ¬ (gR = g) := fun h => HGE.out.1 h.symm
    go_wp2_with fail
    refine ret_cell rfl gR res rfl (Bk.put (Bk.puto n2 K3R.out)) rfl ⟨rfl, ?_⟩
    have hb := HB3.out
    have hs := hb.size
    have hg : w.heap.size ≤ gR := by omega
    have hg2 := HGE.out.2
    go_grown
end Go.Proofs.YtpggkfdijmnmiaaGreat
namespace Go.Proofs.YtpggkfdijmnmiaaGreat
open Go.RowKit Go.Sort Limbs
theorem Bk.regrown {t : TypeId} {w : World} {g : Nat} {cs : Array Value} (h : Bk t w g cs) (d : Nat) (os : Array Obj) : Bk t (grow (redrawn w d) os) g cs := h.below (below_regrown w d os)
theorem mod_step (x c l M : Nat) : (x % M * c + l) % M = (x * c + l) % M := by
  rw [Nat.add_mod, Nat.mul_mod, Nat.mod_mod, ← Nat.mul_mod, ← Nat.add_mod]
theorem mul_any (m : Int) (a b : Nat) (ha : a < W256) (hb : b < W256) (w : World) :
    Calls Tryz.prog 156 #[.int .i64 m, nv a, nv b] w fun e w' => e = .returned (nv (a * b % md m)) ∧ Below w.heap.size w w' := by
  have hM := md_or m
  obtain ⟨hMW, hM2, hM3, hMp⟩ := md_lt hM
  have HM := Lib.hid (mod_any m)
  have HP := Lib.hid (product_nv a b ha hb)
  generalize md m = M at *
  have HA := Lib.hid (And.intro hM (And.intro hMW (And.intro hM2 hMp)))
  obtain ⟨ab, hab⟩ : ∃ z, z = a * b := ⟨_, rfl⟩
  rw [← hab] at HP ⊢
  obtain ⟨res, hres⟩ : ∃ z, z = ab % M := ⟨_, rfl⟩
  rw [← hres]
  have HRES := Lib.hid hres
  clear hres hab hM hMW hM2 hM3 hMp ha hb
  simp only [nv, num] at HP ⊢
  have HPa := HP
  go_enter Tryz.func156, Tryz.ntmps156
  go_wp2_with fail
  refine (keep w.heap.size w (HM.out _) (by go_grown) (Nat.le_refl _)).mono ?_
  rintro e w1 ⟨rfl, hb, hk⟩
  have KA : Hid (Bk 24 w1 w.heap.size (cs4 a)) := Lib.hid (Bk.below (Bk.alloc (Bk.alloc (Bk.new rfl))) hk)
  have KB : Hid (Bk 24 w1 (w.heap.size + 1) (cs4 b)) := Lib.hid (Bk.below (Bk.alloc (Bk.new (by simp))) hk)
  have KR : Hid (Bk 24 w1 (w.heap.size + 1 + 1) cs0) := Lib.hid (Bk.below (Bk.new (by simp)) hk)
  have HB := Lib.hid hb
  clear hk hb HM
  obtain ⟨i0, i1, i2, i3⟩ := KA.out.cellsA
  obtain ⟨j0, j1, j2, j3⟩ := KB.out.cellsA
  simp only [nv, num]
  go_wp2_with fail
  refine (keep w.heap.size w (HP.out _) (by have hb := HB.out; have hs := hb.size; go_grown) (Nat.le_refl _)).mono ?_
  rintro e w2 ⟨⟨l0, l1, l2, l3, l4, l5, l6, l7, hl, hh, he, rfl⟩, hb, hk⟩
  have K2R : Hid (Bk 24 w2 (w.heap.size + 1 + 1) cs0) := Lib.hid (Bk.below (Bk.alloc KR.out) hk)
  have K2M : Hid (Bk 24 w2 w1.heap.size (cs4 M)) := Lib.hid (Bk.below (Bk.new rfl) hk)
  have HL := Lib.hid hl
  have HH := Lib.hid hh
  have HE := Lib.hid he
  have HB2 := Lib.hid hb
  clear hk hb hl hh he i0 i1 i2 i3 j0 j1 j2 j3 KA KB KR HP
  unfold num8
  go_wp2_with fail
  have KL := Lib.hid (Bk.new (t := 208) (w := w2) (cs := #[.int .u64 (l0 : Int), .int .u64 (l1 : Int), .int .u64 (l2 : Int), .int .u64 (l3 : Int), .int .u64 (l4 : Int), .int .u64 (l5 : Int), .int .u64 (l6 : Int), .int .u64 (l7 : Int)]) rfl)
  have K3R := Lib.hid (Bk.alloc (o := .cells #[.int .u64 (l0 : Int), .int .u64 (l1 : Int), .int .u64 (l2 : Int), .int .u64 (l3 : Int), .int .u64 (l4 : Int), .int .u64 (l5 : Int), .int .u64 (l6 : Int), .int .u64 (l7 : Int)] 208) K2R.out)
  have K3M := Lib.hid (Bk.alloc (o := .cells #[.int .u64 (l0 : Int), .int .u64 (l1 : Int), .int .u64 (l2 : Int), .int .u64 (l3 : Int), .int .u64 (l4 : Int), .int .u64 (l5 : Int), .int .u64 (l6 : Int), .int .u64 (l7 : Int)] 208) K2M.out)
  have HB3 : Hid (Below w.heap.size w (w2.alloc (.cells #[.int .u64 (l0 : Int), .int .u64 (l1 : Int), .int .u64 (l2 : Int), .int .u64 (l3 : Int), .int .u64 (l4 : Int), .int .u64 (l5 : Int), .int .u64 (l6 : Int), .int .u64 (l7 : Int)] 208))) := Lib.hid (by have hb := HB2.out; have hs := hb.size; go_grown)
  clear K2R K2M HB2 HB
  generalize (w2.alloc (.cells #[.int .u64 (l0 : Int), .int .u64 (l1 : Int), .int .u64 (l2 : Int), .int .u64 (l3 : Int), .int .u64 (l4 : Int), .int .u64 (l5 : Int), .int .u64 (l6 : Int), .int .u64 (l7 : Int)] 208)) = W at KL K3R K3M HB3 ⊢
  generalize w2.heap.size = gl at KL ⊢
  generalize w1.heap.size = gM at K3M ⊢
  have hgl := KL.out.lt
  obtain ⟨R0, hR0⟩ : ∃ z, z = v4 l4 l5 l6 l7 % M := ⟨_, rfl⟩
  have HLE := Lib.hid (show ∀ w, Calls Tryz.prog 132 #[.agg #[.int .u64 (l4 : Int), .int .u64 (l5 : Int), .int .u64 (l6 : Int), .int .u64 (l7 : Int)], nv M] w fun e w' => e = .returned (nv R0) ∧ Below w.heap.size w w' from fun w => by
    have h8 := v4_lt HH.out.1 HH.out.2.1 HH.out.2.2.1 HH.out.2.2.2
    have := left_any (v4 l4 l5 l6 l7) M h8 HA.out.2.1 (by have := HA.out.2.2.1; omega) w
    rw [← nv_v4 HH.out.1 HH.out.2.1 HH.out.2.2.1 HH.out.2.2.2, ← hR0] at this
    exact this)
  have HR0 := Lib.hid hR0
  clear hR0
  refine m3 gl gM M l4 l5 l6 l7 R0 W hgl (KL.out.cell 4) (KL.out.cell 5) (KL.out.cell 6) (KL.out.cell 7) K3M.out HLE ?_
  intro _ _ _ _ _ g9 wq hb hg hk
  have K4L := Lib.hid (KL.out.below hb)
  have K4R := Lib.hid (K3R.out.below hb)
  have K4M := Lib.hid (K3M.out.below hb)
  have K49 := Lib.hid hk
  have HNE : Hid (gl ≠ g9 ∧ w.heap.size + 1 + 1 ≠ g9 ∧ gM ≠ g9 ∧ w.heap.size ≤ g9) := Lib.hid ⟨by omega, by have := K3R.out.lt; omega, by have := K3M.out.lt; omega, by have := HB3.out.size; omega⟩
  have HB4 := Lib.hid (HB3.out.trans (hb.mono HB3.out.size))
  clear KL K3R K3M HB3 hgl HLE hb hg hk
  generalize hgR : w.heap.size + 1 + 1 = gR at *
  go_wp2_with fail
  refine wp_loop_rounds 5 ?_
  rw [rounds_succ]
  go_wp2_with fail
  obtain ⟨R1, hR1⟩ : ∃ z, z = (R0 * 18446744073709551616 + l3) % M := ⟨_, rfl⟩
  have HC0 := Lib.hid (show ∀ w, Calls Tryz.prog 130 #[.agg (cs4 R0), .int .u64 (l3 : Int), .agg (cs4 M)] w fun e w' => e = .returned (nv R1) ∧ Below w.heap.size w w' from fun w => by
    have hp : 0 < M := by have := HA.out.2.2.2; omega
    have := behind_any R0 l3 M HA.out.1 (by rw [HR0.out]; exact Nat.mod_lt _ hp) HL.out.2.2.2 w
    rw [← hR1] at this
    exact this)
  have HR1 := Lib.hid hR1
  clear hR1
  have q3 : ∀ d os, (grow (redrawn wq d) os).cell? ⟨gl, 3, none⟩ = some (.int .u64 (l3 : Int)) := fun d os => (K4L.out.regrown d os).cell 3
  refine wp_region_below_tail 7 mixed (by kernel_rfl) ?_
  simp only [List.take_succ_cons, List.take_zero, List.drop_succ_cons, List.drop_zero]
  refine wpQuiet_load_row rfl 24 (.tmp 9) rfl g9 rfl 24 (cs4 R0) (0, 0) _ (fun w' hw' => heap_regrown K49.out hw') u24 rfl i24 ?_
  quiet_step (fail)
  iterate 3 go_big_quiet_step (fail)
  refine wpQuiet_load_row rfl 24 (.tmp 7) rfl gM rfl 24 (cs4 M) (0, 0) _ (fun w' hw' => heap_regrown K4M.out hw') u24 rfl i24 ?_
  quiet_step (exact qg HC0.out)
  refine wpQuiet_nil ?_
  intro _ hw'
  obtain ⟨⟨dq, osq⟩, hw''⟩ := hw'
  subst hw''
  have L4L := Lib.hid (K4L.out.regrown dq osq)
  have L4R := Lib.hid (K4R.out.regrown dq osq)
  have L4M := Lib.hid (K4M.out.regrown dq osq)
  have L49 := Lib.hid (K49.out.regrown dq osq)
  have HB5 := Lib.hid (HB4.out.trans ((below_regrown wq dq osq).mono HB4.out.size))
  clear K4L K4R K4M K49 HB4 q3 HC0
  generalize grow (redrawn wq dq) osq = v0 at L4L L4R L4M L49 HB5 ⊢
  obtain ⟨f0, f1, f2, f3⟩ := L49.out.fros
  obtain ⟨c0, c1, c2, c3⟩ := L49.out.cells
  simp only [nv, num, cs4] at c0 c1 c2 c3 ⊢
  go_wp2_with fail
  clear f0 f1 f2 f3 c0 c1 c2 c3
  have K4L : Hid (Bk 208 ((((v0.setCell ⟨g9, 0, none⟩ (.int .u64 (lb R1 0 : Nat))).setCell ⟨g9, 1, none⟩ (.int .u64 (lb R1 1 : Nat))).setCell ⟨g9, 2, none⟩ (.int .u64 (lb R1 2 : Nat))).setCell ⟨g9, 3, none⟩ (.int .u64 (lb R1 3 : Nat))) gl #[.int .u64 (l0 : Int), .int .u64 (l1 : Int), .int .u64 (l2 : Int), .int .u64 (l3 : Int), .int .u64 (l4 : Int), .int .u64 (l5 : Int), .int .u64 (l6 : Int), .int .u64 (l7 : Int)]) := Lib.hid (Bk.puto HNE.out.1 L4L.out)
  have K4R : Hid (Bk 24 ((((v0.setCell ⟨g9, 0, none⟩ (.int .u64 (lb R1 0 : Nat))).setCell ⟨g9, 1, none⟩ (.int .u64 (lb R1 1 : Nat))).setCell ⟨g9, 2, none⟩ (.int .u64 (lb R1 2 : Nat))).setCell ⟨g9, 3, none⟩ (.int .u64 (lb R1 3 : Nat))) gR cs0) := Lib.hid (Bk.puto HNE.out.2.1 L4R.out)
  have K4M : Hid (Bk 24 ((((v0.setCell ⟨g9, 0, none⟩ (.int .u64 (lb R1 0 : Nat))).setCell ⟨g9, 1, none⟩ (.int .u64 (lb R1 1 : Nat))).setCell ⟨g9, 2, none⟩ (.int .u64 (lb R1 2 : Nat))).setCell ⟨g9, 3, none⟩ (.int .u64 (lb R1 3 : Nat))) gM (cs4 M)) := Lib.hid (Bk.puto HNE.out.2.2.1 L4M.out)
  have K49 : Hid (Bk 24 ((((v0.setCell ⟨g9, 0, none⟩ (.int .u64 (lb R1 0 : Nat))).setCell ⟨g9, 1, none⟩ (.int .u64 (lb R1 1 : Nat))).setCell ⟨g9, 2, none⟩ (.int .u64 (lb R1 2 : Nat))).setCell ⟨g9, 3, none⟩ (.int .u64 (lb R1 3 : Nat))) g9 (cs4 R1)) := Lib.hid (Bk.put L49.out)
  have HB4 : Hid (Below w.heap.size w ((((v0.setCell ⟨g9, 0, none⟩ (.int .u64 (lb R1 0 : Nat))).setCell ⟨g9, 1, none⟩ (.int .u64 (lb R1 1 : Nat))).setCell ⟨g9, 2, none⟩ (.int .u64 (lb R1 2 : Nat))).setCell ⟨g9, 3, none⟩ (.int .u64 (lb R1 3 : Nat)))) := Lib.hid (by have hb := HB5.out; have h9 := HNE.out.2.2.2; go_grown)
  clear L4L L4R L4M L49 HB5
  generalize ((((v0.setCell ⟨g9, 0, none⟩ (.int .u64 (lb R1 0 : Nat))).setCell ⟨g9, 1, none⟩ (.int .u64 (lb R1 1 : Nat))).setCell ⟨g9, 2, none⟩ (.int .u64 (lb R1 2 : Nat))).setCell ⟨g9, 3, none⟩ (.int .u64 (lb R1 3 : Nat))) = wq1 at K4L K4R K4M K49 HB4 ⊢
  rw [rounds_succ]
  go_wp2_with fail
  obtain ⟨R2, hR2⟩ : ∃ z, z = (R1 * 18446744073709551616 + l2) % M := ⟨_, rfl⟩
  have HC1 := Lib.hid (show ∀ w, Calls Tryz.prog 130 #[.agg (cs4 R1), .int .u64 (l2 : Int), .agg (cs4 M)] w fun e w' => e = .returned (nv R2) ∧ Below w.heap.size w w' from fun w => by
    have hp : 0 < M := by have := HA.out.2.2.2; omega
    have := behind_any R1 l2 M HA.out.1 (by rw [HR1.out]; exact Nat.mod_lt _ hp) HL.out.2.2.1 w
    rw [← hR2] at this
    exact this)
  have HR2 := Lib.hid hR2
  clear hR2
  have q2 : ∀ d os, (grow (redrawn wq1 d) os).cell? ⟨gl, 2, none⟩ = some (.int .u64 (l2 : Int)) := fun d os => (K4L.out.regrown d os).cell 2
  refine wp_region_below_tail 7 mixed (by kernel_rfl) ?_
  simp only [List.take_succ_cons, List.take_zero, List.drop_succ_cons, List.drop_zero]
  refine wpQuiet_load_row rfl 24 (.tmp 9) rfl g9 rfl 24 (cs4 R1) (0, 0) _ (fun w' hw' => heap_regrown K49.out hw') u24 rfl i24 ?_
  quiet_step (fail)
  iterate 3 go_big_quiet_step (fail)
  refine wpQuiet_load_row rfl 24 (.tmp 7) rfl gM rfl 24 (cs4 M) (0, 0) _ (fun w' hw' => heap_regrown K4M.out hw') u24 rfl i24 ?_
  quiet_step (exact qg HC1.out)
  refine wpQuiet_nil ?_
  intro _ hw'
  obtain ⟨⟨dq, osq⟩, hw''⟩ := hw'
  subst hw''
  have L4L := Lib.hid (K4L.out.regrown dq osq)
  have L4R := Lib.hid (K4R.out.regrown dq osq)
  have L4M := Lib.hid (K4M.out.regrown dq osq)
  have L49 := Lib.hid (K49.out.regrown dq osq)
  have HB5 := Lib.hid (HB4.out.trans ((below_regrown wq1 dq osq).mono HB4.out.size))
  clear K4L K4R K4M K49 HB4 q2 HC1
  generalize grow (redrawn wq1 dq) osq = v1 at L4L L4R L4M L49 HB5 ⊢
  obtain ⟨f0, f1, f2, f3⟩ := L49.out.fros
  obtain ⟨c0, c1, c2, c3⟩ := L49.out.cells
  simp only [nv, num, cs4] at c0 c1 c2 c3 ⊢
  go_wp2_with fail
  clear f0 f1 f2 f3 c0 c1 c2 c3
  have K4L : Hid (Bk 208 ((((v1.setCell ⟨g9, 0, none⟩ (.int .u64 (lb R2 0 : Nat))).setCell ⟨g9, 1, none⟩ (.int .u64 (lb R2 1 : Nat))).setCell ⟨g9, 2, none⟩ (.int .u64 (lb R2 2 : Nat))).setCell ⟨g9, 3, none⟩ (.int .u64 (lb R2 3 : Nat))) gl #[.int .u64 (l0 : Int), .int .u64 (l1 : Int), .int .u64 (l2 : Int), .int .u64 (l3 : Int), .int .u64 (l4 : Int), .int .u64 (l5 : Int), .int .u64 (l6 : Int), .int .u64 (l7 : Int)]) := Lib.hid (Bk.puto HNE.out.1 L4L.out)
  have K4R : Hid (Bk 24 ((((v1.setCell ⟨g9, 0, none⟩ (.int .u64 (lb R2 0 : Nat))).setCell ⟨g9, 1, none⟩ (.int .u64 (lb R2 1 : Nat))).setCell ⟨g9, 2, none⟩ (.int .u64 (lb R2 2 : Nat))).setCell ⟨g9, 3, none⟩ (.int .u64 (lb R2 3 : Nat))) gR cs0) := Lib.hid (Bk.puto HNE.out.2.1 L4R.out)
  have K4M : Hid (Bk 24 ((((v1.setCell ⟨g9, 0, none⟩ (.int .u64 (lb R2 0 : Nat))).setCell ⟨g9, 1, none⟩ (.int .u64 (lb R2 1 : Nat))).setCell ⟨g9, 2, none⟩ (.int .u64 (lb R2 2 : Nat))).setCell ⟨g9, 3, none⟩ (.int .u64 (lb R2 3 : Nat))) gM (cs4 M)) := Lib.hid (Bk.puto HNE.out.2.2.1 L4M.out)
  have K49 : Hid (Bk 24 ((((v1.setCell ⟨g9, 0, none⟩ (.int .u64 (lb R2 0 : Nat))).setCell ⟨g9, 1, none⟩ (.int .u64 (lb R2 1 : Nat))).setCell ⟨g9, 2, none⟩ (.int .u64 (lb R2 2 : Nat))).setCell ⟨g9, 3, none⟩ (.int .u64 (lb R2 3 : Nat))) g9 (cs4 R2)) := Lib.hid (Bk.put L49.out)
  have HB4 : Hid (Below w.heap.size w ((((v1.setCell ⟨g9, 0, none⟩ (.int .u64 (lb R2 0 : Nat))).setCell ⟨g9, 1, none⟩ (.int .u64 (lb R2 1 : Nat))).setCell ⟨g9, 2, none⟩ (.int .u64 (lb R2 2 : Nat))).setCell ⟨g9, 3, none⟩ (.int .u64 (lb R2 3 : Nat)))) := Lib.hid (by have hb := HB5.out; have h9 := HNE.out.2.2.2; go_grown)
  clear L4L L4R L4M L49 HB5
  generalize ((((v1.setCell ⟨g9, 0, none⟩ (.int .u64 (lb R2 0 : Nat))).setCell ⟨g9, 1, none⟩ (.int .u64 (lb R2 1 : Nat))).setCell ⟨g9, 2, none⟩ (.int .u64 (lb R2 2 : Nat))).setCell ⟨g9, 3, none⟩ (.int .u64 (lb R2 3 : Nat))) = wq2 at K4L K4R K4M K49 HB4 ⊢
  rw [rounds_succ]
  go_wp2_with fail
  obtain ⟨R3, hR3⟩ : ∃ z, z = (R2 * 18446744073709551616 + l1) % M := ⟨_, rfl⟩
  have HC2 := Lib.hid (show ∀ w, Calls Tryz.prog 130 #[.agg (cs4 R2), .int .u64 (l1 : Int), .agg (cs4 M)] w fun e w' => e = .returned (nv R3) ∧ Below w.heap.size w w' from fun w => by
    have hp : 0 < M := by have := HA.out.2.2.2; omega
    have := behind_any R2 l1 M HA.out.1 (by rw [HR2.out]; exact Nat.mod_lt _ hp) HL.out.2.1 w
    rw [← hR3] at this
    exact this)
  have HR3 := Lib.hid hR3
  clear hR3
  have q1 : ∀ d os, (grow (redrawn wq2 d) os).cell? ⟨gl, 1, none⟩ = some (.int .u64 (l1 : Int)) := fun d os => (K4L.out.regrown d os).cell 1
  refine wp_region_below_tail 7 mixed (by kernel_rfl) ?_
  simp only [List.take_succ_cons, List.take_zero, List.drop_succ_cons, List.drop_zero]
  refine wpQuiet_load_row rfl 24 (.tmp 9) rfl g9 rfl 24 (cs4 R2) (0, 0) _ (fun w' hw' => heap_regrown K49.out hw') u24 rfl i24 ?_
  quiet_step (fail)
  iterate 3 go_big_quiet_step (fail)
  refine wpQuiet_load_row rfl 24 (.tmp 7) rfl gM rfl 24 (cs4 M) (0, 0) _ (fun w' hw' => heap_regrown K4M.out hw') u24 rfl i24 ?_
  quiet_step (exact qg HC2.out)
  refine wpQuiet_nil ?_
  intro _ hw'
  obtain ⟨⟨dq, osq⟩, hw''⟩ := hw'
  subst hw''
  have L4L := Lib.hid (K4L.out.regrown dq osq)
  have L4R := Lib.hid (K4R.out.regrown dq osq)
  have L4M := Lib.hid (K4M.out.regrown dq osq)
  have L49 := Lib.hid (K49.out.regrown dq osq)
  have HB5 := Lib.hid (HB4.out.trans ((below_regrown wq2 dq osq).mono HB4.out.size))
  clear K4L K4R K4M K49 HB4 q1 HC2
  generalize grow (redrawn wq2 dq) osq = v2 at L4L L4R L4M L49 HB5 ⊢
  obtain ⟨f0, f1, f2, f3⟩ := L49.out.fros
  obtain ⟨c0, c1, c2, c3⟩ := L49.out.cells
  simp only [nv, num, cs4] at c0 c1 c2 c3 ⊢
  go_wp2_with fail
  clear f0 f1 f2 f3 c0 c1 c2 c3
  have K4L : Hid (Bk 208 ((((v2.setCell ⟨g9, 0, none⟩ (.int .u64 (lb R3 0 : Nat))).setCell ⟨g9, 1, none⟩ (.int .u64 (lb R3 1 : Nat))).setCell ⟨g9, 2, none⟩ (.int .u64 (lb R3 2 : Nat))).setCell ⟨g9, 3, none⟩ (.int .u64 (lb R3 3 : Nat))) gl #[.int .u64 (l0 : Int), .int .u64 (l1 : Int), .int .u64 (l2 : Int), .int .u64 (l3 : Int), .int .u64 (l4 : Int), .int .u64 (l5 : Int), .int .u64 (l6 : Int), .int .u64 (l7 : Int)]) := Lib.hid (Bk.puto HNE.out.1 L4L.out)
  have K4R : Hid (Bk 24 ((((v2.setCell ⟨g9, 0, none⟩ (.int .u64 (lb R3 0 : Nat))).setCell ⟨g9, 1, none⟩ (.int .u64 (lb R3 1 : Nat))).setCell ⟨g9, 2, none⟩ (.int .u64 (lb R3 2 : Nat))).setCell ⟨g9, 3, none⟩ (.int .u64 (lb R3 3 : Nat))) gR cs0) := Lib.hid (Bk.puto HNE.out.2.1 L4R.out)
  have K4M : Hid (Bk 24 ((((v2.setCell ⟨g9, 0, none⟩ (.int .u64 (lb R3 0 : Nat))).setCell ⟨g9, 1, none⟩ (.int .u64 (lb R3 1 : Nat))).setCell ⟨g9, 2, none⟩ (.int .u64 (lb R3 2 : Nat))).setCell ⟨g9, 3, none⟩ (.int .u64 (lb R3 3 : Nat))) gM (cs4 M)) := Lib.hid (Bk.puto HNE.out.2.2.1 L4M.out)
  have K49 : Hid (Bk 24 ((((v2.setCell ⟨g9, 0, none⟩ (.int .u64 (lb R3 0 : Nat))).setCell ⟨g9, 1, none⟩ (.int .u64 (lb R3 1 : Nat))).setCell ⟨g9, 2, none⟩ (.int .u64 (lb R3 2 : Nat))).setCell ⟨g9, 3, none⟩ (.int .u64 (lb R3 3 : Nat))) g9 (cs4 R3)) := Lib.hid (Bk.put L49.out)
  have HB4 : Hid (Below w.heap.size w ((((v2.setCell ⟨g9, 0, none⟩ (.int .u64 (lb R3 0 : Nat))).setCell ⟨g9, 1, none⟩ (.int .u64 (lb R3 1 : Nat))).setCell ⟨g9, 2, none⟩ (.int .u64 (lb R3 2 : Nat))).setCell ⟨g9, 3, none⟩ (.int .u64 (lb R3 3 : Nat)))) := Lib.hid (by have hb := HB5.out; have h9 := HNE.out.2.2.2; go_grown)
  clear L4L L4R L4M L49 HB5
  generalize ((((v2.setCell ⟨g9, 0, none⟩ (.int .u64 (lb R3 0 : Nat))).setCell ⟨g9, 1, none⟩ (.int .u64 (lb R3 1 : Nat))).setCell ⟨g9, 2, none⟩ (.int .u64 (lb R3 2 : Nat))).setCell ⟨g9, 3, none⟩ (.int .u64 (lb R3 3 : Nat))) = wq3 at K4L K4R K4M K49 HB4 ⊢
  rw [rounds_succ]
  go_wp2_with fail
  obtain ⟨R4, hR4⟩ : ∃ z, z = (R3 * 18446744073709551616 + l0) % M := ⟨_, rfl⟩
  have HC3 := Lib.hid (show ∀ w, Calls Tryz.prog 130 #[.agg (cs4 R3), .int .u64 (l0 : Int), .agg (cs4 M)] w fun e w' => e = .returned (nv R4) ∧ Below w.heap.size w w' from fun w => by
    have hp : 0 < M := by have := HA.out.2.2.2; omega
    have := behind_any R3 l0 M HA.out.1 (by rw [HR3.out]; exact Nat.mod_lt _ hp) HL.out.1 w
    rw [← hR4] at this
    exact this)
  have HR4 := Lib.hid hR4
  clear hR4
  have q0 : ∀ d os, (grow (redrawn wq3 d) os).cell? ⟨gl, 0, none⟩ = some (.int .u64 (l0 : Int)) := fun d os => (K4L.out.regrown d os).cell 0
  refine wp_region_below_tail 7 mixed (by kernel_rfl) ?_
  simp only [List.take_succ_cons, List.take_zero, List.drop_succ_cons, List.drop_zero]
  refine wpQuiet_load_row rfl 24 (.tmp 9) rfl g9 rfl 24 (cs4 R3) (0, 0) _ (fun w' hw' => heap_regrown K49.out hw') u24 rfl i24 ?_
  quiet_step (fail)
  iterate 3 go_big_quiet_step (fail)
  refine wpQuiet_load_row rfl 24 (.tmp 7) rfl gM rfl 24 (cs4 M) (0, 0) _ (fun w' hw' => heap_regrown K4M.out hw') u24 rfl i24 ?_
  quiet_step (exact qg HC3.out)
  refine wpQuiet_nil ?_
  intro _ hw'
  obtain ⟨⟨dq, osq⟩, hw''⟩ := hw'
  subst hw''
  have L4L := Lib.hid (K4L.out.regrown dq osq)
  have L4R := Lib.hid (K4R.out.regrown dq osq)
  have L4M := Lib.hid (K4M.out.regrown dq osq)
  have L49 := Lib.hid (K49.out.regrown dq osq)
  have HB5 := Lib.hid (HB4.out.trans ((below_regrown wq3 dq osq).mono HB4.out.size))
  clear K4L K4R K4M K49 HB4 q0 HC3
  generalize grow (redrawn wq3 dq) osq = v3 at L4L L4R L4M L49 HB5 ⊢
  obtain ⟨f0, f1, f2, f3⟩ := L49.out.fros
  obtain ⟨c0, c1, c2, c3⟩ := L49.out.cells
  simp only [nv, num, cs4] at c0 c1 c2 c3 ⊢
  go_wp2_with fail
  clear f0 f1 f2 f3 c0 c1 c2 c3
  have K4L : Hid (Bk 208 ((((v3.setCell ⟨g9, 0, none⟩ (.int .u64 (lb R4 0 : Nat))).setCell ⟨g9, 1, none⟩ (.int .u64 (lb R4 1 : Nat))).setCell ⟨g9, 2, none⟩ (.int .u64 (lb R4 2 : Nat))).setCell ⟨g9, 3, none⟩ (.int .u64 (lb R4 3 : Nat))) gl #[.int .u64 (l0 : Int), .int .u64 (l1 : Int), .int .u64 (l2 : Int), .int .u64 (l3 : Int), .int .u64 (l4 : Int), .int .u64 (l5 : Int), .int .u64 (l6 : Int), .int .u64 (l7 : Int)]) := Lib.hid (Bk.puto HNE.out.1 L4L.out)
  have K4R : Hid (Bk 24 ((((v3.setCell ⟨g9, 0, none⟩ (.int .u64 (lb R4 0 : Nat))).setCell ⟨g9, 1, none⟩ (.int .u64 (lb R4 1 : Nat))).setCell ⟨g9, 2, none⟩ (.int .u64 (lb R4 2 : Nat))).setCell ⟨g9, 3, none⟩ (.int .u64 (lb R4 3 : Nat))) gR cs0) := Lib.hid (Bk.puto HNE.out.2.1 L4R.out)
  have K4M : Hid (Bk 24 ((((v3.setCell ⟨g9, 0, none⟩ (.int .u64 (lb R4 0 : Nat))).setCell ⟨g9, 1, none⟩ (.int .u64 (lb R4 1 : Nat))).setCell ⟨g9, 2, none⟩ (.int .u64 (lb R4 2 : Nat))).setCell ⟨g9, 3, none⟩ (.int .u64 (lb R4 3 : Nat))) gM (cs4 M)) := Lib.hid (Bk.puto HNE.out.2.2.1 L4M.out)
  have K49 : Hid (Bk 24 ((((v3.setCell ⟨g9, 0, none⟩ (.int .u64 (lb R4 0 : Nat))).setCell ⟨g9, 1, none⟩ (.int .u64 (lb R4 1 : Nat))).setCell ⟨g9, 2, none⟩ (.int .u64 (lb R4 2 : Nat))).setCell ⟨g9, 3, none⟩ (.int .u64 (lb R4 3 : Nat))) g9 (cs4 R4)) := Lib.hid (Bk.put L49.out)
  have HB4 : Hid (Below w.heap.size w ((((v3.setCell ⟨g9, 0, none⟩ (.int .u64 (lb R4 0 : Nat))).setCell ⟨g9, 1, none⟩ (.int .u64 (lb R4 1 : Nat))).setCell ⟨g9, 2, none⟩ (.int .u64 (lb R4 2 : Nat))).setCell ⟨g9, 3, none⟩ (.int .u64 (lb R4 3 : Nat)))) := Lib.hid (by have hb := HB5.out; have h9 := HNE.out.2.2.2; go_grown)
  clear L4L L4R L4M L49 HB5
  generalize ((((v3.setCell ⟨g9, 0, none⟩ (.int .u64 (lb R4 0 : Nat))).setCell ⟨g9, 1, none⟩ (.int .u64 (lb R4 1 : Nat))).setCell ⟨g9, 2, none⟩ (.int .u64 (lb R4 2 : Nat))).setCell ⟨g9, 3, none⟩ (.int .u64 (lb R4 3 : Nat))) = wq4 at K4L K4R K4M K49 HB4 ⊢
  rw [rounds_succ]
  have hgn : ¬ (g9 = gR) := fun h => HNE.out.2.1 h.symm
  have hgn2 : ¬ (gR = g9) := HNE.out.2.1
  obtain ⟨f0, f1, f2, f3⟩ := K4R.out.fros
  obtain ⟨c0, c1, c2, c3⟩ := K49.out.cells
  obtain ⟨e0, e1, e2, e3⟩ := K4R.out.cells
  go_wp2_with fail
  have hres : R4 = res := by
    have k1 := HR1.out
    rw [HR0.out, mod_step] at k1
    have k2 := HR2.out
    rw [k1, mod_step] at k2
    have k3 := HR3.out
    rw [k2, mod_step] at k3
    have k4 := HR4.out
    rw [k3, mod_step] at k4
    rw [HRES.out, ← HE.out, k4]
    congr 1
    unfold v4 W256
    omega
  subst hres
  refine ret_cell rfl gR R4 rfl (Bk.put K4R.out) rfl ⟨rfl, ?_⟩
  have hb := HB4.out
  have hg : w.heap.size ≤ gR := by omega
  go_grown
end Go.Proofs.YtpggkfdijmnmiaaGreat
