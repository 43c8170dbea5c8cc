import Derived.Test.YtglmmodkflkkkaaXTa
set_option linter.unusedVariables false
set_option linter.unusedSimpArgs false
set_option maxRecDepth 100000
namespace Go.Proofs.Ytglmmodkflkkkaa.Ref
open Go.RowKit Go.Proofs.Ytglmmodkflkkkaa.Digits Limbs Curve
theorem len_nv {w : World} {a : Option Addr} {n c x : Nat} (h : NV w (.slice a n c) x) : (((n : Nat) : Int) == 0) = decide (x = 0) ∧ (0 < n ↔ x ≠ 0) := by
  obtain ⟨r, ⟨g, cap, he, _⟩, _, ht, rfl⟩ := h
  injection he with _ e2 _
  subst e2
  refine ⟨row_len ht, ?_⟩
  have := row_len ht
  constructor
  · intro h h0
    rw [decide_eq_true h0] at this
    simp at this
    rw [this] at h
    simp at h
  · intro h
    rw [decide_eq_false h] at this
    simp at this
    exact List.length_pos_iff.2 this
def en5F (w0 : World) (gP gR xa ya iv iq : Nat) (nx cx ny cy nz cz : Nat) (ax ay az : Option Addr) (vi vq : Value) (t0 t5 t6 t7 t8 t9 t10 t11 t12 t13 t14 t15 : Value) (ds : List Deferred) (a : Act) (w : World) : Prop :=
  ∃ y0 y1 y2 y3 y4 y5 y6 y7 y8 y9 y10 : Value, ∃ wm : World, a = { tmps := #[t0, .pointer (some ⟨gP, 0, none⟩), .pointer (some ⟨gR, 0, none⟩), vi, vq, t5, t6, t7, t8, t9, t10, t11, t12, t13, t14, t15, y0, y1, y2, y3, y4, y5, y6, y7, y8, y9, y10], defers := ds } ∧ Below w0.heap.size w0 wm ∧ w = (World.setCell (World.setCell (World.setCell wm ⟨gR, 0, none⟩ (.bool false)) ⟨gR, 1, none⟩ (y3)) ⟨gR, 2, none⟩ (y9)) ∧ NV wm y3 (mj xa iq) ∧ NV wm y9 (mj ya (mj iq iv))
def en5I (w0 : World) (gP gR xa ya iv iq : Nat) (nx cx ny cy nz cz : Nat) (ax ay az : Option Addr) (vi vq : Value) (t0 t5 t6 t7 t8 t9 t10 t11 t12 t13 t14 t15 : Value) (ds : List Deferred) (l : Array Bool) (a : Act) (w : World) : Prop :=
  (l = #[true, true, true, true, true, true, true, true, true, true, true, true] ∧ en5F w0 gP gR xa ya iv iq nx cx ny cy nz cz ax ay az vi vq t0 t5 t6 t7 t8 t9 t10 t11 t12 t13 t14 t15 ds a w) ∨ (∃ j0 j1 j2 j3 j4 j5 j6 j7 j8 j9 j10 : Bool, ∃ x0 x1 x2 x3 x4 x5 x6 x7 x8 x9 x10 : Value, l = #[j0, j1, j2, j3, j4, j5, j6, j7, j8, j9, j10, false] ∧ a = { tmps := #[t0, .pointer (some ⟨gP, 0, none⟩), .pointer (some ⟨gR, 0, none⟩), vi, vq, t5, t6, t7, t8, t9, t10, t11, t12, t13, t14, t15, x0, x1, x2, x3, x4, x5, x6, x7, x8, x9, x10], defers := ds } ∧ Below w0.heap.size w0 w ∧
  (j0 = true → x0 = .pointer (some ⟨gP, 0, none⟩)) ∧ (j1 = true → x1 = .slice ax nx cx) ∧ (j2 = true → x2 = vq) ∧ (j3 = true → NV w x3 (mj xa iq)) ∧ (j4 = true → x4 = .pointer (some ⟨gP, 1, none⟩)) ∧ (j5 = true → x5 = .slice ay ny cy) ∧ (j6 = true → x6 = vq) ∧ (j7 = true → x7 = vi) ∧ (j8 = true → NV w x8 (mj iq iv)) ∧ (j9 = true → NV w x9 (mj ya (mj iq iv))) ∧ (j10 = true → x10 = .agg #[.bool false, x3, x9] ∧ j3 = true ∧ j9 = true))
noncomputable def en5O : Array Oper := (Try.f86.body.bind fun c => findR c 5).getD #[]
set_option maxHeartbeats 16000000 in
theorem en5_steps (gP gR xa ya iv iq : Nat) (nx cx ny cy nz cz : Nat) (ax ay az : Option Addr) (vi vq : Value) (w : World) (KP : Bk 101 w gP #[.slice ax nx cx, .slice ay ny cy, .slice az nz cz]) (KR : Bk 64 w gR #[.bool false, .slice none 0 0, .slice none 0 0]) (HX : xa < big) (HY : ya < big) (HI : iv < big) (HQ : iq < big) (NX : NV w (.slice ax nx cx) xa) (NY : NV w (.slice ay ny cy) ya) (NI : NV w vi iv) (NQ : NV w vq iq)
    {t0 t5 t6 t7 t8 t9 t10 t11 t12 t13 t14 t15 : Value} {ds : List Deferred} {Q : Exit → Act → World → Prop} :
    ∀ l a w', en5I w gP gR xa ya iv iq nx cx ny cy nz cz ax ay az vi vq t0 t5 t6 t7 t8 t9 t10 t11 t12 t13 t14 t15 ds l a w' → ∀ i ∈ Region.ready .any en5O l, wpOp Try.prog en5O Q i (fun a' w'' => en5I w gP gR xa ya iv iq nx cx ny cy nz cz ax ay az vi vq t0 t5 t6 t7 t8 t9 t10 t11 t12 t13 t14 t15 ds (l.setIfInBounds i true) a' w'') a w' := by
  simp only [en5O, findR, Try.f86, Option.bind_some, Option.or, Option.getD, Nat.reduceEqDiff, if_true, if_false, reduceIte]
  rintro l a w' hI i hi
  rw [mem_ready] at hi
  obtain ⟨hu, oo, ho, hd⟩ := hi
  have hin : i < 12 := by
    have := (Array.getElem?_eq_some_iff.1 ho).1
    simpa using this
  have hcase : i = 0 ∨ i = 1 ∨ i = 2 ∨ i = 3 ∨ i = 4 ∨ i = 5 ∨ i = 6 ∨ i = 7 ∨ i = 8 ∨ i = 9 ∨ i = 10 ∨ i = 11 := by omega
  rcases hI with ⟨rfl, hF⟩ | hI
  · exfalso
    rcases hcase with rfl | rfl | rfl | rfl | rfl | rfl | rfl | rfl | rfl | rfl | rfl | rfl <;> simp at hu
  obtain ⟨j0, j1, j2, j3, j4, j5, j6, j7, j8, j9, j10, x0, x1, x2, x3, x4, x5, x6, x7, x8, x9, x10, rfl, rfl, hB, h0, h1, h2, h3, h4, h5, h6, h7, h8, h9, h10⟩ := hI
  replace h0 := Lib.hid h0
  replace h1 := Lib.hid h1
  replace h2 := Lib.hid h2
  replace h3 := Lib.hid h3
  replace h4 := Lib.hid h4
  replace h5 := Lib.hid h5
  replace h6 := Lib.hid h6
  replace h7 := Lib.hid h7
  replace h8 := Lib.hid h8
  replace h9 := Lib.hid h9
  replace h10 := Lib.hid h10
  rcases hcase with rfl | rfl | rfl | rfl | rfl | rfl | rfl | rfl | rfl | rfl | rfl | rfl
  · obtain rfl := Option.some.inj ho
    simp [Region.binds] at hu hd
    clear hd
    refine wpOp_of rfl rfl ?_
    go_simp
    unfold en5I
    exact .inr ⟨true, j1, j2, j3, j4, j5, j6, j7, j8, j9, j10, _, x1, x2, x3, x4, x5, x6, x7, x8, x9, x10, rfl, rfl, hB, fun _ => rfl, h1.out, h2.out, h3.out, h4.out, h5.out, h6.out, h7.out, h8.out, h9.out, h10.out⟩
  · obtain rfl := Option.some.inj ho
    simp [Region.binds] at hu hd
    have d0 : j0 = true := by simp [hd]
    have e0 := h0.out d0
    subst e0
    subst d0
    clear hd
    refine wpOp_of rfl rfl ?_
    have i0 : w'.cell? ⟨gP, 0, none⟩ = some (.slice ax nx cx) := (KP.below hB).cell 0
    go_simp
    unfold en5I
    exact .inr ⟨true, true, j2, j3, j4, j5, j6, j7, j8, j9, j10, _, _, x2, x3, x4, x5, x6, x7, x8, x9, x10, rfl, rfl, hB, h0.out, fun _ => rfl, h2.out, h3.out, h4.out, h5.out, h6.out, h7.out, h8.out, h9.out, h10.out⟩
  · obtain rfl := Option.some.inj ho
    simp [Region.binds] at hu hd
    clear hd
    refine wpOp_of rfl rfl ?_
    go_simp
    unfold en5I
    exact .inr ⟨j0, j1, true, j3, j4, j5, j6, j7, j8, j9, j10, x0, x1, _, x3, x4, x5, x6, x7, x8, x9, x10, rfl, rfl, hB, h0.out, h1.out, fun _ => rfl, h3.out, h4.out, h5.out, h6.out, h7.out, h8.out, h9.out, h10.out⟩
  · obtain rfl := Option.some.inj ho
    simp [Region.binds] at hu hd
    have d1 : j1 = true := by simp [hd]
    have d2 : j2 = true := by simp [hd]
    have e1 := h1.out d1
    subst e1
    have e2 := h2.out d2
    subst e2
    subst d1
    subst d2
    clear hd
    refine wpOp_of rfl rfl ?_
    go_simp
    go_at_call 69
    refine (nk w.heap.size w (times_nv _ _ _ xa iq HX HQ (NX.below hB) (NQ.below hB)) hB (Nat.le_refl _)).mono ?_
    rintro e w2 ⟨v', rfl, hn', hB2, hb2⟩
    unfold en5I
    exact .inr ⟨j0, true, true, true, j4, j5, j6, j7, j8, j9, j10, x0, _, _, _, x4, x5, x6, x7, x8, x9, x10, rfl, rfl, hB2, h0.out, h1.out, h2.out, fun _ => hn', h4.out, h5.out, h6.out, h7.out, fun hj => (h8.out hj).below hb2, fun hj => (h9.out hj).below hb2, fun hj => absurd (h10.out hj).2.1 (by simp [hu])⟩
  · obtain rfl := Option.some.inj ho
    simp [Region.binds] at hu hd
    clear hd
    refine wpOp_of rfl rfl ?_
    go_simp
    unfold en5I
    exact .inr ⟨j0, j1, j2, j3, true, j5, j6, j7, j8, j9, j10, x0, x1, x2, x3, _, x5, x6, x7, x8, x9, x10, rfl, rfl, hB, h0.out, h1.out, h2.out, h3.out, fun _ => rfl, h5.out, h6.out, h7.out, h8.out, h9.out, h10.out⟩
  · obtain rfl := Option.some.inj ho
    simp [Region.binds] at hu hd
    have d4 : j4 = true := by simp [hd]
    have e4 := h4.out d4
    subst e4
    subst d4
    clear hd
    refine wpOp_of rfl rfl ?_
    have i1 : w'.cell? ⟨gP, 1, none⟩ = some (.slice ay ny cy) := (KP.below hB).cell 1
    go_simp
    unfold en5I
    exact .inr ⟨j0, j1, j2, j3, true, true, j6, j7, j8, j9, j10, x0, x1, x2, x3, _, _, x6, x7, x8, x9, x10, rfl, rfl, hB, h0.out, h1.out, h2.out, h3.out, h4.out, fun _ => rfl, h6.out, h7.out, h8.out, h9.out, h10.out⟩
  · obtain rfl := Option.some.inj ho
    simp [Region.binds] at hu hd
    clear hd
    refine wpOp_of rfl rfl ?_
    go_simp
    unfold en5I
    exact .inr ⟨j0, j1, j2, j3, j4, j5, true, j7, j8, j9, j10, x0, x1, x2, x3, x4, x5, _, x7, x8, x9, x10, rfl, rfl, hB, h0.out, h1.out, h2.out, h3.out, h4.out, h5.out, fun _ => rfl, h7.out, h8.out, h9.out, h10.out⟩
  · obtain rfl := Option.some.inj ho
    simp [Region.binds] at hu hd
    clear hd
    refine wpOp_of rfl rfl ?_
    go_simp
    unfold en5I
    exact .inr ⟨j0, j1, j2, j3, j4, j5, j6, true, j8, j9, j10, x0, x1, x2, x3, x4, x5, x6, _, x8, x9, x10, rfl, rfl, hB, h0.out, h1.out, h2.out, h3.out, h4.out, h5.out, h6.out, fun _ => rfl, h8.out, h9.out, h10.out⟩
  · obtain rfl := Option.some.inj ho
    simp [Region.binds] at hu hd
    have d3 : j3 = true := by simp [hd]
    have d6 : j6 = true := by simp [hd]
    have d7 : j7 = true := by simp [hd]
    have e6 := h6.out d6
    subst e6
    have e7 := h7.out d7
    subst e7
    subst d3
    subst d6
    subst d7
    clear hd
    refine wpOp_of rfl rfl ?_
    go_simp
    go_at_call 69
    refine (nk w.heap.size w (times_nv _ _ _ iq iv HQ HI (NQ.below hB) (NI.below hB)) hB (Nat.le_refl _)).mono ?_
    rintro e w2 ⟨v', rfl, hn', hB2, hb2⟩
    unfold en5I
    exact .inr ⟨j0, j1, j2, true, j4, j5, true, true, true, j9, j10, x0, x1, x2, x3, x4, x5, _, _, _, x9, x10, rfl, rfl, hB2, h0.out, h1.out, h2.out, fun hj => (h3.out hj).below hb2, h4.out, h5.out, h6.out, h7.out, fun _ => hn', fun hj => (h9.out hj).below hb2, h10.out⟩
  · obtain rfl := Option.some.inj ho
    simp [Region.binds] at hu hd
    have d5 : j5 = true := by simp [hd]
    have d8 : j8 = true := by simp [hd]
    have e5 := h5.out d5
    subst e5
    subst d5
    subst d8
    clear hd
    refine wpOp_of rfl rfl ?_
    go_simp
    go_at_call 69
    refine (nk w.heap.size w (times_nv _ _ _ ya (mj iq iv) HY (mj_b _ _) (NY.below hB) (h8.out rfl)) hB (Nat.le_refl _)).mono ?_
    rintro e w2 ⟨v', rfl, hn', hB2, hb2⟩
    unfold en5I
    exact .inr ⟨j0, j1, j2, j3, j4, true, j6, j7, true, true, j10, x0, x1, x2, x3, x4, _, x6, x7, x8, _, x10, rfl, rfl, hB2, h0.out, h1.out, h2.out, fun hj => (h3.out hj).below hb2, h4.out, h5.out, h6.out, h7.out, fun hj => (h8.out hj).below hb2, fun _ => hn', fun hj => absurd (h10.out hj).2.2 (by simp [hu])⟩
  · obtain rfl := Option.some.inj ho
    simp [Region.binds] at hu hd
    have d3 : j3 = true := by simp [hd]
    have d9 : j9 = true := by simp [hd]
    subst d3
    subst d9
    clear hd
    refine wpOp_of rfl rfl ?_
    obtain ⟨sa3, sn3, sc3, es3⟩ := (h3.out rfl).shape
    subst es3
    obtain ⟨sa9, sn9, sc9, es9⟩ := (h9.out rfl).shape
    subst es9
    go_simp
    unfold en5I
    exact .inr ⟨j0, j1, j2, true, j4, j5, j6, j7, j8, true, true, x0, x1, x2, _, x4, x5, x6, x7, x8, _, _, rfl, rfl, hB, h0.out, h1.out, h2.out, h3.out, h4.out, h5.out, h6.out, h7.out, h8.out, h9.out, fun _ => ⟨rfl, rfl, rfl⟩⟩
  · obtain rfl := Option.some.inj ho
    simp [Region.binds] at hu hd
    have d0 : j0 = true := by simp [hd]
    have d1 : j1 = true := by simp [hd]
    have d2 : j2 = true := by simp [hd]
    have d3 : j3 = true := by simp [hd]
    have d4 : j4 = true := by simp [hd]
    have d5 : j5 = true := by simp [hd]
    have d6 : j6 = true := by simp [hd]
    have d7 : j7 = true := by simp [hd]
    have d8 : j8 = true := by simp [hd]
    have d9 : j9 = true := by simp [hd]
    have d10 : j10 = true := by simp [hd]
    have e0 := h0.out d0
    subst e0
    have e1 := h1.out d1
    subst e1
    have e2 := h2.out d2
    subst e2
    have e4 := h4.out d4
    subst e4
    have e5 := h5.out d5
    subst e5
    have e6 := h6.out d6
    subst e6
    have e7 := h7.out d7
    subst e7
    have e10 := (h10.out d10).1
    subst e10
    subst d0
    subst d1
    subst d2
    subst d3
    subst d4
    subst d5
    subst d6
    subst d7
    subst d8
    subst d9
    subst d10
    clear hd
    refine wpOp_of rfl rfl ?_
    obtain ⟨sa3, sn3, sc3, es3⟩ := (h3.out rfl).shape
    subst es3
    obtain ⟨sa9, sn9, sc9, es9⟩ := (h9.out rfl).shape
    subst es9
    have c0 := (KR.below hB).cell 0
    have f0 := (KR.below hB).fro 0
    have c1 := (KR.below hB).cell 1
    have f1 := (KR.below hB).fro 1
    have c2 := (KR.below hB).cell 2
    have f2 := (KR.below hB).fro 2
    go_simp
    unfold en5I en5F
    exact .inl ⟨rfl, _, _, _, _, _, _, _, _, x8, _, _, _, rfl, hB, rfl, h3.out rfl, h9.out rfl⟩
set_option maxHeartbeats 16000000 in
theorem en5_fin (gP gR xa ya iv iq : Nat) (nx cx ny cy nz cz : Nat) (ax ay az : Option Addr) (vi vq : Value) (w : World) {t0 t5 t6 t7 t8 t9 t10 t11 t12 t13 t14 t15 : Value} {ds : List Deferred} : ∀ l a w1, en5I w gP gR xa ya iv iq nx cx ny cy nz cz ax ay az vi vq t0 t5 t6 t7 t8 t9 t10 t11 t12 t13 t14 t15 ds l a w1 → Region.ready .any en5O l = [] → en5F w gP gR xa ya iv iq nx cx ny cy nz cz ax ay az vi vq t0 t5 t6 t7 t8 t9 t10 t11 t12 t13 t14 t15 ds a w1 := by
  simp only [en5O, findR, Try.f86, Option.bind_some, Option.or, Option.getD, Nat.reduceEqDiff, if_true, if_false, reduceIte]
  rintro l a w1 hI hr
  rcases hI with ⟨rfl, hF⟩ | hI
  · exact hF
  obtain ⟨j0, j1, j2, j3, j4, j5, j6, j7, j8, j9, j10, x0, x1, x2, x3, x4, x5, x6, x7, x8, x9, x10, rfl, rfl, hB, h0, h1, h2, h3, h4, h5, h6, h7, h8, h9, h10⟩ := hI
  have hn := fun i => List.eq_nil_iff_forall_not_mem.1 hr i
  clear hr
  have d0 : j0 = true := by
    cases hj : j0
    · exact absurd (mem_ready.2 ⟨by simp [hj], _, rfl, by simp [Region.binds, hj]⟩) (hn 0)
    · rfl
  subst d0
  have d1 : j1 = true := by
    cases hj : j1
    · exact absurd (mem_ready.2 ⟨by simp [hj], _, rfl, by simp [Region.binds, hj]⟩) (hn 1)
    · rfl
  subst d1
  have d2 : j2 = true := by
    cases hj : j2
    · exact absurd (mem_ready.2 ⟨by simp [hj], _, rfl, by simp [Region.binds, hj]⟩) (hn 2)
    · rfl
  subst d2
  have d3 : j3 = true := by
    cases hj : j3
    · exact absurd (mem_ready.2 ⟨by simp [hj], _, rfl, by simp [Region.binds, hj]⟩) (hn 3)
    · rfl
  subst d3
  have d4 : j4 = true := by
    cases hj : j4
    · exact absurd (mem_ready.2 ⟨by simp [hj], _, rfl, by simp [Region.binds, hj]⟩) (hn 4)
    · rfl
  subst d4
  have d5 : j5 = true := by
    cases hj : j5
    · exact absurd (mem_ready.2 ⟨by simp [hj], _, rfl, by simp [Region.binds, hj]⟩) (hn 5)
    · rfl
  subst d5
  have d6 : j6 = true := by
    cases hj : j6
    · exact absurd (mem_ready.2 ⟨by simp [hj], _, rfl, by simp [Region.binds, hj]⟩) (hn 6)
    · rfl
  subst d6
  have d7 : j7 = true := by
    cases hj : j7
    · exact absurd (mem_ready.2 ⟨by simp [hj], _, rfl, by simp [Region.binds, hj]⟩) (hn 7)
    · rfl
  subst d7
  have d8 : j8 = true := by
    cases hj : j8
    · exact absurd (mem_ready.2 ⟨by simp [hj], _, rfl, by simp [Region.binds, hj]⟩) (hn 8)
    · rfl
  subst d8
  have d9 : j9 = true := by
    cases hj : j9
    · exact absurd (mem_ready.2 ⟨by simp [hj], _, rfl, by simp [Region.binds, hj]⟩) (hn 9)
    · rfl
  subst d9
  have d10 : j10 = true := by
    cases hj : j10
    · exact absurd (mem_ready.2 ⟨by simp [hj], _, rfl, by simp [Region.binds, hj]⟩) (hn 10)
    · rfl
  subst d10
  exact absurd (mem_ready.2 ⟨rfl, _, rfl, by simp [Region.binds]⟩) (hn 11)
theorem en5 (gP gR xa ya iv iq : Nat) (nx cx ny cy nz cz : Nat) (ax ay az : Option Addr) (vi vq : Value) (w : World) (KP : Bk 101 w gP #[.slice ax nx cx, .slice ay ny cy, .slice az nz cz]) (KR : Bk 64 w gR #[.bool false, .slice none 0 0, .slice none 0 0]) (HX : xa < big) (HY : ya < big) (HI : iv < big) (HQ : iq < big) (NX : NV w (.slice ax nx cx) xa) (NY : NV w (.slice ay ny cy) ya) (NI : NV w vi iv) (NQ : NV w vq iq) {t0 t5 t6 t7 t8 t9 t10 t11 t12 t13 t14 t15 t16 t17 t18 t19 t20 t21 t22 t23 t24 t25 t26 : Value} {ds : List Deferred} {K : Act → World → Prop} {Q : Exit → Act → World → Prop}
    (h : ∀ (y0 y1 y2 y3 y4 y5 y6 y7 y8 y9 y10 : Value) (w1 : World) (hb : Below w.heap.size w w1) (hn3 : NV w1 y3 (mj xa iq)) (hn9 : NV w1 y9 (mj ya (mj iq iv))), K { tmps := #[t0, .pointer (some ⟨gP, 0, none⟩), .pointer (some ⟨gR, 0, none⟩), vi, vq, t5, t6, t7, t8, t9, t10, t11, t12, t13, t14, t15, y0, y1, y2, y3, y4, y5, y6, y7, y8, y9, y10], defers := ds } (World.setCell (World.setCell (World.setCell w1 ⟨gR, 0, none⟩ (.bool false)) ⟨gR, 1, none⟩ (y3)) ⟨gR, 2, none⟩ (y9))) :
    (Code.region 5 en5O true).wp Try.prog (Exit.then K Q) { tmps := #[t0, .pointer (some ⟨gP, 0, none⟩), .pointer (some ⟨gR, 0, none⟩), vi, vq, t5, t6, t7, t8, t9, t10, t11, t12, t13, t14, t15, t16, t17, t18, t19, t20, t21, t22, t23, t24, t25, t26], defers := ds } w := by
  have hsz : en5O.size = 12 := by kernel_rfl
  refine wp_region_any (show Try.prog.follows .mixedOrders = true from by kernel_rfl) ?_
  rw [hsz]
  refine wpAny_inv (I := en5I w gP gR xa ya iv iq nx cx ny cy nz cz ax ay az vi vq t0 t5 t6 t7 t8 t9 t10 t11 t12 t13 t14 t15 ds) (en5_steps gP gR xa ya iv iq nx cx ny cy nz cz ax ay az vi vq w KP KR HX HY HI HQ NX NY NI NQ) (fun l a w' hI hr => ?_) 12 _ _ _ (by decide) ?_
  · obtain ⟨y0, y1, y2, y3, y4, y5, y6, y7, y8, y9, y10, wm, rfl, hb, rfl, hn3, hn9⟩ := en5_fin gP gR xa ya iv iq nx cx ny cy nz cz ax ay az vi vq w l a w' hI hr
    exact h _ _ _ _ _ _ _ _ _ _ _ _ hb hn3 hn9
  · exact .inr ⟨false, false, false, false, false, false, false, false, false, false, false, t16, t17, t18, t19, t20, t21, t22, t23, t24, t25, t26, rfl, rfl, ⟨rfl, rfl, rfl, Nat.le_refl _, fun _ _ => rfl⟩, (fun h => by cases h), (fun h => by cases h), (fun h => by cases h), (fun h => by cases h), (fun h => by cases h), (fun h => by cases h), (fun h => by cases h), (fun h => by cases h), (fun h => by cases h), (fun h => by cases h), (fun h => by cases h)⟩
theorem end7_far (w : World) : Calls Try.prog 86 #[.agg #[.slice none 0 0, .slice none 0 0, .slice none 0 0]] w fun e w' => ∃ v', e = .returned v' ∧ RP w' v' ⟨0, 0, true⟩ ∧ Below w.heap.size w w' := by
  go_enter Try.func86, Try.ntmps86
  go_wp2_with fail
  refine ret_cell64 rfl (w.heap.size + 1) (.bool true) (.slice none 0 0) (.slice none 0 0) rfl (Bk.new (by simp)) rfl ⟨_, rfl, ⟨_, _, _, _, _, _, rfl, fun h => by cases h⟩, ?_⟩
  go_grown
set_option maxHeartbeats 16000000 in
theorem end7 (v : Value) (p : J) (hp : p.lt) (hz : p.z ≠ 0) (w : World) (h : LR w v p) : Calls Try.prog 86 #[v] w fun e w' => ∃ v', e = .returned v' ∧ RP w' v' (endR p) ∧ Below w.heap.size w w' := by
  obtain ⟨xa, ya, za⟩ := p
  obtain ⟨ax, nx, cx, ay, ny, cy, az, nz, cz, rfl, hnx, hny, hnz⟩ := h
  have hl0 := (len_nv hnz).2.2 hz
  obtain ⟨m, rfl⟩ : ∃ m, nz = m + 1 := ⟨nz - 1, by omega⟩
  clear hl0
  have HBG : Hid (xa < big ∧ ya < big ∧ za < big) := Lib.hid ⟨mp_big hp.1, mp_big hp.2.1, mp_big hp.2.2⟩
  have HZM : Hid (za % mP ≠ 0) := Lib.hid (by rw [Nat.mod_eq_of_lt hp.2.2]; exact hz)
  have NX := Lib.hid hnx
  have NY := Lib.hid hny
  have NZ := Lib.hid hnz
  have HE : Hid (endR ⟨xa, ya, za⟩ = ⟨mj xa (mj (iN za) (iN za)), mj ya (mj (mj (iN za) (iN za)) (iN za)), false⟩) := Lib.hid rfl
  rw [HE.out]
  clear hp hnx hny hnz hz HE
  have HIV : Hid (iN za < big) := Lib.hid (mp_big (Nat.mod_lt _ (by decide +kernel)))
  go_enter Try.func86, Try.ntmps86
  go_wp2_with fail
  have KP : Hid (Bk 101 ((w.alloc (.cells #[.slice ax nx cx, .slice ay ny cy, .slice az (m + 1) cz] 101)).alloc (.cells #[.bool false, .slice none 0 0, .slice none 0 0] 64)) w.heap.size #[.slice ax nx cx, .slice ay ny cy, .slice az (m + 1) cz]) := Lib.hid (Bk.alloc (Bk.new rfl))
  have KR : Hid (Bk 64 ((w.alloc (.cells #[.slice ax nx cx, .slice ay ny cy, .slice az (m + 1) cz] 101)).alloc (.cells #[.bool false, .slice none 0 0, .slice none 0 0] 64)) (w.heap.size + 1) #[.bool false, .slice none 0 0, .slice none 0 0]) := Lib.hid (Bk.new (by simp))
  have HB : Hid (Below w.heap.size w ((w.alloc (.cells #[.slice ax nx cx, .slice ay ny cy, .slice az (m + 1) cz] 101)).alloc (.cells #[.bool false, .slice none 0 0, .slice none 0 0] 64))) := Lib.hid (by go_grown)
  obtain ⟨gR, hgR⟩ : ∃ g, g = w.heap.size + 1 := ⟨_, rfl⟩
  rw [← hgR] at KR ⊢
  have HG := Lib.hid (show w.heap.size ≤ gR by omega)
  clear hgR
  generalize ((w.alloc (.cells #[.slice ax nx cx, .slice ay ny cy, .slice az (m + 1) cz] 101)).alloc (.cells #[.bool false, .slice none 0 0, .slice none 0 0] 64)) = w0 at KP KR HB ⊢
  replace NX := Lib.hid (NX.out.below HB.out)
  replace NY := Lib.hid (NY.out.below HB.out)
  replace NZ := Lib.hid (NZ.out.below HB.out)
  obtain ⟨a0, a1, a2⟩ := Bk.cells3 KP.out
  go_wp2_with fail
  clear a0 a1 a2
  refine (nk w.heap.size w (inv_c _ _ za HBG.out.2.2 HZM.out NZ.out) HB.out (Nat.le_refl _)).mono ?_
  rintro e w1 ⟨vi, rfl, hn, hb, hk⟩
  replace KP := Lib.hid (KP.out.below hk)
  replace KR := Lib.hid (KR.out.below hk)
  replace NX := Lib.hid (NX.out.below hk)
  replace NY := Lib.hid (NY.out.below hk)
  replace NZ := Lib.hid (NZ.out.below hk)
  have NI := Lib.hid hn
  replace HB := Lib.hid hb
  clear hn hb hk
  go_wp2_with fail
  refine (nk w.heap.size w (times_nv _ _ _ (iN za) (iN za) HIV.out HIV.out NI.out NI.out) HB.out (Nat.le_refl _)).mono ?_
  rintro e w2 ⟨vq, rfl, hn, hb, hk⟩
  replace KP := Lib.hid (KP.out.below hk)
  replace KR := Lib.hid (KR.out.below hk)
  replace NX := Lib.hid (NX.out.below hk)
  replace NY := Lib.hid (NY.out.below hk)
  replace NZ := Lib.hid (NZ.out.below hk)
  replace NI := Lib.hid (NI.out.below hk)
  have NQ := Lib.hid hn
  replace HB := Lib.hid hb
  clear hn hb hk
  go_wp2_with fail
  refine en5 w.heap.size gR xa ya (iN za) (mj (iN za) (iN za)) nx cx ny cy (m + 1) cz ax ay az vi vq w2 KP.out KR.out HBG.out.1 HBG.out.2.1 HIV.out (mj_b _ _) NX.out NY.out NI.out NQ.out ?_
  intros
  rename_i y3 y4 y5 y6 y7 y8 y9 y10 wz hb1 hn3 hn9
  obtain ⟨a3, n3, c3, rfl⟩ := hn3.shape
  obtain ⟨a9, n9, c9, rfl⟩ := hn9.shape
  have K1 := Lib.hid (KR.out.below hb1)
  have HB1 := Lib.hid (HB.out.trans (hb1.mono HB.out.size))
  have HN := Lib.hid (And.intro (put3_ex (d := .bool false) (e := .slice a3 n3 c3) (f := .slice a9 n9 c9) hn3 K1.out) (put3_ex (d := .bool false) (e := .slice a3 n3 c3) (f := .slice a9 n9 c9) hn9 K1.out))
  clear hb1 hn3 hn9
  go_wp2_with fail
  refine ret_cell64 rfl gR (.bool false) (.slice a3 n3 c3) (.slice a9 n9 c9) rfl (Bk.put3 K1.out) rfl ⟨_, rfl, ⟨_, _, _, _, _, _, rfl, fun _ => HN.out⟩, ?_⟩
  have hb := HB1.out
  have hg := HG.out
  go_grown
end Go.Proofs.Ytglmmodkflkkkaa.Ref
