/- The point that one under way is, as the reference tells it (its end). Condition: its numbers are below P. The last drawn region of the reference's sum of a point under way and a point. Condition: its numbers are below 65536 to the 120. Three drawn regions of the reference's sum of a point under way and a point. Condition: its numbers are below 65536 to the 120. -/
import Derived.Test.YtpggkfdijmnmiaaGreatZup11
set_option linter.unusedVariables false
set_option linter.unusedSimpArgs false
set_option maxRecDepth 100000
namespace Go.Proofs.YtpggkfdijmnmiaaGreat.Ref
open Go.RowKit Go.Proofs.YtpggkfdijmnmiaaGreat.Digits Limbs Curve
theorem len_nv {w : World} {a : Option Addr} {n c x : Nat} (h : NV w (.slice a n c) x) : (((n : Nat) : Int) == 0) = decide (x = 0) ∧ (0 < n ↔ x ≠ 0) := by
  obtain ⟨r, ⟨g, cap, he, _⟩, _, ht, rfl⟩ := h
  injection he with _ e2 _
  subst e2
  refine ⟨row_len ht, ?_⟩
  have := row_len ht
  constructor
  · intro h h0
    rw [decide_eq_true h0] at this
    simp at this
    rw [this] at h
    simp at h
  · intro h
    rw [decide_eq_false h] at this
    simp at this
    exact List.length_pos_iff.2 this
def en5F (w0 : World) (gP gR xa ya iv iq : Nat) (nx cx ny cy nz cz : Nat) (ax ay az : Option Addr) (vi vq : Value) (t0 t5 t6 t7 t8 t9 t10 t11 t12 t13 t14 t15 : Value) (ds : List Deferred) (a : Act) (w : World) : Prop :=
  ∃ y0 y1 y2 y3 y4 y5 y6 y7 y8 y9 y10 : Value, ∃ wm : World, a = { tmps := #[t0, .pointer (some ⟨gP, 0, none⟩), .pointer (some ⟨gR, 0, none⟩), vi, vq, t5, t6, t7, t8, t9, t10, t11, t12, t13, t14, t15, y0, y1, y2, y3, y4, y5, y6, y7, y8, y9, y10], defers := ds } ∧ Below w0.heap.size w0 wm ∧ w = (World.setCell (World.setCell (World.setCell wm ⟨gR, 0, none⟩ (.bool false)) ⟨gR, 1, none⟩ (y3)) ⟨gR, 2, none⟩ (y9)) ∧ NV wm y3 (mj xa iq) ∧ NV wm y9 (mj ya (mj iq iv))
def en5I (w0 : World) (gP gR xa ya iv iq : Nat) (nx cx ny cy nz cz : Nat) (ax ay az : Option Addr) (vi vq : Value) (t0 t5 t6 t7 t8 t9 t10 t11 t12 t13 t14 t15 : Value) (ds : List Deferred) (l : Array Bool) (a : Act) (w : World) : Prop :=
  (l = #[true, true, true, true, true, true, true, true, true, true, true, true] ∧ en5F w0 gP gR xa ya iv iq nx cx ny cy nz cz ax ay az vi vq t0 t5 t6 t7 t8 t9 t10 t11 t12 t13 t14 t15 ds a w) ∨ (∃ j0 j1 j2 j3 j4 j5 j6 j7 j8 j9 j10 : Bool, ∃ x0 x1 x2 x3 x4 x5 x6 x7 x8 x9 x10 : Value, l = #[j0, j1, j2, j3, j4, j5, j6, j7, j8, j9, j10, false] ∧ a = { tmps := #[t0, .pointer (some ⟨gP, 0, none⟩), .pointer (some ⟨gR, 0, none⟩), vi, vq, t5, t6, t7, t8, t9, t10, t11, t12, t13, t14, t15, x0, x1, x2, x3, x4, x5, x6, x7, x8, x9, x10], defers := ds } ∧ Below w0.heap.size w0 w ∧
  (j0 = true → x0 = .pointer (some ⟨gP, 0, none⟩)) ∧ (j1 = true → x1 = .slice ax nx cx) ∧ (j2 = true → x2 = vq) ∧ (j3 = true → NV w x3 (mj xa iq)) ∧ (j4 = true → x4 = .pointer (some ⟨gP, 1, none⟩)) ∧ (j5 = true → x5 = .slice ay ny cy) ∧ (j6 = true → x6 = vq) ∧ (j7 = true → x7 = vi) ∧ (j8 = true → NV w x8 (mj iq iv)) ∧ (j9 = true → NV w x9 (mj ya (mj iq iv))) ∧ (j10 = true → x10 = .agg #[.bool false, x3, x9] ∧ j3 = true ∧ j9 = true))
noncomputable def en5O : Array Oper := (Tryz.f129.body.bind fun c => findR c 5).getD #[]
set_option maxHeartbeats 16000000 in
theorem en5_steps (gP gR xa ya iv iq : Nat) (nx cx ny cy nz cz : Nat) (ax ay az : Option Addr) (vi vq : Value) (w : World) (KP : Bk 150 w gP #[.slice ax nx cx, .slice ay ny cy, .slice az nz cz]) (KR : Bk 72 w gR #[.bool false, .slice none 0 0, .slice none 0 0]) (HX : xa < big) (HY : ya < big) (HI : iv < big) (HQ : iq < big) (NX : NV w (.slice ax nx cx) xa) (NY : NV w (.slice ay ny cy) ya) (NI : NV w vi iv) (NQ : NV w vq iq)
    {t0 t5 t6 t7 t8 t9 t10 t11 t12 t13 t14 t15 : Value} {ds : List Deferred} {Q : Exit → Act → World → Prop} :
    ∀ l a w', en5I w gP gR xa ya iv iq nx cx ny cy nz cz ax ay az vi vq t0 t5 t6 t7 t8 t9 t10 t11 t12 t13 t14 t15 ds l a w' → ∀ i ∈ Region.ready .any en5O l, wpOp Tryz.prog en5O Q i (fun a' w'' => en5I w gP gR xa ya iv iq nx cx ny cy nz cz ax ay az vi vq t0 t5 t6 t7 t8 t9 t10 t11 t12 t13 t14 t15 ds (l.setIfInBounds i true) a' w'') a w' := by
  simp only [en5O, findR, Tryz.f129, Option.bind_some, Option.or, Option.getD, Nat.reduceEqDiff, if_true, if_false, reduceIte]
  rintro l a w' hI i hi
  rw [mem_ready] at hi
  obtain ⟨hu, oo, ho, hd⟩ := hi
  have hin : i < 12 := by
    have := (Array.getElem?_eq_some_iff.1 ho).1
    simpa using this
  have hcase : i = 0 ∨ i = 1 ∨ i = 2 ∨ i = 3 ∨ i = 4 ∨ i = 5 ∨ i = 6 ∨ i = 7 ∨ i = 8 ∨ i = 9 ∨ i = 10 ∨ i = 11 := by omega
  rcases hI with ⟨rfl, hF⟩ | hI
  · exfalso
    rcases hcase with rfl | rfl | rfl | rfl | rfl | rfl | rfl | rfl | rfl | rfl | rfl | rfl <;> simp at hu
  obtain ⟨j0, j1, j2, j3, j4, j5, j6, j7, j8, j9, j10, x0, x1, x2, x3, x4, x5, x6, x7, x8, x9, x10, rfl, rfl, hB, h0, h1, h2, h3, h4, h5, h6, h7, h8, h9, h10⟩ := hI
  replace h0 := Lib.hid h0
  replace h1 := Lib.hid h1
  replace h2 := Lib.hid h2
  replace h3 := Lib.hid h3
  replace h4 := Lib.hid h4
  replace h5 := Lib.hid h5
  replace h6 := Lib.hid h6
  replace h7 := Lib.hid h7
  replace h8 := Lib.hid h8
  replace h9 := Lib.hid h9
  replace h10 := Lib.hid h10
  rcases hcase with rfl | rfl | rfl | rfl | rfl | rfl | rfl | rfl | rfl | rfl | rfl | rfl
  · obtain rfl := Option.some.inj ho
    simp [Region.binds] at hu hd
    clear hd
    refine wpOp_of rfl rfl ?_
    go_simp
    unfold en5I
    exact .inr ⟨true, j1, j2, j3, j4, j5, j6, j7, j8, j9, j10, _, x1, x2, x3, x4, x5, x6, x7, x8, x9, x10, rfl, rfl, hB, fun _ => rfl, h1.out, h2.out, h3.out, h4.out, h5.out, h6.out, h7.out, h8.out, h9.out, h10.out⟩
  · obtain rfl := Option.some.inj ho
    simp [Region.binds] at hu hd
    have d0 : j0 = true := by simp [hd]
    have e0 := h0.out d0
    subst e0
    subst d0
    clear hd
    refine wpOp_of rfl rfl ?_
    have i0 : w'.cell? ⟨gP, 0, none⟩ = some (.slice ax nx cx) := (KP.below hB).cell 0
    go_simp
    unfold en5I
    exact .inr ⟨true, true, j2, j3, j4, j5, j6, j7, j8, j9, j10, _, _, x2, x3, x4, x5, x6, x7, x8, x9, x10, rfl, rfl, hB, h0.out, fun _ => rfl, h2.out, h3.out, h4.out, h5.out, h6.out, h7.out, h8.out, h9.out, h10.out⟩
  · obtain rfl := Option.some.inj ho
    simp [Region.binds] at hu hd
    clear hd
    refine wpOp_of rfl rfl ?_
    go_simp
    unfold en5I
    exact .inr ⟨j0, j1, true, j3, j4, j5, j6, j7, j8, j9, j10, x0, x1, _, x3, x4, x5, x6, x7, x8, x9, x10, rfl, rfl, hB, h0.out, h1.out, fun _ => rfl, h3.out, h4.out, h5.out, h6.out, h7.out, h8.out, h9.out, h10.out⟩
  · obtain rfl := Option.some.inj ho
    simp [Region.binds] at hu hd
    have d1 : j1 = true := by simp [hd]
    have d2 : j2 = true := by simp [hd]
    have e1 := h1.out d1
    subst e1
    have e2 := h2.out d2
    subst e2
    subst d1
    subst d2
    clear hd
    refine wpOp_of rfl rfl ?_
    go_simp
    go_at_call 117
    refine (nk w.heap.size w (times_nv _ _ _ xa iq HX HQ (NX.below hB) (NQ.below hB)) hB (Nat.le_refl _)).mono ?_
    rintro e w2 ⟨v', rfl, hn', hB2, hb2⟩
    unfold en5I
    exact .inr ⟨j0, true, true, true, j4, j5, j6, j7, j8, j9, j10, x0, _, _, _, x4, x5, x6, x7, x8, x9, x10, rfl, rfl, hB2, h0.out, h1.out, h2.out, fun _ => hn', h4.out, h5.out, h6.out, h7.out, fun hj => (h8.out hj).below hb2, fun hj => (h9.out hj).below hb2, fun hj => absurd (h10.out hj).2.1 (by simp [hu])⟩
  · obtain rfl := Option.some.inj ho
    simp [Region.binds] at hu hd
    clear hd
    refine wpOp_of rfl rfl ?_
    go_simp
    unfold en5I
    exact .inr ⟨j0, j1, j2, j3, true, j5, j6, j7, j8, j9, j10, x0, x1, x2, x3, _, x5, x6, x7, x8, x9, x10, rfl, rfl, hB, h0.out, h1.out, h2.out, h3.out, fun _ => rfl, h5.out, h6.out, h7.out, h8.out, h9.out, h10.out⟩
  · obtain rfl := Option.some.inj ho
    simp [Region.binds] at hu hd
    have d4 : j4 = true := by simp [hd]
    have e4 := h4.out d4
    subst e4
    subst d4
    clear hd
    refine wpOp_of rfl rfl ?_
    have i1 : w'.cell? ⟨gP, 1, none⟩ = some (.slice ay ny cy) := (KP.below hB).cell 1
    go_simp
    unfold en5I
    exact .inr ⟨j0, j1, j2, j3, true, true, j6, j7, j8, j9, j10, x0, x1, x2, x3, _, _, x6, x7, x8, x9, x10, rfl, rfl, hB, h0.out, h1.out, h2.out, h3.out, h4.out, fun _ => rfl, h6.out, h7.out, h8.out, h9.out, h10.out⟩
  · obtain rfl := Option.some.inj ho
    simp [Region.binds] at hu hd
    clear hd
    refine wpOp_of rfl rfl ?_
    go_simp
    unfold en5I
    exact .inr ⟨j0, j1, j2, j3, j4, j5, true, j7, j8, j9, j10, x0, x1, x2, x3, x4, x5, _, x7, x8, x9, x10, rfl, rfl, hB, h0.out, h1.out, h2.out, h3.out, h4.out, h5.out, fun _ => rfl, h7.out, h8.out, h9.out, h10.out⟩
  · obtain rfl := Option.some.inj ho
    simp [Region.binds] at hu hd
    clear hd
    refine wpOp_of rfl rfl ?_
    go_simp
    unfold en5I
    exact .inr ⟨j0, j1, j2, j3, j4, j5, j6, true, j8, j9, j10, x0, x1, x2, x3, x4, x5, x6, _, x8, x9, x10, rfl, rfl, hB, h0.out, h1.out, h2.out, h3.out, h4.out, h5.out, h6.out, fun _ => rfl, h8.out, h9.out, h10.out⟩
  · obtain rfl := Option.some.inj ho
    simp [Region.binds] at hu hd
    have d3 : j3 = true := by simp [hd]
    have d6 : j6 = true := by simp [hd]
    have d7 : j7 = true := by simp [hd]
    have e6 := h6.out d6
    subst e6
    have e7 := h7.out d7
    subst e7
    subst d3
    subst d6
    subst d7
    clear hd
    refine wpOp_of rfl rfl ?_
    go_simp
    go_at_call 117
    refine (nk w.heap.size w (times_nv _ _ _ iq iv HQ HI (NQ.below hB) (NI.below hB)) hB (Nat.le_refl _)).mono ?_
    rintro e w2 ⟨v', rfl, hn', hB2, hb2⟩
    unfold en5I
    exact .inr ⟨j0, j1, j2, true, j4, j5, true, true, true, j9, j10, x0, x1, x2, x3, x4, x5, _, _, _, x9, x10, rfl, rfl, hB2, h0.out, h1.out, h2.out, fun hj => (h3.out hj).below hb2, h4.out, h5.out, h6.out, h7.out, fun _ => hn', fun hj => (h9.out hj).below hb2, h10.out⟩
  · obtain rfl := Option.some.inj ho
    simp [Region.binds] at hu hd
    have d5 : j5 = true := by simp [hd]
    have d8 : j8 = true := by simp [hd]
    have e5 := h5.out d5
    subst e5
    subst d5
    subst d8
    clear hd
    refine wpOp_of rfl rfl ?_
    go_simp
    go_at_call 117
    refine (nk w.heap.size w (times_nv _ _ _ ya (mj iq iv) HY (mj_b _ _) (NY.below hB) (h8.out rfl)) hB (Nat.le_refl _)).mono ?_
    rintro e w2 ⟨v', rfl, hn', hB2, hb2⟩
    unfold en5I
    exact .inr ⟨j0, j1, j2, j3, j4, true, j6, j7, true, true, j10, x0, x1, x2, x3, x4, _, x6, x7, x8, _, x10, rfl, rfl, hB2, h0.out, h1.out, h2.out, fun hj => (h3.out hj).below hb2, h4.out, h5.out, h6.out, h7.out, fun hj => (h8.out hj).below hb2, fun _ => hn', fun hj => absurd (h10.out hj).2.2 (by simp [hu])⟩
  · obtain rfl := Option.some.inj ho
    simp [Region.binds] at hu hd
    have d3 : j3 = true := by simp [hd]
    have d9 : j9 = true := by simp [hd]
    subst d3
    subst d9
    clear hd
    refine wpOp_of rfl rfl ?_
    obtain ⟨sa3, sn3, sc3, es3⟩ := (h3.out rfl).shape
    subst es3
    obtain ⟨sa9, sn9, sc9, es9⟩ := (h9.out rfl).shape
    subst es9
    go_simp
    unfold en5I
    exact .inr ⟨j0, j1, j2, true, j4, j5, j6, j7, j8, true, true, x0, x1, x2, _, x4, x5, x6, x7, x8, _, _, rfl, rfl, hB, h0.out, h1.out, h2.out, h3.out, h4.out, h5.out, h6.out, h7.out, h8.out, h9.out, fun _ => ⟨rfl, rfl, rfl⟩⟩
  · obtain rfl := Option.some.inj ho
    simp [Region.binds] at hu hd
    have d0 : j0 = true := by simp [hd]
    have d1 : j1 = true := by simp [hd]
    have d2 : j2 = true := by simp [hd]
    have d3 : j3 = true := by simp [hd]
    have d4 : j4 = true := by simp [hd]
    have d5 : j5 = true := by simp [hd]
    have d6 : j6 = true := by simp [hd]
    have d7 : j7 = true := by simp [hd]
    have d8 : j8 = true := by simp [hd]
    have d9 : j9 = true := by simp [hd]
    have d10 : j10 = true := by simp [hd]
    have e0 := h0.out d0
    subst e0
    have e1 := h1.out d1
    subst e1
    have e2 := h2.out d2
    subst e2
    have e4 := h4.out d4
    subst e4
    have e5 := h5.out d5
    subst e5
    have e6 := h6.out d6
    subst e6
    have e7 := h7.out d7
    subst e7
    have e10 := (h10.out d10).1
    subst e10
    subst d0
    subst d1
    subst d2
    subst d3
    subst d4
    subst d5
    subst d6
    subst d7
    subst d8
    subst d9
    subst d10
    clear hd
    refine wpOp_of rfl rfl ?_
    obtain ⟨sa3, sn3, sc3, es3⟩ := (h3.out rfl).shape
    subst es3
    obtain ⟨sa9, sn9, sc9, es9⟩ := (h9.out rfl).shape
    subst es9
    have c0 := (KR.below hB).cell 0
    have f0 := (KR.below hB).fro 0
    have c1 := (KR.below hB).cell 1
    have f1 := (KR.below hB).fro 1
    have c2 := (KR.below hB).cell 2
    have f2 := (KR.below hB).fro 2
    go_simp
    unfold en5I en5F
    exact .inl ⟨rfl, _, _, _, _, _, _, _, _, x8, _, _, _, rfl, hB, rfl, h3.out rfl, h9.out rfl⟩
set_option maxHeartbeats 16000000 in
theorem en5_fin (gP gR xa ya iv iq : Nat) (nx cx ny cy nz cz : Nat) (ax ay az : Option Addr) (vi vq : Value) (w : World) {t0 t5 t6 t7 t8 t9 t10 t11 t12 t13 t14 t15 : Value} {ds : List Deferred} : ∀ l a w1, en5I w gP gR xa ya iv iq nx cx ny cy nz cz ax ay az vi vq t0 t5 t6 t7 t8 t9 t10 t11 t12 t13 t14 t15 ds l a w1 → Region.ready .any en5O l = [] → en5F w gP gR xa ya iv iq nx cx ny cy nz cz ax ay az vi vq t0 t5 t6 t7 t8 t9 t10 t11 t12 t13 t14 t15 ds a w1 := by
  simp only [en5O, findR, Tryz.f129, Option.bind_some, Option.or, Option.getD, Nat.reduceEqDiff, if_true, if_false, reduceIte]
  rintro l a w1 hI hr
  rcases hI with ⟨rfl, hF⟩ | hI
  · exact hF
  obtain ⟨j0, j1, j2, j3, j4, j5, j6, j7, j8, j9, j10, x0, x1, x2, x3, x4, x5, x6, x7, x8, x9, x10, rfl, rfl, hB, h0, h1, h2, h3, h4, h5, h6, h7, h8, h9, h10⟩ := hI
  have hn := fun i => List.eq_nil_iff_forall_not_mem.1 hr i
  clear hr
  cases j0; exact absurd (mem_ready.2 ⟨by simp, _, rfl, by simp [Region.binds]⟩) (hn 0)
  cases j1; exact absurd (mem_ready.2 ⟨by simp, _, rfl, by simp [Region.binds]⟩) (hn 1)
  cases j2; exact absurd (mem_ready.2 ⟨by simp, _, rfl, by simp [Region.binds]⟩) (hn 2)
  cases j3; exact absurd (mem_ready.2 ⟨by simp, _, rfl, by simp [Region.binds]⟩) (hn 3)
  cases j4; exact absurd (mem_ready.2 ⟨by simp, _, rfl, by simp [Region.binds]⟩) (hn 4)
  cases j5; exact absurd (mem_ready.2 ⟨by simp, _, rfl, by simp [Region.binds]⟩) (hn 5)
  cases j6; exact absurd (mem_ready.2 ⟨by simp, _, rfl, by simp [Region.binds]⟩) (hn 6)
  cases j7; exact absurd (mem_ready.2 ⟨by simp, _, rfl, by simp [Region.binds]⟩) (hn 7)
  cases j8; exact absurd (mem_ready.2 ⟨by simp, _, rfl, by simp [Region.binds]⟩) (hn 8)
  cases j9; exact absurd (mem_ready.2 ⟨by simp, _, rfl, by simp [Region.binds]⟩) (hn 9)
  cases j10; exact absurd (mem_ready.2 ⟨by simp, _, rfl, by simp [Region.binds]⟩) (hn 10)
  exact absurd (mem_ready.2 ⟨rfl, _, rfl, by simp [Region.binds]⟩) (hn 11)
theorem en5 (gP gR xa ya iv iq : Nat) (nx cx ny cy nz cz : Nat) (ax ay az : Option Addr) (vi vq : Value) (w : World) (KP : Bk 150 w gP #[.slice ax nx cx, .slice ay ny cy, .slice az nz cz]) (KR : Bk 72 w gR #[.bool false, .slice none 0 0, .slice none 0 0]) (HX : xa < big) (HY : ya < big) (HI : iv < big) (HQ : iq < big) (NX : NV w (.slice ax nx cx) xa) (NY : NV w (.slice ay ny cy) ya) (NI : NV w vi iv) (NQ : NV w vq iq) {t0 t5 t6 t7 t8 t9 t10 t11 t12 t13 t14 t15 t16 t17 t18 t19 t20 t21 t22 t23 t24 t25 t26 : Value} {ds : List Deferred} {K : Act → World → Prop} {Q : Exit → Act → World → Prop}
    (h : ∀ (y0 y1 y2 y3 y4 y5 y6 y7 y8 y9 y10 : Value) (w1 : World) (hb : Below w.heap.size w w1) (hn3 : NV w1 y3 (mj xa iq)) (hn9 : NV w1 y9 (mj ya (mj iq iv))), K { tmps := #[t0, .pointer (some ⟨gP, 0, none⟩), .pointer (some ⟨gR, 0, none⟩), vi, vq, t5, t6, t7, t8, t9, t10, t11, t12, t13, t14, t15, y0, y1, y2, y3, y4, y5, y6, y7, y8, y9, y10], defers := ds } (World.setCell (World.setCell (World.setCell w1 ⟨gR, 0, none⟩ (.bool false)) ⟨gR, 1, none⟩ (y3)) ⟨gR, 2, none⟩ (y9))) :
    (Code.region 5 en5O true).wp Tryz.prog (Exit.then K Q) { tmps := #[t0, .pointer (some ⟨gP, 0, none⟩), .pointer (some ⟨gR, 0, none⟩), vi, vq, t5, t6, t7, t8, t9, t10, t11, t12, t13, t14, t15, t16, t17, t18, t19, t20, t21, t22, t23, t24, t25, t26], defers := ds } w := by
  have hsz : en5O.size = 12 := by kernel_rfl
  refine wp_region_any (show Tryz.prog.follows .mixedOrders = true from by kernel_rfl) ?_
  rw [hsz]
  refine wpAny_inv (I := en5I w gP gR xa ya iv iq nx cx ny cy nz cz ax ay az vi vq t0 t5 t6 t7 t8 t9 t10 t11 t12 t13 t14 t15 ds) (en5_steps gP gR xa ya iv iq nx cx ny cy nz cz ax ay az vi vq w KP KR HX HY HI HQ NX NY NI NQ) (fun l a w' hI hr => ?_) 12 _ _ _ (by decide) ?_
  · obtain ⟨y0, y1, y2, y3, y4, y5, y6, y7, y8, y9, y10, wm, rfl, hb, rfl, hn3, hn9⟩ := en5_fin gP gR xa ya iv iq nx cx ny cy nz cz ax ay az vi vq w l a w' hI hr
    exact h _ _ _ _ _ _ _ _ _ _ _ _ hb hn3 hn9
  · exact .inr ⟨false, false, false, false, false, false, false, false, false, false, false, t16, t17, t18, t19, t20, t21, t22, t23, t24, t25, t26, rfl, rfl, ⟨rfl, rfl, rfl, Nat.le_refl _, fun _ _ => rfl⟩, (fun h => by cases h), (fun h => by cases h), (fun h => by cases h), (fun h => by cases h), (fun h => by cases h), (fun h => by cases h), (fun h => by cases h), (fun h => by cases h), (fun h => by cases h), (fun h => by cases h), (fun h => by cases h)⟩
theorem end7_far (w : World) : Calls Tryz.prog 129 #[.agg #[.slice none 0 0, .slice none 0 0, .slice none 0 0]] w fun e w' => ∃ v', e = .returned v' ∧ RP w' v' ⟨0, 0, true⟩ ∧ Below w.heap.size w w' := by
  go_enter Tryz.func129, Tryz.ntmps129
  go_wp2_with fail
  refine ret_cell64 rfl (w.heap.size + 1) (.bool true) (.slice none 0 0) (.slice none 0 0) rfl (Bk.new (by simp)) rfl ⟨_, rfl, ⟨_, _, _, _, _, _, rfl, fun h => by cases h⟩, ?_⟩
  go_grown
set_option maxHeartbeats 16000000 in
theorem end7 (v : Value) (p : J) (hp : p.lt) (hz : p.z ≠ 0) (w : World) (h : LR w v p) : Calls Tryz.prog 129 #[v] w fun e w' => ∃ v', e = .returned v' ∧ RP w' v' (endR p) ∧ Below w.heap.size w w' := by
  obtain ⟨xa, ya, za⟩ := p
  obtain ⟨ax, nx, cx, ay, ny, cy, az, nz, cz, rfl, hnx, hny, hnz⟩ := h
  have hl0 := (len_nv hnz).2.2 hz
  obtain ⟨m, rfl⟩ : ∃ m, nz = m + 1 := ⟨nz - 1, by omega⟩
  clear hl0
  have HBG : Hid (xa < big ∧ ya < big ∧ za < big) := Lib.hid ⟨mp_big hp.1, mp_big hp.2.1, mp_big hp.2.2⟩
  have HZM : Hid (za % mP ≠ 0) := Lib.hid (by rw [Nat.mod_eq_of_lt hp.2.2]; exact hz)
  have NX := Lib.hid hnx
  have NY := Lib.hid hny
  have NZ := Lib.hid hnz
  have HE : Hid (endR ⟨xa, ya, za⟩ = ⟨mj xa (mj (iN za) (iN za)), mj ya (mj (mj (iN za) (iN za)) (iN za)), false⟩) := Lib.hid rfl
  rw [HE.out]
  clear hp hnx hny hnz hz HE
  have HIV : Hid (iN za < big) := Lib.hid (mp_big (Nat.mod_lt _ (by decide +kernel)))
  go_enter Tryz.func129, Tryz.ntmps129
  go_wp2_with fail
  have KP : Hid (Bk 150 ((w.alloc (.cells #[.slice ax nx cx, .slice ay ny cy, .slice az (m + 1) cz] 150)).alloc (.cells #[.bool false, .slice none 0 0, .slice none 0 0] 72)) w.heap.size #[.slice ax nx cx, .slice ay ny cy, .slice az (m + 1) cz]) := Lib.hid (Bk.alloc (Bk.new rfl))
  have KR : Hid (Bk 72 ((w.alloc (.cells #[.slice ax nx cx, .slice ay ny cy, .slice az (m + 1) cz] 150)).alloc (.cells #[.bool false, .slice none 0 0, .slice none 0 0] 72)) (w.heap.size + 1) #[.bool false, .slice none 0 0, .slice none 0 0]) := Lib.hid (Bk.new (by simp))
  have HB : Hid (Below w.heap.size w ((w.alloc (.cells #[.slice ax nx cx, .slice ay ny cy, .slice az (m + 1) cz] 150)).alloc (.cells #[.bool false, .slice none 0 0, .slice none 0 0] 72))) := Lib.hid (by go_grown)
  obtain ⟨gR, hgR⟩ : ∃ g, g = w.heap.size + 1 := ⟨_, rfl⟩
  rw [← hgR] at KR ⊢
  have HG := Lib.hid (show w.heap.size ≤ gR by omega)
  clear hgR
  generalize ((w.alloc (.cells #[.slice ax nx cx, .slice ay ny cy, .slice az (m + 1) cz] 150)).alloc (.cells #[.bool false, .slice none 0 0, .slice none 0 0] 72)) = w0 at KP KR HB ⊢
  replace NX := Lib.hid (NX.out.below HB.out)
  replace NY := Lib.hid (NY.out.below HB.out)
  replace NZ := Lib.hid (NZ.out.below HB.out)
  obtain ⟨a0, a1, a2⟩ := Bk.cells3 KP.out
  go_wp2_with fail
  clear a0 a1 a2
  refine (nk w.heap.size w (inv_c _ _ za HBG.out.2.2 HZM.out NZ.out) HB.out (Nat.le_refl _)).mono ?_
  rintro e w1 ⟨vi, rfl, hn, hb, hk⟩
  replace KP := Lib.hid (KP.out.below hk)
  replace KR := Lib.hid (KR.out.below hk)
  replace NX := Lib.hid (NX.out.below hk)
  replace NY := Lib.hid (NY.out.below hk)
  replace NZ := Lib.hid (NZ.out.below hk)
  have NI := Lib.hid hn
  replace HB := Lib.hid hb
  clear hn hb hk
  go_wp2_with fail
  refine (nk w.heap.size w (times_nv _ _ _ (iN za) (iN za) HIV.out HIV.out NI.out NI.out) HB.out (Nat.le_refl _)).mono ?_
  rintro e w2 ⟨vq, rfl, hn, hb, hk⟩
  replace KP := Lib.hid (KP.out.below hk)
  replace KR := Lib.hid (KR.out.below hk)
  replace NX := Lib.hid (NX.out.below hk)
  replace NY := Lib.hid (NY.out.below hk)
  replace NZ := Lib.hid (NZ.out.below hk)
  replace NI := Lib.hid (NI.out.below hk)
  have NQ := Lib.hid hn
  replace HB := Lib.hid hb
  clear hn hb hk
  go_wp2_with fail
  refine en5 w.heap.size gR xa ya (iN za) (mj (iN za) (iN za)) nx cx ny cy (m + 1) cz ax ay az vi vq w2 KP.out KR.out HBG.out.1 HBG.out.2.1 HIV.out (mj_b _ _) NX.out NY.out NI.out NQ.out ?_
  intros
  rename_i y3 y4 y5 y6 y7 y8 y9 y10 wz hb1 hn3 hn9
  obtain ⟨a3, n3, c3, rfl⟩ := hn3.shape
  obtain ⟨a9, n9, c9, rfl⟩ := hn9.shape
  have K1 := Lib.hid (KR.out.below hb1)
  have HB1 := Lib.hid (HB.out.trans (hb1.mono HB.out.size))
  have HN := Lib.hid (And.intro (put3_ex (d := .bool false) (e := .slice a3 n3 c3) (f := .slice a9 n9 c9) hn3 K1.out) (put3_ex (d := .bool false) (e := .slice a3 n3 c3) (f := .slice a9 n9 c9) hn9 K1.out))
  clear hb1 hn3 hn9
  go_wp2_with fail
  refine ret_cell64 rfl gR (.bool false) (.slice a3 n3 c3) (.slice a9 n9 c9) rfl (Bk.put3 K1.out) rfl ⟨_, rfl, ⟨_, _, _, _, _, _, rfl, fun _ => HN.out⟩, ?_⟩
  have hb := HB1.out
  have hg := HG.out
  go_grown
def mo9F (w0 : World) (tv : Value) (gP gR ya za hh rr kk vn xv n7 c7 : Nat) (nx cx ny cy nz cz : Nat) (ax ay az : Option Addr) (a7 : Option Addr) (vh vr vk vv : Value) (t0 t1 t3 t6 t9 t13 t14 t15 t16 t17 t18 t19 t20 t21 t22 t23 t24 t25 t26 t27 t28 t29 t30 t31 t32 t33 t34 t35 t36 t37 t38 t39 t40 t41 t42 t43 t44 t45 t46 t47 t48 t49 t50 t51 t52 t53 t54 t55 t56 t57 : Value) (ds : List Deferred) (a : Act) (w : World) : Prop :=
  ∃ y0 y1 y2 y3 y4 y5 y6 y7 y8 y9 y10 y11 y12 y13 y14 y15 : Value, ∃ wm : World, a = { tmps := #[t0, t1, .pointer (some ⟨gP, 0, none⟩), t3, .pointer (some ⟨gR, 0, none⟩), tv, t6, vh, vr, t9, vk, vv, .slice a7 n7 c7, t13, t14, t15, t16, t17, t18, t19, t20, t21, t22, t23, t24, t25, t26, t27, t28, t29, t30, t31, t32, t33, t34, t35, t36, t37, t38, t39, t40, t41, t42, t43, t44, t45, t46, t47, t48, t49, t50, t51, t52, t53, t54, t55, t56, t57, y0, y1, y2, y3, y4, y5, y6, y7, y8, y9, y10, y11, y12, y13, y14, y15], defers := ds } ∧ Below w0.heap.size w0 wm ∧ w = (World.setCell (World.setCell (World.setCell wm ⟨gR, 0, none⟩ (.slice a7 n7 c7)) ⟨gR, 1, none⟩ (y10)) ⟨gR, 2, none⟩ (y14)) ∧ NV wm y10 (sj (mj rr (sj vn xv)) (mj ya kk)) ∧ NV wm y14 (mj za hh)
def mo9I (w0 : World) (gP gR ya za hh rr kk vn xv n7 c7 : Nat) (nx cx ny cy nz cz : Nat) (ax ay az : Option Addr) (a7 : Option Addr) (vh vr vk vv : Value) (t0 t1 t3 t6 t9 t13 t14 t15 t16 t17 t18 t19 t20 t21 t22 t23 t24 t25 t26 t27 t28 t29 t30 t31 t32 t33 t34 t35 t36 t37 t38 t39 t40 t41 t42 t43 t44 t45 t46 t47 t48 t49 t50 t51 t52 t53 t54 t55 t56 t57 : Value) (ds : List Deferred) (l : Array Bool) (a : Act) (w : World) : Prop :=
  (l = #[true, true, true, true, true, true, true, true, true, true, true, true, true, true, true, true, true, true] ∧ mo9F w0 (.bool true) gP gR ya za hh rr kk vn xv n7 c7 nx cx ny cy nz cz ax ay az a7 vh vr vk vv t0 t1 t3 t6 t9 t13 t14 t15 t16 t17 t18 t19 t20 t21 t22 t23 t24 t25 t26 t27 t28 t29 t30 t31 t32 t33 t34 t35 t36 t37 t38 t39 t40 t41 t42 t43 t44 t45 t46 t47 t48 t49 t50 t51 t52 t53 t54 t55 t56 t57 ds a w) ∨ (l = #[true, true, true, true, true, true, true, true, true, true, true, true, true, true, true, true, true, false] ∧ mo9F w0 (.bool false) gP gR ya za hh rr kk vn xv n7 c7 nx cx ny cy nz cz ax ay az a7 vh vr vk vv t0 t1 t3 t6 t9 t13 t14 t15 t16 t17 t18 t19 t20 t21 t22 t23 t24 t25 t26 t27 t28 t29 t30 t31 t32 t33 t34 t35 t36 t37 t38 t39 t40 t41 t42 t43 t44 t45 t46 t47 t48 t49 t50 t51 t52 t53 t54 t55 t56 t57 ds a w) ∨ (∃ j0 j1 j2 j3 j4 j5 j6 j7 j8 j9 j10 j11 j12 j13 j14 j15 : Bool, ∃ x0 x1 x2 x3 x4 x5 x6 x7 x8 x9 x10 x11 x12 x13 x14 x15 : Value, l = #[j0, j1, j2, j3, j4, j5, j6, j7, j8, j9, j10, j11, j12, j13, j14, j15, false, false] ∧ a = { tmps := #[t0, t1, .pointer (some ⟨gP, 0, none⟩), t3, .pointer (some ⟨gR, 0, none⟩), .bool false, t6, vh, vr, t9, vk, vv, .slice a7 n7 c7, t13, t14, t15, t16, t17, t18, t19, t20, t21, t22, t23, t24, t25, t26, t27, t28, t29, t30, t31, t32, t33, t34, t35, t36, t37, t38, t39, t40, t41, t42, t43, t44, t45, t46, t47, t48, t49, t50, t51, t52, t53, t54, t55, t56, t57, x0, x1, x2, x3, x4, x5, x6, x7, x8, x9, x10, x11, x12, x13, x14, x15], defers := ds } ∧ Below w0.heap.size w0 w ∧
  (j0 = true → x0 = .slice a7 n7 c7) ∧ (j1 = true → x1 = vr) ∧ (j2 = true → x2 = vv) ∧ (j3 = true → x3 = .slice a7 n7 c7) ∧ (j4 = true → NV w x4 (sj vn xv)) ∧ (j5 = true → NV w x5 (mj rr (sj vn xv))) ∧ (j6 = true → x6 = .pointer (some ⟨gP, 1, none⟩)) ∧ (j7 = true → x7 = .slice ay ny cy) ∧ (j8 = true → x8 = vk) ∧ (j9 = true → NV w x9 (mj ya kk)) ∧ (j10 = true → NV w x10 (sj (mj rr (sj vn xv)) (mj ya kk))) ∧ (j11 = true → x11 = .pointer (some ⟨gP, 2, none⟩)) ∧ (j12 = true → x12 = .slice az nz cz) ∧ (j13 = true → x13 = vh) ∧ (j14 = true → NV w x14 (mj za hh)) ∧ (j15 = true → x15 = .agg #[.slice a7 n7 c7, x10, x14] ∧ j10 = true ∧ j14 = true))
noncomputable def mo9O : Array Oper := (Tryz.f128.body.bind fun c => findR c 9).getD #[]
set_option maxHeartbeats 16000000 in
theorem mo9_steps (gP gR ya za hh rr kk vn xv n7 c7 : Nat) (nx cx ny cy nz cz : Nat) (ax ay az : Option Addr) (a7 : Option Addr) (vh vr vk vv : Value) (w : World) (KP : Bk 150 w gP #[.slice ax nx cx, .slice ay ny cy, .slice az nz cz]) (KR : Bk 150 w gR #[.slice none 0 0, .slice none 0 0, .slice none 0 0]) (HY : ya < big) (HZ : za < big) (HH : hh < big) (HR : rr < big) (HK : kk < big) (HV : vn < big) (HX : xv < big) (NY : NV w (.slice ay ny cy) ya) (NZ : NV w (.slice az nz cz) za) (NH : NV w vh hh) (NR : NV w vr rr) (NK : NV w vk kk) (NW : NV w vv vn) (N7 : NV w (.slice a7 n7 c7) xv)
    {t0 t1 t3 t6 t9 t13 t14 t15 t16 t17 t18 t19 t20 t21 t22 t23 t24 t25 t26 t27 t28 t29 t30 t31 t32 t33 t34 t35 t36 t37 t38 t39 t40 t41 t42 t43 t44 t45 t46 t47 t48 t49 t50 t51 t52 t53 t54 t55 t56 t57 : Value} {ds : List Deferred} {Q : Exit → Act → World → Prop} :
    ∀ l a w', mo9I w gP gR ya za hh rr kk vn xv n7 c7 nx cx ny cy nz cz ax ay az a7 vh vr vk vv t0 t1 t3 t6 t9 t13 t14 t15 t16 t17 t18 t19 t20 t21 t22 t23 t24 t25 t26 t27 t28 t29 t30 t31 t32 t33 t34 t35 t36 t37 t38 t39 t40 t41 t42 t43 t44 t45 t46 t47 t48 t49 t50 t51 t52 t53 t54 t55 t56 t57 ds l a w' → ∀ i ∈ Region.ready .any mo9O l, wpOp Tryz.prog mo9O Q i (fun a' w'' => mo9I w gP gR ya za hh rr kk vn xv n7 c7 nx cx ny cy nz cz ax ay az a7 vh vr vk vv t0 t1 t3 t6 t9 t13 t14 t15 t16 t17 t18 t19 t20 t21 t22 t23 t24 t25 t26 t27 t28 t29 t30 t31 t32 t33 t34 t35 t36 t37 t38 t39 t40 t41 t42 t43 t44 t45 t46 t47 t48 t49 t50 t51 t52 t53 t54 t55 t56 t57 ds (l.setIfInBounds i true) a' w'') a w' := by
  simp only [mo9O, findR, Tryz.f128, Option.bind_some, Option.or, Option.getD, Nat.reduceEqDiff, if_true, if_false, reduceIte]
  rintro l a w' hI i hi
  rw [mem_ready] at hi
  obtain ⟨hu, oo, ho, hd⟩ := hi
  have hin : i < 18 := by
    have := (Array.getElem?_eq_some_iff.1 ho).1
    simpa using this
  have hcase : i = 0 ∨ i = 1 ∨ i = 2 ∨ i = 3 ∨ i = 4 ∨ i = 5 ∨ i = 6 ∨ i = 7 ∨ i = 8 ∨ i = 9 ∨ i = 10 ∨ i = 11 ∨ i = 12 ∨ i = 13 ∨ i = 14 ∨ i = 15 ∨ i = 16 ∨ i = 17 := by omega
  rcases hI with ⟨rfl, hF⟩ | ⟨rfl, hF⟩ | hI
  · exfalso
    rcases hcase with rfl | rfl | rfl | rfl | rfl | rfl | rfl | rfl | rfl | rfl | rfl | rfl | rfl | rfl | rfl | rfl | rfl | rfl <;> simp at hu
  · rcases hcase with rfl | rfl | rfl | rfl | rfl | rfl | rfl | rfl | rfl | rfl | rfl | rfl | rfl | rfl | rfl | rfl | rfl | rfl
    · simp at hu
    · simp at hu
    · simp at hu
    · simp at hu
    · simp at hu
    · simp at hu
    · simp at hu
    · simp at hu
    · simp at hu
    · simp at hu
    · simp at hu
    · simp at hu
    · simp at hu
    · simp at hu
    · simp at hu
    · simp at hu
    · simp at hu
    · obtain rfl := Option.some.inj ho
      clear hd
      unfold mo9F at hF
      obtain ⟨fy0, fy1, fy2, fy3, fy4, fy5, fy6, fy7, fy8, fy9, fy10, fy11, fy12, fy13, fy14, fy15, fwm, rfl, hB, rfl, f10, f14⟩ := hF
      refine wpOp_of rfl rfl ?_
      go_simp
      unfold mo9I mo9F
      exact .inl ⟨rfl, fy0, fy1, fy2, fy3, fy4, fy5, fy6, fy7, fy8, fy9, fy10, fy11, fy12, fy13, fy14, fy15, fwm, rfl, hB, rfl, f10, f14⟩
  obtain ⟨j0, j1, j2, j3, j4, j5, j6, j7, j8, j9, j10, j11, j12, j13, j14, j15, x0, x1, x2, x3, x4, x5, x6, x7, x8, x9, x10, x11, x12, x13, x14, x15, rfl, rfl, hB, h0, h1, h2, h3, h4, h5, h6, h7, h8, h9, h10, h11, h12, h13, h14, h15⟩ := hI
  replace h0 := Lib.hid h0
  replace h1 := Lib.hid h1
  replace h2 := Lib.hid h2
  replace h3 := Lib.hid h3
  replace h4 := Lib.hid h4
  replace h5 := Lib.hid h5
  replace h6 := Lib.hid h6
  replace h7 := Lib.hid h7
  replace h8 := Lib.hid h8
  replace h9 := Lib.hid h9
  replace h10 := Lib.hid h10
  replace h11 := Lib.hid h11
  replace h12 := Lib.hid h12
  replace h13 := Lib.hid h13
  replace h14 := Lib.hid h14
  replace h15 := Lib.hid h15
  rcases hcase with rfl | rfl | rfl | rfl | rfl | rfl | rfl | rfl | rfl | rfl | rfl | rfl | rfl | rfl | rfl | rfl | rfl | rfl
  · obtain rfl := Option.some.inj ho
    simp [Region.binds] at hu hd
    clear hd
    refine wpOp_of rfl rfl ?_
    go_simp
    unfold mo9I
    exact .inr <| .inr ⟨true, j1, j2, j3, j4, j5, j6, j7, j8, j9, j10, j11, j12, j13, j14, j15, _, x1, x2, x3, x4, x5, x6, x7, x8, x9, x10, x11, x12, x13, x14, x15, rfl, rfl, hB, fun _ => rfl, h1.out, h2.out, h3.out, h4.out, h5.out, h6.out, h7.out, h8.out, h9.out, h10.out, h11.out, h12.out, h13.out, h14.out, h15.out⟩
  · obtain rfl := Option.some.inj ho
    simp [Region.binds] at hu hd
    clear hd
    refine wpOp_of rfl rfl ?_
    go_simp
    unfold mo9I
    exact .inr <| .inr ⟨j0, true, j2, j3, j4, j5, j6, j7, j8, j9, j10, j11, j12, j13, j14, j15, x0, _, x2, x3, x4, x5, x6, x7, x8, x9, x10, x11, x12, x13, x14, x15, rfl, rfl, hB, h0.out, fun _ => rfl, h2.out, h3.out, h4.out, h5.out, h6.out, h7.out, h8.out, h9.out, h10.out, h11.out, h12.out, h13.out, h14.out, h15.out⟩
  · obtain rfl := Option.some.inj ho
    simp [Region.binds] at hu hd
    clear hd
    refine wpOp_of rfl rfl ?_
    go_simp
    unfold mo9I
    exact .inr <| .inr ⟨j0, j1, true, j3, j4, j5, j6, j7, j8, j9, j10, j11, j12, j13, j14, j15, x0, x1, _, x3, x4, x5, x6, x7, x8, x9, x10, x11, x12, x13, x14, x15, rfl, rfl, hB, h0.out, h1.out, fun _ => rfl, h3.out, h4.out, h5.out, h6.out, h7.out, h8.out, h9.out, h10.out, h11.out, h12.out, h13.out, h14.out, h15.out⟩
  · obtain rfl := Option.some.inj ho
    simp [Region.binds] at hu hd
    clear hd
    refine wpOp_of rfl rfl ?_
    go_simp
    unfold mo9I
    exact .inr <| .inr ⟨j0, j1, j2, true, j4, j5, j6, j7, j8, j9, j10, j11, j12, j13, j14, j15, x0, x1, x2, _, x4, x5, x6, x7, x8, x9, x10, x11, x12, x13, x14, x15, rfl, rfl, hB, h0.out, h1.out, h2.out, fun _ => rfl, h4.out, h5.out, h6.out, h7.out, h8.out, h9.out, h10.out, h11.out, h12.out, h13.out, h14.out, h15.out⟩
  · obtain rfl := Option.some.inj ho
    simp [Region.binds] at hu hd
    have d2 : j2 = true := by simp [hd]
    have d3 : j3 = true := by simp [hd]
    have e2 := h2.out d2
    subst e2
    have e3 := h3.out d3
    subst e3
    subst d2
    subst d3
    clear hd
    refine wpOp_of rfl rfl ?_
    go_simp
    go_at_call 116
    refine (nk w.heap.size w (minus_nv' _ _ _ vn xv HV HX (NW.below hB) (N7.below hB)) hB (Nat.le_refl _)).mono ?_
    rintro e w2 ⟨v', rfl, hn', hB2, hb2⟩
    unfold mo9I
    exact .inr <| .inr ⟨j0, j1, true, true, true, j5, j6, j7, j8, j9, j10, j11, j12, j13, j14, j15, x0, x1, _, _, _, x5, x6, x7, x8, x9, x10, x11, x12, x13, x14, x15, rfl, rfl, hB2, h0.out, h1.out, h2.out, h3.out, fun _ => hn', fun hj => (h5.out hj).below hb2, h6.out, h7.out, h8.out, fun hj => (h9.out hj).below hb2, fun hj => (h10.out hj).below hb2, h11.out, h12.out, h13.out, fun hj => (h14.out hj).below hb2, h15.out⟩
  · obtain rfl := Option.some.inj ho
    simp [Region.binds] at hu hd
    have d1 : j1 = true := by simp [hd]
    have d4 : j4 = true := by simp [hd]
    have e1 := h1.out d1
    subst e1
    subst d1
    subst d4
    clear hd
    refine wpOp_of rfl rfl ?_
    go_simp
    go_at_call 117
    refine (nk w.heap.size w (times_nv _ _ _ rr (sj vn xv) HR (sj_b _ _) (NR.below hB) (h4.out rfl)) hB (Nat.le_refl _)).mono ?_
    rintro e w2 ⟨v', rfl, hn', hB2, hb2⟩
    unfold mo9I
    exact .inr <| .inr ⟨j0, true, j2, j3, true, true, j6, j7, j8, j9, j10, j11, j12, j13, j14, j15, x0, _, x2, x3, x4, _, x6, x7, x8, x9, x10, x11, x12, x13, x14, x15, rfl, rfl, hB2, h0.out, h1.out, h2.out, h3.out, fun hj => (h4.out hj).below hb2, fun _ => hn', h6.out, h7.out, h8.out, fun hj => (h9.out hj).below hb2, fun hj => (h10.out hj).below hb2, h11.out, h12.out, h13.out, fun hj => (h14.out hj).below hb2, h15.out⟩
  · obtain rfl := Option.some.inj ho
    simp [Region.binds] at hu hd
    clear hd
    refine wpOp_of rfl rfl ?_
    go_simp
    unfold mo9I
    exact .inr <| .inr ⟨j0, j1, j2, j3, j4, j5, true, j7, j8, j9, j10, j11, j12, j13, j14, j15, x0, x1, x2, x3, x4, x5, _, x7, x8, x9, x10, x11, x12, x13, x14, x15, rfl, rfl, hB, h0.out, h1.out, h2.out, h3.out, h4.out, h5.out, fun _ => rfl, h7.out, h8.out, h9.out, h10.out, h11.out, h12.out, h13.out, h14.out, h15.out⟩
  · obtain rfl := Option.some.inj ho
    simp [Region.binds] at hu hd
    have d6 : j6 = true := by simp [hd]
    have e6 := h6.out d6
    subst e6
    subst d6
    clear hd
    refine wpOp_of rfl rfl ?_
    have i1 : w'.cell? ⟨gP, 1, none⟩ = some (.slice ay ny cy) := (KP.below hB).cell 1
    go_simp
    unfold mo9I
    exact .inr <| .inr ⟨j0, j1, j2, j3, j4, j5, true, true, j8, j9, j10, j11, j12, j13, j14, j15, x0, x1, x2, x3, x4, x5, _, _, x8, x9, x10, x11, x12, x13, x14, x15, rfl, rfl, hB, h0.out, h1.out, h2.out, h3.out, h4.out, h5.out, h6.out, fun _ => rfl, h8.out, h9.out, h10.out, h11.out, h12.out, h13.out, h14.out, h15.out⟩
  · obtain rfl := Option.some.inj ho
    simp [Region.binds] at hu hd
    clear hd
    refine wpOp_of rfl rfl ?_
    go_simp
    unfold mo9I
    exact .inr <| .inr ⟨j0, j1, j2, j3, j4, j5, j6, j7, true, j9, j10, j11, j12, j13, j14, j15, x0, x1, x2, x3, x4, x5, x6, x7, _, x9, x10, x11, x12, x13, x14, x15, rfl, rfl, hB, h0.out, h1.out, h2.out, h3.out, h4.out, h5.out, h6.out, h7.out, fun _ => rfl, h9.out, h10.out, h11.out, h12.out, h13.out, h14.out, h15.out⟩
  · obtain rfl := Option.some.inj ho
    simp [Region.binds] at hu hd
    have d5 : j5 = true := by simp [hd]
    have d7 : j7 = true := by simp [hd]
    have d8 : j8 = true := by simp [hd]
    have e7 := h7.out d7
    subst e7
    have e8 := h8.out d8
    subst e8
    subst d5
    subst d7
    subst d8
    clear hd
    refine wpOp_of rfl rfl ?_
    go_simp
    go_at_call 117
    refine (nk w.heap.size w (times_nv _ _ _ ya kk HY HK (NY.below hB) (NK.below hB)) hB (Nat.le_refl _)).mono ?_
    rintro e w2 ⟨v', rfl, hn', hB2, hb2⟩
    unfold mo9I
    exact .inr <| .inr ⟨j0, j1, j2, j3, j4, true, j6, true, true, true, j10, j11, j12, j13, j14, j15, x0, x1, x2, x3, x4, x5, x6, _, _, _, x10, x11, x12, x13, x14, x15, rfl, rfl, hB2, h0.out, h1.out, h2.out, h3.out, fun hj => (h4.out hj).below hb2, fun hj => (h5.out hj).below hb2, h6.out, h7.out, h8.out, fun _ => hn', fun hj => (h10.out hj).below hb2, h11.out, h12.out, h13.out, fun hj => (h14.out hj).below hb2, h15.out⟩
  · obtain rfl := Option.some.inj ho
    simp [Region.binds] at hu hd
    have d5 : j5 = true := by simp [hd]
    have d9 : j9 = true := by simp [hd]
    subst d5
    subst d9
    clear hd
    refine wpOp_of rfl rfl ?_
    go_simp
    go_at_call 116
    refine (nk w.heap.size w (minus_nv' _ _ _ (mj rr (sj vn xv)) (mj ya kk) (mj_b _ _) (mj_b _ _) (h5.out rfl) (h9.out rfl)) hB (Nat.le_refl _)).mono ?_
    rintro e w2 ⟨v', rfl, hn', hB2, hb2⟩
    unfold mo9I
    exact .inr <| .inr ⟨j0, j1, j2, j3, j4, true, j6, j7, j8, true, true, j11, j12, j13, j14, j15, x0, x1, x2, x3, x4, x5, x6, x7, x8, x9, _, x11, x12, x13, x14, x15, rfl, rfl, hB2, h0.out, h1.out, h2.out, h3.out, fun hj => (h4.out hj).below hb2, fun hj => (h5.out hj).below hb2, h6.out, h7.out, h8.out, fun hj => (h9.out hj).below hb2, fun _ => hn', h11.out, h12.out, h13.out, fun hj => (h14.out hj).below hb2, fun hj => absurd (h15.out hj).2.1 (by simp [hu])⟩
  · obtain rfl := Option.some.inj ho
    simp [Region.binds] at hu hd
    clear hd
    refine wpOp_of rfl rfl ?_
    go_simp
    unfold mo9I
    exact .inr <| .inr ⟨j0, j1, j2, j3, j4, j5, j6, j7, j8, j9, j10, true, j12, j13, j14, j15, x0, x1, x2, x3, x4, x5, x6, x7, x8, x9, x10, _, x12, x13, x14, x15, rfl, rfl, hB, h0.out, h1.out, h2.out, h3.out, h4.out, h5.out, h6.out, h7.out, h8.out, h9.out, h10.out, fun _ => rfl, h12.out, h13.out, h14.out, h15.out⟩
  · obtain rfl := Option.some.inj ho
    simp [Region.binds] at hu hd
    have d11 : j11 = true := by simp [hd]
    have e11 := h11.out d11
    subst e11
    subst d11
    clear hd
    refine wpOp_of rfl rfl ?_
    have i2 : w'.cell? ⟨gP, 2, none⟩ = some (.slice az nz cz) := (KP.below hB).cell 2
    go_simp
    unfold mo9I
    exact .inr <| .inr ⟨j0, j1, j2, j3, j4, j5, j6, j7, j8, j9, j10, true, true, j13, j14, j15, x0, x1, x2, x3, x4, x5, x6, x7, x8, x9, x10, _, _, x13, x14, x15, rfl, rfl, hB, h0.out, h1.out, h2.out, h3.out, h4.out, h5.out, h6.out, h7.out, h8.out, h9.out, h10.out, h11.out, fun _ => rfl, h13.out, h14.out, h15.out⟩
  · obtain rfl := Option.some.inj ho
    simp [Region.binds] at hu hd
    clear hd
    refine wpOp_of rfl rfl ?_
    go_simp
    unfold mo9I
    exact .inr <| .inr ⟨j0, j1, j2, j3, j4, j5, j6, j7, j8, j9, j10, j11, j12, true, j14, j15, x0, x1, x2, x3, x4, x5, x6, x7, x8, x9, x10, x11, x12, _, x14, x15, rfl, rfl, hB, h0.out, h1.out, h2.out, h3.out, h4.out, h5.out, h6.out, h7.out, h8.out, h9.out, h10.out, h11.out, h12.out, fun _ => rfl, h14.out, h15.out⟩
  · obtain rfl := Option.some.inj ho
    simp [Region.binds] at hu hd
    have d10 : j10 = true := by simp [hd]
    have d12 : j12 = true := by simp [hd]
    have d13 : j13 = true := by simp [hd]
    have e12 := h12.out d12
    subst e12
    have e13 := h13.out d13
    subst e13
    subst d10
    subst d12
    subst d13
    clear hd
    refine wpOp_of rfl rfl ?_
    go_simp
    go_at_call 117
    refine (nk w.heap.size w (times_nv _ _ _ za hh HZ HH (NZ.below hB) (NH.below hB)) hB (Nat.le_refl _)).mono ?_
    rintro e w2 ⟨v', rfl, hn', hB2, hb2⟩
    unfold mo9I
    exact .inr <| .inr ⟨j0, j1, j2, j3, j4, j5, j6, j7, j8, j9, true, j11, true, true, true, j15, x0, x1, x2, x3, x4, x5, x6, x7, x8, x9, x10, x11, _, _, _, x15, rfl, rfl, hB2, h0.out, h1.out, h2.out, h3.out, fun hj => (h4.out hj).below hb2, fun hj => (h5.out hj).below hb2, h6.out, h7.out, h8.out, fun hj => (h9.out hj).below hb2, fun hj => (h10.out hj).below hb2, h11.out, h12.out, h13.out, fun _ => hn', fun hj => absurd (h15.out hj).2.2 (by simp [hu])⟩
  · obtain rfl := Option.some.inj ho
    simp [Region.binds] at hu hd
    have d0 : j0 = true := by simp [hd]
    have d10 : j10 = true := by simp [hd]
    have d14 : j14 = true := by simp [hd]
    have e0 := h0.out d0
    subst e0
    subst d0
    subst d10
    subst d14
    clear hd
    refine wpOp_of rfl rfl ?_
    obtain ⟨sa10, sn10, sc10, es10⟩ := (h10.out rfl).shape
    subst es10
    obtain ⟨sa14, sn14, sc14, es14⟩ := (h14.out rfl).shape
    subst es14
    go_simp
    unfold mo9I
    exact .inr <| .inr ⟨true, j1, j2, j3, j4, j5, j6, j7, j8, j9, true, j11, j12, j13, true, true, _, x1, x2, x3, x4, x5, x6, x7, x8, x9, _, x11, x12, x13, _, _, rfl, rfl, hB, h0.out, h1.out, h2.out, h3.out, h4.out, h5.out, h6.out, h7.out, h8.out, h9.out, h10.out, h11.out, h12.out, h13.out, h14.out, fun _ => ⟨rfl, rfl, rfl⟩⟩
  · obtain rfl := Option.some.inj ho
    simp [Region.binds] at hu hd
    have d0 : j0 = true := by simp [hd]
    have d1 : j1 = true := by simp [hd]
    have d2 : j2 = true := by simp [hd]
    have d3 : j3 = true := by simp [hd]
    have d4 : j4 = true := by simp [hd]
    have d5 : j5 = true := by simp [hd]
    have d6 : j6 = true := by simp [hd]
    have d7 : j7 = true := by simp [hd]
    have d8 : j8 = true := by simp [hd]
    have d9 : j9 = true := by simp [hd]
    have d10 : j10 = true := by simp [hd]
    have d11 : j11 = true := by simp [hd]
    have d12 : j12 = true := by simp [hd]
    have d13 : j13 = true := by simp [hd]
    have d14 : j14 = true := by simp [hd]
    have d15 : j15 = true := by simp [hd]
    have e0 := h0.out d0
    subst e0
    have e1 := h1.out d1
    subst e1
    have e2 := h2.out d2
    subst e2
    have e3 := h3.out d3
    subst e3
    have e6 := h6.out d6
    subst e6
    have e7 := h7.out d7
    subst e7
    have e8 := h8.out d8
    subst e8
    have e11 := h11.out d11
    subst e11
    have e12 := h12.out d12
    subst e12
    have e13 := h13.out d13
    subst e13
    have e15 := (h15.out d15).1
    subst e15
    subst d0
    subst d1
    subst d2
    subst d3
    subst d4
    subst d5
    subst d6
    subst d7
    subst d8
    subst d9
    subst d10
    subst d11
    subst d12
    subst d13
    subst d14
    subst d15
    clear hd
    refine wpOp_of rfl rfl ?_
    obtain ⟨sa10, sn10, sc10, es10⟩ := (h10.out rfl).shape
    subst es10
    obtain ⟨sa14, sn14, sc14, es14⟩ := (h14.out rfl).shape
    subst es14
    have c0 := (KR.below hB).cell 0
    have f0 := (KR.below hB).fro 0
    have c1 := (KR.below hB).cell 1
    have f1 := (KR.below hB).fro 1
    have c2 := (KR.below hB).cell 2
    have f2 := (KR.below hB).fro 2
    go_simp
    unfold mo9I mo9F
    exact .inr <| .inl ⟨rfl, _, _, _, _, x4, x5, _, _, _, x9, _, _, _, _, _, _, _, rfl, hB, rfl, h10.out rfl, h14.out rfl⟩
  · exfalso
    obtain rfl := Option.some.inj ho
    simp [Region.binds] at hu hd
set_option maxHeartbeats 16000000 in
theorem mo9_fin (gP gR ya za hh rr kk vn xv n7 c7 : Nat) (nx cx ny cy nz cz : Nat) (ax ay az : Option Addr) (a7 : Option Addr) (vh vr vk vv : Value) (w : World) {t0 t1 t3 t6 t9 t13 t14 t15 t16 t17 t18 t19 t20 t21 t22 t23 t24 t25 t26 t27 t28 t29 t30 t31 t32 t33 t34 t35 t36 t37 t38 t39 t40 t41 t42 t43 t44 t45 t46 t47 t48 t49 t50 t51 t52 t53 t54 t55 t56 t57 : Value} {ds : List Deferred} : ∀ l a w1, mo9I w gP gR ya za hh rr kk vn xv n7 c7 nx cx ny cy nz cz ax ay az a7 vh vr vk vv t0 t1 t3 t6 t9 t13 t14 t15 t16 t17 t18 t19 t20 t21 t22 t23 t24 t25 t26 t27 t28 t29 t30 t31 t32 t33 t34 t35 t36 t37 t38 t39 t40 t41 t42 t43 t44 t45 t46 t47 t48 t49 t50 t51 t52 t53 t54 t55 t56 t57 ds l a w1 → Region.ready .any mo9O l = [] → mo9F w (.bool true) gP gR ya za hh rr kk vn xv n7 c7 nx cx ny cy nz cz ax ay az a7 vh vr vk vv t0 t1 t3 t6 t9 t13 t14 t15 t16 t17 t18 t19 t20 t21 t22 t23 t24 t25 t26 t27 t28 t29 t30 t31 t32 t33 t34 t35 t36 t37 t38 t39 t40 t41 t42 t43 t44 t45 t46 t47 t48 t49 t50 t51 t52 t53 t54 t55 t56 t57 ds a w1 := by
  simp only [mo9O, findR, Tryz.f128, Option.bind_some, Option.or, Option.getD, Nat.reduceEqDiff, if_true, if_false, reduceIte]
  rintro l a w1 hI hr
  rcases hI with ⟨rfl, hF⟩ | ⟨rfl, hF⟩ | hI
  · exact hF
  · exact absurd (mem_ready.2 ⟨rfl, _, rfl, by simp [Region.binds]⟩) (fun h => List.not_mem_nil (hr ▸ h : (17 : Nat) ∈ ([] : List Nat)))
  obtain ⟨j0, j1, j2, j3, j4, j5, j6, j7, j8, j9, j10, j11, j12, j13, j14, j15, x0, x1, x2, x3, x4, x5, x6, x7, x8, x9, x10, x11, x12, x13, x14, x15, rfl, rfl, hB, h0, h1, h2, h3, h4, h5, h6, h7, h8, h9, h10, h11, h12, h13, h14, h15⟩ := hI
  have hn := fun i => List.eq_nil_iff_forall_not_mem.1 hr i
  clear hr
  cases j0; exact absurd (mem_ready.2 ⟨by simp, _, rfl, by simp [Region.binds]⟩) (hn 0)
  cases j1; exact absurd (mem_ready.2 ⟨by simp, _, rfl, by simp [Region.binds]⟩) (hn 1)
  cases j2; exact absurd (mem_ready.2 ⟨by simp, _, rfl, by simp [Region.binds]⟩) (hn 2)
  cases j3; exact absurd (mem_ready.2 ⟨by simp, _, rfl, by simp [Region.binds]⟩) (hn 3)
  cases j4; exact absurd (mem_ready.2 ⟨by simp, _, rfl, by simp [Region.binds]⟩) (hn 4)
  cases j5; exact absurd (mem_ready.2 ⟨by simp, _, rfl, by simp [Region.binds]⟩) (hn 5)
  cases j6; exact absurd (mem_ready.2 ⟨by simp, _, rfl, by simp [Region.binds]⟩) (hn 6)
  cases j7; exact absurd (mem_ready.2 ⟨by simp, _, rfl, by simp [Region.binds]⟩) (hn 7)
  cases j8; exact absurd (mem_ready.2 ⟨by simp, _, rfl, by simp [Region.binds]⟩) (hn 8)
  cases j9; exact absurd (mem_ready.2 ⟨by simp, _, rfl, by simp [Region.binds]⟩) (hn 9)
  cases j10; exact absurd (mem_ready.2 ⟨by simp, _, rfl, by simp [Region.binds]⟩) (hn 10)
  cases j11; exact absurd (mem_ready.2 ⟨by simp, _, rfl, by simp [Region.binds]⟩) (hn 11)
  cases j12; exact absurd (mem_ready.2 ⟨by simp, _, rfl, by simp [Region.binds]⟩) (hn 12)
  cases j13; exact absurd (mem_ready.2 ⟨by simp, _, rfl, by simp [Region.binds]⟩) (hn 13)
  cases j14; exact absurd (mem_ready.2 ⟨by simp, _, rfl, by simp [Region.binds]⟩) (hn 14)
  cases j15; exact absurd (mem_ready.2 ⟨by simp, _, rfl, by simp [Region.binds]⟩) (hn 15)
  exact absurd (mem_ready.2 ⟨rfl, _, rfl, by simp [Region.binds]⟩) (hn 16)
theorem mo9 (gP gR ya za hh rr kk vn xv n7 c7 : Nat) (nx cx ny cy nz cz : Nat) (ax ay az : Option Addr) (a7 : Option Addr) (vh vr vk vv : Value) (w : World) (KP : Bk 150 w gP #[.slice ax nx cx, .slice ay ny cy, .slice az nz cz]) (KR : Bk 150 w gR #[.slice none 0 0, .slice none 0 0, .slice none 0 0]) (HY : ya < big) (HZ : za < big) (HH : hh < big) (HR : rr < big) (HK : kk < big) (HV : vn < big) (HX : xv < big) (NY : NV w (.slice ay ny cy) ya) (NZ : NV w (.slice az nz cz) za) (NH : NV w vh hh) (NR : NV w vr rr) (NK : NV w vk kk) (NW : NV w vv vn) (N7 : NV w (.slice a7 n7 c7) xv) {t0 t1 t3 t6 t9 t13 t14 t15 t16 t17 t18 t19 t20 t21 t22 t23 t24 t25 t26 t27 t28 t29 t30 t31 t32 t33 t34 t35 t36 t37 t38 t39 t40 t41 t42 t43 t44 t45 t46 t47 t48 t49 t50 t51 t52 t53 t54 t55 t56 t57 t58 t59 t60 t61 t62 t63 t64 t65 t66 t67 t68 t69 t70 t71 t72 t73 : Value} {ds : List Deferred} {K : Act → World → Prop} {Q : Exit → Act → World → Prop}
    (h : ∀ (y0 y1 y2 y3 y4 y5 y6 y7 y8 y9 y10 y11 y12 y13 y14 y15 : Value) (w1 : World) (hb : Below w.heap.size w w1) (hn10 : NV w1 y10 (sj (mj rr (sj vn xv)) (mj ya kk))) (hn14 : NV w1 y14 (mj za hh)), K { tmps := #[t0, t1, .pointer (some ⟨gP, 0, none⟩), t3, .pointer (some ⟨gR, 0, none⟩), .bool true, t6, vh, vr, t9, vk, vv, .slice a7 n7 c7, t13, t14, t15, t16, t17, t18, t19, t20, t21, t22, t23, t24, t25, t26, t27, t28, t29, t30, t31, t32, t33, t34, t35, t36, t37, t38, t39, t40, t41, t42, t43, t44, t45, t46, t47, t48, t49, t50, t51, t52, t53, t54, t55, t56, t57, y0, y1, y2, y3, y4, y5, y6, y7, y8, y9, y10, y11, y12, y13, y14, y15], defers := ds } (World.setCell (World.setCell (World.setCell w1 ⟨gR, 0, none⟩ (.slice a7 n7 c7)) ⟨gR, 1, none⟩ (y10)) ⟨gR, 2, none⟩ (y14))) :
    (Code.region 9 mo9O true).wp Tryz.prog (Exit.then K Q) { tmps := #[t0, t1, .pointer (some ⟨gP, 0, none⟩), t3, .pointer (some ⟨gR, 0, none⟩), .bool false, t6, vh, vr, t9, vk, vv, .slice a7 n7 c7, t13, t14, t15, t16, t17, t18, t19, t20, t21, t22, t23, t24, t25, t26, t27, t28, t29, t30, t31, t32, t33, t34, t35, t36, t37, t38, t39, t40, t41, t42, t43, t44, t45, t46, t47, t48, t49, t50, t51, t52, t53, t54, t55, t56, t57, t58, t59, t60, t61, t62, t63, t64, t65, t66, t67, t68, t69, t70, t71, t72, t73], defers := ds } w := by
  have hsz : mo9O.size = 18 := by kernel_rfl
  refine wp_region_any (show Tryz.prog.follows .mixedOrders = true from by kernel_rfl) ?_
  rw [hsz]
  refine wpAny_inv (I := mo9I w gP gR ya za hh rr kk vn xv n7 c7 nx cx ny cy nz cz ax ay az a7 vh vr vk vv t0 t1 t3 t6 t9 t13 t14 t15 t16 t17 t18 t19 t20 t21 t22 t23 t24 t25 t26 t27 t28 t29 t30 t31 t32 t33 t34 t35 t36 t37 t38 t39 t40 t41 t42 t43 t44 t45 t46 t47 t48 t49 t50 t51 t52 t53 t54 t55 t56 t57 ds) (mo9_steps gP gR ya za hh rr kk vn xv n7 c7 nx cx ny cy nz cz ax ay az a7 vh vr vk vv w KP KR HY HZ HH HR HK HV HX NY NZ NH NR NK NW N7) (fun l a w' hI hr => ?_) 18 _ _ _ (by decide) ?_
  · obtain ⟨y0, y1, y2, y3, y4, y5, y6, y7, y8, y9, y10, y11, y12, y13, y14, y15, wm, rfl, hb, rfl, hn10, hn14⟩ := mo9_fin gP gR ya za hh rr kk vn xv n7 c7 nx cx ny cy nz cz ax ay az a7 vh vr vk vv w l a w' hI hr
    exact h _ _ _ _ _ _ _ _ _ _ _ _ _ _ _ _ _ hb hn10 hn14
  · exact .inr <| .inr ⟨false, false, false, false, false, false, false, false, false, false, false, false, false, false, false, false, t58, t59, t60, t61, t62, t63, t64, t65, t66, t67, t68, t69, t70, t71, t72, t73, rfl, rfl, ⟨rfl, rfl, rfl, Nat.le_refl _, fun _ _ => rfl⟩, (fun h => by cases h), (fun h => by cases h), (fun h => by cases h), (fun h => by cases h), (fun h => by cases h), (fun h => by cases h), (fun h => by cases h), (fun h => by cases h), (fun h => by cases h), (fun h => by cases h), (fun h => by cases h), (fun h => by cases h), (fun h => by cases h), (fun h => by cases h), (fun h => by cases h), (fun h => by cases h)⟩
def mo2F (w0 : World) (gP gQ gR xa xb zz : Nat) (nx cx ny cy nz cz mx dx my dy : Nat) (ax ay az bx bb : Option Addr) (vz : Value) (t0 t1 t8 t9 t10 t11 t12 t13 t14 t15 t16 t17 t25 t26 t27 t28 t29 t30 t31 t32 t33 t34 t35 t36 t37 t38 t39 t40 t41 t42 t43 t44 t45 t46 t47 t48 t49 t50 t51 t52 t53 t54 t55 t56 t57 t58 t59 t60 t61 t62 t63 t64 t65 t66 t67 t68 t69 t70 t71 t72 t73 : Value) (ds : List Deferred) (a : Act) (w : World) : Prop :=
  ∃ y0 y1 y2 y3 y4 y5 y6 y7 : Value, ∃ wm : World, a = { tmps := #[t0, t1, .pointer (some ⟨gP, 0, none⟩), .pointer (some ⟨gQ, 0, none⟩), .pointer (some ⟨gR, 0, none⟩), .bool false, vz, y7, t8, t9, t10, t11, t12, t13, t14, t15, t16, t17, y0, y1, y2, y3, y4, y5, y6, t25, t26, t27, t28, t29, t30, t31, t32, t33, t34, t35, t36, t37, t38, t39, t40, t41, t42, t43, t44, t45, t46, t47, t48, t49, t50, t51, t52, t53, t54, t55, t56, t57, t58, t59, t60, t61, t62, t63, t64, t65, t66, t67, t68, t69, t70, t71, t72, t73], defers := ds } ∧ Below w0.heap.size w0 wm ∧ w = wm ∧ NV wm y7 (sj (mj xb zz) xa)
def mo2I (w0 : World) (gP gQ gR xa xb zz : Nat) (nx cx ny cy nz cz mx dx my dy : Nat) (ax ay az bx bb : Option Addr) (vz : Value) (t0 t1 t8 t9 t10 t11 t12 t13 t14 t15 t16 t17 t25 t26 t27 t28 t29 t30 t31 t32 t33 t34 t35 t36 t37 t38 t39 t40 t41 t42 t43 t44 t45 t46 t47 t48 t49 t50 t51 t52 t53 t54 t55 t56 t57 t58 t59 t60 t61 t62 t63 t64 t65 t66 t67 t68 t69 t70 t71 t72 t73 : Value) (ds : List Deferred) (l : Array Bool) (a : Act) (w : World) : Prop :=
  ∃ j0 j1 j2 j3 j4 j5 j6 j7 : Bool, ∃ x0 x1 x2 x3 x4 x5 x6 x7 : Value, l = #[j0, j1, j2, j3, j4, j5, j6, j7] ∧ a = { tmps := #[t0, t1, .pointer (some ⟨gP, 0, none⟩), .pointer (some ⟨gQ, 0, none⟩), .pointer (some ⟨gR, 0, none⟩), .bool false, vz, x7, t8, t9, t10, t11, t12, t13, t14, t15, t16, t17, x0, x1, x2, x3, x4, x5, x6, t25, t26, t27, t28, t29, t30, t31, t32, t33, t34, t35, t36, t37, t38, t39, t40, t41, t42, t43, t44, t45, t46, t47, t48, t49, t50, t51, t52, t53, t54, t55, t56, t57, t58, t59, t60, t61, t62, t63, t64, t65, t66, t67, t68, t69, t70, t71, t72, t73], defers := ds } ∧ Below w0.heap.size w0 w ∧
  (j0 = true → x0 = .pointer (some ⟨gQ, 1, none⟩)) ∧ (j1 = true → x1 = .slice bx mx dx) ∧ (j2 = true → x2 = vz) ∧ (j3 = true → NV w x3 (mj xb zz)) ∧ (j4 = true → x4 = .pointer (some ⟨gP, 0, none⟩)) ∧ (j5 = true → x5 = .slice ax nx cx) ∧ (j6 = true → NV w x6 (sj (mj xb zz) xa)) ∧ (j7 = true → NV w x7 (sj (mj xb zz) xa))
noncomputable def mo2O : Array Oper := (Tryz.f128.body.bind fun c => findR c 2).getD #[]
set_option maxHeartbeats 16000000 in
theorem mo2_steps (gP gQ gR xa xb zz : Nat) (nx cx ny cy nz cz mx dx my dy : Nat) (ax ay az bx bb : Option Addr) (vz : Value) (w : World) (KP : Bk 150 w gP #[.slice ax nx cx, .slice ay ny cy, .slice az nz cz]) (KQ : Bk 72 w gQ #[.bool false, .slice bx mx dx, .slice bb my dy]) (HX : xa < big) (HXB : xb < big) (HZZ : zz < big) (NX : NV w (.slice ax nx cx) xa) (MX : NV w (.slice bx mx dx) xb) (NZ : NV w vz zz)
    {t0 t1 t8 t9 t10 t11 t12 t13 t14 t15 t16 t17 t25 t26 t27 t28 t29 t30 t31 t32 t33 t34 t35 t36 t37 t38 t39 t40 t41 t42 t43 t44 t45 t46 t47 t48 t49 t50 t51 t52 t53 t54 t55 t56 t57 t58 t59 t60 t61 t62 t63 t64 t65 t66 t67 t68 t69 t70 t71 t72 t73 : Value} {ds : List Deferred} {Q : Exit → Act → World → Prop} :
    ∀ l a w', mo2I w gP gQ gR xa xb zz nx cx ny cy nz cz mx dx my dy ax ay az bx bb vz t0 t1 t8 t9 t10 t11 t12 t13 t14 t15 t16 t17 t25 t26 t27 t28 t29 t30 t31 t32 t33 t34 t35 t36 t37 t38 t39 t40 t41 t42 t43 t44 t45 t46 t47 t48 t49 t50 t51 t52 t53 t54 t55 t56 t57 t58 t59 t60 t61 t62 t63 t64 t65 t66 t67 t68 t69 t70 t71 t72 t73 ds l a w' → ∀ i ∈ Region.ready .any mo2O l, wpOp Tryz.prog mo2O Q i (fun a' w'' => mo2I w gP gQ gR xa xb zz nx cx ny cy nz cz mx dx my dy ax ay az bx bb vz t0 t1 t8 t9 t10 t11 t12 t13 t14 t15 t16 t17 t25 t26 t27 t28 t29 t30 t31 t32 t33 t34 t35 t36 t37 t38 t39 t40 t41 t42 t43 t44 t45 t46 t47 t48 t49 t50 t51 t52 t53 t54 t55 t56 t57 t58 t59 t60 t61 t62 t63 t64 t65 t66 t67 t68 t69 t70 t71 t72 t73 ds (l.setIfInBounds i true) a' w'') a w' := by
  simp only [mo2O, findR, Tryz.f128, Option.bind_some, Option.or, Option.getD, Nat.reduceEqDiff, if_true, if_false, reduceIte]
  rintro l a w' hI i hi
  rw [mem_ready] at hi
  obtain ⟨hu, oo, ho, hd⟩ := hi
  have hin : i < 8 := by
    have := (Array.getElem?_eq_some_iff.1 ho).1
    simpa using this
  have hcase : i = 0 ∨ i = 1 ∨ i = 2 ∨ i = 3 ∨ i = 4 ∨ i = 5 ∨ i = 6 ∨ i = 7 := by omega
  obtain ⟨j0, j1, j2, j3, j4, j5, j6, j7, x0, x1, x2, x3, x4, x5, x6, x7, rfl, rfl, hB, h0, h1, h2, h3, h4, h5, h6, h7⟩ := hI
  replace h0 := Lib.hid h0
  replace h1 := Lib.hid h1
  replace h2 := Lib.hid h2
  replace h3 := Lib.hid h3
  replace h4 := Lib.hid h4
  replace h5 := Lib.hid h5
  replace h6 := Lib.hid h6
  replace h7 := Lib.hid h7
  rcases hcase with rfl | rfl | rfl | rfl | rfl | rfl | rfl | rfl
  · obtain rfl := Option.some.inj ho
    simp [Region.binds] at hu hd
    clear hd
    refine wpOp_of rfl rfl ?_
    go_simp
    unfold mo2I
    exact ⟨true, j1, j2, j3, j4, j5, j6, j7, _, x1, x2, x3, x4, x5, x6, x7, rfl, rfl, hB, fun _ => rfl, h1.out, h2.out, h3.out, h4.out, h5.out, h6.out, h7.out⟩
  · obtain rfl := Option.some.inj ho
    simp [Region.binds] at hu hd
    have d0 : j0 = true := by simp [hd]
    have e0 := h0.out d0
    subst e0
    subst d0
    clear hd
    refine wpOp_of rfl rfl ?_
    have i1 : w'.cell? ⟨gQ, 1, none⟩ = some (.slice bx mx dx) := (KQ.below hB).cell 1
    go_simp
    unfold mo2I
    exact ⟨true, true, j2, j3, j4, j5, j6, j7, _, _, x2, x3, x4, x5, x6, x7, rfl, rfl, hB, h0.out, fun _ => rfl, h2.out, h3.out, h4.out, h5.out, h6.out, h7.out⟩
  · obtain rfl := Option.some.inj ho
    simp [Region.binds] at hu hd
    clear hd
    refine wpOp_of rfl rfl ?_
    go_simp
    unfold mo2I
    exact ⟨j0, j1, true, j3, j4, j5, j6, j7, x0, x1, _, x3, x4, x5, x6, x7, rfl, rfl, hB, h0.out, h1.out, fun _ => rfl, h3.out, h4.out, h5.out, h6.out, h7.out⟩
  · obtain rfl := Option.some.inj ho
    simp [Region.binds] at hu hd
    have d1 : j1 = true := by simp [hd]
    have d2 : j2 = true := by simp [hd]
    have e1 := h1.out d1
    subst e1
    have e2 := h2.out d2
    subst e2
    subst d1
    subst d2
    clear hd
    refine wpOp_of rfl rfl ?_
    go_simp
    go_at_call 117
    refine (nk w.heap.size w (times_nv _ _ _ xb zz HXB HZZ (MX.below hB) (NZ.below hB)) hB (Nat.le_refl _)).mono ?_
    rintro e w2 ⟨v', rfl, hn', hB2, hb2⟩
    unfold mo2I
    exact ⟨j0, true, true, true, j4, j5, j6, j7, x0, _, _, _, x4, x5, x6, x7, rfl, rfl, hB2, h0.out, h1.out, h2.out, fun _ => hn', h4.out, h5.out, fun hj => (h6.out hj).below hb2, fun hj => (h7.out hj).below hb2⟩
  · obtain rfl := Option.some.inj ho
    simp [Region.binds] at hu hd
    clear hd
    refine wpOp_of rfl rfl ?_
    go_simp
    unfold mo2I
    exact ⟨j0, j1, j2, j3, true, j5, j6, j7, x0, x1, x2, x3, _, x5, x6, x7, rfl, rfl, hB, h0.out, h1.out, h2.out, h3.out, fun _ => rfl, h5.out, h6.out, h7.out⟩
  · obtain rfl := Option.some.inj ho
    simp [Region.binds] at hu hd
    have d4 : j4 = true := by simp [hd]
    have e4 := h4.out d4
    subst e4
    subst d4
    clear hd
    refine wpOp_of rfl rfl ?_
    have i0 : w'.cell? ⟨gP, 0, none⟩ = some (.slice ax nx cx) := (KP.below hB).cell 0
    go_simp
    unfold mo2I
    exact ⟨j0, j1, j2, j3, true, true, j6, j7, x0, x1, x2, x3, _, _, x6, x7, rfl, rfl, hB, h0.out, h1.out, h2.out, h3.out, h4.out, fun _ => rfl, h6.out, h7.out⟩
  · obtain rfl := Option.some.inj ho
    simp [Region.binds] at hu hd
    have d3 : j3 = true := by simp [hd]
    have d5 : j5 = true := by simp [hd]
    have e5 := h5.out d5
    subst e5
    subst d3
    subst d5
    clear hd
    refine wpOp_of rfl rfl ?_
    go_simp
    go_at_call 116
    refine (nk w.heap.size w (minus_nv' _ _ _ (mj xb zz) xa (mj_b _ _) HX (h3.out rfl) (NX.below hB)) hB (Nat.le_refl _)).mono ?_
    rintro e w2 ⟨v', rfl, hn', hB2, hb2⟩
    unfold mo2I
    exact ⟨j0, j1, j2, true, j4, true, true, j7, x0, x1, x2, x3, x4, _, _, x7, rfl, rfl, hB2, h0.out, h1.out, h2.out, fun hj => (h3.out hj).below hb2, h4.out, h5.out, fun _ => hn', fun hj => (h7.out hj).below hb2⟩
  · obtain rfl := Option.some.inj ho
    simp [Region.binds] at hu hd
    have d0 : j0 = true := by simp [hd]
    have d1 : j1 = true := by simp [hd]
    have d2 : j2 = true := by simp [hd]
    have d3 : j3 = true := by simp [hd]
    have d4 : j4 = true := by simp [hd]
    have d5 : j5 = true := by simp [hd]
    have d6 : j6 = true := by simp [hd]
    have e0 := h0.out d0
    subst e0
    have e1 := h1.out d1
    subst e1
    have e2 := h2.out d2
    subst e2
    have e4 := h4.out d4
    subst e4
    have e5 := h5.out d5
    subst e5
    subst d0
    subst d1
    subst d2
    subst d3
    subst d4
    subst d5
    subst d6
    clear hd
    refine wpOp_of rfl rfl ?_
    go_simp
    unfold mo2I
    exact ⟨true, true, true, true, true, true, true, true, _, _, _, x3, _, _, x6, _, rfl, rfl, hB, h0.out, h1.out, h2.out, h3.out, h4.out, h5.out, h6.out, fun _ => h6.out rfl⟩
set_option maxHeartbeats 16000000 in
theorem mo2_fin (gP gQ gR xa xb zz : Nat) (nx cx ny cy nz cz mx dx my dy : Nat) (ax ay az bx bb : Option Addr) (vz : Value) (w : World) {t0 t1 t8 t9 t10 t11 t12 t13 t14 t15 t16 t17 t25 t26 t27 t28 t29 t30 t31 t32 t33 t34 t35 t36 t37 t38 t39 t40 t41 t42 t43 t44 t45 t46 t47 t48 t49 t50 t51 t52 t53 t54 t55 t56 t57 t58 t59 t60 t61 t62 t63 t64 t65 t66 t67 t68 t69 t70 t71 t72 t73 : Value} {ds : List Deferred} : ∀ l a w1, mo2I w gP gQ gR xa xb zz nx cx ny cy nz cz mx dx my dy ax ay az bx bb vz t0 t1 t8 t9 t10 t11 t12 t13 t14 t15 t16 t17 t25 t26 t27 t28 t29 t30 t31 t32 t33 t34 t35 t36 t37 t38 t39 t40 t41 t42 t43 t44 t45 t46 t47 t48 t49 t50 t51 t52 t53 t54 t55 t56 t57 t58 t59 t60 t61 t62 t63 t64 t65 t66 t67 t68 t69 t70 t71 t72 t73 ds l a w1 → Region.ready .any mo2O l = [] → mo2F w gP gQ gR xa xb zz nx cx ny cy nz cz mx dx my dy ax ay az bx bb vz t0 t1 t8 t9 t10 t11 t12 t13 t14 t15 t16 t17 t25 t26 t27 t28 t29 t30 t31 t32 t33 t34 t35 t36 t37 t38 t39 t40 t41 t42 t43 t44 t45 t46 t47 t48 t49 t50 t51 t52 t53 t54 t55 t56 t57 t58 t59 t60 t61 t62 t63 t64 t65 t66 t67 t68 t69 t70 t71 t72 t73 ds a w1 := by
  simp only [mo2O, findR, Tryz.f128, Option.bind_some, Option.or, Option.getD, Nat.reduceEqDiff, if_true, if_false, reduceIte]
  rintro l a w1 hI hr
  obtain ⟨j0, j1, j2, j3, j4, j5, j6, j7, x0, x1, x2, x3, x4, x5, x6, x7, rfl, rfl, hB, h0, h1, h2, h3, h4, h5, h6, h7⟩ := hI
  have hn := fun i => List.eq_nil_iff_forall_not_mem.1 hr i
  clear hr
  cases j0; exact absurd (mem_ready.2 ⟨by simp, _, rfl, by simp [Region.binds]⟩) (hn 0)
  cases j1; exact absurd (mem_ready.2 ⟨by simp, _, rfl, by simp [Region.binds]⟩) (hn 1)
  cases j2; exact absurd (mem_ready.2 ⟨by simp, _, rfl, by simp [Region.binds]⟩) (hn 2)
  cases j3; exact absurd (mem_ready.2 ⟨by simp, _, rfl, by simp [Region.binds]⟩) (hn 3)
  cases j4; exact absurd (mem_ready.2 ⟨by simp, _, rfl, by simp [Region.binds]⟩) (hn 4)
  cases j5; exact absurd (mem_ready.2 ⟨by simp, _, rfl, by simp [Region.binds]⟩) (hn 5)
  cases j6; exact absurd (mem_ready.2 ⟨by simp, _, rfl, by simp [Region.binds]⟩) (hn 6)
  cases j7; exact absurd (mem_ready.2 ⟨by simp, _, rfl, by simp [Region.binds]⟩) (hn 7)
  exact ⟨_, _, _, _, _, _, _, _, w1, rfl, hB, rfl, h7 rfl⟩
theorem mo2 (gP gQ gR xa xb zz : Nat) (nx cx ny cy nz cz mx dx my dy : Nat) (ax ay az bx bb : Option Addr) (vz : Value) (w : World) (KP : Bk 150 w gP #[.slice ax nx cx, .slice ay ny cy, .slice az nz cz]) (KQ : Bk 72 w gQ #[.bool false, .slice bx mx dx, .slice bb my dy]) (HX : xa < big) (HXB : xb < big) (HZZ : zz < big) (NX : NV w (.slice ax nx cx) xa) (MX : NV w (.slice bx mx dx) xb) (NZ : NV w vz zz) {t0 t1 t7 t8 t9 t10 t11 t12 t13 t14 t15 t16 t17 t18 t19 t20 t21 t22 t23 t24 t25 t26 t27 t28 t29 t30 t31 t32 t33 t34 t35 t36 t37 t38 t39 t40 t41 t42 t43 t44 t45 t46 t47 t48 t49 t50 t51 t52 t53 t54 t55 t56 t57 t58 t59 t60 t61 t62 t63 t64 t65 t66 t67 t68 t69 t70 t71 t72 t73 : Value} {ds : List Deferred} {K : Act → World → Prop} {Q : Exit → Act → World → Prop}
    (h : ∀ (y0 y1 y2 y3 y4 y5 y6 y7 : Value) (w1 : World) (hb : Below w.heap.size w w1) (hn7 : NV w1 y7 (sj (mj xb zz) xa)), K { tmps := #[t0, t1, .pointer (some ⟨gP, 0, none⟩), .pointer (some ⟨gQ, 0, none⟩), .pointer (some ⟨gR, 0, none⟩), .bool false, vz, y7, t8, t9, t10, t11, t12, t13, t14, t15, t16, t17, y0, y1, y2, y3, y4, y5, y6, t25, t26, t27, t28, t29, t30, t31, t32, t33, t34, t35, t36, t37, t38, t39, t40, t41, t42, t43, t44, t45, t46, t47, t48, t49, t50, t51, t52, t53, t54, t55, t56, t57, t58, t59, t60, t61, t62, t63, t64, t65, t66, t67, t68, t69, t70, t71, t72, t73], defers := ds } w1) :
    (Code.region 2 mo2O true).wp Tryz.prog (Exit.then K Q) { tmps := #[t0, t1, .pointer (some ⟨gP, 0, none⟩), .pointer (some ⟨gQ, 0, none⟩), .pointer (some ⟨gR, 0, none⟩), .bool false, vz, t7, t8, t9, t10, t11, t12, t13, t14, t15, t16, t17, t18, t19, t20, t21, t22, t23, t24, t25, t26, t27, t28, t29, t30, t31, t32, t33, t34, t35, t36, t37, t38, t39, t40, t41, t42, t43, t44, t45, t46, t47, t48, t49, t50, t51, t52, t53, t54, t55, t56, t57, t58, t59, t60, t61, t62, t63, t64, t65, t66, t67, t68, t69, t70, t71, t72, t73], defers := ds } w := by
  have hsz : mo2O.size = 8 := by kernel_rfl
  refine wp_region_any (show Tryz.prog.follows .mixedOrders = true from by kernel_rfl) ?_
  rw [hsz]
  refine wpAny_inv (I := mo2I w gP gQ gR xa xb zz nx cx ny cy nz cz mx dx my dy ax ay az bx bb vz t0 t1 t8 t9 t10 t11 t12 t13 t14 t15 t16 t17 t25 t26 t27 t28 t29 t30 t31 t32 t33 t34 t35 t36 t37 t38 t39 t40 t41 t42 t43 t44 t45 t46 t47 t48 t49 t50 t51 t52 t53 t54 t55 t56 t57 t58 t59 t60 t61 t62 t63 t64 t65 t66 t67 t68 t69 t70 t71 t72 t73 ds) (mo2_steps gP gQ gR xa xb zz nx cx ny cy nz cz mx dx my dy ax ay az bx bb vz w KP KQ HX HXB HZZ NX MX NZ) (fun l a w' hI hr => ?_) 8 _ _ _ (by decide) ?_
  · obtain ⟨y0, y1, y2, y3, y4, y5, y6, y7, wm, rfl, hb, rfl, hn7⟩ := mo2_fin gP gQ gR xa xb zz nx cx ny cy nz cz mx dx my dy ax ay az bx bb vz w l a w' hI hr
    exact h _ _ _ _ _ _ _ _ _ hb hn7
  · exact ⟨false, false, false, false, false, false, false, false, t18, t19, t20, t21, t22, t23, t24, t7, rfl, rfl, ⟨rfl, rfl, rfl, Nat.le_refl _, fun _ _ => rfl⟩, (fun h => by cases h), (fun h => by cases h), (fun h => by cases h), (fun h => by cases h), (fun h => by cases h), (fun h => by cases h), (fun h => by cases h), (fun h => by cases h)⟩
def mo5F (w0 : World) (gP gQ gR ya za yb zz : Nat) (nx cx ny cy nz cz mx dx my dy : Nat) (ax ay az bx bb : Option Addr) (vz vh : Value) (t0 t1 t9 t10 t11 t12 t13 t14 t15 t16 t17 t18 t19 t20 t21 t22 t23 t24 t25 t26 t27 t28 t39 t40 t41 t42 t43 t44 t45 t46 t47 t48 t49 t50 t51 t52 t53 t54 t55 t56 t57 t58 t59 t60 t61 t62 t63 t64 t65 t66 t67 t68 t69 t70 t71 t72 t73 : Value) (ds : List Deferred) (a : Act) (w : World) : Prop :=
  ∃ y0 y1 y2 y3 y4 y5 y6 y7 y8 y9 y10 : Value, ∃ wm : World, a = { tmps := #[t0, t1, .pointer (some ⟨gP, 0, none⟩), .pointer (some ⟨gQ, 0, none⟩), .pointer (some ⟨gR, 0, none⟩), .bool false, vz, vh, y10, t9, t10, t11, t12, t13, t14, t15, t16, t17, t18, t19, t20, t21, t22, t23, t24, t25, t26, t27, t28, y0, y1, y2, y3, y4, y5, y6, y7, y8, y9, t39, t40, t41, t42, t43, t44, t45, t46, t47, t48, t49, t50, t51, t52, t53, t54, t55, t56, t57, t58, t59, t60, t61, t62, t63, t64, t65, t66, t67, t68, t69, t70, t71, t72, t73], defers := ds } ∧ Below w0.heap.size w0 wm ∧ w = wm ∧ NV wm y10 (sj (mj yb (mj zz za)) ya)
def mo5I (w0 : World) (gP gQ gR ya za yb zz : Nat) (nx cx ny cy nz cz mx dx my dy : Nat) (ax ay az bx bb : Option Addr) (vz vh : Value) (t0 t1 t9 t10 t11 t12 t13 t14 t15 t16 t17 t18 t19 t20 t21 t22 t23 t24 t25 t26 t27 t28 t39 t40 t41 t42 t43 t44 t45 t46 t47 t48 t49 t50 t51 t52 t53 t54 t55 t56 t57 t58 t59 t60 t61 t62 t63 t64 t65 t66 t67 t68 t69 t70 t71 t72 t73 : Value) (ds : List Deferred) (l : Array Bool) (a : Act) (w : World) : Prop :=
  ∃ j0 j1 j2 j3 j4 j5 j6 j7 j8 j9 j10 : Bool, ∃ x0 x1 x2 x3 x4 x5 x6 x7 x8 x9 x10 : Value, l = #[j0, j1, j2, j3, j4, j5, j6, j7, j8, j9, j10] ∧ a = { tmps := #[t0, t1, .pointer (some ⟨gP, 0, none⟩), .pointer (some ⟨gQ, 0, none⟩), .pointer (some ⟨gR, 0, none⟩), .bool false, vz, vh, x10, t9, t10, t11, t12, t13, t14, t15, t16, t17, t18, t19, t20, t21, t22, t23, t24, t25, t26, t27, t28, x0, x1, x2, x3, x4, x5, x6, x7, x8, x9, t39, t40, t41, t42, t43, t44, t45, t46, t47, t48, t49, t50, t51, t52, t53, t54, t55, t56, t57, t58, t59, t60, t61, t62, t63, t64, t65, t66, t67, t68, t69, t70, t71, t72, t73], defers := ds } ∧ Below w0.heap.size w0 w ∧
  (j0 = true → x0 = .pointer (some ⟨gQ, 2, none⟩)) ∧ (j1 = true → x1 = .slice bb my dy) ∧ (j2 = true → x2 = vz) ∧ (j3 = true → x3 = .pointer (some ⟨gP, 2, none⟩)) ∧ (j4 = true → x4 = .slice az nz cz) ∧ (j5 = true → NV w x5 (mj zz za)) ∧ (j6 = true → NV w x6 (mj yb (mj zz za))) ∧ (j7 = true → x7 = .pointer (some ⟨gP, 1, none⟩)) ∧ (j8 = true → x8 = .slice ay ny cy) ∧ (j9 = true → NV w x9 (sj (mj yb (mj zz za)) ya)) ∧ (j10 = true → NV w x10 (sj (mj yb (mj zz za)) ya))
noncomputable def mo5O : Array Oper := (Tryz.f128.body.bind fun c => findR c 5).getD #[]
set_option maxHeartbeats 16000000 in
theorem mo5_steps (gP gQ gR ya za yb zz : Nat) (nx cx ny cy nz cz mx dx my dy : Nat) (ax ay az bx bb : Option Addr) (vz vh : Value) (w : World) (KP : Bk 150 w gP #[.slice ax nx cx, .slice ay ny cy, .slice az nz cz]) (KQ : Bk 72 w gQ #[.bool false, .slice bx mx dx, .slice bb my dy]) (HY : ya < big) (HZ : za < big) (HYB : yb < big) (HZZ : zz < big) (NY : NV w (.slice ay ny cy) ya) (NW : NV w (.slice az nz cz) za) (MY : NV w (.slice bb my dy) yb) (NZ : NV w vz zz)
    {t0 t1 t9 t10 t11 t12 t13 t14 t15 t16 t17 t18 t19 t20 t21 t22 t23 t24 t25 t26 t27 t28 t39 t40 t41 t42 t43 t44 t45 t46 t47 t48 t49 t50 t51 t52 t53 t54 t55 t56 t57 t58 t59 t60 t61 t62 t63 t64 t65 t66 t67 t68 t69 t70 t71 t72 t73 : Value} {ds : List Deferred} {Q : Exit → Act → World → Prop} :
    ∀ l a w', mo5I w gP gQ gR ya za yb zz nx cx ny cy nz cz mx dx my dy ax ay az bx bb vz vh t0 t1 t9 t10 t11 t12 t13 t14 t15 t16 t17 t18 t19 t20 t21 t22 t23 t24 t25 t26 t27 t28 t39 t40 t41 t42 t43 t44 t45 t46 t47 t48 t49 t50 t51 t52 t53 t54 t55 t56 t57 t58 t59 t60 t61 t62 t63 t64 t65 t66 t67 t68 t69 t70 t71 t72 t73 ds l a w' → ∀ i ∈ Region.ready .any mo5O l, wpOp Tryz.prog mo5O Q i (fun a' w'' => mo5I w gP gQ gR ya za yb zz nx cx ny cy nz cz mx dx my dy ax ay az bx bb vz vh t0 t1 t9 t10 t11 t12 t13 t14 t15 t16 t17 t18 t19 t20 t21 t22 t23 t24 t25 t26 t27 t28 t39 t40 t41 t42 t43 t44 t45 t46 t47 t48 t49 t50 t51 t52 t53 t54 t55 t56 t57 t58 t59 t60 t61 t62 t63 t64 t65 t66 t67 t68 t69 t70 t71 t72 t73 ds (l.setIfInBounds i true) a' w'') a w' := by
  simp only [mo5O, findR, Tryz.f128, Option.bind_some, Option.or, Option.getD, Nat.reduceEqDiff, if_true, if_false, reduceIte]
  rintro l a w' hI i hi
  rw [mem_ready] at hi
  obtain ⟨hu, oo, ho, hd⟩ := hi
  have hin : i < 11 := by
    have := (Array.getElem?_eq_some_iff.1 ho).1
    simpa using this
  have hcase : i = 0 ∨ i = 1 ∨ i = 2 ∨ i = 3 ∨ i = 4 ∨ i = 5 ∨ i = 6 ∨ i = 7 ∨ i = 8 ∨ i = 9 ∨ i = 10 := by omega
  obtain ⟨j0, j1, j2, j3, j4, j5, j6, j7, j8, j9, j10, x0, x1, x2, x3, x4, x5, x6, x7, x8, x9, x10, rfl, rfl, hB, h0, h1, h2, h3, h4, h5, h6, h7, h8, h9, h10⟩ := hI
  replace h0 := Lib.hid h0
  replace h1 := Lib.hid h1
  replace h2 := Lib.hid h2
  replace h3 := Lib.hid h3
  replace h4 := Lib.hid h4
  replace h5 := Lib.hid h5
  replace h6 := Lib.hid h6
  replace h7 := Lib.hid h7
  replace h8 := Lib.hid h8
  replace h9 := Lib.hid h9
  replace h10 := Lib.hid h10
  rcases hcase with rfl | rfl | rfl | rfl | rfl | rfl | rfl | rfl | rfl | rfl | rfl
  · obtain rfl := Option.some.inj ho
    simp [Region.binds] at hu hd
    clear hd
    refine wpOp_of rfl rfl ?_
    go_simp
    unfold mo5I
    exact ⟨true, j1, j2, j3, j4, j5, j6, j7, j8, j9, j10, _, x1, x2, x3, x4, x5, x6, x7, x8, x9, x10, rfl, rfl, hB, fun _ => rfl, h1.out, h2.out, h3.out, h4.out, h5.out, h6.out, h7.out, h8.out, h9.out, h10.out⟩
  · obtain rfl := Option.some.inj ho
    simp [Region.binds] at hu hd
    have d0 : j0 = true := by simp [hd]
    have e0 := h0.out d0
    subst e0
    subst d0
    clear hd
    refine wpOp_of rfl rfl ?_
    have i2 : w'.cell? ⟨gQ, 2, none⟩ = some (.slice bb my dy) := (KQ.below hB).cell 2
    go_simp
    unfold mo5I
    exact ⟨true, true, j2, j3, j4, j5, j6, j7, j8, j9, j10, _, _, x2, x3, x4, x5, x6, x7, x8, x9, x10, rfl, rfl, hB, h0.out, fun _ => rfl, h2.out, h3.out, h4.out, h5.out, h6.out, h7.out, h8.out, h9.out, h10.out⟩
  · obtain rfl := Option.some.inj ho
    simp [Region.binds] at hu hd
    clear hd
    refine wpOp_of rfl rfl ?_
    go_simp
    unfold mo5I
    exact ⟨j0, j1, true, j3, j4, j5, j6, j7, j8, j9, j10, x0, x1, _, x3, x4, x5, x6, x7, x8, x9, x10, rfl, rfl, hB, h0.out, h1.out, fun _ => rfl, h3.out, h4.out, h5.out, h6.out, h7.out, h8.out, h9.out, h10.out⟩
  · obtain rfl := Option.some.inj ho
    simp [Region.binds] at hu hd
    clear hd
    refine wpOp_of rfl rfl ?_
    go_simp
    unfold mo5I
    exact ⟨j0, j1, j2, true, j4, j5, j6, j7, j8, j9, j10, x0, x1, x2, _, x4, x5, x6, x7, x8, x9, x10, rfl, rfl, hB, h0.out, h1.out, h2.out, fun _ => rfl, h4.out, h5.out, h6.out, h7.out, h8.out, h9.out, h10.out⟩
  · obtain rfl := Option.some.inj ho
    simp [Region.binds] at hu hd
    have d3 : j3 = true := by simp [hd]
    have e3 := h3.out d3
    subst e3
    subst d3
    clear hd
    refine wpOp_of rfl rfl ?_
    have i2 : w'.cell? ⟨gP, 2, none⟩ = some (.slice az nz cz) := (KP.below hB).cell 2
    go_simp
    unfold mo5I
    exact ⟨j0, j1, j2, true, true, j5, j6, j7, j8, j9, j10, x0, x1, x2, _, _, x5, x6, x7, x8, x9, x10, rfl, rfl, hB, h0.out, h1.out, h2.out, h3.out, fun _ => rfl, h5.out, h6.out, h7.out, h8.out, h9.out, h10.out⟩
  · obtain rfl := Option.some.inj ho
    simp [Region.binds] at hu hd
    have d2 : j2 = true := by simp [hd]
    have d4 : j4 = true := by simp [hd]
    have e2 := h2.out d2
    subst e2
    have e4 := h4.out d4
    subst e4
    subst d2
    subst d4
    clear hd
    refine wpOp_of rfl rfl ?_
    go_simp
    go_at_call 117
    refine (nk w.heap.size w (times_nv _ _ _ zz za HZZ HZ (NZ.below hB) (NW.below hB)) hB (Nat.le_refl _)).mono ?_
    rintro e w2 ⟨v', rfl, hn', hB2, hb2⟩
    unfold mo5I
    exact ⟨j0, j1, true, j3, true, true, j6, j7, j8, j9, j10, x0, x1, _, x3, _, _, x6, x7, x8, x9, x10, rfl, rfl, hB2, h0.out, h1.out, h2.out, h3.out, h4.out, fun _ => hn', fun hj => (h6.out hj).below hb2, h7.out, h8.out, fun hj => (h9.out hj).below hb2, fun hj => (h10.out hj).below hb2⟩
  · obtain rfl := Option.some.inj ho
    simp [Region.binds] at hu hd
    have d1 : j1 = true := by simp [hd]
    have d5 : j5 = true := by simp [hd]
    have e1 := h1.out d1
    subst e1
    subst d1
    subst d5
    clear hd
    refine wpOp_of rfl rfl ?_
    go_simp
    go_at_call 117
    refine (nk w.heap.size w (times_nv _ _ _ yb (mj zz za) HYB (mj_b _ _) (MY.below hB) (h5.out rfl)) hB (Nat.le_refl _)).mono ?_
    rintro e w2 ⟨v', rfl, hn', hB2, hb2⟩
    unfold mo5I
    exact ⟨j0, true, j2, j3, j4, true, true, j7, j8, j9, j10, x0, _, x2, x3, x4, x5, _, x7, x8, x9, x10, rfl, rfl, hB2, h0.out, h1.out, h2.out, h3.out, h4.out, fun hj => (h5.out hj).below hb2, fun _ => hn', h7.out, h8.out, fun hj => (h9.out hj).below hb2, fun hj => (h10.out hj).below hb2⟩
  · obtain rfl := Option.some.inj ho
    simp [Region.binds] at hu hd
    clear hd
    refine wpOp_of rfl rfl ?_
    go_simp
    unfold mo5I
    exact ⟨j0, j1, j2, j3, j4, j5, j6, true, j8, j9, j10, x0, x1, x2, x3, x4, x5, x6, _, x8, x9, x10, rfl, rfl, hB, h0.out, h1.out, h2.out, h3.out, h4.out, h5.out, h6.out, fun _ => rfl, h8.out, h9.out, h10.out⟩
  · obtain rfl := Option.some.inj ho
    simp [Region.binds] at hu hd
    have d7 : j7 = true := by simp [hd]
    have e7 := h7.out d7
    subst e7
    subst d7
    clear hd
    refine wpOp_of rfl rfl ?_
    have i1 : w'.cell? ⟨gP, 1, none⟩ = some (.slice ay ny cy) := (KP.below hB).cell 1
    go_simp
    unfold mo5I
    exact ⟨j0, j1, j2, j3, j4, j5, j6, true, true, j9, j10, x0, x1, x2, x3, x4, x5, x6, _, _, x9, x10, rfl, rfl, hB, h0.out, h1.out, h2.out, h3.out, h4.out, h5.out, h6.out, h7.out, fun _ => rfl, h9.out, h10.out⟩
  · obtain rfl := Option.some.inj ho
    simp [Region.binds] at hu hd
    have d6 : j6 = true := by simp [hd]
    have d8 : j8 = true := by simp [hd]
    have e8 := h8.out d8
    subst e8
    subst d6
    subst d8
    clear hd
    refine wpOp_of rfl rfl ?_
    go_simp
    go_at_call 116
    refine (nk w.heap.size w (minus_nv' _ _ _ (mj yb (mj zz za)) ya (mj_b _ _) HY (h6.out rfl) (NY.below hB)) hB (Nat.le_refl _)).mono ?_
    rintro e w2 ⟨v', rfl, hn', hB2, hb2⟩
    unfold mo5I
    exact ⟨j0, j1, j2, j3, j4, j5, true, j7, true, true, j10, x0, x1, x2, x3, x4, x5, x6, x7, _, _, x10, rfl, rfl, hB2, h0.out, h1.out, h2.out, h3.out, h4.out, fun hj => (h5.out hj).below hb2, fun hj => (h6.out hj).below hb2, h7.out, h8.out, fun _ => hn', fun hj => (h10.out hj).below hb2⟩
  · obtain rfl := Option.some.inj ho
    simp [Region.binds] at hu hd
    have d0 : j0 = true := by simp [hd]
    have d1 : j1 = true := by simp [hd]
    have d2 : j2 = true := by simp [hd]
    have d3 : j3 = true := by simp [hd]
    have d4 : j4 = true := by simp [hd]
    have d5 : j5 = true := by simp [hd]
    have d6 : j6 = true := by simp [hd]
    have d7 : j7 = true := by simp [hd]
    have d8 : j8 = true := by simp [hd]
    have d9 : j9 = true := by simp [hd]
    have e0 := h0.out d0
    subst e0
    have e1 := h1.out d1
    subst e1
    have e2 := h2.out d2
    subst e2
    have e3 := h3.out d3
    subst e3
    have e4 := h4.out d4
    subst e4
    have e7 := h7.out d7
    subst e7
    have e8 := h8.out d8
    subst e8
    subst d0
    subst d1
    subst d2
    subst d3
    subst d4
    subst d5
    subst d6
    subst d7
    subst d8
    subst d9
    clear hd
    refine wpOp_of rfl rfl ?_
    go_simp
    unfold mo5I
    exact ⟨true, true, true, true, true, true, true, true, true, true, true, _, _, _, _, _, x5, x6, _, _, x9, _, rfl, rfl, hB, h0.out, h1.out, h2.out, h3.out, h4.out, h5.out, h6.out, h7.out, h8.out, h9.out, fun _ => h9.out rfl⟩
set_option maxHeartbeats 16000000 in
theorem mo5_fin (gP gQ gR ya za yb zz : Nat) (nx cx ny cy nz cz mx dx my dy : Nat) (ax ay az bx bb : Option Addr) (vz vh : Value) (w : World) {t0 t1 t9 t10 t11 t12 t13 t14 t15 t16 t17 t18 t19 t20 t21 t22 t23 t24 t25 t26 t27 t28 t39 t40 t41 t42 t43 t44 t45 t46 t47 t48 t49 t50 t51 t52 t53 t54 t55 t56 t57 t58 t59 t60 t61 t62 t63 t64 t65 t66 t67 t68 t69 t70 t71 t72 t73 : Value} {ds : List Deferred} : ∀ l a w1, mo5I w gP gQ gR ya za yb zz nx cx ny cy nz cz mx dx my dy ax ay az bx bb vz vh t0 t1 t9 t10 t11 t12 t13 t14 t15 t16 t17 t18 t19 t20 t21 t22 t23 t24 t25 t26 t27 t28 t39 t40 t41 t42 t43 t44 t45 t46 t47 t48 t49 t50 t51 t52 t53 t54 t55 t56 t57 t58 t59 t60 t61 t62 t63 t64 t65 t66 t67 t68 t69 t70 t71 t72 t73 ds l a w1 → Region.ready .any mo5O l = [] → mo5F w gP gQ gR ya za yb zz nx cx ny cy nz cz mx dx my dy ax ay az bx bb vz vh t0 t1 t9 t10 t11 t12 t13 t14 t15 t16 t17 t18 t19 t20 t21 t22 t23 t24 t25 t26 t27 t28 t39 t40 t41 t42 t43 t44 t45 t46 t47 t48 t49 t50 t51 t52 t53 t54 t55 t56 t57 t58 t59 t60 t61 t62 t63 t64 t65 t66 t67 t68 t69 t70 t71 t72 t73 ds a w1 := by
  simp only [mo5O, findR, Tryz.f128, Option.bind_some, Option.or, Option.getD, Nat.reduceEqDiff, if_true, if_false, reduceIte]
  rintro l a w1 hI hr
  obtain ⟨j0, j1, j2, j3, j4, j5, j6, j7, j8, j9, j10, x0, x1, x2, x3, x4, x5, x6, x7, x8, x9, x10, rfl, rfl, hB, h0, h1, h2, h3, h4, h5, h6, h7, h8, h9, h10⟩ := hI
  have hn := fun i => List.eq_nil_iff_forall_not_mem.1 hr i
  clear hr
  cases j0; exact absurd (mem_ready.2 ⟨by simp, _, rfl, by simp [Region.binds]⟩) (hn 0)
  cases j1; exact absurd (mem_ready.2 ⟨by simp, _, rfl, by simp [Region.binds]⟩) (hn 1)
  cases j2; exact absurd (mem_ready.2 ⟨by simp, _, rfl, by simp [Region.binds]⟩) (hn 2)
  cases j3; exact absurd (mem_ready.2 ⟨by simp, _, rfl, by simp [Region.binds]⟩) (hn 3)
  cases j4; exact absurd (mem_ready.2 ⟨by simp, _, rfl, by simp [Region.binds]⟩) (hn 4)
  cases j5; exact absurd (mem_ready.2 ⟨by simp, _, rfl, by simp [Region.binds]⟩) (hn 5)
  cases j6; exact absurd (mem_ready.2 ⟨by simp, _, rfl, by simp [Region.binds]⟩) (hn 6)
  cases j7; exact absurd (mem_ready.2 ⟨by simp, _, rfl, by simp [Region.binds]⟩) (hn 7)
  cases j8; exact absurd (mem_ready.2 ⟨by simp, _, rfl, by simp [Region.binds]⟩) (hn 8)
  cases j9; exact absurd (mem_ready.2 ⟨by simp, _, rfl, by simp [Region.binds]⟩) (hn 9)
  cases j10; exact absurd (mem_ready.2 ⟨by simp, _, rfl, by simp [Region.binds]⟩) (hn 10)
  exact ⟨_, _, _, _, _, _, _, _, _, _, _, w1, rfl, hB, rfl, h10 rfl⟩
theorem mo5 (gP gQ gR ya za yb zz : Nat) (nx cx ny cy nz cz mx dx my dy : Nat) (ax ay az bx bb : Option Addr) (vz vh : Value) (w : World) (KP : Bk 150 w gP #[.slice ax nx cx, .slice ay ny cy, .slice az nz cz]) (KQ : Bk 72 w gQ #[.bool false, .slice bx mx dx, .slice bb my dy]) (HY : ya < big) (HZ : za < big) (HYB : yb < big) (HZZ : zz < big) (NY : NV w (.slice ay ny cy) ya) (NW : NV w (.slice az nz cz) za) (MY : NV w (.slice bb my dy) yb) (NZ : NV w vz zz) {t0 t1 t8 t9 t10 t11 t12 t13 t14 t15 t16 t17 t18 t19 t20 t21 t22 t23 t24 t25 t26 t27 t28 t29 t30 t31 t32 t33 t34 t35 t36 t37 t38 t39 t40 t41 t42 t43 t44 t45 t46 t47 t48 t49 t50 t51 t52 t53 t54 t55 t56 t57 t58 t59 t60 t61 t62 t63 t64 t65 t66 t67 t68 t69 t70 t71 t72 t73 : Value} {ds : List Deferred} {K : Act → World → Prop} {Q : Exit → Act → World → Prop}
    (h : ∀ (y0 y1 y2 y3 y4 y5 y6 y7 y8 y9 y10 : Value) (w1 : World) (hb : Below w.heap.size w w1) (hn10 : NV w1 y10 (sj (mj yb (mj zz za)) ya)), K { tmps := #[t0, t1, .pointer (some ⟨gP, 0, none⟩), .pointer (some ⟨gQ, 0, none⟩), .pointer (some ⟨gR, 0, none⟩), .bool false, vz, vh, y10, t9, t10, t11, t12, t13, t14, t15, t16, t17, t18, t19, t20, t21, t22, t23, t24, t25, t26, t27, t28, y0, y1, y2, y3, y4, y5, y6, y7, y8, y9, t39, t40, t41, t42, t43, t44, t45, t46, t47, t48, t49, t50, t51, t52, t53, t54, t55, t56, t57, t58, t59, t60, t61, t62, t63, t64, t65, t66, t67, t68, t69, t70, t71, t72, t73], defers := ds } w1) :
    (Code.region 5 mo5O true).wp Tryz.prog (Exit.then K Q) { tmps := #[t0, t1, .pointer (some ⟨gP, 0, none⟩), .pointer (some ⟨gQ, 0, none⟩), .pointer (some ⟨gR, 0, none⟩), .bool false, vz, vh, t8, t9, t10, t11, t12, t13, t14, t15, t16, t17, t18, t19, t20, t21, t22, t23, t24, t25, t26, t27, t28, t29, t30, t31, t32, t33, t34, t35, t36, t37, t38, t39, t40, t41, t42, t43, t44, t45, t46, t47, t48, t49, t50, t51, t52, t53, t54, t55, t56, t57, t58, t59, t60, t61, t62, t63, t64, t65, t66, t67, t68, t69, t70, t71, t72, t73], defers := ds } w := by
  have hsz : mo5O.size = 11 := by kernel_rfl
  refine wp_region_any (show Tryz.prog.follows .mixedOrders = true from by kernel_rfl) ?_
  rw [hsz]
  refine wpAny_inv (I := mo5I w gP gQ gR ya za yb zz nx cx ny cy nz cz mx dx my dy ax ay az bx bb vz vh t0 t1 t9 t10 t11 t12 t13 t14 t15 t16 t17 t18 t19 t20 t21 t22 t23 t24 t25 t26 t27 t28 t39 t40 t41 t42 t43 t44 t45 t46 t47 t48 t49 t50 t51 t52 t53 t54 t55 t56 t57 t58 t59 t60 t61 t62 t63 t64 t65 t66 t67 t68 t69 t70 t71 t72 t73 ds) (mo5_steps gP gQ gR ya za yb zz nx cx ny cy nz cz mx dx my dy ax ay az bx bb vz vh w KP KQ HY HZ HYB HZZ NY NW MY NZ) (fun l a w' hI hr => ?_) 11 _ _ _ (by decide) ?_
  · obtain ⟨y0, y1, y2, y3, y4, y5, y6, y7, y8, y9, y10, wm, rfl, hb, rfl, hn10⟩ := mo5_fin gP gQ gR ya za yb zz nx cx ny cy nz cz mx dx my dy ax ay az bx bb vz vh w l a w' hI hr
    exact h _ _ _ _ _ _ _ _ _ _ _ _ hb hn10
  · exact ⟨false, false, false, false, false, false, false, false, false, false, false, t29, t30, t31, t32, t33, t34, t35, t36, t37, t38, t8, rfl, rfl, ⟨rfl, rfl, rfl, Nat.le_refl _, fun _ _ => rfl⟩, (fun h => by cases h), (fun h => by cases h), (fun h => by cases h), (fun h => by cases h), (fun h => by cases h), (fun h => by cases h), (fun h => by cases h), (fun h => by cases h), (fun h => by cases h), (fun h => by cases h), (fun h => by cases h)⟩
def mo7F (w0 : World) (gP gQ gR xa hh kk : Nat) (nx cx ny cy nz cz mx dx my dy : Nat) (ax ay az bx bb : Option Addr) (vz vh vr vk : Value) (t0 t1 t12 t13 t14 t15 t16 t17 t18 t19 t20 t21 t22 t23 t24 t25 t26 t27 t28 t29 t30 t31 t32 t33 t34 t35 t36 t37 t38 t39 t40 t41 t49 t50 t51 t52 t53 t54 t55 t56 t57 t58 t59 t60 t61 t62 t63 t64 t65 t66 t67 t68 t69 t70 t71 t72 t73 : Value) (ds : List Deferred) (a : Act) (w : World) : Prop :=
  ∃ y0 y1 y2 y3 y4 y5 y6 y7 y8 : Value, ∃ wm : World, a = { tmps := #[t0, t1, .pointer (some ⟨gP, 0, none⟩), .pointer (some ⟨gQ, 0, none⟩), .pointer (some ⟨gR, 0, none⟩), .bool false, vz, vh, vr, vk, y7, y8, t12, t13, t14, t15, t16, t17, t18, t19, t20, t21, t22, t23, t24, t25, t26, t27, t28, t29, t30, t31, t32, t33, t34, t35, t36, t37, t38, t39, t40, t41, y0, y1, y2, y3, y4, y5, y6, t49, t50, t51, t52, t53, t54, t55, t56, t57, t58, t59, t60, t61, t62, t63, t64, t65, t66, t67, t68, t69, t70, t71, t72, t73], defers := ds } ∧ Below w0.heap.size w0 wm ∧ w = wm ∧ NV wm y7 (mj hh kk) ∧ NV wm y8 (mj xa kk)
def mo7I (w0 : World) (gP gQ gR xa hh kk : Nat) (nx cx ny cy nz cz mx dx my dy : Nat) (ax ay az bx bb : Option Addr) (vz vh vr vk : Value) (t0 t1 t12 t13 t14 t15 t16 t17 t18 t19 t20 t21 t22 t23 t24 t25 t26 t27 t28 t29 t30 t31 t32 t33 t34 t35 t36 t37 t38 t39 t40 t41 t49 t50 t51 t52 t53 t54 t55 t56 t57 t58 t59 t60 t61 t62 t63 t64 t65 t66 t67 t68 t69 t70 t71 t72 t73 : Value) (ds : List Deferred) (l : Array Bool) (a : Act) (w : World) : Prop :=
  ∃ j0 j1 j2 j3 j4 j5 j6 j7 j8 : Bool, ∃ x0 x1 x2 x3 x4 x5 x6 x7 x8 : Value, l = #[j0, j1, j2, j3, j4, j5, j6, j7, j8] ∧ a = { tmps := #[t0, t1, .pointer (some ⟨gP, 0, none⟩), .pointer (some ⟨gQ, 0, none⟩), .pointer (some ⟨gR, 0, none⟩), .bool false, vz, vh, vr, vk, x7, x8, t12, t13, t14, t15, t16, t17, t18, t19, t20, t21, t22, t23, t24, t25, t26, t27, t28, t29, t30, t31, t32, t33, t34, t35, t36, t37, t38, t39, t40, t41, x0, x1, x2, x3, x4, x5, x6, t49, t50, t51, t52, t53, t54, t55, t56, t57, t58, t59, t60, t61, t62, t63, t64, t65, t66, t67, t68, t69, t70, t71, t72, t73], defers := ds } ∧ Below w0.heap.size w0 w ∧
  (j0 = true → x0 = vh) ∧ (j1 = true → x1 = vk) ∧ (j2 = true → NV w x2 (mj hh kk)) ∧ (j3 = true → x3 = .pointer (some ⟨gP, 0, none⟩)) ∧ (j4 = true → x4 = .slice ax nx cx) ∧ (j5 = true → x5 = vk) ∧ (j6 = true → NV w x6 (mj xa kk)) ∧ (j7 = true → NV w x7 (mj hh kk)) ∧ (j8 = true → NV w x8 (mj xa kk))
noncomputable def mo7O : Array Oper := (Tryz.f128.body.bind fun c => findR c 7).getD #[]
set_option maxHeartbeats 16000000 in
theorem mo7_steps (gP gQ gR xa hh kk : Nat) (nx cx ny cy nz cz mx dx my dy : Nat) (ax ay az bx bb : Option Addr) (vz vh vr vk : Value) (w : World) (KP : Bk 150 w gP #[.slice ax nx cx, .slice ay ny cy, .slice az nz cz]) (HX : xa < big) (HH : hh < big) (HK : kk < big) (NX : NV w (.slice ax nx cx) xa) (NH : NV w vh hh) (NK : NV w vk kk)
    {t0 t1 t12 t13 t14 t15 t16 t17 t18 t19 t20 t21 t22 t23 t24 t25 t26 t27 t28 t29 t30 t31 t32 t33 t34 t35 t36 t37 t38 t39 t40 t41 t49 t50 t51 t52 t53 t54 t55 t56 t57 t58 t59 t60 t61 t62 t63 t64 t65 t66 t67 t68 t69 t70 t71 t72 t73 : Value} {ds : List Deferred} {Q : Exit → Act → World → Prop} :
    ∀ l a w', mo7I w gP gQ gR xa hh kk nx cx ny cy nz cz mx dx my dy ax ay az bx bb vz vh vr vk t0 t1 t12 t13 t14 t15 t16 t17 t18 t19 t20 t21 t22 t23 t24 t25 t26 t27 t28 t29 t30 t31 t32 t33 t34 t35 t36 t37 t38 t39 t40 t41 t49 t50 t51 t52 t53 t54 t55 t56 t57 t58 t59 t60 t61 t62 t63 t64 t65 t66 t67 t68 t69 t70 t71 t72 t73 ds l a w' → ∀ i ∈ Region.ready .any mo7O l, wpOp Tryz.prog mo7O Q i (fun a' w'' => mo7I w gP gQ gR xa hh kk nx cx ny cy nz cz mx dx my dy ax ay az bx bb vz vh vr vk t0 t1 t12 t13 t14 t15 t16 t17 t18 t19 t20 t21 t22 t23 t24 t25 t26 t27 t28 t29 t30 t31 t32 t33 t34 t35 t36 t37 t38 t39 t40 t41 t49 t50 t51 t52 t53 t54 t55 t56 t57 t58 t59 t60 t61 t62 t63 t64 t65 t66 t67 t68 t69 t70 t71 t72 t73 ds (l.setIfInBounds i true) a' w'') a w' := by
  simp only [mo7O, findR, Tryz.f128, Option.bind_some, Option.or, Option.getD, Nat.reduceEqDiff, if_true, if_false, reduceIte]
  rintro l a w' hI i hi
  rw [mem_ready] at hi
  obtain ⟨hu, oo, ho, hd⟩ := hi
  have hin : i < 9 := by
    have := (Array.getElem?_eq_some_iff.1 ho).1
    simpa using this
  have hcase : i = 0 ∨ i = 1 ∨ i = 2 ∨ i = 3 ∨ i = 4 ∨ i = 5 ∨ i = 6 ∨ i = 7 ∨ i = 8 := by omega
  obtain ⟨j0, j1, j2, j3, j4, j5, j6, j7, j8, x0, x1, x2, x3, x4, x5, x6, x7, x8, rfl, rfl, hB, h0, h1, h2, h3, h4, h5, h6, h7, h8⟩ := hI
  replace h0 := Lib.hid h0
  replace h1 := Lib.hid h1
  replace h2 := Lib.hid h2
  replace h3 := Lib.hid h3
  replace h4 := Lib.hid h4
  replace h5 := Lib.hid h5
  replace h6 := Lib.hid h6
  replace h7 := Lib.hid h7
  replace h8 := Lib.hid h8
  rcases hcase with rfl | rfl | rfl | rfl | rfl | rfl | rfl | rfl | rfl
  · obtain rfl := Option.some.inj ho
    simp [Region.binds] at hu hd
    clear hd
    refine wpOp_of rfl rfl ?_
    go_simp
    unfold mo7I
    exact ⟨true, j1, j2, j3, j4, j5, j6, j7, j8, _, x1, x2, x3, x4, x5, x6, x7, x8, rfl, rfl, hB, fun _ => rfl, h1.out, h2.out, h3.out, h4.out, h5.out, h6.out, h7.out, h8.out⟩
  · obtain rfl := Option.some.inj ho
    simp [Region.binds] at hu hd
    clear hd
    refine wpOp_of rfl rfl ?_
    go_simp
    unfold mo7I
    exact ⟨j0, true, j2, j3, j4, j5, j6, j7, j8, x0, _, x2, x3, x4, x5, x6, x7, x8, rfl, rfl, hB, h0.out, fun _ => rfl, h2.out, h3.out, h4.out, h5.out, h6.out, h7.out, h8.out⟩
  · obtain rfl := Option.some.inj ho
    simp [Region.binds] at hu hd
    have d0 : j0 = true := by simp [hd]
    have d1 : j1 = true := by simp [hd]
    have e0 := h0.out d0
    subst e0
    have e1 := h1.out d1
    subst e1
    subst d0
    subst d1
    clear hd
    refine wpOp_of rfl rfl ?_
    go_simp
    go_at_call 117
    refine (nk w.heap.size w (times_nv _ _ _ hh kk HH HK (NH.below hB) (NK.below hB)) hB (Nat.le_refl _)).mono ?_
    rintro e w2 ⟨v', rfl, hn', hB2, hb2⟩
    unfold mo7I
    exact ⟨true, true, true, j3, j4, j5, j6, j7, j8, _, _, _, x3, x4, x5, x6, x7, x8, rfl, rfl, hB2, h0.out, h1.out, fun _ => hn', h3.out, h4.out, h5.out, fun hj => (h6.out hj).below hb2, fun hj => (h7.out hj).below hb2, fun hj => (h8.out hj).below hb2⟩
  · obtain rfl := Option.some.inj ho
    simp [Region.binds] at hu hd
    clear hd
    refine wpOp_of rfl rfl ?_
    go_simp
    unfold mo7I
    exact ⟨j0, j1, j2, true, j4, j5, j6, j7, j8, x0, x1, x2, _, x4, x5, x6, x7, x8, rfl, rfl, hB, h0.out, h1.out, h2.out, fun _ => rfl, h4.out, h5.out, h6.out, h7.out, h8.out⟩
  · obtain rfl := Option.some.inj ho
    simp [Region.binds] at hu hd
    have d3 : j3 = true := by simp [hd]
    have e3 := h3.out d3
    subst e3
    subst d3
    clear hd
    refine wpOp_of rfl rfl ?_
    have i0 : w'.cell? ⟨gP, 0, none⟩ = some (.slice ax nx cx) := (KP.below hB).cell 0
    go_simp
    unfold mo7I
    exact ⟨j0, j1, j2, true, true, j5, j6, j7, j8, x0, x1, x2, _, _, x5, x6, x7, x8, rfl, rfl, hB, h0.out, h1.out, h2.out, h3.out, fun _ => rfl, h5.out, h6.out, h7.out, h8.out⟩
  · obtain rfl := Option.some.inj ho
    simp [Region.binds] at hu hd
    clear hd
    refine wpOp_of rfl rfl ?_
    go_simp
    unfold mo7I
    exact ⟨j0, j1, j2, j3, j4, true, j6, j7, j8, x0, x1, x2, x3, x4, _, x6, x7, x8, rfl, rfl, hB, h0.out, h1.out, h2.out, h3.out, h4.out, fun _ => rfl, h6.out, h7.out, h8.out⟩
  · obtain rfl := Option.some.inj ho
    simp [Region.binds] at hu hd
    have d2 : j2 = true := by simp [hd]
    have d4 : j4 = true := by simp [hd]
    have d5 : j5 = true := by simp [hd]
    have e4 := h4.out d4
    subst e4
    have e5 := h5.out d5
    subst e5
    subst d2
    subst d4
    subst d5
    clear hd
    refine wpOp_of rfl rfl ?_
    go_simp
    go_at_call 117
    refine (nk w.heap.size w (times_nv _ _ _ xa kk HX HK (NX.below hB) (NK.below hB)) hB (Nat.le_refl _)).mono ?_
    rintro e w2 ⟨v', rfl, hn', hB2, hb2⟩
    unfold mo7I
    exact ⟨j0, j1, true, j3, true, true, true, j7, j8, x0, x1, x2, x3, _, _, _, x7, x8, rfl, rfl, hB2, h0.out, h1.out, fun hj => (h2.out hj).below hb2, h3.out, h4.out, h5.out, fun _ => hn', fun hj => (h7.out hj).below hb2, fun hj => (h8.out hj).below hb2⟩
  · obtain rfl := Option.some.inj ho
    simp [Region.binds] at hu hd
    have d0 : j0 = true := by simp [hd]
    have d1 : j1 = true := by simp [hd]
    have d2 : j2 = true := by simp [hd]
    have d6 : j6 = true := by simp [hd]
    have e0 := h0.out d0
    subst e0
    have e1 := h1.out d1
    subst e1
    subst d0
    subst d1
    subst d2
    subst d6
    clear hd
    refine wpOp_of rfl rfl ?_
    go_simp
    unfold mo7I
    exact ⟨true, true, true, j3, j4, j5, true, true, j8, _, _, x2, x3, x4, x5, x6, _, x8, rfl, rfl, hB, h0.out, h1.out, h2.out, h3.out, h4.out, h5.out, h6.out, fun _ => h2.out rfl, h8.out⟩
  · obtain rfl := Option.some.inj ho
    simp [Region.binds] at hu hd
    have d0 : j0 = true := by simp [hd]
    have d1 : j1 = true := by simp [hd]
    have d2 : j2 = true := by simp [hd]
    have d3 : j3 = true := by simp [hd]
    have d4 : j4 = true := by simp [hd]
    have d5 : j5 = true := by simp [hd]
    have d6 : j6 = true := by simp [hd]
    have d7 : j7 = true := by simp [hd]
    have e0 := h0.out d0
    subst e0
    have e1 := h1.out d1
    subst e1
    have e3 := h3.out d3
    subst e3
    have e4 := h4.out d4
    subst e4
    have e5 := h5.out d5
    subst e5
    subst d0
    subst d1
    subst d2
    subst d3
    subst d4
    subst d5
    subst d6
    subst d7
    clear hd
    refine wpOp_of rfl rfl ?_
    go_simp
    unfold mo7I
    exact ⟨true, true, true, true, true, true, true, true, true, _, _, x2, _, _, _, x6, x7, _, rfl, rfl, hB, h0.out, h1.out, h2.out, h3.out, h4.out, h5.out, h6.out, h7.out, fun _ => h6.out rfl⟩
set_option maxHeartbeats 16000000 in
theorem mo7_fin (gP gQ gR xa hh kk : Nat) (nx cx ny cy nz cz mx dx my dy : Nat) (ax ay az bx bb : Option Addr) (vz vh vr vk : Value) (w : World) {t0 t1 t12 t13 t14 t15 t16 t17 t18 t19 t20 t21 t22 t23 t24 t25 t26 t27 t28 t29 t30 t31 t32 t33 t34 t35 t36 t37 t38 t39 t40 t41 t49 t50 t51 t52 t53 t54 t55 t56 t57 t58 t59 t60 t61 t62 t63 t64 t65 t66 t67 t68 t69 t70 t71 t72 t73 : Value} {ds : List Deferred} : ∀ l a w1, mo7I w gP gQ gR xa hh kk nx cx ny cy nz cz mx dx my dy ax ay az bx bb vz vh vr vk t0 t1 t12 t13 t14 t15 t16 t17 t18 t19 t20 t21 t22 t23 t24 t25 t26 t27 t28 t29 t30 t31 t32 t33 t34 t35 t36 t37 t38 t39 t40 t41 t49 t50 t51 t52 t53 t54 t55 t56 t57 t58 t59 t60 t61 t62 t63 t64 t65 t66 t67 t68 t69 t70 t71 t72 t73 ds l a w1 → Region.ready .any mo7O l = [] → mo7F w gP gQ gR xa hh kk nx cx ny cy nz cz mx dx my dy ax ay az bx bb vz vh vr vk t0 t1 t12 t13 t14 t15 t16 t17 t18 t19 t20 t21 t22 t23 t24 t25 t26 t27 t28 t29 t30 t31 t32 t33 t34 t35 t36 t37 t38 t39 t40 t41 t49 t50 t51 t52 t53 t54 t55 t56 t57 t58 t59 t60 t61 t62 t63 t64 t65 t66 t67 t68 t69 t70 t71 t72 t73 ds a w1 := by
  simp only [mo7O, findR, Tryz.f128, Option.bind_some, Option.or, Option.getD, Nat.reduceEqDiff, if_true, if_false, reduceIte]
  rintro l a w1 hI hr
  obtain ⟨j0, j1, j2, j3, j4, j5, j6, j7, j8, x0, x1, x2, x3, x4, x5, x6, x7, x8, rfl, rfl, hB, h0, h1, h2, h3, h4, h5, h6, h7, h8⟩ := hI
  have hn := fun i => List.eq_nil_iff_forall_not_mem.1 hr i
  clear hr
  cases j0; exact absurd (mem_ready.2 ⟨by simp, _, rfl, by simp [Region.binds]⟩) (hn 0)
  cases j1; exact absurd (mem_ready.2 ⟨by simp, _, rfl, by simp [Region.binds]⟩) (hn 1)
  cases j2; exact absurd (mem_ready.2 ⟨by simp, _, rfl, by simp [Region.binds]⟩) (hn 2)
  cases j3; exact absurd (mem_ready.2 ⟨by simp, _, rfl, by simp [Region.binds]⟩) (hn 3)
  cases j4; exact absurd (mem_ready.2 ⟨by simp, _, rfl, by simp [Region.binds]⟩) (hn 4)
  cases j5; exact absurd (mem_ready.2 ⟨by simp, _, rfl, by simp [Region.binds]⟩) (hn 5)
  cases j6; exact absurd (mem_ready.2 ⟨by simp, _, rfl, by simp [Region.binds]⟩) (hn 6)
  cases j7; exact absurd (mem_ready.2 ⟨by simp, _, rfl, by simp [Region.binds]⟩) (hn 7)
  cases j8; exact absurd (mem_ready.2 ⟨by simp, _, rfl, by simp [Region.binds]⟩) (hn 8)
  exact ⟨_, _, _, _, _, _, _, _, _, w1, rfl, hB, rfl, h7 rfl, h8 rfl⟩
theorem mo7 (gP gQ gR xa hh kk : Nat) (nx cx ny cy nz cz mx dx my dy : Nat) (ax ay az bx bb : Option Addr) (vz vh vr vk : Value) (w : World) (KP : Bk 150 w gP #[.slice ax nx cx, .slice ay ny cy, .slice az nz cz]) (HX : xa < big) (HH : hh < big) (HK : kk < big) (NX : NV w (.slice ax nx cx) xa) (NH : NV w vh hh) (NK : NV w vk kk) {t0 t1 t10 t11 t12 t13 t14 t15 t16 t17 t18 t19 t20 t21 t22 t23 t24 t25 t26 t27 t28 t29 t30 t31 t32 t33 t34 t35 t36 t37 t38 t39 t40 t41 t42 t43 t44 t45 t46 t47 t48 t49 t50 t51 t52 t53 t54 t55 t56 t57 t58 t59 t60 t61 t62 t63 t64 t65 t66 t67 t68 t69 t70 t71 t72 t73 : Value} {ds : List Deferred} {K : Act → World → Prop} {Q : Exit → Act → World → Prop}
    (h : ∀ (y0 y1 y2 y3 y4 y5 y6 y7 y8 : Value) (w1 : World) (hb : Below w.heap.size w w1) (hn7 : NV w1 y7 (mj hh kk)) (hn8 : NV w1 y8 (mj xa kk)), K { tmps := #[t0, t1, .pointer (some ⟨gP, 0, none⟩), .pointer (some ⟨gQ, 0, none⟩), .pointer (some ⟨gR, 0, none⟩), .bool false, vz, vh, vr, vk, y7, y8, t12, t13, t14, t15, t16, t17, t18, t19, t20, t21, t22, t23, t24, t25, t26, t27, t28, t29, t30, t31, t32, t33, t34, t35, t36, t37, t38, t39, t40, t41, y0, y1, y2, y3, y4, y5, y6, t49, t50, t51, t52, t53, t54, t55, t56, t57, t58, t59, t60, t61, t62, t63, t64, t65, t66, t67, t68, t69, t70, t71, t72, t73], defers := ds } w1) :
    (Code.region 7 mo7O true).wp Tryz.prog (Exit.then K Q) { tmps := #[t0, t1, .pointer (some ⟨gP, 0, none⟩), .pointer (some ⟨gQ, 0, none⟩), .pointer (some ⟨gR, 0, none⟩), .bool false, vz, vh, vr, vk, t10, t11, t12, t13, t14, t15, t16, t17, t18, t19, t20, t21, t22, t23, t24, t25, t26, t27, t28, t29, t30, t31, t32, t33, t34, t35, t36, t37, t38, t39, t40, t41, t42, t43, t44, t45, t46, t47, t48, t49, t50, t51, t52, t53, t54, t55, t56, t57, t58, t59, t60, t61, t62, t63, t64, t65, t66, t67, t68, t69, t70, t71, t72, t73], defers := ds } w := by
  have hsz : mo7O.size = 9 := by kernel_rfl
  refine wp_region_any (show Tryz.prog.follows .mixedOrders = true from by kernel_rfl) ?_
  rw [hsz]
  refine wpAny_inv (I := mo7I w gP gQ gR xa hh kk nx cx ny cy nz cz mx dx my dy ax ay az bx bb vz vh vr vk t0 t1 t12 t13 t14 t15 t16 t17 t18 t19 t20 t21 t22 t23 t24 t25 t26 t27 t28 t29 t30 t31 t32 t33 t34 t35 t36 t37 t38 t39 t40 t41 t49 t50 t51 t52 t53 t54 t55 t56 t57 t58 t59 t60 t61 t62 t63 t64 t65 t66 t67 t68 t69 t70 t71 t72 t73 ds) (mo7_steps gP gQ gR xa hh kk nx cx ny cy nz cz mx dx my dy ax ay az bx bb vz vh vr vk w KP HX HH HK NX NH NK) (fun l a w' hI hr => ?_) 9 _ _ _ (by decide) ?_
  · obtain ⟨y0, y1, y2, y3, y4, y5, y6, y7, y8, wm, rfl, hb, rfl, hn7, hn8⟩ := mo7_fin gP gQ gR xa hh kk nx cx ny cy nz cz mx dx my dy ax ay az bx bb vz vh vr vk w l a w' hI hr
    exact h _ _ _ _ _ _ _ _ _ _ hb hn7 hn8
  · exact ⟨false, false, false, false, false, false, false, false, false, t42, t43, t44, t45, t46, t47, t48, t10, t11, rfl, rfl, ⟨rfl, rfl, rfl, Nat.le_refl _, fun _ _ => rfl⟩, (fun h => by cases h), (fun h => by cases h), (fun h => by cases h), (fun h => by cases h), (fun h => by cases h), (fun h => by cases h), (fun h => by cases h), (fun h => by cases h), (fun h => by cases h)⟩
end Go.Proofs.YtpggkfdijmnmiaaGreat.Ref
