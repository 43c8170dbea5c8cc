/- The reference's points: In, Opposite, Out and their drawn regions. Condition: a point's numbers are below 2 to the 256. The reference's points: In, Opposite, Same, Out. Condition: a point's numbers are below 2 to the 256. The reference's points: Same and Out. Condition: a point's numbers are below 2 to the 256. -/
import Derived.Test.YtpggkfdijmnmiaaGreatZup08
set_option linter.unusedVariables false
set_option linter.unusedSimpArgs false
set_option maxRecDepth 100000
namespace Go.Proofs.YtpggkfdijmnmiaaGreat.Ref
open Go.RowKit Go.Proofs.YtpggkfdijmnmiaaGreat.Digits Limbs Curve
def RP (w : World) (v : Value) (p : Po) : Prop := ∃ ax nx cx ay ny cy, v = .agg #[.bool p.i, .slice ax nx cx, .slice ay ny cy] ∧ (p.i = false → NV w (.slice ax nx cx) p.x ∧ NV w (.slice ay ny cy) p.y)
theorem RP.below {w w' : World} {v : Value} {p : Po} (h : RP w v p) (hb : Below w.heap.size w w') : RP w' v p := by
  obtain ⟨ax, nx, cx, ay, ny, cy, h1, h2⟩ := h
  exact ⟨ax, nx, cx, ay, ny, cy, h1, fun h => ⟨(h2 h).1.below hb, (h2 h).2.below hb⟩⟩
theorem NV.shape {w : World} {v : Value} {n : Nat} (h : NV w v n) : ∃ a l c, v = .slice a l c := by
  obtain ⟨r, ⟨g, cap, rfl, _⟩, _⟩ := h
  exact ⟨_, _, _, rfl⟩
theorem qk {f : FuncId} {args : Array Value} {W : World} {p : Po} (B : Nat) (w : World) (h : Calls Tryz.prog f args W fun e w' => ∃ v', e = .returned v' ∧ RP w' v' p ∧ Below W.heap.size W w') (hb : Below B w W) (hB : B ≤ w.heap.size) :
    Calls Tryz.prog f args W fun e w' => ∃ v', e = .returned v' ∧ RP w' v' p ∧ Below B w w' ∧ Below W.heap.size W w' :=
  h.mono fun _ _ ⟨v', h1, h2, h3⟩ => ⟨v', h1, h2, hb.trans (h3.mono (Nat.le_trans hB hb.size)), h3⟩
def in1F (w0 : World) (gP gR ux uy : Nat) (pi : Bool) (t0 : Value) (ds : List Deferred) (a : Act) (w : World) : Prop :=
  ∃ y0 y1 y2 y3 y4 y5 y6 y7 y8 : Value, ∃ wm : World, a = { tmps := #[t0, .pointer (some ⟨gP, 0, none⟩), .pointer (some ⟨gR, 0, none⟩), y0, y1, y2, y3, y4, y5, y6, y7, y8], defers := ds } ∧ Below w0.heap.size w0 wm ∧ w = (World.setCell (World.setCell (World.setCell wm ⟨gR, 0, none⟩ (.bool pi)) ⟨gR, 1, none⟩ (y4)) ⟨gR, 2, none⟩ (y7)) ∧ NV wm y4 (ux) ∧ NV wm y7 (uy)
def in1I (w0 : World) (gP gR ux uy : Nat) (pi : Bool) (t0 : Value) (ds : List Deferred) (l : Array Bool) (a : Act) (w : World) : Prop :=
  (l = #[true, true, true, true, true, true, true, true, true, true] ∧ in1F w0 gP gR ux uy pi t0 ds a w) ∨ (∃ j0 j1 j2 j3 j4 j5 j6 j7 j8 : Bool, ∃ x0 x1 x2 x3 x4 x5 x6 x7 x8 : Value, l = #[j0, j1, j2, j3, j4, j5, j6, j7, j8, false] ∧ a = { tmps := #[t0, .pointer (some ⟨gP, 0, none⟩), .pointer (some ⟨gR, 0, none⟩), x0, x1, x2, x3, x4, x5, x6, x7, x8], defers := ds } ∧ Below w0.heap.size w0 w ∧
  (j0 = true → x0 = .pointer (some ⟨gP, 8, none⟩)) ∧ (j1 = true → x1 = .bool pi) ∧ (j2 = true → x2 = .pointer (some ⟨gP, 0, none⟩)) ∧ (j3 = true → x3 = .agg #[.int .u64 (lb ux 0 : Nat), .int .u64 (lb ux 1 : Nat), .int .u64 (lb ux 2 : Nat), .int .u64 (lb ux 3 : Nat)]) ∧ (j4 = true → NV w x4 (ux)) ∧ (j5 = true → x5 = .pointer (some ⟨gP, 4, none⟩)) ∧ (j6 = true → x6 = .agg #[.int .u64 (lb uy 0 : Nat), .int .u64 (lb uy 1 : Nat), .int .u64 (lb uy 2 : Nat), .int .u64 (lb uy 3 : Nat)]) ∧ (j7 = true → NV w x7 (uy)) ∧ (j8 = true → x8 = .agg #[.bool pi, x4, x7] ∧ j4 = true ∧ j7 = true))
noncomputable def in1O : Array Oper := (Tryz.f67.body.bind fun c => findR c 1).getD #[]
set_option maxHeartbeats 16000000 in
theorem in1_steps (gP gR ux uy : Nat) (pi : Bool) (w : World) (KP : Bk 26 w gP #[.int .u64 (lb ux 0 : Nat), .int .u64 (lb ux 1 : Nat), .int .u64 (lb ux 2 : Nat), .int .u64 (lb ux 3 : Nat), .int .u64 (lb uy 0 : Nat), .int .u64 (lb uy 1 : Nat), .int .u64 (lb uy 2 : Nat), .int .u64 (lb uy 3 : Nat), .bool pi]) (KR : Bk 72 w gR #[.bool false, .slice none 0 0, .slice none 0 0]) (HX : Hid (∀ w, Calls Tryz.prog 45 #[.agg #[.int .u64 (lb ux 0 : Nat), .int .u64 (lb ux 1 : Nat), .int .u64 (lb ux 2 : Nat), .int .u64 (lb ux 3 : Nat)]] w fun e w' => ∃ v', e = .returned v' ∧ Nr w w' v' ux)) (HY : Hid (∀ w, Calls Tryz.prog 45 #[.agg #[.int .u64 (lb uy 0 : Nat), .int .u64 (lb uy 1 : Nat), .int .u64 (lb uy 2 : Nat), .int .u64 (lb uy 3 : Nat)]] w fun e w' => ∃ v', e = .returned v' ∧ Nr w w' v' uy))
    {t0 : Value} {ds : List Deferred} {Q : Exit → Act → World → Prop} :
    ∀ l a w', in1I w gP gR ux uy pi t0 ds l a w' → ∀ i ∈ Region.ready .any in1O l, wpOp Tryz.prog in1O Q i (fun a' w'' => in1I w gP gR ux uy pi t0 ds (l.setIfInBounds i true) a' w'') a w' := by
  simp only [in1O, findR, Tryz.f67, Option.bind_some, Option.or, Option.getD, Nat.reduceEqDiff, if_true, if_false, reduceIte]
  rintro l a w' hI i hi
  rw [mem_ready] at hi
  obtain ⟨hu, oo, ho, hd⟩ := hi
  have hin : i < 10 := by
    have := (Array.getElem?_eq_some_iff.1 ho).1
    simpa using this
  have hcase : i = 0 ∨ i = 1 ∨ i = 2 ∨ i = 3 ∨ i = 4 ∨ i = 5 ∨ i = 6 ∨ i = 7 ∨ i = 8 ∨ i = 9 := by omega
  rcases hI with ⟨rfl, hF⟩ | hI
  · exfalso
    rcases hcase with rfl | rfl | rfl | rfl | rfl | rfl | rfl | rfl | rfl | rfl <;> simp at hu
  obtain ⟨j0, j1, j2, j3, j4, j5, j6, j7, j8, x0, x1, x2, x3, x4, x5, x6, x7, x8, rfl, rfl, hB, h0, h1, h2, h3, h4, h5, h6, h7, h8⟩ := hI
  replace h0 := Lib.hid h0
  replace h1 := Lib.hid h1
  replace h2 := Lib.hid h2
  replace h3 := Lib.hid h3
  replace h4 := Lib.hid h4
  replace h5 := Lib.hid h5
  replace h6 := Lib.hid h6
  replace h7 := Lib.hid h7
  replace h8 := Lib.hid h8
  rcases hcase with rfl | rfl | rfl | rfl | rfl | rfl | rfl | rfl | rfl | rfl
  · obtain rfl := Option.some.inj ho
    simp [Region.binds] at hu hd
    clear hd
    refine wpOp_of rfl rfl ?_
    go_simp
    unfold in1I
    exact .inr ⟨true, j1, j2, j3, j4, j5, j6, j7, j8, _, x1, x2, x3, x4, x5, x6, x7, x8, rfl, rfl, hB, fun _ => rfl, h1.out, h2.out, h3.out, h4.out, h5.out, h6.out, h7.out, h8.out⟩
  · obtain rfl := Option.some.inj ho
    simp [Region.binds] at hu hd
    have d0 : j0 = true := by simp [hd]
    have e0 := h0.out d0
    subst e0
    subst d0
    clear hd
    refine wpOp_of rfl rfl ?_
    have i8 : w'.cell? ⟨gP, 8, none⟩ = some (.bool pi) := (KP.below hB).cell 8
    go_simp
    unfold in1I
    exact .inr ⟨true, true, j2, j3, j4, j5, j6, j7, j8, _, _, x2, x3, x4, x5, x6, x7, x8, rfl, rfl, hB, h0.out, fun _ => rfl, h2.out, h3.out, h4.out, h5.out, h6.out, h7.out, h8.out⟩
  · obtain rfl := Option.some.inj ho
    simp [Region.binds] at hu hd
    clear hd
    refine wpOp_of rfl rfl ?_
    go_simp
    unfold in1I
    exact .inr ⟨j0, j1, true, j3, j4, j5, j6, j7, j8, x0, x1, _, x3, x4, x5, x6, x7, x8, rfl, rfl, hB, h0.out, h1.out, fun _ => rfl, h3.out, h4.out, h5.out, h6.out, h7.out, h8.out⟩
  · obtain rfl := Option.some.inj ho
    simp [Region.binds] at hu hd
    have d2 : j2 = true := by simp [hd]
    have e2 := h2.out d2
    subst e2
    subst d2
    clear hd
    refine wpOp_of rfl rfl ?_
    have i0 : w'.cell? ⟨gP, 0, none⟩ = some (.int .u64 (lb ux 0 : Nat)) := (KP.below hB).cell 0
    have i1 : w'.cell? ⟨gP, 1, none⟩ = some (.int .u64 (lb ux 1 : Nat)) := (KP.below hB).cell 1
    have i2 : w'.cell? ⟨gP, 2, none⟩ = some (.int .u64 (lb ux 2 : Nat)) := (KP.below hB).cell 2
    have i3 : w'.cell? ⟨gP, 3, none⟩ = some (.int .u64 (lb ux 3 : Nat)) := (KP.below hB).cell 3
    go_simp
    unfold in1I
    exact .inr ⟨j0, j1, true, true, j4, j5, j6, j7, j8, x0, x1, _, _, x4, x5, x6, x7, x8, rfl, rfl, hB, h0.out, h1.out, h2.out, fun _ => rfl, h4.out, h5.out, h6.out, h7.out, h8.out⟩
  · obtain rfl := Option.some.inj ho
    simp [Region.binds] at hu hd
    have d3 : j3 = true := by simp [hd]
    have e3 := h3.out d3
    subst e3
    subst d3
    clear hd
    refine wpOp_of rfl rfl ?_
    go_simp
    go_at_call 45
    refine (nk w.heap.size w (HX.out _) hB (Nat.le_refl _)).mono ?_
    rintro e w2 ⟨v', rfl, hn', hB2, hb2⟩
    unfold in1I
    exact .inr ⟨j0, j1, j2, true, true, j5, j6, j7, j8, x0, x1, x2, _, _, x5, x6, x7, x8, rfl, rfl, hB2, h0.out, h1.out, h2.out, h3.out, fun _ => hn', h5.out, h6.out, fun hj => (h7.out hj).below hb2, fun hj => absurd (h8.out hj).2.1 (by simp [hu])⟩
  · obtain rfl := Option.some.inj ho
    simp [Region.binds] at hu hd
    clear hd
    refine wpOp_of rfl rfl ?_
    go_simp
    unfold in1I
    exact .inr ⟨j0, j1, j2, j3, j4, true, j6, j7, j8, x0, x1, x2, x3, x4, _, x6, x7, x8, rfl, rfl, hB, h0.out, h1.out, h2.out, h3.out, h4.out, fun _ => rfl, h6.out, h7.out, h8.out⟩
  · obtain rfl := Option.some.inj ho
    simp [Region.binds] at hu hd
    have d5 : j5 = true := by simp [hd]
    have e5 := h5.out d5
    subst e5
    subst d5
    clear hd
    refine wpOp_of rfl rfl ?_
    have i4 : w'.cell? ⟨gP, 4, none⟩ = some (.int .u64 (lb uy 0 : Nat)) := (KP.below hB).cell 4
    have i5 : w'.cell? ⟨gP, 5, none⟩ = some (.int .u64 (lb uy 1 : Nat)) := (KP.below hB).cell 5
    have i6 : w'.cell? ⟨gP, 6, none⟩ = some (.int .u64 (lb uy 2 : Nat)) := (KP.below hB).cell 6
    have i7 : w'.cell? ⟨gP, 7, none⟩ = some (.int .u64 (lb uy 3 : Nat)) := (KP.below hB).cell 7
    go_simp
    unfold in1I
    exact .inr ⟨j0, j1, j2, j3, j4, true, true, j7, j8, x0, x1, x2, x3, x4, _, _, x7, x8, rfl, rfl, hB, h0.out, h1.out, h2.out, h3.out, h4.out, h5.out, fun _ => rfl, h7.out, h8.out⟩
  · obtain rfl := Option.some.inj ho
    simp [Region.binds] at hu hd
    have d4 : j4 = true := by simp [hd]
    have d6 : j6 = true := by simp [hd]
    have e6 := h6.out d6
    subst e6
    subst d4
    subst d6
    clear hd
    refine wpOp_of rfl rfl ?_
    go_simp
    go_at_call 45
    refine (nk w.heap.size w (HY.out _) hB (Nat.le_refl _)).mono ?_
    rintro e w2 ⟨v', rfl, hn', hB2, hb2⟩
    unfold in1I
    exact .inr ⟨j0, j1, j2, j3, true, j5, true, true, j8, x0, x1, x2, x3, x4, x5, _, _, x8, rfl, rfl, hB2, h0.out, h1.out, h2.out, h3.out, fun hj => (h4.out hj).below hb2, h5.out, h6.out, fun _ => hn', fun hj => absurd (h8.out hj).2.2 (by simp [hu])⟩
  · obtain rfl := Option.some.inj ho
    simp [Region.binds] at hu hd
    have d1 : j1 = true := by simp [hd]
    have d4 : j4 = true := by simp [hd]
    have d7 : j7 = true := by simp [hd]
    have e1 := h1.out d1
    subst e1
    subst d1
    subst d4
    subst d7
    clear hd
    refine wpOp_of rfl rfl ?_
    obtain ⟨sa4, sn4, sc4, es4⟩ := (h4.out rfl).shape
    subst es4
    obtain ⟨sa7, sn7, sc7, es7⟩ := (h7.out rfl).shape
    subst es7
    go_simp
    unfold in1I
    exact .inr ⟨j0, true, j2, j3, true, j5, j6, true, true, x0, _, x2, x3, _, x5, x6, _, _, rfl, rfl, hB, h0.out, h1.out, h2.out, h3.out, h4.out, h5.out, h6.out, h7.out, fun _ => ⟨rfl, rfl, rfl⟩⟩
  · obtain rfl := Option.some.inj ho
    simp [Region.binds] at hu hd
    have d0 : j0 = true := by simp [hd]
    have d1 : j1 = true := by simp [hd]
    have d2 : j2 = true := by simp [hd]
    have d3 : j3 = true := by simp [hd]
    have d4 : j4 = true := by simp [hd]
    have d5 : j5 = true := by simp [hd]
    have d6 : j6 = true := by simp [hd]
    have d7 : j7 = true := by simp [hd]
    have d8 : j8 = true := by simp [hd]
    have e0 := h0.out d0
    subst e0
    have e1 := h1.out d1
    subst e1
    have e2 := h2.out d2
    subst e2
    have e3 := h3.out d3
    subst e3
    have e5 := h5.out d5
    subst e5
    have e6 := h6.out d6
    subst e6
    have e8 := (h8.out d8).1
    subst e8
    subst d0
    subst d1
    subst d2
    subst d3
    subst d4
    subst d5
    subst d6
    subst d7
    subst d8
    clear hd
    refine wpOp_of rfl rfl ?_
    obtain ⟨sa4, sn4, sc4, es4⟩ := (h4.out rfl).shape
    subst es4
    obtain ⟨sa7, sn7, sc7, es7⟩ := (h7.out rfl).shape
    subst es7
    have c0 := (KR.below hB).cell 0
    have f0 := (KR.below hB).fro 0
    have c1 := (KR.below hB).cell 1
    have f1 := (KR.below hB).fro 1
    have c2 := (KR.below hB).cell 2
    have f2 := (KR.below hB).fro 2
    go_simp
    unfold in1I in1F
    exact .inl ⟨rfl, _, _, _, _, _, _, _, _, _, _, rfl, hB, rfl, h4.out rfl, h7.out rfl⟩
set_option maxHeartbeats 16000000 in
theorem in1_fin (gP gR ux uy : Nat) (pi : Bool) (w : World) {t0 : Value} {ds : List Deferred} : ∀ l a w1, in1I w gP gR ux uy pi t0 ds l a w1 → Region.ready .any in1O l = [] → in1F w gP gR ux uy pi t0 ds a w1 := by
  simp only [in1O, findR, Tryz.f67, Option.bind_some, Option.or, Option.getD, Nat.reduceEqDiff, if_true, if_false, reduceIte]
  rintro l a w1 hI hr
  rcases hI with ⟨rfl, hF⟩ | hI
  · exact hF
  obtain ⟨j0, j1, j2, j3, j4, j5, j6, j7, j8, x0, x1, x2, x3, x4, x5, x6, x7, x8, rfl, rfl, hB, h0, h1, h2, h3, h4, h5, h6, h7, h8⟩ := hI
  have hn := fun i => List.eq_nil_iff_forall_not_mem.1 hr i
  clear hr
  cases j0; exact absurd (mem_ready.2 ⟨by simp, _, rfl, by simp [Region.binds]⟩) (hn 0)
  cases j1; exact absurd (mem_ready.2 ⟨by simp, _, rfl, by simp [Region.binds]⟩) (hn 1)
  cases j2; exact absurd (mem_ready.2 ⟨by simp, _, rfl, by simp [Region.binds]⟩) (hn 2)
  cases j3; exact absurd (mem_ready.2 ⟨by simp, _, rfl, by simp [Region.binds]⟩) (hn 3)
  cases j4; exact absurd (mem_ready.2 ⟨by simp, _, rfl, by simp [Region.binds]⟩) (hn 4)
  cases j5; exact absurd (mem_ready.2 ⟨by simp, _, rfl, by simp [Region.binds]⟩) (hn 5)
  cases j6; exact absurd (mem_ready.2 ⟨by simp, _, rfl, by simp [Region.binds]⟩) (hn 6)
  cases j7; exact absurd (mem_ready.2 ⟨by simp, _, rfl, by simp [Region.binds]⟩) (hn 7)
  cases j8; exact absurd (mem_ready.2 ⟨by simp, _, rfl, by simp [Region.binds]⟩) (hn 8)
  exact absurd (mem_ready.2 ⟨rfl, _, rfl, by simp [Region.binds]⟩) (hn 9)
theorem in1 (gP gR ux uy : Nat) (pi : Bool) (w : World) (KP : Bk 26 w gP #[.int .u64 (lb ux 0 : Nat), .int .u64 (lb ux 1 : Nat), .int .u64 (lb ux 2 : Nat), .int .u64 (lb ux 3 : Nat), .int .u64 (lb uy 0 : Nat), .int .u64 (lb uy 1 : Nat), .int .u64 (lb uy 2 : Nat), .int .u64 (lb uy 3 : Nat), .bool pi]) (KR : Bk 72 w gR #[.bool false, .slice none 0 0, .slice none 0 0]) (HX : Hid (∀ w, Calls Tryz.prog 45 #[.agg #[.int .u64 (lb ux 0 : Nat), .int .u64 (lb ux 1 : Nat), .int .u64 (lb ux 2 : Nat), .int .u64 (lb ux 3 : Nat)]] w fun e w' => ∃ v', e = .returned v' ∧ Nr w w' v' ux)) (HY : Hid (∀ w, Calls Tryz.prog 45 #[.agg #[.int .u64 (lb uy 0 : Nat), .int .u64 (lb uy 1 : Nat), .int .u64 (lb uy 2 : Nat), .int .u64 (lb uy 3 : Nat)]] w fun e w' => ∃ v', e = .returned v' ∧ Nr w w' v' uy)) {t0 t3 t4 t5 t6 t7 t8 t9 t10 t11 : Value} {ds : List Deferred} {K : Act → World → Prop} {Q : Exit → Act → World → Prop}
    (h : ∀ (y0 y1 y2 y3 y4 y5 y6 y7 y8 : Value) (w1 : World) (hb : Below w.heap.size w w1) (hn4 : NV w1 y4 (ux)) (hn7 : NV w1 y7 (uy)), K { tmps := #[t0, .pointer (some ⟨gP, 0, none⟩), .pointer (some ⟨gR, 0, none⟩), y0, y1, y2, y3, y4, y5, y6, y7, y8], defers := ds } (World.setCell (World.setCell (World.setCell w1 ⟨gR, 0, none⟩ (.bool pi)) ⟨gR, 1, none⟩ (y4)) ⟨gR, 2, none⟩ (y7))) :
    (Code.region 1 in1O true).wp Tryz.prog (Exit.then K Q) { tmps := #[t0, .pointer (some ⟨gP, 0, none⟩), .pointer (some ⟨gR, 0, none⟩), t3, t4, t5, t6, t7, t8, t9, t10, t11], defers := ds } w := by
  have hsz : in1O.size = 10 := by kernel_rfl
  refine wp_region_any (show Tryz.prog.follows .mixedOrders = true from by kernel_rfl) ?_
  rw [hsz]
  refine wpAny_inv (I := in1I w gP gR ux uy pi t0 ds) (in1_steps gP gR ux uy pi w KP KR HX HY) (fun l a w' hI hr => ?_) 10 _ _ _ (by decide) ?_
  · obtain ⟨y0, y1, y2, y3, y4, y5, y6, y7, y8, wm, rfl, hb, rfl, hn4, hn7⟩ := in1_fin gP gR ux uy pi w l a w' hI hr
    exact h _ _ _ _ _ _ _ _ _ _ hb hn4 hn7
  · exact .inr ⟨false, false, false, false, false, false, false, false, false, t3, t4, t5, t6, t7, t8, t9, t10, t11, rfl, rfl, ⟨rfl, rfl, rfl, Nat.le_refl _, fun _ _ => rfl⟩, (fun h => by cases h), (fun h => by cases h), (fun h => by cases h), (fun h => by cases h), (fun h => by cases h), (fun h => by cases h), (fun h => by cases h), (fun h => by cases h), (fun h => by cases h)⟩
def op3F (w0 : World) (gP gR x y nx cx ny cy : Nat) (ax ay : Option Addr) (t0 t3 t4 t5 : Value) (ds : List Deferred) (a : Act) (w : World) : Prop :=
  ∃ y0 y1 y2 y3 y4 y5 : Value, ∃ wm : World, a = { tmps := #[t0, .pointer (some ⟨gP, 0, none⟩), .pointer (some ⟨gR, 0, none⟩), t3, t4, t5, y0, y1, y2, y3, y4, y5], defers := ds } ∧ Below w0.heap.size w0 wm ∧ w = (World.setCell (World.setCell (World.setCell wm ⟨gR, 0, none⟩ (.bool false)) ⟨gR, 1, none⟩ (.slice ax nx cx)) ⟨gR, 2, none⟩ (y4)) ∧ NV wm y4 (ngj y)
def op3I (w0 : World) (gP gR x y nx cx ny cy : Nat) (ax ay : Option Addr) (t0 t3 t4 t5 : Value) (ds : List Deferred) (l : Array Bool) (a : Act) (w : World) : Prop :=
  (l = #[true, true, true, true, true, true, true] ∧ op3F w0 gP gR x y nx cx ny cy ax ay t0 t3 t4 t5 ds a w) ∨ (∃ j0 j1 j2 j3 j4 j5 : Bool, ∃ x0 x1 x2 x3 x4 x5 : Value, l = #[j0, j1, j2, j3, j4, j5, false] ∧ a = { tmps := #[t0, .pointer (some ⟨gP, 0, none⟩), .pointer (some ⟨gR, 0, none⟩), t3, t4, t5, x0, x1, x2, x3, x4, x5], defers := ds } ∧ Below w0.heap.size w0 w ∧
  (j0 = true → x0 = .pointer (some ⟨gP, 1, none⟩)) ∧ (j1 = true → x1 = .slice ax nx cx) ∧ (j2 = true → x2 = .pointer (some ⟨gP, 2, none⟩)) ∧ (j3 = true → x3 = .slice ay ny cy) ∧ (j4 = true → NV w x4 (ngj y)) ∧ (j5 = true → x5 = .agg #[.bool false, .slice ax nx cx, x4] ∧ j4 = true))
noncomputable def op3O : Array Oper := (Tryz.f126.body.bind fun c => findR c 3).getD #[]
set_option maxHeartbeats 16000000 in
theorem op3_steps (gP gR x y nx cx ny cy : Nat) (ax ay : Option Addr) (w : World) (KP : Bk 72 w gP #[.bool false, .slice ax nx cx, .slice ay ny cy]) (KR : Bk 72 w gR #[.bool false, .slice none 0 0, .slice none 0 0]) (HB : y < big) (NY : NV w (.slice ay ny cy) y)
    {t0 t3 t4 t5 : Value} {ds : List Deferred} {Q : Exit → Act → World → Prop} :
    ∀ l a w', op3I w gP gR x y nx cx ny cy ax ay t0 t3 t4 t5 ds l a w' → ∀ i ∈ Region.ready .any op3O l, wpOp Tryz.prog op3O Q i (fun a' w'' => op3I w gP gR x y nx cx ny cy ax ay t0 t3 t4 t5 ds (l.setIfInBounds i true) a' w'') a w' := by
  simp only [op3O, findR, Tryz.f126, Option.bind_some, Option.or, Option.getD, Nat.reduceEqDiff, if_true, if_false, reduceIte]
  rintro l a w' hI i hi
  rw [mem_ready] at hi
  obtain ⟨hu, oo, ho, hd⟩ := hi
  have hin : i < 7 := by
    have := (Array.getElem?_eq_some_iff.1 ho).1
    simpa using this
  have hcase : i = 0 ∨ i = 1 ∨ i = 2 ∨ i = 3 ∨ i = 4 ∨ i = 5 ∨ i = 6 := by omega
  rcases hI with ⟨rfl, hF⟩ | hI
  · exfalso
    rcases hcase with rfl | rfl | rfl | rfl | rfl | rfl | rfl <;> simp at hu
  obtain ⟨j0, j1, j2, j3, j4, j5, x0, x1, x2, x3, x4, x5, rfl, rfl, hB, h0, h1, h2, h3, h4, h5⟩ := hI
  replace h0 := Lib.hid h0
  replace h1 := Lib.hid h1
  replace h2 := Lib.hid h2
  replace h3 := Lib.hid h3
  replace h4 := Lib.hid h4
  replace h5 := Lib.hid h5
  rcases hcase with rfl | rfl | rfl | rfl | rfl | rfl | rfl
  · obtain rfl := Option.some.inj ho
    simp [Region.binds] at hu hd
    clear hd
    refine wpOp_of rfl rfl ?_
    go_simp
    unfold op3I
    exact .inr ⟨true, j1, j2, j3, j4, j5, _, x1, x2, x3, x4, x5, rfl, rfl, hB, fun _ => rfl, h1.out, h2.out, h3.out, h4.out, h5.out⟩
  · obtain rfl := Option.some.inj ho
    simp [Region.binds] at hu hd
    have d0 : j0 = true := by simp [hd]
    have e0 := h0.out d0
    subst e0
    subst d0
    clear hd
    refine wpOp_of rfl rfl ?_
    have i1 : w'.cell? ⟨gP, 1, none⟩ = some (.slice ax nx cx) := (KP.below hB).cell 1
    go_simp
    unfold op3I
    exact .inr ⟨true, true, j2, j3, j4, j5, _, _, x2, x3, x4, x5, rfl, rfl, hB, h0.out, fun _ => rfl, h2.out, h3.out, h4.out, h5.out⟩
  · obtain rfl := Option.some.inj ho
    simp [Region.binds] at hu hd
    clear hd
    refine wpOp_of rfl rfl ?_
    go_simp
    unfold op3I
    exact .inr ⟨j0, j1, true, j3, j4, j5, x0, x1, _, x3, x4, x5, rfl, rfl, hB, h0.out, h1.out, fun _ => rfl, h3.out, h4.out, h5.out⟩
  · obtain rfl := Option.some.inj ho
    simp [Region.binds] at hu hd
    have d2 : j2 = true := by simp [hd]
    have e2 := h2.out d2
    subst e2
    subst d2
    clear hd
    refine wpOp_of rfl rfl ?_
    have i2 : w'.cell? ⟨gP, 2, none⟩ = some (.slice ay ny cy) := (KP.below hB).cell 2
    go_simp
    unfold op3I
    exact .inr ⟨j0, j1, true, true, j4, j5, x0, x1, _, _, x4, x5, rfl, rfl, hB, h0.out, h1.out, h2.out, fun _ => rfl, h4.out, h5.out⟩
  · obtain rfl := Option.some.inj ho
    simp [Region.binds] at hu hd
    have d3 : j3 = true := by simp [hd]
    have e3 := h3.out d3
    subst e3
    subst d3
    clear hd
    refine wpOp_of rfl rfl ?_
    go_simp
    go_at_call 159
    refine (nk w.heap.size w (opp_c _ _ y HB (NY.below hB)) hB (Nat.le_refl _)).mono ?_
    rintro e w2 ⟨v', rfl, hn', hB2, hb2⟩
    unfold op3I
    exact .inr ⟨j0, j1, j2, true, true, j5, x0, x1, x2, _, _, x5, rfl, rfl, hB2, h0.out, h1.out, h2.out, h3.out, fun _ => hn', fun hj => absurd (h5.out hj).2 (by simp [hu])⟩
  · obtain rfl := Option.some.inj ho
    simp [Region.binds] at hu hd
    have d1 : j1 = true := by simp [hd]
    have d4 : j4 = true := by simp [hd]
    have e1 := h1.out d1
    subst e1
    subst d1
    subst d4
    clear hd
    refine wpOp_of rfl rfl ?_
    obtain ⟨sa4, sn4, sc4, es4⟩ := (h4.out rfl).shape
    subst es4
    go_simp
    unfold op3I
    exact .inr ⟨j0, true, j2, j3, true, true, x0, _, x2, x3, _, _, rfl, rfl, hB, h0.out, h1.out, h2.out, h3.out, h4.out, fun _ => ⟨rfl, rfl⟩⟩
  · obtain rfl := Option.some.inj ho
    simp [Region.binds] at hu hd
    have d0 : j0 = true := by simp [hd]
    have d1 : j1 = true := by simp [hd]
    have d2 : j2 = true := by simp [hd]
    have d3 : j3 = true := by simp [hd]
    have d4 : j4 = true := by simp [hd]
    have d5 : j5 = true := by simp [hd]
    have e0 := h0.out d0
    subst e0
    have e1 := h1.out d1
    subst e1
    have e2 := h2.out d2
    subst e2
    have e3 := h3.out d3
    subst e3
    have e5 := (h5.out d5).1
    subst e5
    subst d0
    subst d1
    subst d2
    subst d3
    subst d4
    subst d5
    clear hd
    refine wpOp_of rfl rfl ?_
    obtain ⟨sa4, sn4, sc4, es4⟩ := (h4.out rfl).shape
    subst es4
    have c0 := (KR.below hB).cell 0
    have f0 := (KR.below hB).fro 0
    have c1 := (KR.below hB).cell 1
    have f1 := (KR.below hB).fro 1
    have c2 := (KR.below hB).cell 2
    have f2 := (KR.below hB).fro 2
    go_simp
    unfold op3I op3F
    exact .inl ⟨rfl, _, _, _, _, _, _, _, rfl, hB, rfl, h4.out rfl⟩
set_option maxHeartbeats 16000000 in
theorem op3_fin (gP gR x y nx cx ny cy : Nat) (ax ay : Option Addr) (w : World) {t0 t3 t4 t5 : Value} {ds : List Deferred} : ∀ l a w1, op3I w gP gR x y nx cx ny cy ax ay t0 t3 t4 t5 ds l a w1 → Region.ready .any op3O l = [] → op3F w gP gR x y nx cx ny cy ax ay t0 t3 t4 t5 ds a w1 := by
  simp only [op3O, findR, Tryz.f126, Option.bind_some, Option.or, Option.getD, Nat.reduceEqDiff, if_true, if_false, reduceIte]
  rintro l a w1 hI hr
  rcases hI with ⟨rfl, hF⟩ | hI
  · exact hF
  obtain ⟨j0, j1, j2, j3, j4, j5, x0, x1, x2, x3, x4, x5, rfl, rfl, hB, h0, h1, h2, h3, h4, h5⟩ := hI
  have hn := fun i => List.eq_nil_iff_forall_not_mem.1 hr i
  clear hr
  cases j0; exact absurd (mem_ready.2 ⟨by simp, _, rfl, by simp [Region.binds]⟩) (hn 0)
  cases j1; exact absurd (mem_ready.2 ⟨by simp, _, rfl, by simp [Region.binds]⟩) (hn 1)
  cases j2; exact absurd (mem_ready.2 ⟨by simp, _, rfl, by simp [Region.binds]⟩) (hn 2)
  cases j3; exact absurd (mem_ready.2 ⟨by simp, _, rfl, by simp [Region.binds]⟩) (hn 3)
  cases j4; exact absurd (mem_ready.2 ⟨by simp, _, rfl, by simp [Region.binds]⟩) (hn 4)
  cases j5; exact absurd (mem_ready.2 ⟨by simp, _, rfl, by simp [Region.binds]⟩) (hn 5)
  exact absurd (mem_ready.2 ⟨rfl, _, rfl, by simp [Region.binds]⟩) (hn 6)
theorem op3 (gP gR x y nx cx ny cy : Nat) (ax ay : Option Addr) (w : World) (KP : Bk 72 w gP #[.bool false, .slice ax nx cx, .slice ay ny cy]) (KR : Bk 72 w gR #[.bool false, .slice none 0 0, .slice none 0 0]) (HB : y < big) (NY : NV w (.slice ay ny cy) y) {t0 t3 t4 t5 t6 t7 t8 t9 t10 t11 : Value} {ds : List Deferred} {K : Act → World → Prop} {Q : Exit → Act → World → Prop}
    (h : ∀ (y0 y1 y2 y3 y4 y5 : Value) (w1 : World) (hb : Below w.heap.size w w1) (hn4 : NV w1 y4 (ngj y)), K { tmps := #[t0, .pointer (some ⟨gP, 0, none⟩), .pointer (some ⟨gR, 0, none⟩), t3, t4, t5, y0, y1, y2, y3, y4, y5], defers := ds } (World.setCell (World.setCell (World.setCell w1 ⟨gR, 0, none⟩ (.bool false)) ⟨gR, 1, none⟩ (.slice ax nx cx)) ⟨gR, 2, none⟩ (y4))) :
    (Code.region 3 op3O true).wp Tryz.prog (Exit.then K Q) { tmps := #[t0, .pointer (some ⟨gP, 0, none⟩), .pointer (some ⟨gR, 0, none⟩), t3, t4, t5, t6, t7, t8, t9, t10, t11], defers := ds } w := by
  have hsz : op3O.size = 7 := by kernel_rfl
  refine wp_region_any (show Tryz.prog.follows .mixedOrders = true from by kernel_rfl) ?_
  rw [hsz]
  refine wpAny_inv (I := op3I w gP gR x y nx cx ny cy ax ay t0 t3 t4 t5 ds) (op3_steps gP gR x y nx cx ny cy ax ay w KP KR HB NY) (fun l a w' hI hr => ?_) 7 _ _ _ (by decide) ?_
  · obtain ⟨y0, y1, y2, y3, y4, y5, wm, rfl, hb, rfl, hn4⟩ := op3_fin gP gR x y nx cx ny cy ax ay w l a w' hI hr
    exact h _ _ _ _ _ _ _ hb hn4
  · exact .inr ⟨false, false, false, false, false, false, t6, t7, t8, t9, t10, t11, rfl, rfl, ⟨rfl, rfl, rfl, Nat.le_refl _, fun _ _ => rfl⟩, (fun h => by cases h), (fun h => by cases h), (fun h => by cases h), (fun h => by cases h), (fun h => by cases h), (fun h => by cases h)⟩
def ou3F (w0 : World) (gP gR ux uy nx cx ny cy : Nat) (ax ay : Option Addr) (t0 t3 t4 t5 : Value) (ds : List Deferred) (a : Act) (w : World) : Prop :=
  ∃ y0 y1 y2 y3 y4 y5 y6 : Value, ∃ wm : World, a = { tmps := #[t0, .pointer (some ⟨gP, 0, none⟩), .pointer (some ⟨gR, 0, none⟩), t3, t4, t5, y0, y1, y2, y3, y4, y5, y6], defers := ds } ∧ Below w0.heap.size w0 wm ∧ w = (World.setCell (World.setCell (World.setCell (World.setCell (World.setCell (World.setCell (World.setCell (World.setCell (World.setCell wm ⟨gR, 0, none⟩ (.int .u64 (lb ux 0 : Nat))) ⟨gR, 1, none⟩ (.int .u64 (lb ux 1 : Nat))) ⟨gR, 2, none⟩ (.int .u64 (lb ux 2 : Nat))) ⟨gR, 3, none⟩ (.int .u64 (lb ux 3 : Nat))) ⟨gR, 4, none⟩ (.int .u64 (lb uy 0 : Nat))) ⟨gR, 5, none⟩ (.int .u64 (lb uy 1 : Nat))) ⟨gR, 6, none⟩ (.int .u64 (lb uy 2 : Nat))) ⟨gR, 7, none⟩ (.int .u64 (lb uy 3 : Nat))) ⟨gR, 8, none⟩ (.bool false))
def ou3I (w0 : World) (gP gR ux uy nx cx ny cy : Nat) (ax ay : Option Addr) (t0 t3 t4 t5 : Value) (ds : List Deferred) (l : Array Bool) (a : Act) (w : World) : Prop :=
  (l = #[true, true, true, true, true, true, true, true] ∧ ou3F w0 gP gR ux uy nx cx ny cy ax ay t0 t3 t4 t5 ds a w) ∨ (∃ j0 j1 j2 j3 j4 j5 j6 : Bool, ∃ x0 x1 x2 x3 x4 x5 x6 : Value, l = #[j0, j1, j2, j3, j4, j5, j6, false] ∧ a = { tmps := #[t0, .pointer (some ⟨gP, 0, none⟩), .pointer (some ⟨gR, 0, none⟩), t3, t4, t5, x0, x1, x2, x3, x4, x5, x6], defers := ds } ∧ Below w0.heap.size w0 w ∧
  (j0 = true → x0 = .pointer (some ⟨gP, 1, none⟩)) ∧ (j1 = true → x1 = .slice ax nx cx) ∧ (j2 = true → x2 = .agg #[.int .u64 (lb ux 0 : Nat), .int .u64 (lb ux 1 : Nat), .int .u64 (lb ux 2 : Nat), .int .u64 (lb ux 3 : Nat)]) ∧ (j3 = true → x3 = .pointer (some ⟨gP, 2, none⟩)) ∧ (j4 = true → x4 = .slice ay ny cy) ∧ (j5 = true → x5 = .agg #[.int .u64 (lb uy 0 : Nat), .int .u64 (lb uy 1 : Nat), .int .u64 (lb uy 2 : Nat), .int .u64 (lb uy 3 : Nat)]) ∧ (j6 = true → x6 = .agg #[.int .u64 (lb ux 0 : Nat), .int .u64 (lb ux 1 : Nat), .int .u64 (lb ux 2 : Nat), .int .u64 (lb ux 3 : Nat), .int .u64 (lb uy 0 : Nat), .int .u64 (lb uy 1 : Nat), .int .u64 (lb uy 2 : Nat), .int .u64 (lb uy 3 : Nat), .bool false]))
noncomputable def ou3O : Array Oper := (Tryz.f46.body.bind fun c => findR c 3).getD #[]
set_option maxHeartbeats 16000000 in
theorem ou3_steps (gP gR ux uy nx cx ny cy : Nat) (ax ay : Option Addr) (w : World) (KP : Bk 72 w gP #[.bool false, .slice ax nx cx, .slice ay ny cy]) (KR : Bk 26 w gR #[.int .u64 0, .int .u64 0, .int .u64 0, .int .u64 0, .int .u64 0, .int .u64 0, .int .u64 0, .int .u64 0, .bool false]) (HX : ux < W256) (HY : uy < W256) (NX : NV w (.slice ax nx cx) ux) (NY : NV w (.slice ay ny cy) uy)
    {t0 t3 t4 t5 : Value} {ds : List Deferred} {Q : Exit → Act → World → Prop} :
    ∀ l a w', ou3I w gP gR ux uy nx cx ny cy ax ay t0 t3 t4 t5 ds l a w' → ∀ i ∈ Region.ready .any ou3O l, wpOp Tryz.prog ou3O Q i (fun a' w'' => ou3I w gP gR ux uy nx cx ny cy ax ay t0 t3 t4 t5 ds (l.setIfInBounds i true) a' w'') a w' := by
  simp only [ou3O, findR, Tryz.f46, Option.bind_some, Option.or, Option.getD, Nat.reduceEqDiff, if_true, if_false, reduceIte]
  rintro l a w' hI i hi
  rw [mem_ready] at hi
  obtain ⟨hu, oo, ho, hd⟩ := hi
  have hin : i < 8 := by
    have := (Array.getElem?_eq_some_iff.1 ho).1
    simpa using this
  have hcase : i = 0 ∨ i = 1 ∨ i = 2 ∨ i = 3 ∨ i = 4 ∨ i = 5 ∨ i = 6 ∨ i = 7 := by omega
  rcases hI with ⟨rfl, hF⟩ | hI
  · exfalso
    rcases hcase with rfl | rfl | rfl | rfl | rfl | rfl | rfl | rfl <;> simp at hu
  obtain ⟨j0, j1, j2, j3, j4, j5, j6, x0, x1, x2, x3, x4, x5, x6, rfl, rfl, hB, h0, h1, h2, h3, h4, h5, h6⟩ := hI
  replace h0 := Lib.hid h0
  replace h1 := Lib.hid h1
  replace h2 := Lib.hid h2
  replace h3 := Lib.hid h3
  replace h4 := Lib.hid h4
  replace h5 := Lib.hid h5
  replace h6 := Lib.hid h6
  rcases hcase with rfl | rfl | rfl | rfl | rfl | rfl | rfl | rfl
  · obtain rfl := Option.some.inj ho
    simp [Region.binds] at hu hd
    clear hd
    refine wpOp_of rfl rfl ?_
    go_simp
    unfold ou3I
    exact .inr ⟨true, j1, j2, j3, j4, j5, j6, _, x1, x2, x3, x4, x5, x6, rfl, rfl, hB, fun _ => rfl, h1.out, h2.out, h3.out, h4.out, h5.out, h6.out⟩
  · obtain rfl := Option.some.inj ho
    simp [Region.binds] at hu hd
    have d0 : j0 = true := by simp [hd]
    have e0 := h0.out d0
    subst e0
    subst d0
    clear hd
    refine wpOp_of rfl rfl ?_
    have i1 : w'.cell? ⟨gP, 1, none⟩ = some (.slice ax nx cx) := (KP.below hB).cell 1
    go_simp
    unfold ou3I
    exact .inr ⟨true, true, j2, j3, j4, j5, j6, _, _, x2, x3, x4, x5, x6, rfl, rfl, hB, h0.out, fun _ => rfl, h2.out, h3.out, h4.out, h5.out, h6.out⟩
  · obtain rfl := Option.some.inj ho
    simp [Region.binds] at hu hd
    have d1 : j1 = true := by simp [hd]
    have e1 := h1.out d1
    subst e1
    subst d1
    clear hd
    refine wpOp_of rfl rfl ?_
    go_simp
    go_at_call 96
    refine (keep w.heap.size w (out_nv _ _ ux HX (NX.below hB)) hB (Nat.le_refl _)).mono ?_
    rintro e w2 ⟨rfl, hB2, hb2⟩
    unfold ou3I
    exact .inr ⟨j0, true, true, j3, j4, j5, j6, x0, _, _, x3, x4, x5, x6, rfl, rfl, hB2, h0.out, h1.out, fun _ => rfl, h3.out, h4.out, h5.out, h6.out⟩
  · obtain rfl := Option.some.inj ho
    simp [Region.binds] at hu hd
    clear hd
    refine wpOp_of rfl rfl ?_
    go_simp
    unfold ou3I
    exact .inr ⟨j0, j1, j2, true, j4, j5, j6, x0, x1, x2, _, x4, x5, x6, rfl, rfl, hB, h0.out, h1.out, h2.out, fun _ => rfl, h4.out, h5.out, h6.out⟩
  · obtain rfl := Option.some.inj ho
    simp [Region.binds] at hu hd
    have d3 : j3 = true := by simp [hd]
    have e3 := h3.out d3
    subst e3
    subst d3
    clear hd
    refine wpOp_of rfl rfl ?_
    have i2 : w'.cell? ⟨gP, 2, none⟩ = some (.slice ay ny cy) := (KP.below hB).cell 2
    go_simp
    unfold ou3I
    exact .inr ⟨j0, j1, j2, true, true, j5, j6, x0, x1, x2, _, _, x5, x6, rfl, rfl, hB, h0.out, h1.out, h2.out, h3.out, fun _ => rfl, h5.out, h6.out⟩
  · obtain rfl := Option.some.inj ho
    simp [Region.binds] at hu hd
    have d2 : j2 = true := by simp [hd]
    have d4 : j4 = true := by simp [hd]
    have e2 := h2.out d2
    subst e2
    have e4 := h4.out d4
    subst e4
    subst d2
    subst d4
    clear hd
    refine wpOp_of rfl rfl ?_
    go_simp
    go_at_call 96
    refine (keep w.heap.size w (out_nv _ _ uy HY (NY.below hB)) hB (Nat.le_refl _)).mono ?_
    rintro e w2 ⟨rfl, hB2, hb2⟩
    unfold ou3I
    exact .inr ⟨j0, j1, true, j3, true, true, j6, x0, x1, _, x3, _, _, x6, rfl, rfl, hB2, h0.out, h1.out, h2.out, h3.out, h4.out, fun _ => rfl, h6.out⟩
  · obtain rfl := Option.some.inj ho
    simp [Region.binds] at hu hd
    have d2 : j2 = true := by simp [hd]
    have d5 : j5 = true := by simp [hd]
    have e2 := h2.out d2
    subst e2
    have e5 := h5.out d5
    subst e5
    subst d2
    subst d5
    clear hd
    refine wpOp_of rfl rfl ?_
    go_simp
    unfold ou3I
    exact .inr ⟨j0, j1, true, j3, j4, true, true, x0, x1, _, x3, x4, _, _, rfl, rfl, hB, h0.out, h1.out, h2.out, h3.out, h4.out, h5.out, fun _ => rfl⟩
  · obtain rfl := Option.some.inj ho
    simp [Region.binds] at hu hd
    have d0 : j0 = true := by simp [hd]
    have d1 : j1 = true := by simp [hd]
    have d2 : j2 = true := by simp [hd]
    have d3 : j3 = true := by simp [hd]
    have d4 : j4 = true := by simp [hd]
    have d5 : j5 = true := by simp [hd]
    have d6 : j6 = true := by simp [hd]
    have e0 := h0.out d0
    subst e0
    have e1 := h1.out d1
    subst e1
    have e2 := h2.out d2
    subst e2
    have e3 := h3.out d3
    subst e3
    have e4 := h4.out d4
    subst e4
    have e5 := h5.out d5
    subst e5
    have e6 := h6.out d6
    subst e6
    subst d0
    subst d1
    subst d2
    subst d3
    subst d4
    subst d5
    subst d6
    clear hd
    refine wpOp_of rfl rfl ?_
    have c0 := (KR.below hB).cell 0
    have f0 := (KR.below hB).fro 0
    have c1 := (KR.below hB).cell 1
    have f1 := (KR.below hB).fro 1
    have c2 := (KR.below hB).cell 2
    have f2 := (KR.below hB).fro 2
    have c3 := (KR.below hB).cell 3
    have f3 := (KR.below hB).fro 3
    have c4 := (KR.below hB).cell 4
    have f4 := (KR.below hB).fro 4
    have c5 := (KR.below hB).cell 5
    have f5 := (KR.below hB).fro 5
    have c6 := (KR.below hB).cell 6
    have f6 := (KR.below hB).fro 6
    have c7 := (KR.below hB).cell 7
    have f7 := (KR.below hB).fro 7
    have c8 := (KR.below hB).cell 8
    have f8 := (KR.below hB).fro 8
    go_simp
    unfold ou3I ou3F
    exact .inl ⟨rfl, _, _, _, _, _, _, _, _, rfl, hB, rfl⟩
set_option maxHeartbeats 16000000 in
theorem ou3_fin (gP gR ux uy nx cx ny cy : Nat) (ax ay : Option Addr) (w : World) {t0 t3 t4 t5 : Value} {ds : List Deferred} : ∀ l a w1, ou3I w gP gR ux uy nx cx ny cy ax ay t0 t3 t4 t5 ds l a w1 → Region.ready .any ou3O l = [] → ou3F w gP gR ux uy nx cx ny cy ax ay t0 t3 t4 t5 ds a w1 := by
  simp only [ou3O, findR, Tryz.f46, Option.bind_some, Option.or, Option.getD, Nat.reduceEqDiff, if_true, if_false, reduceIte]
  rintro l a w1 hI hr
  rcases hI with ⟨rfl, hF⟩ | hI
  · exact hF
  obtain ⟨j0, j1, j2, j3, j4, j5, j6, x0, x1, x2, x3, x4, x5, x6, rfl, rfl, hB, h0, h1, h2, h3, h4, h5, h6⟩ := hI
  have hn := fun i => List.eq_nil_iff_forall_not_mem.1 hr i
  clear hr
  cases j0; exact absurd (mem_ready.2 ⟨by simp, _, rfl, by simp [Region.binds]⟩) (hn 0)
  cases j1; exact absurd (mem_ready.2 ⟨by simp, _, rfl, by simp [Region.binds]⟩) (hn 1)
  cases j2; exact absurd (mem_ready.2 ⟨by simp, _, rfl, by simp [Region.binds]⟩) (hn 2)
  cases j3; exact absurd (mem_ready.2 ⟨by simp, _, rfl, by simp [Region.binds]⟩) (hn 3)
  cases j4; exact absurd (mem_ready.2 ⟨by simp, _, rfl, by simp [Region.binds]⟩) (hn 4)
  cases j5; exact absurd (mem_ready.2 ⟨by simp, _, rfl, by simp [Region.binds]⟩) (hn 5)
  cases j6; exact absurd (mem_ready.2 ⟨by simp, _, rfl, by simp [Region.binds]⟩) (hn 6)
  exact absurd (mem_ready.2 ⟨rfl, _, rfl, by simp [Region.binds]⟩) (hn 7)
theorem ou3 (gP gR ux uy nx cx ny cy : Nat) (ax ay : Option Addr) (w : World) (KP : Bk 72 w gP #[.bool false, .slice ax nx cx, .slice ay ny cy]) (KR : Bk 26 w gR #[.int .u64 0, .int .u64 0, .int .u64 0, .int .u64 0, .int .u64 0, .int .u64 0, .int .u64 0, .int .u64 0, .bool false]) (HX : ux < W256) (HY : uy < W256) (NX : NV w (.slice ax nx cx) ux) (NY : NV w (.slice ay ny cy) uy) {t0 t3 t4 t5 t6 t7 t8 t9 t10 t11 t12 : Value} {ds : List Deferred} {K : Act → World → Prop} {Q : Exit → Act → World → Prop}
    (h : ∀ (y0 y1 y2 y3 y4 y5 y6 : Value) (w1 : World) (hb : Below w.heap.size w w1), K { tmps := #[t0, .pointer (some ⟨gP, 0, none⟩), .pointer (some ⟨gR, 0, none⟩), t3, t4, t5, y0, y1, y2, y3, y4, y5, y6], defers := ds } (World.setCell (World.setCell (World.setCell (World.setCell (World.setCell (World.setCell (World.setCell (World.setCell (World.setCell w1 ⟨gR, 0, none⟩ (.int .u64 (lb ux 0 : Nat))) ⟨gR, 1, none⟩ (.int .u64 (lb ux 1 : Nat))) ⟨gR, 2, none⟩ (.int .u64 (lb ux 2 : Nat))) ⟨gR, 3, none⟩ (.int .u64 (lb ux 3 : Nat))) ⟨gR, 4, none⟩ (.int .u64 (lb uy 0 : Nat))) ⟨gR, 5, none⟩ (.int .u64 (lb uy 1 : Nat))) ⟨gR, 6, none⟩ (.int .u64 (lb uy 2 : Nat))) ⟨gR, 7, none⟩ (.int .u64 (lb uy 3 : Nat))) ⟨gR, 8, none⟩ (.bool false))) :
    (Code.region 3 ou3O true).wp Tryz.prog (Exit.then K Q) { tmps := #[t0, .pointer (some ⟨gP, 0, none⟩), .pointer (some ⟨gR, 0, none⟩), t3, t4, t5, t6, t7, t8, t9, t10, t11, t12], defers := ds } w := by
  have hsz : ou3O.size = 8 := by kernel_rfl
  refine wp_region_any (show Tryz.prog.follows .mixedOrders = true from by kernel_rfl) ?_
  rw [hsz]
  refine wpAny_inv (I := ou3I w gP gR ux uy nx cx ny cy ax ay t0 t3 t4 t5 ds) (ou3_steps gP gR ux uy nx cx ny cy ax ay w KP KR HX HY NX NY) (fun l a w' hI hr => ?_) 8 _ _ _ (by decide) ?_
  · obtain ⟨y0, y1, y2, y3, y4, y5, y6, wm, rfl, hb, rfl⟩ := ou3_fin gP gR ux uy nx cx ny cy ax ay w l a w' hI hr
    exact h _ _ _ _ _ _ _ _ hb
  · exact .inr ⟨false, false, false, false, false, false, false, t6, t7, t8, t9, t10, t11, t12, rfl, rfl, ⟨rfl, rfl, rfl, Nat.le_refl _, fun _ _ => rfl⟩, (fun h => by cases h), (fun h => by cases h), (fun h => by cases h), (fun h => by cases h), (fun h => by cases h), (fun h => by cases h), (fun h => by cases h)⟩
theorem u64p : Tryz.prog.underlying 72 = some (.struct (Tryz.prog.fieldsOf 72)) := by kernel_rfl
theorem i64p : (Tryz.prog.info? 72).map (·.size) = some 3 := by kernel_rfl
theorem ret_cell64 {fn : Func} {R : Ending → World → Prop} {a : Act} {w : World} {p : Tmp} (h : fn.results = #[.cell p 72]) (g : Nat) (x y z : Value) (hp : a.tmps.getD p undef = .pointer (some ⟨g, 0, none⟩)) (hk : Bk 72 w g #[x, y, z]) (hd : a.defers = []) (hR : R (.returned (.agg #[x, y, z])) w) : bodyPost Tryz.prog fn R .ret a w :=
  bodyPost_ret (v := .agg #[x, y, z]) (results_cell_row h a.tmps w g 72 #[x, y, z] (0, 0) _ hp hk u64p rfl i64p) hd hR
theorem Bk.cells3 {t : TypeId} {w : World} {g : Nat} {a b c : Value} (h : Bk t w g #[a, b, c]) : w.cell? ⟨g, 0, none⟩ = some a ∧ w.cell? ⟨g, 1, none⟩ = some b ∧ w.cell? ⟨g, 2, none⟩ = some c := ⟨h.cell 0, h.cell 1, h.cell 2⟩
theorem Bk.fros3 {t : TypeId} {w : World} {g : Nat} {cs : Array Value} (h : Bk t w g cs) : w.frozen? ⟨g, 0, none⟩ = false ∧ w.frozen? ⟨g, 1, none⟩ = false ∧ w.frozen? ⟨g, 2, none⟩ = false := ⟨h.fro 0, h.fro 1, h.fro 2⟩
theorem Bk.put3 {t : TypeId} {w : World} {g : Nat} {a b c d e f : Value} (h : Bk t w g #[a, b, c]) : Bk t (((w.setCell ⟨g, 0, none⟩ d).setCell ⟨g, 1, none⟩ e).setCell ⟨g, 2, none⟩ f) g #[d, e, f] :=
  Bk.same (i := 2) (v := f) (Bk.same (i := 1) (v := e) (Bk.same (i := 0) (v := d) h))
theorem NV.except {w w' : World} {v : Value} {n gR : Nat} {t : TypeId} {cs : Array Value} (h : NV w v n) (hk : Bk t w gR cs) (hno : ∀ (i : Nat) (z : Int), cs[i]? ≠ some (Value.int .u32 z)) (hs : w.heap.size ≤ w'.heap.size) (ho : ∀ g, g ≠ gR → w'.heap[g]? = w.heap[g]?) : NV w' v n := by
  obtain ⟨r, ⟨g, cap, h1, h2, h3, h4, h5⟩, h6⟩ := h
  refine ⟨r, ⟨g, cap, h1, h2, h3, Nat.lt_of_lt_of_le h4 hs, fun i hi => ?_⟩, h6⟩
  have hc := h5 i hi
  have hne : g ≠ gR := by
    rintro rfl
    have := hk.cell i
    rw [hc] at this
    exact hno i _ this.symm
  rw [World.cell?_of_block (w := w) (ho g hne)]
  exact hc
theorem no3 {b : Bool} {ax ay : Option Addr} {nx cx ny cy : Nat} : ∀ (i : Nat) (z : Int), (#[.bool b, .slice ax nx cx, .slice ay ny cy] : Array Value)[i]? ≠ some (Value.int .u32 z) := by
  intro i z
  rcases i with _ | _ | _ | i <;> simp
theorem put3_ex {w : World} {v : Value} {n g : Nat} {b : Bool} {ax ay : Option Addr} {nx cx ny cy : Nat} {d e f : Value} (h : NV w v n) (hk : Bk 72 w g #[.bool b, .slice ax nx cx, .slice ay ny cy]) : NV (((w.setCell ⟨g, 0, none⟩ d).setCell ⟨g, 1, none⟩ e).setCell ⟨g, 2, none⟩ f) v n :=
  h.except hk no3 (by simp) (fun g' hn => (heap_setCell_other _ _ _ _ hn).trans ((heap_setCell_other _ _ _ _ hn).trans (heap_setCell_other _ _ _ _ hn)))
set_option maxHeartbeats 16000000 in
theorem in7 (p : Po) (hp : p.ok) (w : World) : Calls Tryz.prog 67 #[p.v] w fun e w' => ∃ v', e = .returned v' ∧ RP w' v' p ∧ Below w.heap.size w w' := by
  obtain ⟨ux, uy, pi⟩ := p
  have HX := Lib.hid (fun w => in_any ux hp.1 w)
  have HY := Lib.hid (fun w => in_any uy hp.2 w)
  clear hp
  unfold Po.v
  simp only [pn, nv, num] at HX HY ⊢
  go_enter Tryz.func67, Tryz.ntmps67
  go_wp2_with fail
  have KP : Hid (Bk 26 ((w.alloc (.cells #[.int .u64 (lb ux 0 : Nat), .int .u64 (lb ux 1 : Nat), .int .u64 (lb ux 2 : Nat), .int .u64 (lb ux 3 : Nat), .int .u64 (lb uy 0 : Nat), .int .u64 (lb uy 1 : Nat), .int .u64 (lb uy 2 : Nat), .int .u64 (lb uy 3 : Nat), .bool pi] 26)).alloc (.cells #[.bool false, .slice none 0 0, .slice none 0 0] 72)) w.heap.size #[.int .u64 (lb ux 0 : Nat), .int .u64 (lb ux 1 : Nat), .int .u64 (lb ux 2 : Nat), .int .u64 (lb ux 3 : Nat), .int .u64 (lb uy 0 : Nat), .int .u64 (lb uy 1 : Nat), .int .u64 (lb uy 2 : Nat), .int .u64 (lb uy 3 : Nat), .bool pi]) := Lib.hid (Bk.alloc (Bk.new rfl))
  have KR : Hid (Bk 72 ((w.alloc (.cells #[.int .u64 (lb ux 0 : Nat), .int .u64 (lb ux 1 : Nat), .int .u64 (lb ux 2 : Nat), .int .u64 (lb ux 3 : Nat), .int .u64 (lb uy 0 : Nat), .int .u64 (lb uy 1 : Nat), .int .u64 (lb uy 2 : Nat), .int .u64 (lb uy 3 : Nat), .bool pi] 26)).alloc (.cells #[.bool false, .slice none 0 0, .slice none 0 0] 72)) (w.heap.size + 1) #[.bool false, .slice none 0 0, .slice none 0 0]) := Lib.hid (Bk.new (by simp))
  have HB : Hid (Below w.heap.size w ((w.alloc (.cells #[.int .u64 (lb ux 0 : Nat), .int .u64 (lb ux 1 : Nat), .int .u64 (lb ux 2 : Nat), .int .u64 (lb ux 3 : Nat), .int .u64 (lb uy 0 : Nat), .int .u64 (lb uy 1 : Nat), .int .u64 (lb uy 2 : Nat), .int .u64 (lb uy 3 : Nat), .bool pi] 26)).alloc (.cells #[.bool false, .slice none 0 0, .slice none 0 0] 72))) := Lib.hid (by go_grown)
  obtain ⟨gR, hgR⟩ : ∃ g, g = w.heap.size + 1 := ⟨_, rfl⟩
  rw [← hgR] at KR ⊢
  have HG := Lib.hid (show w.heap.size ≤ gR by omega)
  clear hgR
  generalize ((w.alloc (.cells #[.int .u64 (lb ux 0 : Nat), .int .u64 (lb ux 1 : Nat), .int .u64 (lb ux 2 : Nat), .int .u64 (lb ux 3 : Nat), .int .u64 (lb uy 0 : Nat), .int .u64 (lb uy 1 : Nat), .int .u64 (lb uy 2 : Nat), .int .u64 (lb uy 3 : Nat), .bool pi] 26)).alloc (.cells #[.bool false, .slice none 0 0, .slice none 0 0] 72)) = w0 at KP KR HB ⊢
  refine in1 w.heap.size gR ux uy pi w0 KP.out KR.out HX HY ?_
  intros
  rename_i y4 y5 y6 y7 y8 w1 hb1 hn4 hn7
  obtain ⟨a4, l4, c4, rfl⟩ := hn4.shape
  obtain ⟨a7, l7, c7, rfl⟩ := hn7.shape
  have K1 := Lib.hid (KR.out.below hb1)
  have HB1 := Lib.hid (HB.out.trans (hb1.mono HB.out.size))
  have HN := Lib.hid (And.intro (put3_ex (d := .bool pi) (e := .slice a4 l4 c4) (f := .slice a7 l7 c7) hn4 K1.out) (put3_ex (d := .bool pi) (e := .slice a4 l4 c4) (f := .slice a7 l7 c7) hn7 K1.out))
  clear hb1 hn4 hn7 KP KR HB
  go_wp2_with fail
  refine ret_cell64 rfl gR (.bool pi) (.slice a4 l4 c4) (.slice a7 l7 c7) rfl (Bk.put3 K1.out) rfl ⟨_, rfl, ⟨_, _, _, _, _, _, rfl, fun _ => HN.out⟩, ?_⟩
  have hb := HB1.out
  have hg := HG.out
  go_grown
set_option maxHeartbeats 16000000 in
theorem opp7 (v : Value) (p : Po) (hy : p.y < big) (w : World) (h : RP w v p) : Calls Tryz.prog 126 #[v] w fun e w' => ∃ v', e = .returned v' ∧ RP w' v' p.neg ∧ Below w.heap.size w w' := by
  obtain ⟨x, y, pi⟩ := p
  obtain ⟨ax, nx, cx, ay, ny, cy, rfl, hn⟩ := h
  unfold Po.neg
  cases pi
  · obtain ⟨hnx, hny⟩ := hn rfl
    have NX := Lib.hid hnx
    have NY := Lib.hid hny
    have HYB := Lib.hid hy
    clear hn hnx hny hy
    go_enter Tryz.func126, Tryz.ntmps126
    go_wp2_with fail
    have KP : Hid (Bk 72 ((w.alloc (.cells #[.bool false, .slice ax nx cx, .slice ay ny cy] 72)).alloc (.cells #[.bool false, .slice none 0 0, .slice none 0 0] 72)) w.heap.size #[.bool false, .slice ax nx cx, .slice ay ny cy]) := Lib.hid (Bk.alloc (Bk.new rfl))
    have KR : Hid (Bk 72 ((w.alloc (.cells #[.bool false, .slice ax nx cx, .slice ay ny cy] 72)).alloc (.cells #[.bool false, .slice none 0 0, .slice none 0 0] 72)) (w.heap.size + 1) #[.bool false, .slice none 0 0, .slice none 0 0]) := Lib.hid (Bk.new (by simp))
    have HB : Hid (Below w.heap.size w ((w.alloc (.cells #[.bool false, .slice ax nx cx, .slice ay ny cy] 72)).alloc (.cells #[.bool false, .slice none 0 0, .slice none 0 0] 72))) := Lib.hid (by go_grown)
    obtain ⟨gR, hgR⟩ : ∃ g, g = w.heap.size + 1 := ⟨_, rfl⟩
    rw [← hgR] at KR ⊢
    have HG := Lib.hid (show w.heap.size ≤ gR by omega)
    clear hgR
    generalize ((w.alloc (.cells #[.bool false, .slice ax nx cx, .slice ay ny cy] 72)).alloc (.cells #[.bool false, .slice none 0 0, .slice none 0 0] 72)) = w0 at KP KR HB ⊢
    obtain ⟨a0, a1, a2⟩ := Bk.cells3 KP.out
    go_wp2_with fail
    clear a0 a1 a2
    refine op3 w.heap.size gR x y nx cx ny cy ax ay w0 KP.out KR.out HYB.out (NY.out.below HB.out) ?_
    intros
    rename_i y0 y1 y2 y3 y4 y5 w1 hb1 hn4
    obtain ⟨a4, l4, c4, rfl⟩ := hn4.shape
    have K1 := Lib.hid (KR.out.below hb1)
    have HB1 := Lib.hid (HB.out.trans (hb1.mono HB.out.size))
    have HN := Lib.hid (And.intro (put3_ex (d := .bool false) (e := .slice ax nx cx) (f := .slice a4 l4 c4) ((NX.out.below HB.out).below hb1) K1.out) (put3_ex (d := .bool false) (e := .slice ax nx cx) (f := .slice a4 l4 c4) hn4 K1.out))
    clear hb1 hn4 KP KR HB
    go_wp2_with fail
    refine ret_cell64 rfl gR (.bool false) (.slice ax nx cx) (.slice a4 l4 c4) rfl (Bk.put3 K1.out) rfl ⟨_, rfl, ⟨_, _, _, _, _, _, rfl, fun _ => HN.out⟩, ?_⟩
    have hb := HB1.out
    have hg := HG.out
    go_grown
  · clear hn hy
    go_enter Tryz.func126, Tryz.ntmps126
    go_wp2_with fail
    refine ret_cell64 rfl (w.heap.size + 1) (.bool true) (.slice ax nx cx) (.slice ay ny cy) rfl (Bk.new (by simp)) rfl ⟨_, rfl, ⟨_, _, _, _, _, _, rfl, fun h => by cases h⟩, ?_⟩
    go_grown
def Po.same (p q : Po) : Bool := (p.i && q.i) || (!p.i && !q.i && decide (p.x = q.x) && decide (p.y = q.y))
set_option maxHeartbeats 16000000 in
theorem same7 (v u : Value) (p q : Po) (w : World) (h : RP w v p) (k : RP w u q) : Calls Tryz.prog 125 #[v, u] w fun e w' => e = .returned (.bool (Po.same p q)) ∧ Below w.heap.size w w' := by
  obtain ⟨x, y, pi⟩ := p
  obtain ⟨x', y', qi⟩ := q
  obtain ⟨ax, nx, cx, ay, ny, cy, rfl, hn⟩ := h
  obtain ⟨bx, mx, dx, bb, my, dy, rfl, hm⟩ := k
  unfold Po.same
  cases pi
  · cases qi
    · obtain ⟨hnx, hny⟩ := hn rfl
      obtain ⟨hmx, hmy⟩ := hm rfl
      have NX := Lib.hid hnx
      have NY := Lib.hid hny
      have MX := Lib.hid hmx
      have MY := Lib.hid hmy
      clear hn hm hnx hny hmx hmy
      have hcx := cmp_eq0 x x'
      have hcy := cmp_eq0 y y'
      have HCX := Lib.hid (fun w h k => cmp_nv (.slice ax nx cx) (.slice bx mx dx) w x x' h k)
      have HCY := Lib.hid (fun w h k => cmp_nv (.slice ay ny cy) (.slice bb my dy) w y y' h k)
      by_cases hx : x = x'
      · rw [decide_eq_true hx] at hcx ⊢
        generalize decide (y = y') = res at hcy ⊢
        generalize cmpN x x' = cm at HCX hcx
        generalize cmpN y y' = cn at HCY hcy
        clear hx
        go_enter Tryz.func125, Tryz.ntmps125
        go_wp2_with fail
        have KP : Hid (Bk 72 ((w.alloc (.cells #[.bool false, .slice ax nx cx, .slice ay ny cy] 72)).alloc (.cells #[.bool false, .slice bx mx dx, .slice bb my dy] 72)) w.heap.size #[.bool false, .slice ax nx cx, .slice ay ny cy]) := Lib.hid (Bk.alloc (Bk.new rfl))
        have KQ : Hid (Bk 72 ((w.alloc (.cells #[.bool false, .slice ax nx cx, .slice ay ny cy] 72)).alloc (.cells #[.bool false, .slice bx mx dx, .slice bb my dy] 72)) (w.heap.size + 1) #[.bool false, .slice bx mx dx, .slice bb my dy]) := Lib.hid (Bk.new (by simp))
        have HB : Hid (Below w.heap.size w ((w.alloc (.cells #[.bool false, .slice ax nx cx, .slice ay ny cy] 72)).alloc (.cells #[.bool false, .slice bx mx dx, .slice bb my dy] 72))) := Lib.hid (by go_grown)
        obtain ⟨gq, hgq⟩ : ∃ g, g = w.heap.size + 1 := ⟨_, rfl⟩
        rw [← hgq] at KQ ⊢
        clear hgq
        generalize ((w.alloc (.cells #[.bool false, .slice ax nx cx, .slice ay ny cy] 72)).alloc (.cells #[.bool false, .slice bx mx dx, .slice bb my dy] 72)) = w0 at KP KQ HB ⊢
        obtain ⟨a0, a1, a2⟩ := Bk.cells3 KP.out
        obtain ⟨b0, b1, b2⟩ := Bk.cells3 KQ.out
        go_wp2_with fail
        clear a0 a1 a2 b0 b1 b2
        have HC := Lib.hid (HCX.out w0 (NX.out.below HB.out) (MX.out.below HB.out))
        refine HC.out.mono ?_
        rintro e w1 ⟨rfl, hs⟩
        replace KP := Lib.hid (KP.out.below hs.below0)
        replace KQ := Lib.hid (KQ.out.below hs.below0)
        replace HB := Lib.hid (hs.below HB.out)
        clear hs HC
        obtain ⟨a0, a1, a2⟩ := Bk.cells3 KP.out
        obtain ⟨b0, b1, b2⟩ := Bk.cells3 KQ.out
        go_wp2_with fail
        clear a0 a1 a2 b0 b1 b2
        have HC := Lib.hid (HCY.out w1 (NY.out.below HB.out) (MY.out.below HB.out))
        refine HC.out.mono ?_
        rintro e w2 ⟨rfl, hs⟩
        replace HB := Lib.hid (hs.below HB.out)
        clear hs HC
        go_wp2_with fail
        go_ret
        exact ⟨by simp, HB.out⟩
      · rw [decide_eq_false hx] at hcx ⊢
        generalize cmpN x x' = cm at HCX hcx
        clear hx
        go_enter Tryz.func125, Tryz.ntmps125
        go_wp2_with fail
        have KP : Hid (Bk 72 ((w.alloc (.cells #[.bool false, .slice ax nx cx, .slice ay ny cy] 72)).alloc (.cells #[.bool false, .slice bx mx dx, .slice bb my dy] 72)) w.heap.size #[.bool false, .slice ax nx cx, .slice ay ny cy]) := Lib.hid (Bk.alloc (Bk.new rfl))
        have KQ : Hid (Bk 72 ((w.alloc (.cells #[.bool false, .slice ax nx cx, .slice ay ny cy] 72)).alloc (.cells #[.bool false, .slice bx mx dx, .slice bb my dy] 72)) (w.heap.size + 1) #[.bool false, .slice bx mx dx, .slice bb my dy]) := Lib.hid (Bk.new (by simp))
        have HB : Hid (Below w.heap.size w ((w.alloc (.cells #[.bool false, .slice ax nx cx, .slice ay ny cy] 72)).alloc (.cells #[.bool false, .slice bx mx dx, .slice bb my dy] 72))) := Lib.hid (by go_grown)
        obtain ⟨gq, hgq⟩ : ∃ g, g = w.heap.size + 1 := ⟨_, rfl⟩
        rw [← hgq] at KQ ⊢
        clear hgq
        generalize ((w.alloc (.cells #[.bool false, .slice ax nx cx, .slice ay ny cy] 72)).alloc (.cells #[.bool false, .slice bx mx dx, .slice bb my dy] 72)) = w0 at KP KQ HB ⊢
        obtain ⟨a0, a1, a2⟩ := Bk.cells3 KP.out
        obtain ⟨b0, b1, b2⟩ := Bk.cells3 KQ.out
        go_wp2_with fail
        clear a0 a1 a2 b0 b1 b2
        have HC := Lib.hid (HCX.out w0 (NX.out.below HB.out) (MX.out.below HB.out))
        refine HC.out.mono ?_
        rintro e w1 ⟨rfl, hs⟩
        replace KP := Lib.hid (KP.out.below hs.below0)
        replace KQ := Lib.hid (KQ.out.below hs.below0)
        replace HB := Lib.hid (hs.below HB.out)
        clear hs HC
        obtain ⟨a0, a1, a2⟩ := Bk.cells3 KP.out
        obtain ⟨b0, b1, b2⟩ := Bk.cells3 KQ.out
        go_wp2_with fail
        go_ret
        exact ⟨by simp, HB.out⟩
    · clear hn hm
      go_enter Tryz.func125, Tryz.ntmps125
      go_wp2_with fail
      have KP : Hid (Bk 72 ((w.alloc (.cells #[.bool false, .slice ax nx cx, .slice ay ny cy] 72)).alloc (.cells #[.bool true, .slice bx mx dx, .slice bb my dy] 72)) w.heap.size #[.bool false, .slice ax nx cx, .slice ay ny cy]) := Lib.hid (Bk.alloc (Bk.new rfl))
      have KQ : Hid (Bk 72 ((w.alloc (.cells #[.bool false, .slice ax nx cx, .slice ay ny cy] 72)).alloc (.cells #[.bool true, .slice bx mx dx, .slice bb my dy] 72)) (w.heap.size + 1) #[.bool true, .slice bx mx dx, .slice bb my dy]) := Lib.hid (Bk.new (by simp))
      have HB : Hid (Below w.heap.size w ((w.alloc (.cells #[.bool false, .slice ax nx cx, .slice ay ny cy] 72)).alloc (.cells #[.bool true, .slice bx mx dx, .slice bb my dy] 72))) := Lib.hid (by go_grown)
      obtain ⟨gq, hgq⟩ : ∃ g, g = w.heap.size + 1 := ⟨_, rfl⟩
      rw [← hgq] at KQ ⊢
      clear hgq
      generalize ((w.alloc (.cells #[.bool false, .slice ax nx cx, .slice ay ny cy] 72)).alloc (.cells #[.bool true, .slice bx mx dx, .slice bb my dy] 72)) = w0 at KP KQ HB ⊢
      obtain ⟨a0, a1, a2⟩ := Bk.cells3 KP.out
      obtain ⟨b0, b1, b2⟩ := Bk.cells3 KQ.out
      go_wp2_with fail
      go_ret
      exact ⟨rfl, HB.out⟩
  · cases qi
    · clear hn hm
      go_enter Tryz.func125, Tryz.ntmps125
      go_wp2_with fail
      have KP : Hid (Bk 72 ((w.alloc (.cells #[.bool true, .slice ax nx cx, .slice ay ny cy] 72)).alloc (.cells #[.bool false, .slice bx mx dx, .slice bb my dy] 72)) w.heap.size #[.bool true, .slice ax nx cx, .slice ay ny cy]) := Lib.hid (Bk.alloc (Bk.new rfl))
      have KQ : Hid (Bk 72 ((w.alloc (.cells #[.bool true, .slice ax nx cx, .slice ay ny cy] 72)).alloc (.cells #[.bool false, .slice bx mx dx, .slice bb my dy] 72)) (w.heap.size + 1) #[.bool false, .slice bx mx dx, .slice bb my dy]) := Lib.hid (Bk.new (by simp))
      have HB : Hid (Below w.heap.size w ((w.alloc (.cells #[.bool true, .slice ax nx cx, .slice ay ny cy] 72)).alloc (.cells #[.bool false, .slice bx mx dx, .slice bb my dy] 72))) := Lib.hid (by go_grown)
      obtain ⟨gq, hgq⟩ : ∃ g, g = w.heap.size + 1 := ⟨_, rfl⟩
      rw [← hgq] at KQ ⊢
      clear hgq
      generalize ((w.alloc (.cells #[.bool true, .slice ax nx cx, .slice ay ny cy] 72)).alloc (.cells #[.bool false, .slice bx mx dx, .slice bb my dy] 72)) = w0 at KP KQ HB ⊢
      obtain ⟨a0, a1, a2⟩ := Bk.cells3 KP.out
      obtain ⟨b0, b1, b2⟩ := Bk.cells3 KQ.out
      go_wp2_with fail
      go_ret
      exact ⟨rfl, HB.out⟩
    · clear hn hm
      go_enter Tryz.func125, Tryz.ntmps125
      go_wp2_with fail
      have KP : Hid (Bk 72 ((w.alloc (.cells #[.bool true, .slice ax nx cx, .slice ay ny cy] 72)).alloc (.cells #[.bool true, .slice bx mx dx, .slice bb my dy] 72)) w.heap.size #[.bool true, .slice ax nx cx, .slice ay ny cy]) := Lib.hid (Bk.alloc (Bk.new rfl))
      have KQ : Hid (Bk 72 ((w.alloc (.cells #[.bool true, .slice ax nx cx, .slice ay ny cy] 72)).alloc (.cells #[.bool true, .slice bx mx dx, .slice bb my dy] 72)) (w.heap.size + 1) #[.bool true, .slice bx mx dx, .slice bb my dy]) := Lib.hid (Bk.new (by simp))
      have HB : Hid (Below w.heap.size w ((w.alloc (.cells #[.bool true, .slice ax nx cx, .slice ay ny cy] 72)).alloc (.cells #[.bool true, .slice bx mx dx, .slice bb my dy] 72))) := Lib.hid (by go_grown)
      obtain ⟨gq, hgq⟩ : ∃ g, g = w.heap.size + 1 := ⟨_, rfl⟩
      rw [← hgq] at KQ ⊢
      clear hgq
      generalize ((w.alloc (.cells #[.bool true, .slice ax nx cx, .slice ay ny cy] 72)).alloc (.cells #[.bool true, .slice bx mx dx, .slice bb my dy] 72)) = w0 at KP KQ HB ⊢
      obtain ⟨a0, a1, a2⟩ := Bk.cells3 KP.out
      obtain ⟨b0, b1, b2⟩ := Bk.cells3 KQ.out
      go_wp2_with fail
      go_ret
      exact ⟨rfl, HB.out⟩
set_option maxHeartbeats 16000000 in
theorem out7 (v : Value) (p : Po) (hp : p.ok) (w : World) (h : RP w v p) : Calls Tryz.prog 46 #[v] w fun e w' => e = .returned (if p.i = true then pn 0 0 true else pn p.x p.y false) ∧ Below w.heap.size w w' := by
  obtain ⟨ux, uy, pi⟩ := p
  obtain ⟨hux, huy⟩ := hp
  obtain ⟨ax, nx, cx, ay, ny, cy, rfl, hn⟩ := h
  cases pi
  · obtain ⟨hnx, hny⟩ := hn rfl
    have NX := Lib.hid hnx
    have NY := Lib.hid hny
    have HU : Hid (ux < W256 ∧ uy < W256) := Lib.hid ⟨hux, huy⟩
    clear hn hnx hny hux huy
    rw [if_neg (show ¬ (false = true) by decide)]
    go_enter Tryz.func46, Tryz.ntmps46
    go_wp2_with fail
    have KP : Hid (Bk 72 ((w.alloc (.cells #[.bool false, .slice ax nx cx, .slice ay ny cy] 72)).alloc (.cells #[.int .u64 0, .int .u64 0, .int .u64 0, .int .u64 0, .int .u64 0, .int .u64 0, .int .u64 0, .int .u64 0, .bool false] 26)) w.heap.size #[.bool false, .slice ax nx cx, .slice ay ny cy]) := Lib.hid (Bk.alloc (Bk.new rfl))
    have KR : Hid (Bk 26 ((w.alloc (.cells #[.bool false, .slice ax nx cx, .slice ay ny cy] 72)).alloc (.cells #[.int .u64 0, .int .u64 0, .int .u64 0, .int .u64 0, .int .u64 0, .int .u64 0, .int .u64 0, .int .u64 0, .bool false] 26)) (w.heap.size + 1) #[.int .u64 0, .int .u64 0, .int .u64 0, .int .u64 0, .int .u64 0, .int .u64 0, .int .u64 0, .int .u64 0, .bool false]) := Lib.hid (Bk.new (by simp))
    have HB : Hid (Below w.heap.size w ((w.alloc (.cells #[.bool false, .slice ax nx cx, .slice ay ny cy] 72)).alloc (.cells #[.int .u64 0, .int .u64 0, .int .u64 0, .int .u64 0, .int .u64 0, .int .u64 0, .int .u64 0, .int .u64 0, .bool false] 26))) := Lib.hid (by go_grown)
    obtain ⟨gR, hgR⟩ : ∃ g, g = w.heap.size + 1 := ⟨_, rfl⟩
    rw [← hgR] at KR ⊢
    have HG := Lib.hid (show w.heap.size ≤ gR by omega)
    clear hgR
    generalize ((w.alloc (.cells #[.bool false, .slice ax nx cx, .slice ay ny cy] 72)).alloc (.cells #[.int .u64 0, .int .u64 0, .int .u64 0, .int .u64 0, .int .u64 0, .int .u64 0, .int .u64 0, .int .u64 0, .bool false] 26)) = w0 at KP KR HB ⊢
    obtain ⟨a0, a1, a2⟩ := Bk.cells3 KP.out
    go_wp2_with fail
    clear a0 a1 a2
    refine ou3 w.heap.size gR ux uy nx cx ny cy ax ay w0 KP.out KR.out HU.out.1 HU.out.2 (NX.out.below HB.out) (NY.out.below HB.out) ?_
    intros
    rename_i w1 hb1
    have K1 := Lib.hid (KR.out.below hb1)
    have HB1 := Lib.hid (HB.out.trans (hb1.mono HB.out.size))
    clear hb1 KP KR HB
    go_wp2_with fail
    refine ret_cell51 rfl gR ux uy false rfl (Bk.put9 K1.out) rfl ⟨rfl, ?_⟩
    have hb := HB1.out
    have hg := HG.out
    go_grown
  · clear hn hux huy
    rw [if_pos rfl]
    go_enter Tryz.func46, Tryz.ntmps46
    go_wp2_with fail
    refine ret_cell51 rfl (w.heap.size + 1) 0 0 true rfl (Bk.new (by simp)) rfl ⟨rfl, ?_⟩
    go_grown
end Go.Proofs.YtpggkfdijmnmiaaGreat.Ref
