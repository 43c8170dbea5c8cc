/- Drawn regions of Append: the text is laid behind the file, and the row gets a piece. No condition. -/
import Derived.Lib.AppendZeros
import Derived.StillTail
import Derived.Test.YtmoihgniglomiaaDoorZK
set_option linter.unusedVariables false
set_option linter.unusedSimpArgs false
set_option maxRecDepth 100000
namespace Go.Proofs.YtmoihgniglomiaaDoor
open Go.RowKit Go.Sort

section
variable {P : Program} {ops : Array Oper} {md : Region.Mode} {Q : Exit → Act → World → Prop}
def findR : Code → Nat → Option (Array Oper)
  | .region i os _, n => if i = n then some os else none
  | .seq a b, n => (findR a n).or (findR b n)
  | .cond _ a b, n => (findR a n).or (findR b n)
  | .block _ a, n => findR a n
  | .loop a, n => findR a n
  | .scope a, n => findR a n
  | _, _ => none
/-- how many have not come up -/
def left (l : Array Bool) : Nat := (l.toList.filter (fun x => !x)).length
theorem left_set_list : ∀ (l : List Bool) (i : Nat) (h : i < l.length), l[i] = false → ((l.set i true).filter (fun x => !x)).length + 1 = (l.filter (fun x => !x)).length
  | x :: l, 0, h, hx => by
    have : x = false := hx
    subst this
    simp
  | x :: l, i + 1, h, hx => by
    have ih := left_set_list l i (by simpa using h) (by simpa using hx)
    cases x <;> simp [List.filter_cons] <;> omega
theorem left_set {l : Array Bool} {i : Nat} (h : l.getD i true = false) : left (l.setIfInBounds i true) + 1 = left l := by
  have hi : i < l.size := by
    rcases Nat.lt_or_ge i l.size with h' | h'
    · exact h'
    · simp [Array.getElem?_eq_none h'] at h
  have hx : l[i] = false := by simpa [hi] using h
  unfold left
  have := left_set_list l.toList i (by simpa using hi) (by simpa using hx)
  simpa [Array.toList_setIfInBounds, hi] using this
theorem left_count (l : Array Bool) (g : Nat) : left (l ++ Array.replicate g false) = left l + g := by
  simp [left, List.filter_append]
theorem left_zero {l : Array Bool} (h : left l = 0) : ∀ x ∈ l, x = true := by
  intro x hx
  unfold left at h
  rw [List.length_eq_zero_iff, List.filter_eq_nil_iff] at h
  have := h x (by simpa using hx)
  simpa using this
theorem wpAny_inv2 {I : Array Bool → Act → World → Prop} {g : Nat} (none : ∀ l a w, I l a w → Region.ready md ops l = [] → left l = g) (step : ∀ l a w, I l a w → left l ≠ g → ∀ i ∈ Region.ready md ops l, wpOp P ops Q i (fun a' w' => I (l.setIfInBounds i true) a' w') a w)
    (fin : ∀ l a w, I l a w → left l = g → wpAny P md ops Q g l a w) : ∀ (fuel : Nat) (l : Array Bool) (a : Act) (w : World), left l = fuel → g ≤ fuel → I l a w → wpAny P md ops Q fuel l a w
  | 0, l, a, w, hf, hg, h => by
    obtain rfl : g = 0 := by omega
    exact fin l a w h hf
  | fuel + 1, l, a, w, hf, hg, h => by
    by_cases hgf : g = fuel + 1
    · subst hgf
      exact fin l a w h hf
    · refine ⟨fun h0 => absurd (none l a w h h0) (by omega), fun i hi => ?_⟩
      have hl := left_set (mem_ready.1 hi).1
      exact wpOp_mono (fun a' w' h' => wpAny_inv2 none step fin fuel _ a' w' (by omega) (by omega) h') (step l a w h (by omega) i hi)
theorem wpOp_of {i : Nat} {o : Oper} {K : Act → World → Prop} {a : Act} {w : World} (hi : ops[i]? = some o) (hg : o.guard = none) (h : o.wp P a w K Q) : wpOp P ops Q i K a w := by
  unfold wpOp
  simp only [hi]
  rw [if_pos (by simp [Region.wanted, hg])]
  exact .inl h
theorem wp_append_runE {o : Oper} {a : Act} {w : World} {K : Act → World → Prop} (s x : Operand) (t u : TypeId) (ho : o.op = .call { callee := .builtin .append, args := #[s, x], argTypes := #[t, u] }) (vs vx : Value) (hs : a.eval s = vs) (hx : a.eval x = vx) (v' : Value) (w' : World)
    (hr : (Builtin.append_ #[t, u] o.type #[vs, vx]).run P w = .ok v' w') (h : K (a.put o.dst v') w') : o.wp P a w K Q := Lib.wp_append_run w s x t u ho vs vx hs hx v' w' hr h
end
theorem left_all13_3 {j0 j1 j2 j3 j4 j5 j6 j7 j8 j9 j10 j11 j12 : Bool} (h : left #[j0, j1, j2, j3, j4, j5, j6, j7, j8, j9, j10, j11, j12, false, false, false] = 3) : j0 = true ∧ j1 = true ∧ j2 = true ∧ j3 = true ∧ j4 = true ∧ j5 = true ∧ j6 = true ∧ j7 = true ∧ j8 = true ∧ j9 = true ∧ j10 = true ∧ j11 = true ∧ j12 = true := by
  have e := left_count #[j0, j1, j2, j3, j4, j5, j6, j7, j8, j9, j10, j11, j12] 3
  have e2 : (#[j0, j1, j2, j3, j4, j5, j6, j7, j8, j9, j10, j11, j12] ++ Array.replicate 3 false) = #[j0, j1, j2, j3, j4, j5, j6, j7, j8, j9, j10, j11, j12, false, false, false] := rfl
  rw [e2, h] at e
  have hz := left_zero (l := #[j0, j1, j2, j3, j4, j5, j6, j7, j8, j9, j10, j11, j12]) (by omega)
  simpa using hz
theorem left_all10_3 {j0 j1 j2 j3 j4 j5 j6 j7 j8 j9 : Bool} (h : left #[j0, j1, j2, j3, j4, j5, j6, j7, j8, j9, false, false, false] = 3) : j0 = true ∧ j1 = true ∧ j2 = true ∧ j3 = true ∧ j4 = true ∧ j5 = true ∧ j6 = true ∧ j7 = true ∧ j8 = true ∧ j9 = true := by
  have e := left_count #[j0, j1, j2, j3, j4, j5, j6, j7, j8, j9] 3
  have e2 : (#[j0, j1, j2, j3, j4, j5, j6, j7, j8, j9] ++ Array.replicate 3 false) = #[j0, j1, j2, j3, j4, j5, j6, j7, j8, j9, false, false, false] := rfl
  rw [e2, h] at e
  have hz := left_zero (l := #[j0, j1, j2, j3, j4, j5, j6, j7, j8, j9]) (by omega)
  simpa using hz
noncomputable def rA0O : Array Oper := (Tryd.f75.body.bind fun c => findR c 4).getD #[]
def rA0I (w0 : World) (b3 b4 b5 b g n c : Nat) (s : ByteArray) (R : World → Value → Prop) (t0 t1 t2 t6 t7 t8 t9 t10 t11 t12 t13 t27 t28 t29 t30 t31 t32 t33 t34 t35 t36 t37 t38 t39 t40 t41 t42 : Value) (ds : List Deferred) (l : Array Bool) (a : Act) (w : World) : Prop :=
  ∃ j0 j1 j2 j3 j4 j5 j6 j7 j8 j9 j10 j11 j12 : Bool, ∃ x0 x1 x2 x3 x4 x5 x6 x7 x8 x9 x10 x11 x12 : Value, l = #[j0, j1, j2, j3, j4, j5, j6, j7, j8, j9, j10, j11, j12, false, false, false] ∧ a = { tmps := #[t0, t1, t2, .pointer (some ⟨b3, 0, none⟩), .pointer (some ⟨b4, 0, none⟩), .pointer (some ⟨b5, 0, none⟩), t6, t7, t8, t9, t10, t11, t12, t13, x0, x1, x2, x3, x4, x5, x6, x7, x8, x9, x10, x11, x12, t27, t28, t29, t30, t31, t32, t33, t34, t35, t36, t37, t38, t39, t40, t41, t42], defers := ds } ∧ (j10 = false → w = w0.drew) ∧
  (j0 = true → x0 = .pointer (some ⟨b, 0, none⟩)) ∧ (j1 = true → x1 = .int .i64 0) ∧ (j2 = true → x2 = .pointer (some ⟨b, 0, none⟩)) ∧ (j3 = true → x3 = .int .i64 0) ∧ (j4 = true → x4 = .pointer (some ⟨b, 0, none⟩)) ∧ (j5 = true → x5 = .pointer (some ⟨b, 0, none⟩)) ∧ (j6 = true → x6 = .pointer (some ⟨b, 0, none⟩)) ∧ (j7 = true → x7 = .pointer (some ⟨b, 0, none⟩)) ∧ (j8 = true → x8 = .slice (some ⟨g, 0, none⟩) n c) ∧ (j9 = true → x9 = .string s) ∧ (j10 = true → R w x10) ∧ (j11 = true → x11 = .pointer (some ⟨b, 0, none⟩)) ∧ (j12 = true → x12 = .pointer (some ⟨b, 0, none⟩)) ∧
  (j4 = true → j2 = true) ∧ (j5 = true → j4 = true) ∧ (j6 = true → j3 = true ∧ j5 = true) ∧ (j7 = true → j6 = true) ∧ (j8 = true → j7 = true) ∧ (j10 = true → j8 = true ∧ j9 = true) ∧ (j11 = true → j0 = true) ∧ (j12 = true → j11 = true)
set_option maxHeartbeats 16000000 in
theorem rA0_none (b3 b4 b5 b g n c : Nat) (s : ByteArray) (R : World → Value → Prop) (w : World) {t0 t1 t2 t6 t7 t8 t9 t10 t11 t12 t13 t27 t28 t29 t30 t31 t32 t33 t34 t35 t36 t37 t38 t39 t40 t41 t42 : Value} {ds : List Deferred} : ∀ l a w1, rA0I w b3 b4 b5 b g n c s R t0 t1 t2 t6 t7 t8 t9 t10 t11 t12 t13 t27 t28 t29 t30 t31 t32 t33 t34 t35 t36 t37 t38 t39 t40 t41 t42 ds l a w1 → Region.ready .any rA0O l = [] → left l = 3 := by
  simp only [rA0O, findR, Tryd.f75, Option.bind_some, Option.or, Option.getD, Nat.reduceEqDiff, if_true, if_false, reduceIte]
  rintro l a w1 hI hr
  obtain ⟨j0, j1, j2, j3, j4, j5, j6, j7, j8, j9, j10, j11, j12, x0, x1, x2, x3, x4, x5, x6, x7, x8, x9, x10, x11, x12, rfl, rfl, hW, h0, h1, h2, h3, h4, h5, h6, h7, h8, h9, h10, h11, h12, k4, k5, k6, k7, k8, k10, k11, k12⟩ := hI
  have hn := fun i => List.eq_nil_iff_forall_not_mem.1 hr i
  clear hr
  have d0 : j0 = true := by
    cases hj : j0
    · exact absurd (mem_ready.2 ⟨by simp [hj], _, rfl, by simp [Region.binds, hj]⟩) (hn 0)
    · rfl
  subst d0
  have d1 : j1 = true := by
    cases hj : j1
    · exact absurd (mem_ready.2 ⟨by simp [hj], _, rfl, by simp [Region.binds, hj]⟩) (hn 1)
    · rfl
  subst d1
  have d2 : j2 = true := by
    cases hj : j2
    · exact absurd (mem_ready.2 ⟨by simp [hj], _, rfl, by simp [Region.binds, hj]⟩) (hn 2)
    · rfl
  subst d2
  have d3 : j3 = true := by
    cases hj : j3
    · exact absurd (mem_ready.2 ⟨by simp [hj], _, rfl, by simp [Region.binds, hj]⟩) (hn 3)
    · rfl
  subst d3
  have d4 : j4 = true := by
    cases hj : j4
    · exact absurd (mem_ready.2 ⟨by simp [hj], _, rfl, by simp [Region.binds, hj]⟩) (hn 4)
    · rfl
  subst d4
  have d5 : j5 = true := by
    cases hj : j5
    · exact absurd (mem_ready.2 ⟨by simp [hj], _, rfl, by simp [Region.binds, hj]⟩) (hn 5)
    · rfl
  subst d5
  have d6 : j6 = true := by
    cases hj : j6
    · exact absurd (mem_ready.2 ⟨by simp [hj], _, rfl, by simp [Region.binds, hj]⟩) (hn 6)
    · rfl
  subst d6
  have d7 : j7 = true := by
    cases hj : j7
    · exact absurd (mem_ready.2 ⟨by simp [hj], _, rfl, by simp [Region.binds, hj]⟩) (hn 7)
    · rfl
  subst d7
  have d8 : j8 = true := by
    cases hj : j8
    · exact absurd (mem_ready.2 ⟨by simp [hj], _, rfl, by simp [Region.binds, hj]⟩) (hn 8)
    · rfl
  subst d8
  have d9 : j9 = true := by
    cases hj : j9
    · exact absurd (mem_ready.2 ⟨by simp [hj], _, rfl, by simp [Region.binds, hj]⟩) (hn 9)
    · rfl
  subst d9
  have d10 : j10 = true := by
    cases hj : j10
    · exact absurd (mem_ready.2 ⟨by simp [hj], _, rfl, by simp [Region.binds, hj]⟩) (hn 10)
    · rfl
  subst d10
  have d11 : j11 = true := by
    cases hj : j11
    · exact absurd (mem_ready.2 ⟨by simp [hj], _, rfl, by simp [Region.binds, hj]⟩) (hn 11)
    · rfl
  subst d11
  have d12 : j12 = true := by
    cases hj : j12
    · exact absurd (mem_ready.2 ⟨by simp [hj], _, rfl, by simp [Region.binds, hj]⟩) (hn 12)
    · rfl
  subst d12
  rfl
set_option maxHeartbeats 16000000 in
theorem rA0_steps (b3 b4 b5 b g n c : Nat) (s : ByteArray) (R : World → Value → Prop) (w : World)  (c0 : w.cell? ⟨b3, 0, none⟩ = some (.pointer (some ⟨b, 0, none⟩))) (rc0 : Hid (∀ w1 v, R w1 v → w1.cell? ⟨b3, 0, none⟩ = some (.pointer (some ⟨b, 0, none⟩)))) (c1 : w.cell? ⟨b4, 0, none⟩ = some (.int .i64 0)) (rc1 : Hid (∀ w1 v, R w1 v → w1.cell? ⟨b4, 0, none⟩ = some (.int .i64 0))) (c2 : w.cell? ⟨b, 0, none⟩ = some (.slice (some ⟨g, 0, none⟩) n c)) (rc2 : Hid (∀ w1 v, R w1 v → w1.cell? ⟨b, 0, none⟩ = some (.slice (some ⟨g, 0, none⟩) n c))) (c3 : w.cell? ⟨b5, 0, none⟩ = some (.string s)) (rc3 : Hid (∀ w1 v, R w1 v → w1.cell? ⟨b5, 0, none⟩ = some (.string s))) (hE : Hid (∃ v1 w1, (Builtin.append_ #[80, 9] 80 #[.slice (some ⟨g, 0, none⟩) n c, .string s]).run Tryd.prog w.drew = .ok v1 w1 ∧ R w1 v1))
    {t0 t1 t2 t6 t7 t8 t9 t10 t11 t12 t13 t27 t28 t29 t30 t31 t32 t33 t34 t35 t36 t37 t38 t39 t40 t41 t42 : Value} {ds : List Deferred} {Q : Exit → Act → World → Prop} :
    ∀ l a w', rA0I w b3 b4 b5 b g n c s R t0 t1 t2 t6 t7 t8 t9 t10 t11 t12 t13 t27 t28 t29 t30 t31 t32 t33 t34 t35 t36 t37 t38 t39 t40 t41 t42 ds l a w' → left l ≠ 3 → ∀ i ∈ Region.ready .any rA0O l, wpOp Tryd.prog rA0O Q i (fun a' w'' => rA0I w b3 b4 b5 b g n c s R t0 t1 t2 t6 t7 t8 t9 t10 t11 t12 t13 t27 t28 t29 t30 t31 t32 t33 t34 t35 t36 t37 t38 t39 t40 t41 t42 ds (l.setIfInBounds i true) a' w'') a w' := by
  simp only [rA0O, findR, Tryd.f75, Option.bind_some, Option.or, Option.getD, Nat.reduceEqDiff, if_true, if_false, reduceIte]
  rintro l a w' hI hlt i hi
  rw [mem_ready] at hi
  obtain ⟨hu, oo, ho, hd⟩ := hi
  have hin : i < 16 := by
    have := (Array.getElem?_eq_some_iff.1 ho).1
    simpa using this
  have hcase : i = 0 ∨ i = 1 ∨ i = 2 ∨ i = 3 ∨ i = 4 ∨ i = 5 ∨ i = 6 ∨ i = 7 ∨ i = 8 ∨ i = 9 ∨ i = 10 ∨ i = 11 ∨ i = 12 ∨ i = 13 ∨ i = 14 ∨ i = 15 := by omega
  obtain ⟨j0, j1, j2, j3, j4, j5, j6, j7, j8, j9, j10, j11, j12, x0, x1, x2, x3, x4, x5, x6, x7, x8, x9, x10, x11, x12, rfl, rfl, hW, h0, h1, h2, h3, h4, h5, h6, h7, h8, h9, h10, h11, h12, k4, k5, k6, k7, k8, k10, k11, k12⟩ := hI
  replace hW := Lib.hid hW
  replace h0 := Lib.hid h0
  replace h1 := Lib.hid h1
  replace h2 := Lib.hid h2
  replace h3 := Lib.hid h3
  replace h4 := Lib.hid h4
  replace h5 := Lib.hid h5
  replace h6 := Lib.hid h6
  replace h7 := Lib.hid h7
  replace h8 := Lib.hid h8
  replace h9 := Lib.hid h9
  replace h10 := Lib.hid h10
  replace h11 := Lib.hid h11
  replace h12 := Lib.hid h12
  replace k4 := Lib.hid k4
  replace k5 := Lib.hid k5
  replace k6 := Lib.hid k6
  replace k7 := Lib.hid k7
  replace k8 := Lib.hid k8
  replace k10 := Lib.hid k10
  replace k11 := Lib.hid k11
  replace k12 := Lib.hid k12
  have gc0 : w'.cell? ⟨b3, 0, none⟩ = some (.pointer (some ⟨b, 0, none⟩)) := by
    cases hj : j10
    · rw [hW.out hj]; exact c0
    · exact rc0.out _ _ (h10.out hj)
  have gc1 : w'.cell? ⟨b4, 0, none⟩ = some (.int .i64 0) := by
    cases hj : j10
    · rw [hW.out hj]; exact c1
    · exact rc1.out _ _ (h10.out hj)
  have gc2 : w'.cell? ⟨b, 0, none⟩ = some (.slice (some ⟨g, 0, none⟩) n c) := by
    cases hj : j10
    · rw [hW.out hj]; exact c2
    · exact rc2.out _ _ (h10.out hj)
  have gc3 : w'.cell? ⟨b5, 0, none⟩ = some (.string s) := by
    cases hj : j10
    · rw [hW.out hj]; exact c3
    · exact rc3.out _ _ (h10.out hj)
  clear c0 c1 c2 c3
  rcases hcase with rfl | rfl | rfl | rfl | rfl | rfl | rfl | rfl | rfl | rfl | rfl | rfl | rfl | rfl | rfl | rfl
  · obtain rfl := Option.some.inj ho
    simp [Region.binds] at hu hd
    clear hd hlt
    refine wpOp_of rfl rfl ?_
    go_simp
    unfold rA0I
    exact ⟨true, j1, j2, j3, j4, j5, j6, j7, j8, j9, j10, j11, j12, _, x1, x2, x3, x4, x5, x6, x7, x8, x9, x10, x11, x12, rfl, rfl, hW.out, fun _ => rfl, h1.out, h2.out, h3.out, h4.out, h5.out, h6.out, h7.out, h8.out, h9.out, h10.out, h11.out, h12.out, k4.out, k5.out, k6.out, k7.out, k8.out, k10.out, fun hj => absurd ((k11.out hj)) (by simp [hu]), k12.out⟩
  · obtain rfl := Option.some.inj ho
    simp [Region.binds] at hu hd
    clear hd hlt
    refine wpOp_of rfl rfl ?_
    go_simp
    unfold rA0I
    exact ⟨j0, true, j2, j3, j4, j5, j6, j7, j8, j9, j10, j11, j12, x0, _, x2, x3, x4, x5, x6, x7, x8, x9, x10, x11, x12, rfl, rfl, hW.out, h0.out, fun _ => rfl, h2.out, h3.out, h4.out, h5.out, h6.out, h7.out, h8.out, h9.out, h10.out, h11.out, h12.out, k4.out, k5.out, k6.out, k7.out, k8.out, k10.out, k11.out, k12.out⟩
  · obtain rfl := Option.some.inj ho
    simp [Region.binds] at hu hd
    clear hd hlt
    refine wpOp_of rfl rfl ?_
    go_simp
    unfold rA0I
    exact ⟨j0, j1, true, j3, j4, j5, j6, j7, j8, j9, j10, j11, j12, x0, x1, _, x3, x4, x5, x6, x7, x8, x9, x10, x11, x12, rfl, rfl, hW.out, h0.out, h1.out, fun _ => rfl, h3.out, h4.out, h5.out, h6.out, h7.out, h8.out, h9.out, h10.out, h11.out, h12.out, fun hj => absurd ((k4.out hj)) (by simp [hu]), k5.out, k6.out, k7.out, k8.out, k10.out, k11.out, k12.out⟩
  · obtain rfl := Option.some.inj ho
    simp [Region.binds] at hu hd
    clear hd hlt
    refine wpOp_of rfl rfl ?_
    go_simp
    unfold rA0I
    exact ⟨j0, j1, j2, true, j4, j5, j6, j7, j8, j9, j10, j11, j12, x0, x1, x2, _, x4, x5, x6, x7, x8, x9, x10, x11, x12, rfl, rfl, hW.out, h0.out, h1.out, h2.out, fun _ => rfl, h4.out, h5.out, h6.out, h7.out, h8.out, h9.out, h10.out, h11.out, h12.out, k4.out, k5.out, fun hj => absurd ((k6.out hj).1) (by simp [hu]), k7.out, k8.out, k10.out, k11.out, k12.out⟩
  · obtain rfl := Option.some.inj ho
    simp [Region.binds] at hu hd
    have d2 : j2 = true := by simp [hd]
    have e2 := h2.out d2
    subst e2
    subst d2
    clear hd hlt
    refine wpOp_of rfl rfl ?_
    go_simp
    unfold rA0I
    exact ⟨j0, j1, true, j3, true, j5, j6, j7, j8, j9, j10, j11, j12, x0, x1, _, x3, _, x5, x6, x7, x8, x9, x10, x11, x12, rfl, rfl, hW.out, h0.out, h1.out, h2.out, h3.out, fun _ => rfl, h5.out, h6.out, h7.out, h8.out, h9.out, h10.out, h11.out, h12.out, fun _ => rfl, fun hj => absurd ((k5.out hj)) (by simp [hu]), k6.out, k7.out, k8.out, k10.out, k11.out, k12.out⟩
  · obtain rfl := Option.some.inj ho
    simp [Region.binds] at hu hd
    have d4 : j4 = true := by simp [hd]
    have e4 := h4.out d4
    subst e4
    subst d4
    clear hd hlt
    refine wpOp_of rfl rfl ?_
    go_simp
    unfold rA0I
    exact ⟨j0, j1, j2, j3, true, true, j6, j7, j8, j9, j10, j11, j12, x0, x1, x2, x3, _, _, x6, x7, x8, x9, x10, x11, x12, rfl, rfl, hW.out, h0.out, h1.out, h2.out, h3.out, h4.out, fun _ => rfl, h6.out, h7.out, h8.out, h9.out, h10.out, h11.out, h12.out, k4.out, fun _ => rfl, fun hj => absurd ((k6.out hj).2) (by simp [hu]), k7.out, k8.out, k10.out, k11.out, k12.out⟩
  · obtain rfl := Option.some.inj ho
    simp [Region.binds] at hu hd
    have d3 : j3 = true := by simp [hd]
    have d5 : j5 = true := by simp [hd]
    have e3 := h3.out d3
    subst e3
    have e5 := h5.out d5
    subst e5
    subst d3
    subst d5
    clear hd hlt
    refine wpOp_of rfl rfl ?_
    go_simp
    unfold rA0I
    exact ⟨j0, j1, j2, true, j4, true, true, j7, j8, j9, j10, j11, j12, x0, x1, x2, _, x4, _, _, x7, x8, x9, x10, x11, x12, rfl, rfl, hW.out, h0.out, h1.out, h2.out, h3.out, h4.out, h5.out, fun _ => rfl, h7.out, h8.out, h9.out, h10.out, h11.out, h12.out, k4.out, k5.out, fun _ => ⟨rfl, rfl⟩, fun hj => absurd ((k7.out hj)) (by simp [hu]), k8.out, k10.out, k11.out, k12.out⟩
  · obtain rfl := Option.some.inj ho
    simp [Region.binds] at hu hd
    have d6 : j6 = true := by simp [hd]
    have e6 := h6.out d6
    subst e6
    subst d6
    clear hd hlt
    refine wpOp_of rfl rfl ?_
    go_simp
    unfold rA0I
    exact ⟨j0, j1, j2, j3, j4, j5, true, true, j8, j9, j10, j11, j12, x0, x1, x2, x3, x4, x5, _, _, x8, x9, x10, x11, x12, rfl, rfl, hW.out, h0.out, h1.out, h2.out, h3.out, h4.out, h5.out, h6.out, fun _ => rfl, h8.out, h9.out, h10.out, h11.out, h12.out, k4.out, k5.out, k6.out, fun _ => rfl, fun hj => absurd ((k8.out hj)) (by simp [hu]), k10.out, k11.out, k12.out⟩
  · obtain rfl := Option.some.inj ho
    simp [Region.binds] at hu hd
    have d7 : j7 = true := by simp [hd]
    have e7 := h7.out d7
    subst e7
    subst d7
    clear hd hlt
    refine wpOp_of rfl rfl ?_
    go_simp
    unfold rA0I
    exact ⟨j0, j1, j2, j3, j4, j5, j6, true, true, j9, j10, j11, j12, x0, x1, x2, x3, x4, x5, x6, _, _, x9, x10, x11, x12, rfl, rfl, hW.out, h0.out, h1.out, h2.out, h3.out, h4.out, h5.out, h6.out, h7.out, fun _ => rfl, h9.out, h10.out, h11.out, h12.out, k4.out, k5.out, k6.out, k7.out, fun _ => rfl, fun hj => absurd ((k10.out hj).1) (by simp [hu]), k11.out, k12.out⟩
  · obtain rfl := Option.some.inj ho
    simp [Region.binds] at hu hd
    clear hd hlt
    refine wpOp_of rfl rfl ?_
    go_simp
    unfold rA0I
    exact ⟨j0, j1, j2, j3, j4, j5, j6, j7, j8, true, j10, j11, j12, x0, x1, x2, x3, x4, x5, x6, x7, x8, _, x10, x11, x12, rfl, rfl, hW.out, h0.out, h1.out, h2.out, h3.out, h4.out, h5.out, h6.out, h7.out, h8.out, fun _ => rfl, h10.out, h11.out, h12.out, k4.out, k5.out, k6.out, k7.out, k8.out, fun hj => absurd ((k10.out hj).2) (by simp [hu]), k11.out, k12.out⟩
  · obtain rfl := Option.some.inj ho
    simp [Region.binds] at hu hd
    have d8 : j8 = true := by simp [hd]
    have d9 : j9 = true := by simp [hd]
    have e8 := h8.out d8
    subst e8
    have e9 := h9.out d9
    subst e9
    subst d8
    subst d9
    clear hd hlt
    have hWW := hW.out hu
    clear hW gc0 gc1 gc2 gc3
    subst hWW
    refine wpOp_of rfl rfl ?_
    obtain ⟨v1, w2, hrun, hR⟩ := hE.out
    refine wp_append_runE _ _ _ _ rfl _ _ rfl rfl v1 w2 hrun ?_
    unfold rA0I
    exact ⟨j0, j1, j2, j3, j4, j5, j6, j7, true, true, true, j11, j12, x0, x1, x2, x3, x4, x5, x6, x7, _, _, _, x11, x12, rfl, rfl, (fun h => by cases h), h0.out, h1.out, h2.out, h3.out, h4.out, h5.out, h6.out, h7.out, h8.out, h9.out, fun _ => hR, h11.out, h12.out, k4.out, k5.out, k6.out, k7.out, k8.out, fun _ => ⟨rfl, rfl⟩, k11.out, k12.out⟩
  · obtain rfl := Option.some.inj ho
    simp [Region.binds] at hu hd
    have d0 : j0 = true := by simp [hd]
    have e0 := h0.out d0
    subst e0
    subst d0
    clear hd hlt
    refine wpOp_of rfl rfl ?_
    go_simp
    unfold rA0I
    exact ⟨true, j1, j2, j3, j4, j5, j6, j7, j8, j9, j10, true, j12, _, x1, x2, x3, x4, x5, x6, x7, x8, x9, x10, _, x12, rfl, rfl, hW.out, h0.out, h1.out, h2.out, h3.out, h4.out, h5.out, h6.out, h7.out, h8.out, h9.out, h10.out, fun _ => rfl, h12.out, k4.out, k5.out, k6.out, k7.out, k8.out, k10.out, fun _ => rfl, fun hj => absurd ((k12.out hj)) (by simp [hu])⟩
  · obtain rfl := Option.some.inj ho
    simp [Region.binds] at hu hd
    have d11 : j11 = true := by simp [hd]
    have e11 := h11.out d11
    subst e11
    subst d11
    clear hd hlt
    refine wpOp_of rfl rfl ?_
    go_simp
    unfold rA0I
    exact ⟨j0, j1, j2, j3, j4, j5, j6, j7, j8, j9, j10, true, true, x0, x1, x2, x3, x4, x5, x6, x7, x8, x9, x10, _, _, rfl, rfl, hW.out, h0.out, h1.out, h2.out, h3.out, h4.out, h5.out, h6.out, h7.out, h8.out, h9.out, h10.out, h11.out, fun _ => rfl, k4.out, k5.out, k6.out, k7.out, k8.out, k10.out, k11.out, fun _ => rfl⟩
  · obtain rfl := Option.some.inj ho
    simp [Region.binds] at hu hd
    exfalso
    have d0 : j0 = true := by simp [hd]
    have d1 : j1 = true := by simp [hd]
    have d2 : j2 = true := by simp [hd]
    have d3 : j3 = true := by simp [hd]
    have d4 : j4 = true := by simp [hd]
    have d5 : j5 = true := by simp [hd]
    have d6 : j6 = true := by simp [hd]
    have d7 : j7 = true := by simp [hd]
    have d8 : j8 = true := by simp [hd]
    have d9 : j9 = true := by simp [hd]
    have d10 : j10 = true := by simp [hd]
    have d12 : j12 = true := by simp [hd]
    have d11 : j11 = true := (k12.out d12)
    subst d0
    subst d1
    subst d2
    subst d3
    subst d4
    subst d5
    subst d6
    subst d7
    subst d8
    subst d9
    subst d10
    subst d12
    subst d11
    exact hlt rfl
  · obtain rfl := Option.some.inj ho
    exfalso
    simp [Region.binds] at hd
  · obtain rfl := Option.some.inj ho
    exfalso
    simp [Region.binds] at hd
set_option maxHeartbeats 16000000 in
theorem rA0 (b3 b4 b5 b g n c : Nat) (s : ByteArray) (R : World → Value → Prop) (w : World)  (c0 : w.cell? ⟨b3, 0, none⟩ = some (.pointer (some ⟨b, 0, none⟩))) (rc0 : Hid (∀ w1 v, R w1 v → w1.cell? ⟨b3, 0, none⟩ = some (.pointer (some ⟨b, 0, none⟩)))) (c1 : w.cell? ⟨b4, 0, none⟩ = some (.int .i64 0)) (rc1 : Hid (∀ w1 v, R w1 v → w1.cell? ⟨b4, 0, none⟩ = some (.int .i64 0))) (c2 : w.cell? ⟨b, 0, none⟩ = some (.slice (some ⟨g, 0, none⟩) n c)) (rc2 : Hid (∀ w1 v, R w1 v → w1.cell? ⟨b, 0, none⟩ = some (.slice (some ⟨g, 0, none⟩) n c))) (c3 : w.cell? ⟨b5, 0, none⟩ = some (.string s)) (rc3 : Hid (∀ w1 v, R w1 v → w1.cell? ⟨b5, 0, none⟩ = some (.string s))) (hE : Hid (∃ v1 w1, (Builtin.append_ #[80, 9] 80 #[.slice (some ⟨g, 0, none⟩) n c, .string s]).run Tryd.prog w.drew = .ok v1 w1 ∧ R w1 v1)) {t0 t1 t2 t6 t7 t8 t9 t10 t11 t12 t13 t14 t15 t16 t17 t18 t19 t20 t21 t22 t23 t24 t25 t26 t27 t28 t29 t30 t31 t32 t33 t34 t35 t36 t37 t38 t39 t40 t41 t42 : Value} {ds : List Deferred} {Q : Exit → Act → World → Prop}
    (h : ∀ (yE : Value) (w1 : World), R w1 yE → wpList Tryd.prog rA0O Q (rA0O.toList.drop 13) { tmps := #[t0, t1, t2, .pointer (some ⟨b3, 0, none⟩), .pointer (some ⟨b4, 0, none⟩), .pointer (some ⟨b5, 0, none⟩), t6, t7, t8, t9, t10, t11, t12, t13, .pointer (some ⟨b, 0, none⟩), .int .i64 0, .pointer (some ⟨b, 0, none⟩), .int .i64 0, .pointer (some ⟨b, 0, none⟩), .pointer (some ⟨b, 0, none⟩), .pointer (some ⟨b, 0, none⟩), .pointer (some ⟨b, 0, none⟩), .slice (some ⟨g, 0, none⟩) n c, .string s, yE, .pointer (some ⟨b, 0, none⟩), .pointer (some ⟨b, 0, none⟩), t27, t28, t29, t30, t31, t32, t33, t34, t35, t36, t37, t38, t39, t40, t41, t42], defers := ds } w1) :
    (Code.region 4 rA0O true).wp Tryd.prog Q { tmps := #[t0, t1, t2, .pointer (some ⟨b3, 0, none⟩), .pointer (some ⟨b4, 0, none⟩), .pointer (some ⟨b5, 0, none⟩), t6, t7, t8, t9, t10, t11, t12, t13, t14, t15, t16, t17, t18, t19, t20, t21, t22, t23, t24, t25, t26, t27, t28, t29, t30, t31, t32, t33, t34, t35, t36, t37, t38, t39, t40, t41, t42], defers := ds } w := by
  have hsz : rA0O.size = 16 := by kernel_rfl
  refine wp_region_any (show Tryd.prog.follows .mixedOrders = true from by kernel_rfl) ?_
  rw [hsz]
  refine wpAny_inv2 (I := rA0I w b3 b4 b5 b g n c s R t0 t1 t2 t6 t7 t8 t9 t10 t11 t12 t13 t27 t28 t29 t30 t31 t32 t33 t34 t35 t36 t37 t38 t39 t40 t41 t42 ds) (g := 3) (rA0_none b3 b4 b5 b g n c s R w) (rA0_steps b3 b4 b5 b g n c s R w  c0 rc0 c1 rc1 c2 rc2 c3 rc3 hE) (fun l a w' hI hl => ?_) 16 _ _ _ (by decide) (by decide) ?_
  · have hI' := hI
    obtain ⟨j0, j1, j2, j3, j4, j5, j6, j7, j8, j9, j10, j11, j12, x0, x1, x2, x3, x4, x5, x6, x7, x8, x9, x10, x11, x12, rfl, rfl, hW, h0, h1, h2, h3, h4, h5, h6, h7, h8, h9, h10, h11, h12, k4, k5, k6, k7, k8, k10, k11, k12⟩ := hI
    obtain ⟨d0, d1, d2, d3, d4, d5, d6, d7, d8, d9, d10, d11, d12⟩ := left_all13_3 hl
    subst d0
    subst d1
    subst d2
    subst d3
    subst d4
    subst d5
    subst d6
    subst d7
    subst d8
    subst d9
    subst d10
    subst d11
    subst d12
    obtain rfl := h0 rfl
    obtain rfl := h1 rfl
    obtain rfl := h2 rfl
    obtain rfl := h3 rfl
    obtain rfl := h4 rfl
    obtain rfl := h5 rfl
    obtain rfl := h6 rfl
    obtain rfl := h7 rfl
    obtain rfl := h8 rfl
    obtain rfl := h9 rfl
    obtain rfl := h11 rfl
    obtain rfl := h12 rfl
    have hw := h _ _ (h10 rfl)
    have hB : Region.seqB .any rA0O (rA0O.toList.drop 13).length 13 #[true, true, true, true, true, true, true, true, true, true, true, true, true, false, false, false] = true := by kernel_rfl
    have hlen : (rA0O.toList.drop 13).length = 3 := by kernel_rfl
    have := wpAny_of_seq (md := .any) (rA0O.toList.drop 13) 13 _ _ _ (fun j => by simp [List.getElem?_drop]) hB hw
    rw [hlen] at this
    exact this
  · exact ⟨false, false, false, false, false, false, false, false, false, false, false, false, false, t14, t15, t16, t17, t18, t19, t20, t21, t22, t23, t24, t25, t26, rfl, rfl, fun _ => rfl, (fun h => by cases h), (fun h => by cases h), (fun h => by cases h), (fun h => by cases h), (fun h => by cases h), (fun h => by cases h), (fun h => by cases h), (fun h => by cases h), (fun h => by cases h), (fun h => by cases h), (fun h => by cases h), (fun h => by cases h), (fun h => by cases h), (fun h => by cases h), (fun h => by cases h), (fun h => by cases h), (fun h => by cases h), (fun h => by cases h), (fun h => by cases h), (fun h => by cases h), (fun h => by cases h)⟩
noncomputable def rB0O : Array Oper := (Tryd.f75.body.bind fun c => findR c 5).getD #[]
def rB0I (w0 : World) (b3 b4 b5 b : Nat) (ra : Option Addr) (rn rc : Nat) (s : ByteArray) (R : World → Value → Prop) (t0 t1 t2 t6 t7 t8 t9 t10 t11 t12 t13 t14 t15 t16 t17 t18 t19 t20 t21 t22 t23 t24 t25 t26 t27 t28 t39 t40 t41 t42 : Value) (ds : List Deferred) (l : Array Bool) (a : Act) (w : World) : Prop :=
  ∃ j0 j1 j2 j3 j4 j5 j6 j7 j8 j9 : Bool, ∃ x0 x1 x2 x3 x4 x5 x6 x7 x8 x9 : Value, l = #[j0, j1, j2, j3, j4, j5, j6, j7, j8, j9, false, false, false] ∧ a = { tmps := #[t0, t1, t2, .pointer (some ⟨b3, 0, none⟩), .pointer (some ⟨b4, 0, none⟩), .pointer (some ⟨b5, 0, none⟩), t6, t7, t8, t9, t10, t11, t12, t13, t14, t15, t16, t17, t18, t19, t20, t21, t22, t23, t24, t25, t26, t27, t28, x0, x1, x2, x3, x4, x5, x6, x7, x8, x9, t39, t40, t41, t42], defers := ds } ∧ (j9 = false → w = w0.drew) ∧
  (j0 = true → x0 = .pointer (some ⟨b, 0, none⟩)) ∧ (j1 = true → x1 = .pointer (some ⟨b, 0, none⟩)) ∧ (j2 = true → x2 = .pointer (some ⟨b, 0, none⟩)) ∧ (j3 = true → x3 = .pointer (some ⟨b, 4, none⟩)) ∧ (j4 = true → x4 = .slice ra rn rc) ∧ (j5 = true → x5 = .int .i64 0) ∧ (j6 = true → x6 = .string s) ∧ (j7 = true → x7 = .int .i64 (s.size : Int)) ∧ (j8 = true → x8 = .agg #[.int .i64 0, .int .i64 (s.size : Int)]) ∧ (j9 = true → R w x9) ∧
  (j2 = true → j1 = true) ∧ (j3 = true → j2 = true) ∧ (j4 = true → j3 = true) ∧ (j7 = true → j6 = true) ∧ (j8 = true → j5 = true ∧ j7 = true) ∧ (j9 = true → j4 = true ∧ j8 = true)
set_option maxHeartbeats 16000000 in
theorem rB0_none (b3 b4 b5 b : Nat) (ra : Option Addr) (rn rc : Nat) (s : ByteArray) (R : World → Value → Prop) (w : World) {t0 t1 t2 t6 t7 t8 t9 t10 t11 t12 t13 t14 t15 t16 t17 t18 t19 t20 t21 t22 t23 t24 t25 t26 t27 t28 t39 t40 t41 t42 : Value} {ds : List Deferred} : ∀ l a w1, rB0I w b3 b4 b5 b ra rn rc s R t0 t1 t2 t6 t7 t8 t9 t10 t11 t12 t13 t14 t15 t16 t17 t18 t19 t20 t21 t22 t23 t24 t25 t26 t27 t28 t39 t40 t41 t42 ds l a w1 → Region.ready .any rB0O l = [] → left l = 3 := by
  simp only [rB0O, findR, Tryd.f75, Option.bind_some, Option.or, Option.getD, Nat.reduceEqDiff, if_true, if_false, reduceIte]
  rintro l a w1 hI hr
  obtain ⟨j0, j1, j2, j3, j4, j5, j6, j7, j8, j9, x0, x1, x2, x3, x4, x5, x6, x7, x8, x9, rfl, rfl, hW, h0, h1, h2, h3, h4, h5, h6, h7, h8, h9, k2, k3, k4, k7, k8, k9⟩ := hI
  have hn := fun i => List.eq_nil_iff_forall_not_mem.1 hr i
  clear hr
  have d0 : j0 = true := by
    cases hj : j0
    · exact absurd (mem_ready.2 ⟨by simp [hj], _, rfl, by simp [Region.binds, hj]⟩) (hn 0)
    · rfl
  subst d0
  have d1 : j1 = true := by
    cases hj : j1
    · exact absurd (mem_ready.2 ⟨by simp [hj], _, rfl, by simp [Region.binds, hj]⟩) (hn 1)
    · rfl
  subst d1
  have d2 : j2 = true := by
    cases hj : j2
    · exact absurd (mem_ready.2 ⟨by simp [hj], _, rfl, by simp [Region.binds, hj]⟩) (hn 2)
    · rfl
  subst d2
  have d3 : j3 = true := by
    cases hj : j3
    · exact absurd (mem_ready.2 ⟨by simp [hj], _, rfl, by simp [Region.binds, hj]⟩) (hn 3)
    · rfl
  subst d3
  have d4 : j4 = true := by
    cases hj : j4
    · exact absurd (mem_ready.2 ⟨by simp [hj], _, rfl, by simp [Region.binds, hj]⟩) (hn 4)
    · rfl
  subst d4
  have d5 : j5 = true := by
    cases hj : j5
    · exact absurd (mem_ready.2 ⟨by simp [hj], _, rfl, by simp [Region.binds, hj]⟩) (hn 5)
    · rfl
  subst d5
  have d6 : j6 = true := by
    cases hj : j6
    · exact absurd (mem_ready.2 ⟨by simp [hj], _, rfl, by simp [Region.binds, hj]⟩) (hn 6)
    · rfl
  subst d6
  have d7 : j7 = true := by
    cases hj : j7
    · exact absurd (mem_ready.2 ⟨by simp [hj], _, rfl, by simp [Region.binds, hj]⟩) (hn 7)
    · rfl
  subst d7
  have d8 : j8 = true := by
    cases hj : j8
    · exact absurd (mem_ready.2 ⟨by simp [hj], _, rfl, by simp [Region.binds, hj]⟩) (hn 8)
    · rfl
  subst d8
  have d9 : j9 = true := by
    cases hj : j9
    · exact absurd (mem_ready.2 ⟨by simp [hj], _, rfl, by simp [Region.binds, hj]⟩) (hn 9)
    · rfl
  subst d9
  rfl
set_option maxHeartbeats 16000000 in
theorem rB0_steps (b3 b4 b5 b : Nat) (ra : Option Addr) (rn rc : Nat) (s : ByteArray) (R : World → Value → Prop) (w : World)  (c0 : w.cell? ⟨b3, 0, none⟩ = some (.pointer (some ⟨b, 0, none⟩))) (rc0 : Hid (∀ w1 v, R w1 v → w1.cell? ⟨b3, 0, none⟩ = some (.pointer (some ⟨b, 0, none⟩)))) (c1 : w.cell? ⟨b, 4, none⟩ = some (.slice ra rn rc)) (rc1 : Hid (∀ w1 v, R w1 v → w1.cell? ⟨b, 4, none⟩ = some (.slice ra rn rc))) (c2 : w.cell? ⟨b4, 0, none⟩ = some (.int .i64 0)) (rc2 : Hid (∀ w1 v, R w1 v → w1.cell? ⟨b4, 0, none⟩ = some (.int .i64 0))) (c3 : w.cell? ⟨b5, 0, none⟩ = some (.string s)) (rc3 : Hid (∀ w1 v, R w1 v → w1.cell? ⟨b5, 0, none⟩ = some (.string s))) (hE : Hid (Calls Tryd.prog 97 #[.slice ra rn rc, .agg #[.int .i64 0, .int .i64 (s.size : Int)]] w.drew fun e w1 => ∃ v, e = .returned v ∧ R w1 v))
    {t0 t1 t2 t6 t7 t8 t9 t10 t11 t12 t13 t14 t15 t16 t17 t18 t19 t20 t21 t22 t23 t24 t25 t26 t27 t28 t39 t40 t41 t42 : Value} {ds : List Deferred} {Q : Exit → Act → World → Prop} :
    ∀ l a w', rB0I w b3 b4 b5 b ra rn rc s R t0 t1 t2 t6 t7 t8 t9 t10 t11 t12 t13 t14 t15 t16 t17 t18 t19 t20 t21 t22 t23 t24 t25 t26 t27 t28 t39 t40 t41 t42 ds l a w' → left l ≠ 3 → ∀ i ∈ Region.ready .any rB0O l, wpOp Tryd.prog rB0O Q i (fun a' w'' => rB0I w b3 b4 b5 b ra rn rc s R t0 t1 t2 t6 t7 t8 t9 t10 t11 t12 t13 t14 t15 t16 t17 t18 t19 t20 t21 t22 t23 t24 t25 t26 t27 t28 t39 t40 t41 t42 ds (l.setIfInBounds i true) a' w'') a w' := by
  simp only [rB0O, findR, Tryd.f75, Option.bind_some, Option.or, Option.getD, Nat.reduceEqDiff, if_true, if_false, reduceIte]
  rintro l a w' hI hlt i hi
  rw [mem_ready] at hi
  obtain ⟨hu, oo, ho, hd⟩ := hi
  have hin : i < 13 := by
    have := (Array.getElem?_eq_some_iff.1 ho).1
    simpa using this
  have hcase : i = 0 ∨ i = 1 ∨ i = 2 ∨ i = 3 ∨ i = 4 ∨ i = 5 ∨ i = 6 ∨ i = 7 ∨ i = 8 ∨ i = 9 ∨ i = 10 ∨ i = 11 ∨ i = 12 := by omega
  obtain ⟨j0, j1, j2, j3, j4, j5, j6, j7, j8, j9, x0, x1, x2, x3, x4, x5, x6, x7, x8, x9, rfl, rfl, hW, h0, h1, h2, h3, h4, h5, h6, h7, h8, h9, k2, k3, k4, k7, k8, k9⟩ := hI
  replace hW := Lib.hid hW
  replace h0 := Lib.hid h0
  replace h1 := Lib.hid h1
  replace h2 := Lib.hid h2
  replace h3 := Lib.hid h3
  replace h4 := Lib.hid h4
  replace h5 := Lib.hid h5
  replace h6 := Lib.hid h6
  replace h7 := Lib.hid h7
  replace h8 := Lib.hid h8
  replace h9 := Lib.hid h9
  replace k2 := Lib.hid k2
  replace k3 := Lib.hid k3
  replace k4 := Lib.hid k4
  replace k7 := Lib.hid k7
  replace k8 := Lib.hid k8
  replace k9 := Lib.hid k9
  have gc0 : w'.cell? ⟨b3, 0, none⟩ = some (.pointer (some ⟨b, 0, none⟩)) := by
    cases hj : j9
    · rw [hW.out hj]; exact c0
    · exact rc0.out _ _ (h9.out hj)
  have gc1 : w'.cell? ⟨b, 4, none⟩ = some (.slice ra rn rc) := by
    cases hj : j9
    · rw [hW.out hj]; exact c1
    · exact rc1.out _ _ (h9.out hj)
  have gc2 : w'.cell? ⟨b4, 0, none⟩ = some (.int .i64 0) := by
    cases hj : j9
    · rw [hW.out hj]; exact c2
    · exact rc2.out _ _ (h9.out hj)
  have gc3 : w'.cell? ⟨b5, 0, none⟩ = some (.string s) := by
    cases hj : j9
    · rw [hW.out hj]; exact c3
    · exact rc3.out _ _ (h9.out hj)
  clear c0 c1 c2 c3
  rcases hcase with rfl | rfl | rfl | rfl | rfl | rfl | rfl | rfl | rfl | rfl | rfl | rfl | rfl
  · obtain rfl := Option.some.inj ho
    simp [Region.binds] at hu hd
    clear hd hlt
    refine wpOp_of rfl rfl ?_
    go_simp
    unfold rB0I
    exact ⟨true, j1, j2, j3, j4, j5, j6, j7, j8, j9, _, x1, x2, x3, x4, x5, x6, x7, x8, x9, rfl, rfl, hW.out, fun _ => rfl, h1.out, h2.out, h3.out, h4.out, h5.out, h6.out, h7.out, h8.out, h9.out, k2.out, k3.out, k4.out, k7.out, k8.out, k9.out⟩
  · obtain rfl := Option.some.inj ho
    simp [Region.binds] at hu hd
    clear hd hlt
    refine wpOp_of rfl rfl ?_
    go_simp
    unfold rB0I
    exact ⟨j0, true, j2, j3, j4, j5, j6, j7, j8, j9, x0, _, x2, x3, x4, x5, x6, x7, x8, x9, rfl, rfl, hW.out, h0.out, fun _ => rfl, h2.out, h3.out, h4.out, h5.out, h6.out, h7.out, h8.out, h9.out, fun hj => absurd ((k2.out hj)) (by simp [hu]), k3.out, k4.out, k7.out, k8.out, k9.out⟩
  · obtain rfl := Option.some.inj ho
    simp [Region.binds] at hu hd
    have d1 : j1 = true := by simp [hd]
    have e1 := h1.out d1
    subst e1
    subst d1
    clear hd hlt
    refine wpOp_of rfl rfl ?_
    go_simp
    unfold rB0I
    exact ⟨j0, true, true, j3, j4, j5, j6, j7, j8, j9, x0, _, _, x3, x4, x5, x6, x7, x8, x9, rfl, rfl, hW.out, h0.out, h1.out, fun _ => rfl, h3.out, h4.out, h5.out, h6.out, h7.out, h8.out, h9.out, fun _ => rfl, fun hj => absurd ((k3.out hj)) (by simp [hu]), k4.out, k7.out, k8.out, k9.out⟩
  · obtain rfl := Option.some.inj ho
    simp [Region.binds] at hu hd
    have d2 : j2 = true := by simp [hd]
    have e2 := h2.out d2
    subst e2
    subst d2
    clear hd hlt
    refine wpOp_of rfl rfl ?_
    go_simp
    unfold rB0I
    exact ⟨j0, j1, true, true, j4, j5, j6, j7, j8, j9, x0, x1, _, _, x4, x5, x6, x7, x8, x9, rfl, rfl, hW.out, h0.out, h1.out, h2.out, fun _ => rfl, h4.out, h5.out, h6.out, h7.out, h8.out, h9.out, k2.out, fun _ => rfl, fun hj => absurd ((k4.out hj)) (by simp [hu]), k7.out, k8.out, k9.out⟩
  · obtain rfl := Option.some.inj ho
    simp [Region.binds] at hu hd
    have d3 : j3 = true := by simp [hd]
    have e3 := h3.out d3
    subst e3
    subst d3
    clear hd hlt
    refine wpOp_of rfl rfl ?_
    go_simp
    unfold rB0I
    exact ⟨j0, j1, j2, true, true, j5, j6, j7, j8, j9, x0, x1, x2, _, _, x5, x6, x7, x8, x9, rfl, rfl, hW.out, h0.out, h1.out, h2.out, h3.out, fun _ => rfl, h5.out, h6.out, h7.out, h8.out, h9.out, k2.out, k3.out, fun _ => rfl, k7.out, k8.out, fun hj => absurd ((k9.out hj).1) (by simp [hu])⟩
  · obtain rfl := Option.some.inj ho
    simp [Region.binds] at hu hd
    clear hd hlt
    refine wpOp_of rfl rfl ?_
    go_simp
    unfold rB0I
    exact ⟨j0, j1, j2, j3, j4, true, j6, j7, j8, j9, x0, x1, x2, x3, x4, _, x6, x7, x8, x9, rfl, rfl, hW.out, h0.out, h1.out, h2.out, h3.out, h4.out, fun _ => rfl, h6.out, h7.out, h8.out, h9.out, k2.out, k3.out, k4.out, k7.out, fun hj => absurd ((k8.out hj).1) (by simp [hu]), k9.out⟩
  · obtain rfl := Option.some.inj ho
    simp [Region.binds] at hu hd
    clear hd hlt
    refine wpOp_of rfl rfl ?_
    go_simp
    unfold rB0I
    exact ⟨j0, j1, j2, j3, j4, j5, true, j7, j8, j9, x0, x1, x2, x3, x4, x5, _, x7, x8, x9, rfl, rfl, hW.out, h0.out, h1.out, h2.out, h3.out, h4.out, h5.out, fun _ => rfl, h7.out, h8.out, h9.out, k2.out, k3.out, k4.out, fun hj => absurd ((k7.out hj)) (by simp [hu]), k8.out, k9.out⟩
  · obtain rfl := Option.some.inj ho
    simp [Region.binds] at hu hd
    have d6 : j6 = true := by simp [hd]
    have e6 := h6.out d6
    subst e6
    subst d6
    clear hd hlt
    refine wpOp_of rfl rfl ?_
    go_simp
    unfold rB0I
    exact ⟨j0, j1, j2, j3, j4, j5, true, true, j8, j9, x0, x1, x2, x3, x4, x5, _, _, x8, x9, rfl, rfl, hW.out, h0.out, h1.out, h2.out, h3.out, h4.out, h5.out, h6.out, fun _ => rfl, h8.out, h9.out, k2.out, k3.out, k4.out, fun _ => rfl, fun hj => absurd ((k8.out hj).2) (by simp [hu]), k9.out⟩
  · obtain rfl := Option.some.inj ho
    simp [Region.binds] at hu hd
    have d5 : j5 = true := by simp [hd]
    have d7 : j7 = true := by simp [hd]
    have e5 := h5.out d5
    subst e5
    have e7 := h7.out d7
    subst e7
    subst d5
    subst d7
    clear hd hlt
    refine wpOp_of rfl rfl ?_
    go_simp
    unfold rB0I
    exact ⟨j0, j1, j2, j3, j4, true, j6, true, true, j9, x0, x1, x2, x3, x4, _, x6, _, _, x9, rfl, rfl, hW.out, h0.out, h1.out, h2.out, h3.out, h4.out, h5.out, h6.out, h7.out, fun _ => rfl, h9.out, k2.out, k3.out, k4.out, k7.out, fun _ => ⟨rfl, rfl⟩, fun hj => absurd ((k9.out hj).2) (by simp [hu])⟩
  · obtain rfl := Option.some.inj ho
    simp [Region.binds] at hu hd
    have d4 : j4 = true := by simp [hd]
    have d8 : j8 = true := by simp [hd]
    have e4 := h4.out d4
    subst e4
    have e8 := h8.out d8
    subst e8
    subst d4
    subst d8
    clear hd hlt
    have hWW := hW.out hu
    clear hW gc0 gc1 gc2 gc3
    subst hWW
    refine wpOp_of rfl rfl ?_
    go_simp
    go_at_call 97
    refine hE.out.mono ?_
    rintro e w2 ⟨v, rfl, hR⟩
    unfold rB0I
    exact ⟨j0, j1, j2, j3, true, j5, j6, j7, true, true, x0, x1, x2, x3, _, x5, x6, x7, _, _, rfl, rfl, (fun h => by cases h), h0.out, h1.out, h2.out, h3.out, h4.out, h5.out, h6.out, h7.out, h8.out, fun _ => hR, k2.out, k3.out, k4.out, k7.out, k8.out, fun _ => ⟨rfl, rfl⟩⟩
  · obtain rfl := Option.some.inj ho
    simp [Region.binds] at hu hd
    exfalso
    have d0 : j0 = true := by simp [hd]
    have d1 : j1 = true := by simp [hd]
    have d2 : j2 = true := by simp [hd]
    have d3 : j3 = true := by simp [hd]
    have d4 : j4 = true := by simp [hd]
    have d5 : j5 = true := by simp [hd]
    have d6 : j6 = true := by simp [hd]
    have d7 : j7 = true := by simp [hd]
    have d8 : j8 = true := by simp [hd]
    have d9 : j9 = true := by simp [hd]
    subst d0
    subst d1
    subst d2
    subst d3
    subst d4
    subst d5
    subst d6
    subst d7
    subst d8
    subst d9
    exact hlt rfl
  · obtain rfl := Option.some.inj ho
    exfalso
    simp [Region.binds] at hd
  · obtain rfl := Option.some.inj ho
    exfalso
    simp [Region.binds] at hd
set_option maxHeartbeats 16000000 in
theorem rB0 (b3 b4 b5 b : Nat) (ra : Option Addr) (rn rc : Nat) (s : ByteArray) (R : World → Value → Prop) (w : World)  (c0 : w.cell? ⟨b3, 0, none⟩ = some (.pointer (some ⟨b, 0, none⟩))) (rc0 : Hid (∀ w1 v, R w1 v → w1.cell? ⟨b3, 0, none⟩ = some (.pointer (some ⟨b, 0, none⟩)))) (c1 : w.cell? ⟨b, 4, none⟩ = some (.slice ra rn rc)) (rc1 : Hid (∀ w1 v, R w1 v → w1.cell? ⟨b, 4, none⟩ = some (.slice ra rn rc))) (c2 : w.cell? ⟨b4, 0, none⟩ = some (.int .i64 0)) (rc2 : Hid (∀ w1 v, R w1 v → w1.cell? ⟨b4, 0, none⟩ = some (.int .i64 0))) (c3 : w.cell? ⟨b5, 0, none⟩ = some (.string s)) (rc3 : Hid (∀ w1 v, R w1 v → w1.cell? ⟨b5, 0, none⟩ = some (.string s))) (hE : Hid (Calls Tryd.prog 97 #[.slice ra rn rc, .agg #[.int .i64 0, .int .i64 (s.size : Int)]] w.drew fun e w1 => ∃ v, e = .returned v ∧ R w1 v)) {t0 t1 t2 t6 t7 t8 t9 t10 t11 t12 t13 t14 t15 t16 t17 t18 t19 t20 t21 t22 t23 t24 t25 t26 t27 t28 t29 t30 t31 t32 t33 t34 t35 t36 t37 t38 t39 t40 t41 t42 : Value} {ds : List Deferred} {Q : Exit → Act → World → Prop}
    (h : ∀ (yE : Value) (w1 : World), R w1 yE → wpList Tryd.prog rB0O Q (rB0O.toList.drop 10) { tmps := #[t0, t1, t2, .pointer (some ⟨b3, 0, none⟩), .pointer (some ⟨b4, 0, none⟩), .pointer (some ⟨b5, 0, none⟩), t6, t7, t8, t9, t10, t11, t12, t13, t14, t15, t16, t17, t18, t19, t20, t21, t22, t23, t24, t25, t26, t27, t28, .pointer (some ⟨b, 0, none⟩), .pointer (some ⟨b, 0, none⟩), .pointer (some ⟨b, 0, none⟩), .pointer (some ⟨b, 4, none⟩), .slice ra rn rc, .int .i64 0, .string s, .int .i64 (s.size : Int), .agg #[.int .i64 0, .int .i64 (s.size : Int)], yE, t39, t40, t41, t42], defers := ds } w1) :
    (Code.region 5 rB0O true).wp Tryd.prog Q { tmps := #[t0, t1, t2, .pointer (some ⟨b3, 0, none⟩), .pointer (some ⟨b4, 0, none⟩), .pointer (some ⟨b5, 0, none⟩), t6, t7, t8, t9, t10, t11, t12, t13, t14, t15, t16, t17, t18, t19, t20, t21, t22, t23, t24, t25, t26, t27, t28, t29, t30, t31, t32, t33, t34, t35, t36, t37, t38, t39, t40, t41, t42], defers := ds } w := by
  have hsz : rB0O.size = 13 := by kernel_rfl
  refine wp_region_any (show Tryd.prog.follows .mixedOrders = true from by kernel_rfl) ?_
  rw [hsz]
  refine wpAny_inv2 (I := rB0I w b3 b4 b5 b ra rn rc s R t0 t1 t2 t6 t7 t8 t9 t10 t11 t12 t13 t14 t15 t16 t17 t18 t19 t20 t21 t22 t23 t24 t25 t26 t27 t28 t39 t40 t41 t42 ds) (g := 3) (rB0_none b3 b4 b5 b ra rn rc s R w) (rB0_steps b3 b4 b5 b ra rn rc s R w  c0 rc0 c1 rc1 c2 rc2 c3 rc3 hE) (fun l a w' hI hl => ?_) 13 _ _ _ (by decide) (by decide) ?_
  · have hI' := hI
    obtain ⟨j0, j1, j2, j3, j4, j5, j6, j7, j8, j9, x0, x1, x2, x3, x4, x5, x6, x7, x8, x9, rfl, rfl, hW, h0, h1, h2, h3, h4, h5, h6, h7, h8, h9, k2, k3, k4, k7, k8, k9⟩ := hI
    obtain ⟨d0, d1, d2, d3, d4, d5, d6, d7, d8, d9⟩ := left_all10_3 hl
    subst d0
    subst d1
    subst d2
    subst d3
    subst d4
    subst d5
    subst d6
    subst d7
    subst d8
    subst d9
    obtain rfl := h0 rfl
    obtain rfl := h1 rfl
    obtain rfl := h2 rfl
    obtain rfl := h3 rfl
    obtain rfl := h4 rfl
    obtain rfl := h5 rfl
    obtain rfl := h6 rfl
    obtain rfl := h7 rfl
    obtain rfl := h8 rfl
    have hw := h _ _ (h9 rfl)
    have hB : Region.seqB .any rB0O (rB0O.toList.drop 10).length 10 #[true, true, true, true, true, true, true, true, true, true, false, false, false] = true := by kernel_rfl
    have hlen : (rB0O.toList.drop 10).length = 3 := by kernel_rfl
    have := wpAny_of_seq (md := .any) (rB0O.toList.drop 10) 10 _ _ _ (fun j => by simp [List.getElem?_drop]) hB hw
    rw [hlen] at this
    exact this
  · exact ⟨false, false, false, false, false, false, false, false, false, false, t29, t30, t31, t32, t33, t34, t35, t36, t37, t38, rfl, rfl, fun _ => rfl, (fun h => by cases h), (fun h => by cases h), (fun h => by cases h), (fun h => by cases h), (fun h => by cases h), (fun h => by cases h), (fun h => by cases h), (fun h => by cases h), (fun h => by cases h), (fun h => by cases h), (fun h => by cases h), (fun h => by cases h), (fun h => by cases h), (fun h => by cases h), (fun h => by cases h), (fun h => by cases h)⟩
noncomputable def rA1O : Array Oper := (Tryd.f75.body.bind fun c => findR c 4).getD #[]
def rA1I (w0 : World) (b3 b4 b5 b g n c : Nat) (s : ByteArray) (R : World → Value → Prop) (t0 t1 t2 t6 t7 t8 t9 t10 t11 t12 t13 t27 t28 t29 t30 t31 t32 t33 t34 t35 t36 t37 t38 t39 t40 t41 t42 : Value) (ds : List Deferred) (l : Array Bool) (a : Act) (w : World) : Prop :=
  ∃ j0 j1 j2 j3 j4 j5 j6 j7 j8 j9 j10 j11 j12 : Bool, ∃ x0 x1 x2 x3 x4 x5 x6 x7 x8 x9 x10 x11 x12 : Value, l = #[j0, j1, j2, j3, j4, j5, j6, j7, j8, j9, j10, j11, j12, false, false, false] ∧ a = { tmps := #[t0, t1, t2, .pointer (some ⟨b3, 0, none⟩), .pointer (some ⟨b4, 0, none⟩), .pointer (some ⟨b5, 0, none⟩), t6, t7, t8, t9, t10, t11, t12, t13, x0, x1, x2, x3, x4, x5, x6, x7, x8, x9, x10, x11, x12, t27, t28, t29, t30, t31, t32, t33, t34, t35, t36, t37, t38, t39, t40, t41, t42], defers := ds } ∧ (j10 = false → w = w0.drew) ∧
  (j0 = true → x0 = .pointer (some ⟨b, 0, none⟩)) ∧ (j1 = true → x1 = .int .i64 1) ∧ (j2 = true → x2 = .pointer (some ⟨b, 0, none⟩)) ∧ (j3 = true → x3 = .int .i64 1) ∧ (j4 = true → x4 = .pointer (some ⟨b, 0, none⟩)) ∧ (j5 = true → x5 = .pointer (some ⟨b, 0, none⟩)) ∧ (j6 = true → x6 = .pointer (some ⟨b, 2, none⟩)) ∧ (j7 = true → x7 = .pointer (some ⟨b, 2, none⟩)) ∧ (j8 = true → x8 = .slice (some ⟨g, 0, none⟩) n c) ∧ (j9 = true → x9 = .string s) ∧ (j10 = true → R w x10) ∧ (j11 = true → x11 = .pointer (some ⟨b, 0, none⟩)) ∧ (j12 = true → x12 = .pointer (some ⟨b, 0, none⟩)) ∧
  (j4 = true → j2 = true) ∧ (j5 = true → j4 = true) ∧ (j6 = true → j3 = true ∧ j5 = true) ∧ (j7 = true → j6 = true) ∧ (j8 = true → j7 = true) ∧ (j10 = true → j8 = true ∧ j9 = true) ∧ (j11 = true → j0 = true) ∧ (j12 = true → j11 = true)
set_option maxHeartbeats 16000000 in
theorem rA1_none (b3 b4 b5 b g n c : Nat) (s : ByteArray) (R : World → Value → Prop) (w : World) {t0 t1 t2 t6 t7 t8 t9 t10 t11 t12 t13 t27 t28 t29 t30 t31 t32 t33 t34 t35 t36 t37 t38 t39 t40 t41 t42 : Value} {ds : List Deferred} : ∀ l a w1, rA1I w b3 b4 b5 b g n c s R t0 t1 t2 t6 t7 t8 t9 t10 t11 t12 t13 t27 t28 t29 t30 t31 t32 t33 t34 t35 t36 t37 t38 t39 t40 t41 t42 ds l a w1 → Region.ready .any rA1O l = [] → left l = 3 := by
  simp only [rA1O, findR, Tryd.f75, Option.bind_some, Option.or, Option.getD, Nat.reduceEqDiff, if_true, if_false, reduceIte]
  rintro l a w1 hI hr
  obtain ⟨j0, j1, j2, j3, j4, j5, j6, j7, j8, j9, j10, j11, j12, x0, x1, x2, x3, x4, x5, x6, x7, x8, x9, x10, x11, x12, rfl, rfl, hW, h0, h1, h2, h3, h4, h5, h6, h7, h8, h9, h10, h11, h12, k4, k5, k6, k7, k8, k10, k11, k12⟩ := hI
  have hn := fun i => List.eq_nil_iff_forall_not_mem.1 hr i
  clear hr
  have d0 : j0 = true := by
    cases hj : j0
    · exact absurd (mem_ready.2 ⟨by simp [hj], _, rfl, by simp [Region.binds, hj]⟩) (hn 0)
    · rfl
  subst d0
  have d1 : j1 = true := by
    cases hj : j1
    · exact absurd (mem_ready.2 ⟨by simp [hj], _, rfl, by simp [Region.binds, hj]⟩) (hn 1)
    · rfl
  subst d1
  have d2 : j2 = true := by
    cases hj : j2
    · exact absurd (mem_ready.2 ⟨by simp [hj], _, rfl, by simp [Region.binds, hj]⟩) (hn 2)
    · rfl
  subst d2
  have d3 : j3 = true := by
    cases hj : j3
    · exact absurd (mem_ready.2 ⟨by simp [hj], _, rfl, by simp [Region.binds, hj]⟩) (hn 3)
    · rfl
  subst d3
  have d4 : j4 = true := by
    cases hj : j4
    · exact absurd (mem_ready.2 ⟨by simp [hj], _, rfl, by simp [Region.binds, hj]⟩) (hn 4)
    · rfl
  subst d4
  have d5 : j5 = true := by
    cases hj : j5
    · exact absurd (mem_ready.2 ⟨by simp [hj], _, rfl, by simp [Region.binds, hj]⟩) (hn 5)
    · rfl
  subst d5
  have d6 : j6 = true := by
    cases hj : j6
    · exact absurd (mem_ready.2 ⟨by simp [hj], _, rfl, by simp [Region.binds, hj]⟩) (hn 6)
    · rfl
  subst d6
  have d7 : j7 = true := by
    cases hj : j7
    · exact absurd (mem_ready.2 ⟨by simp [hj], _, rfl, by simp [Region.binds, hj]⟩) (hn 7)
    · rfl
  subst d7
  have d8 : j8 = true := by
    cases hj : j8
    · exact absurd (mem_ready.2 ⟨by simp [hj], _, rfl, by simp [Region.binds, hj]⟩) (hn 8)
    · rfl
  subst d8
  have d9 : j9 = true := by
    cases hj : j9
    · exact absurd (mem_ready.2 ⟨by simp [hj], _, rfl, by simp [Region.binds, hj]⟩) (hn 9)
    · rfl
  subst d9
  have d10 : j10 = true := by
    cases hj : j10
    · exact absurd (mem_ready.2 ⟨by simp [hj], _, rfl, by simp [Region.binds, hj]⟩) (hn 10)
    · rfl
  subst d10
  have d11 : j11 = true := by
    cases hj : j11
    · exact absurd (mem_ready.2 ⟨by simp [hj], _, rfl, by simp [Region.binds, hj]⟩) (hn 11)
    · rfl
  subst d11
  have d12 : j12 = true := by
    cases hj : j12
    · exact absurd (mem_ready.2 ⟨by simp [hj], _, rfl, by simp [Region.binds, hj]⟩) (hn 12)
    · rfl
  subst d12
  rfl
set_option maxHeartbeats 16000000 in
theorem rA1_steps (b3 b4 b5 b g n c : Nat) (s : ByteArray) (R : World → Value → Prop) (w : World)  (c0 : w.cell? ⟨b3, 0, none⟩ = some (.pointer (some ⟨b, 0, none⟩))) (rc0 : Hid (∀ w1 v, R w1 v → w1.cell? ⟨b3, 0, none⟩ = some (.pointer (some ⟨b, 0, none⟩)))) (c1 : w.cell? ⟨b4, 0, none⟩ = some (.int .i64 1)) (rc1 : Hid (∀ w1 v, R w1 v → w1.cell? ⟨b4, 0, none⟩ = some (.int .i64 1))) (c2 : w.cell? ⟨b, 2, none⟩ = some (.slice (some ⟨g, 0, none⟩) n c)) (rc2 : Hid (∀ w1 v, R w1 v → w1.cell? ⟨b, 2, none⟩ = some (.slice (some ⟨g, 0, none⟩) n c))) (c3 : w.cell? ⟨b5, 0, none⟩ = some (.string s)) (rc3 : Hid (∀ w1 v, R w1 v → w1.cell? ⟨b5, 0, none⟩ = some (.string s))) (hE : Hid (∃ v1 w1, (Builtin.append_ #[80, 9] 80 #[.slice (some ⟨g, 0, none⟩) n c, .string s]).run Tryd.prog w.drew = .ok v1 w1 ∧ R w1 v1))
    {t0 t1 t2 t6 t7 t8 t9 t10 t11 t12 t13 t27 t28 t29 t30 t31 t32 t33 t34 t35 t36 t37 t38 t39 t40 t41 t42 : Value} {ds : List Deferred} {Q : Exit → Act → World → Prop} :
    ∀ l a w', rA1I w b3 b4 b5 b g n c s R t0 t1 t2 t6 t7 t8 t9 t10 t11 t12 t13 t27 t28 t29 t30 t31 t32 t33 t34 t35 t36 t37 t38 t39 t40 t41 t42 ds l a w' → left l ≠ 3 → ∀ i ∈ Region.ready .any rA1O l, wpOp Tryd.prog rA1O Q i (fun a' w'' => rA1I w b3 b4 b5 b g n c s R t0 t1 t2 t6 t7 t8 t9 t10 t11 t12 t13 t27 t28 t29 t30 t31 t32 t33 t34 t35 t36 t37 t38 t39 t40 t41 t42 ds (l.setIfInBounds i true) a' w'') a w' := by
  simp only [rA1O, findR, Tryd.f75, Option.bind_some, Option.or, Option.getD, Nat.reduceEqDiff, if_true, if_false, reduceIte]
  rintro l a w' hI hlt i hi
  rw [mem_ready] at hi
  obtain ⟨hu, oo, ho, hd⟩ := hi
  have hin : i < 16 := by
    have := (Array.getElem?_eq_some_iff.1 ho).1
    simpa using this
  have hcase : i = 0 ∨ i = 1 ∨ i = 2 ∨ i = 3 ∨ i = 4 ∨ i = 5 ∨ i = 6 ∨ i = 7 ∨ i = 8 ∨ i = 9 ∨ i = 10 ∨ i = 11 ∨ i = 12 ∨ i = 13 ∨ i = 14 ∨ i = 15 := by omega
  obtain ⟨j0, j1, j2, j3, j4, j5, j6, j7, j8, j9, j10, j11, j12, x0, x1, x2, x3, x4, x5, x6, x7, x8, x9, x10, x11, x12, rfl, rfl, hW, h0, h1, h2, h3, h4, h5, h6, h7, h8, h9, h10, h11, h12, k4, k5, k6, k7, k8, k10, k11, k12⟩ := hI
  replace hW := Lib.hid hW
  replace h0 := Lib.hid h0
  replace h1 := Lib.hid h1
  replace h2 := Lib.hid h2
  replace h3 := Lib.hid h3
  replace h4 := Lib.hid h4
  replace h5 := Lib.hid h5
  replace h6 := Lib.hid h6
  replace h7 := Lib.hid h7
  replace h8 := Lib.hid h8
  replace h9 := Lib.hid h9
  replace h10 := Lib.hid h10
  replace h11 := Lib.hid h11
  replace h12 := Lib.hid h12
  replace k4 := Lib.hid k4
  replace k5 := Lib.hid k5
  replace k6 := Lib.hid k6
  replace k7 := Lib.hid k7
  replace k8 := Lib.hid k8
  replace k10 := Lib.hid k10
  replace k11 := Lib.hid k11
  replace k12 := Lib.hid k12
  have gc0 : w'.cell? ⟨b3, 0, none⟩ = some (.pointer (some ⟨b, 0, none⟩)) := by
    cases hj : j10
    · rw [hW.out hj]; exact c0
    · exact rc0.out _ _ (h10.out hj)
  have gc1 : w'.cell? ⟨b4, 0, none⟩ = some (.int .i64 1) := by
    cases hj : j10
    · rw [hW.out hj]; exact c1
    · exact rc1.out _ _ (h10.out hj)
  have gc2 : w'.cell? ⟨b, 2, none⟩ = some (.slice (some ⟨g, 0, none⟩) n c) := by
    cases hj : j10
    · rw [hW.out hj]; exact c2
    · exact rc2.out _ _ (h10.out hj)
  have gc3 : w'.cell? ⟨b5, 0, none⟩ = some (.string s) := by
    cases hj : j10
    · rw [hW.out hj]; exact c3
    · exact rc3.out _ _ (h10.out hj)
  clear c0 c1 c2 c3
  rcases hcase with rfl | rfl | rfl | rfl | rfl | rfl | rfl | rfl | rfl | rfl | rfl | rfl | rfl | rfl | rfl | rfl
  · obtain rfl := Option.some.inj ho
    simp [Region.binds] at hu hd
    clear hd hlt
    refine wpOp_of rfl rfl ?_
    go_simp
    unfold rA1I
    exact ⟨true, j1, j2, j3, j4, j5, j6, j7, j8, j9, j10, j11, j12, _, x1, x2, x3, x4, x5, x6, x7, x8, x9, x10, x11, x12, rfl, rfl, hW.out, fun _ => rfl, h1.out, h2.out, h3.out, h4.out, h5.out, h6.out, h7.out, h8.out, h9.out, h10.out, h11.out, h12.out, k4.out, k5.out, k6.out, k7.out, k8.out, k10.out, fun hj => absurd ((k11.out hj)) (by simp [hu]), k12.out⟩
  · obtain rfl := Option.some.inj ho
    simp [Region.binds] at hu hd
    clear hd hlt
    refine wpOp_of rfl rfl ?_
    go_simp
    unfold rA1I
    exact ⟨j0, true, j2, j3, j4, j5, j6, j7, j8, j9, j10, j11, j12, x0, _, x2, x3, x4, x5, x6, x7, x8, x9, x10, x11, x12, rfl, rfl, hW.out, h0.out, fun _ => rfl, h2.out, h3.out, h4.out, h5.out, h6.out, h7.out, h8.out, h9.out, h10.out, h11.out, h12.out, k4.out, k5.out, k6.out, k7.out, k8.out, k10.out, k11.out, k12.out⟩
  · obtain rfl := Option.some.inj ho
    simp [Region.binds] at hu hd
    clear hd hlt
    refine wpOp_of rfl rfl ?_
    go_simp
    unfold rA1I
    exact ⟨j0, j1, true, j3, j4, j5, j6, j7, j8, j9, j10, j11, j12, x0, x1, _, x3, x4, x5, x6, x7, x8, x9, x10, x11, x12, rfl, rfl, hW.out, h0.out, h1.out, fun _ => rfl, h3.out, h4.out, h5.out, h6.out, h7.out, h8.out, h9.out, h10.out, h11.out, h12.out, fun hj => absurd ((k4.out hj)) (by simp [hu]), k5.out, k6.out, k7.out, k8.out, k10.out, k11.out, k12.out⟩
  · obtain rfl := Option.some.inj ho
    simp [Region.binds] at hu hd
    clear hd hlt
    refine wpOp_of rfl rfl ?_
    go_simp
    unfold rA1I
    exact ⟨j0, j1, j2, true, j4, j5, j6, j7, j8, j9, j10, j11, j12, x0, x1, x2, _, x4, x5, x6, x7, x8, x9, x10, x11, x12, rfl, rfl, hW.out, h0.out, h1.out, h2.out, fun _ => rfl, h4.out, h5.out, h6.out, h7.out, h8.out, h9.out, h10.out, h11.out, h12.out, k4.out, k5.out, fun hj => absurd ((k6.out hj).1) (by simp [hu]), k7.out, k8.out, k10.out, k11.out, k12.out⟩
  · obtain rfl := Option.some.inj ho
    simp [Region.binds] at hu hd
    have d2 : j2 = true := by simp [hd]
    have e2 := h2.out d2
    subst e2
    subst d2
    clear hd hlt
    refine wpOp_of rfl rfl ?_
    go_simp
    unfold rA1I
    exact ⟨j0, j1, true, j3, true, j5, j6, j7, j8, j9, j10, j11, j12, x0, x1, _, x3, _, x5, x6, x7, x8, x9, x10, x11, x12, rfl, rfl, hW.out, h0.out, h1.out, h2.out, h3.out, fun _ => rfl, h5.out, h6.out, h7.out, h8.out, h9.out, h10.out, h11.out, h12.out, fun _ => rfl, fun hj => absurd ((k5.out hj)) (by simp [hu]), k6.out, k7.out, k8.out, k10.out, k11.out, k12.out⟩
  · obtain rfl := Option.some.inj ho
    simp [Region.binds] at hu hd
    have d4 : j4 = true := by simp [hd]
    have e4 := h4.out d4
    subst e4
    subst d4
    clear hd hlt
    refine wpOp_of rfl rfl ?_
    go_simp
    unfold rA1I
    exact ⟨j0, j1, j2, j3, true, true, j6, j7, j8, j9, j10, j11, j12, x0, x1, x2, x3, _, _, x6, x7, x8, x9, x10, x11, x12, rfl, rfl, hW.out, h0.out, h1.out, h2.out, h3.out, h4.out, fun _ => rfl, h6.out, h7.out, h8.out, h9.out, h10.out, h11.out, h12.out, k4.out, fun _ => rfl, fun hj => absurd ((k6.out hj).2) (by simp [hu]), k7.out, k8.out, k10.out, k11.out, k12.out⟩
  · obtain rfl := Option.some.inj ho
    simp [Region.binds] at hu hd
    have d3 : j3 = true := by simp [hd]
    have d5 : j5 = true := by simp [hd]
    have e3 := h3.out d3
    subst e3
    have e5 := h5.out d5
    subst e5
    subst d3
    subst d5
    clear hd hlt
    refine wpOp_of rfl rfl ?_
    go_simp
    unfold rA1I
    exact ⟨j0, j1, j2, true, j4, true, true, j7, j8, j9, j10, j11, j12, x0, x1, x2, _, x4, _, _, x7, x8, x9, x10, x11, x12, rfl, rfl, hW.out, h0.out, h1.out, h2.out, h3.out, h4.out, h5.out, fun _ => rfl, h7.out, h8.out, h9.out, h10.out, h11.out, h12.out, k4.out, k5.out, fun _ => ⟨rfl, rfl⟩, fun hj => absurd ((k7.out hj)) (by simp [hu]), k8.out, k10.out, k11.out, k12.out⟩
  · obtain rfl := Option.some.inj ho
    simp [Region.binds] at hu hd
    have d6 : j6 = true := by simp [hd]
    have e6 := h6.out d6
    subst e6
    subst d6
    clear hd hlt
    refine wpOp_of rfl rfl ?_
    go_simp
    unfold rA1I
    exact ⟨j0, j1, j2, j3, j4, j5, true, true, j8, j9, j10, j11, j12, x0, x1, x2, x3, x4, x5, _, _, x8, x9, x10, x11, x12, rfl, rfl, hW.out, h0.out, h1.out, h2.out, h3.out, h4.out, h5.out, h6.out, fun _ => rfl, h8.out, h9.out, h10.out, h11.out, h12.out, k4.out, k5.out, k6.out, fun _ => rfl, fun hj => absurd ((k8.out hj)) (by simp [hu]), k10.out, k11.out, k12.out⟩
  · obtain rfl := Option.some.inj ho
    simp [Region.binds] at hu hd
    have d7 : j7 = true := by simp [hd]
    have e7 := h7.out d7
    subst e7
    subst d7
    clear hd hlt
    refine wpOp_of rfl rfl ?_
    go_simp
    unfold rA1I
    exact ⟨j0, j1, j2, j3, j4, j5, j6, true, true, j9, j10, j11, j12, x0, x1, x2, x3, x4, x5, x6, _, _, x9, x10, x11, x12, rfl, rfl, hW.out, h0.out, h1.out, h2.out, h3.out, h4.out, h5.out, h6.out, h7.out, fun _ => rfl, h9.out, h10.out, h11.out, h12.out, k4.out, k5.out, k6.out, k7.out, fun _ => rfl, fun hj => absurd ((k10.out hj).1) (by simp [hu]), k11.out, k12.out⟩
  · obtain rfl := Option.some.inj ho
    simp [Region.binds] at hu hd
    clear hd hlt
    refine wpOp_of rfl rfl ?_
    go_simp
    unfold rA1I
    exact ⟨j0, j1, j2, j3, j4, j5, j6, j7, j8, true, j10, j11, j12, x0, x1, x2, x3, x4, x5, x6, x7, x8, _, x10, x11, x12, rfl, rfl, hW.out, h0.out, h1.out, h2.out, h3.out, h4.out, h5.out, h6.out, h7.out, h8.out, fun _ => rfl, h10.out, h11.out, h12.out, k4.out, k5.out, k6.out, k7.out, k8.out, fun hj => absurd ((k10.out hj).2) (by simp [hu]), k11.out, k12.out⟩
  · obtain rfl := Option.some.inj ho
    simp [Region.binds] at hu hd
    have d8 : j8 = true := by simp [hd]
    have d9 : j9 = true := by simp [hd]
    have e8 := h8.out d8
    subst e8
    have e9 := h9.out d9
    subst e9
    subst d8
    subst d9
    clear hd hlt
    have hWW := hW.out hu
    clear hW gc0 gc1 gc2 gc3
    subst hWW
    refine wpOp_of rfl rfl ?_
    obtain ⟨v1, w2, hrun, hR⟩ := hE.out
    refine wp_append_runE _ _ _ _ rfl _ _ rfl rfl v1 w2 hrun ?_
    unfold rA1I
    exact ⟨j0, j1, j2, j3, j4, j5, j6, j7, true, true, true, j11, j12, x0, x1, x2, x3, x4, x5, x6, x7, _, _, _, x11, x12, rfl, rfl, (fun h => by cases h), h0.out, h1.out, h2.out, h3.out, h4.out, h5.out, h6.out, h7.out, h8.out, h9.out, fun _ => hR, h11.out, h12.out, k4.out, k5.out, k6.out, k7.out, k8.out, fun _ => ⟨rfl, rfl⟩, k11.out, k12.out⟩
  · obtain rfl := Option.some.inj ho
    simp [Region.binds] at hu hd
    have d0 : j0 = true := by simp [hd]
    have e0 := h0.out d0
    subst e0
    subst d0
    clear hd hlt
    refine wpOp_of rfl rfl ?_
    go_simp
    unfold rA1I
    exact ⟨true, j1, j2, j3, j4, j5, j6, j7, j8, j9, j10, true, j12, _, x1, x2, x3, x4, x5, x6, x7, x8, x9, x10, _, x12, rfl, rfl, hW.out, h0.out, h1.out, h2.out, h3.out, h4.out, h5.out, h6.out, h7.out, h8.out, h9.out, h10.out, fun _ => rfl, h12.out, k4.out, k5.out, k6.out, k7.out, k8.out, k10.out, fun _ => rfl, fun hj => absurd ((k12.out hj)) (by simp [hu])⟩
  · obtain rfl := Option.some.inj ho
    simp [Region.binds] at hu hd
    have d11 : j11 = true := by simp [hd]
    have e11 := h11.out d11
    subst e11
    subst d11
    clear hd hlt
    refine wpOp_of rfl rfl ?_
    go_simp
    unfold rA1I
    exact ⟨j0, j1, j2, j3, j4, j5, j6, j7, j8, j9, j10, true, true, x0, x1, x2, x3, x4, x5, x6, x7, x8, x9, x10, _, _, rfl, rfl, hW.out, h0.out, h1.out, h2.out, h3.out, h4.out, h5.out, h6.out, h7.out, h8.out, h9.out, h10.out, h11.out, fun _ => rfl, k4.out, k5.out, k6.out, k7.out, k8.out, k10.out, k11.out, fun _ => rfl⟩
  · obtain rfl := Option.some.inj ho
    simp [Region.binds] at hu hd
    exfalso
    have d0 : j0 = true := by simp [hd]
    have d1 : j1 = true := by simp [hd]
    have d2 : j2 = true := by simp [hd]
    have d3 : j3 = true := by simp [hd]
    have d4 : j4 = true := by simp [hd]
    have d5 : j5 = true := by simp [hd]
    have d6 : j6 = true := by simp [hd]
    have d7 : j7 = true := by simp [hd]
    have d8 : j8 = true := by simp [hd]
    have d9 : j9 = true := by simp [hd]
    have d10 : j10 = true := by simp [hd]
    have d12 : j12 = true := by simp [hd]
    have d11 : j11 = true := (k12.out d12)
    subst d0
    subst d1
    subst d2
    subst d3
    subst d4
    subst d5
    subst d6
    subst d7
    subst d8
    subst d9
    subst d10
    subst d12
    subst d11
    exact hlt rfl
  · obtain rfl := Option.some.inj ho
    exfalso
    simp [Region.binds] at hd
  · obtain rfl := Option.some.inj ho
    exfalso
    simp [Region.binds] at hd
set_option maxHeartbeats 16000000 in
theorem rA1 (b3 b4 b5 b g n c : Nat) (s : ByteArray) (R : World → Value → Prop) (w : World)  (c0 : w.cell? ⟨b3, 0, none⟩ = some (.pointer (some ⟨b, 0, none⟩))) (rc0 : Hid (∀ w1 v, R w1 v → w1.cell? ⟨b3, 0, none⟩ = some (.pointer (some ⟨b, 0, none⟩)))) (c1 : w.cell? ⟨b4, 0, none⟩ = some (.int .i64 1)) (rc1 : Hid (∀ w1 v, R w1 v → w1.cell? ⟨b4, 0, none⟩ = some (.int .i64 1))) (c2 : w.cell? ⟨b, 2, none⟩ = some (.slice (some ⟨g, 0, none⟩) n c)) (rc2 : Hid (∀ w1 v, R w1 v → w1.cell? ⟨b, 2, none⟩ = some (.slice (some ⟨g, 0, none⟩) n c))) (c3 : w.cell? ⟨b5, 0, none⟩ = some (.string s)) (rc3 : Hid (∀ w1 v, R w1 v → w1.cell? ⟨b5, 0, none⟩ = some (.string s))) (hE : Hid (∃ v1 w1, (Builtin.append_ #[80, 9] 80 #[.slice (some ⟨g, 0, none⟩) n c, .string s]).run Tryd.prog w.drew = .ok v1 w1 ∧ R w1 v1)) {t0 t1 t2 t6 t7 t8 t9 t10 t11 t12 t13 t14 t15 t16 t17 t18 t19 t20 t21 t22 t23 t24 t25 t26 t27 t28 t29 t30 t31 t32 t33 t34 t35 t36 t37 t38 t39 t40 t41 t42 : Value} {ds : List Deferred} {Q : Exit → Act → World → Prop}
    (h : ∀ (yE : Value) (w1 : World), R w1 yE → wpList Tryd.prog rA1O Q (rA1O.toList.drop 13) { tmps := #[t0, t1, t2, .pointer (some ⟨b3, 0, none⟩), .pointer (some ⟨b4, 0, none⟩), .pointer (some ⟨b5, 0, none⟩), t6, t7, t8, t9, t10, t11, t12, t13, .pointer (some ⟨b, 0, none⟩), .int .i64 1, .pointer (some ⟨b, 0, none⟩), .int .i64 1, .pointer (some ⟨b, 0, none⟩), .pointer (some ⟨b, 0, none⟩), .pointer (some ⟨b, 2, none⟩), .pointer (some ⟨b, 2, none⟩), .slice (some ⟨g, 0, none⟩) n c, .string s, yE, .pointer (some ⟨b, 0, none⟩), .pointer (some ⟨b, 0, none⟩), t27, t28, t29, t30, t31, t32, t33, t34, t35, t36, t37, t38, t39, t40, t41, t42], defers := ds } w1) :
    (Code.region 4 rA1O true).wp Tryd.prog Q { tmps := #[t0, t1, t2, .pointer (some ⟨b3, 0, none⟩), .pointer (some ⟨b4, 0, none⟩), .pointer (some ⟨b5, 0, none⟩), t6, t7, t8, t9, t10, t11, t12, t13, t14, t15, t16, t17, t18, t19, t20, t21, t22, t23, t24, t25, t26, t27, t28, t29, t30, t31, t32, t33, t34, t35, t36, t37, t38, t39, t40, t41, t42], defers := ds } w := by
  have hsz : rA1O.size = 16 := by kernel_rfl
  refine wp_region_any (show Tryd.prog.follows .mixedOrders = true from by kernel_rfl) ?_
  rw [hsz]
  refine wpAny_inv2 (I := rA1I w b3 b4 b5 b g n c s R t0 t1 t2 t6 t7 t8 t9 t10 t11 t12 t13 t27 t28 t29 t30 t31 t32 t33 t34 t35 t36 t37 t38 t39 t40 t41 t42 ds) (g := 3) (rA1_none b3 b4 b5 b g n c s R w) (rA1_steps b3 b4 b5 b g n c s R w  c0 rc0 c1 rc1 c2 rc2 c3 rc3 hE) (fun l a w' hI hl => ?_) 16 _ _ _ (by decide) (by decide) ?_
  · have hI' := hI
    obtain ⟨j0, j1, j2, j3, j4, j5, j6, j7, j8, j9, j10, j11, j12, x0, x1, x2, x3, x4, x5, x6, x7, x8, x9, x10, x11, x12, rfl, rfl, hW, h0, h1, h2, h3, h4, h5, h6, h7, h8, h9, h10, h11, h12, k4, k5, k6, k7, k8, k10, k11, k12⟩ := hI
    obtain ⟨d0, d1, d2, d3, d4, d5, d6, d7, d8, d9, d10, d11, d12⟩ := left_all13_3 hl
    subst d0
    subst d1
    subst d2
    subst d3
    subst d4
    subst d5
    subst d6
    subst d7
    subst d8
    subst d9
    subst d10
    subst d11
    subst d12
    obtain rfl := h0 rfl
    obtain rfl := h1 rfl
    obtain rfl := h2 rfl
    obtain rfl := h3 rfl
    obtain rfl := h4 rfl
    obtain rfl := h5 rfl
    obtain rfl := h6 rfl
    obtain rfl := h7 rfl
    obtain rfl := h8 rfl
    obtain rfl := h9 rfl
    obtain rfl := h11 rfl
    obtain rfl := h12 rfl
    have hw := h _ _ (h10 rfl)
    have hB : Region.seqB .any rA1O (rA1O.toList.drop 13).length 13 #[true, true, true, true, true, true, true, true, true, true, true, true, true, false, false, false] = true := by kernel_rfl
    have hlen : (rA1O.toList.drop 13).length = 3 := by kernel_rfl
    have := wpAny_of_seq (md := .any) (rA1O.toList.drop 13) 13 _ _ _ (fun j => by simp [List.getElem?_drop]) hB hw
    rw [hlen] at this
    exact this
  · exact ⟨false, false, false, false, false, false, false, false, false, false, false, false, false, t14, t15, t16, t17, t18, t19, t20, t21, t22, t23, t24, t25, t26, rfl, rfl, fun _ => rfl, (fun h => by cases h), (fun h => by cases h), (fun h => by cases h), (fun h => by cases h), (fun h => by cases h), (fun h => by cases h), (fun h => by cases h), (fun h => by cases h), (fun h => by cases h), (fun h => by cases h), (fun h => by cases h), (fun h => by cases h), (fun h => by cases h), (fun h => by cases h), (fun h => by cases h), (fun h => by cases h), (fun h => by cases h), (fun h => by cases h), (fun h => by cases h), (fun h => by cases h), (fun h => by cases h)⟩
noncomputable def rB1O : Array Oper := (Tryd.f75.body.bind fun c => findR c 5).getD #[]
def rB1I (w0 : World) (b3 b4 b5 b : Nat) (ra : Option Addr) (rn rc : Nat) (s : ByteArray) (R : World → Value → Prop) (t0 t1 t2 t6 t7 t8 t9 t10 t11 t12 t13 t14 t15 t16 t17 t18 t19 t20 t21 t22 t23 t24 t25 t26 t27 t28 t39 t40 t41 t42 : Value) (ds : List Deferred) (l : Array Bool) (a : Act) (w : World) : Prop :=
  ∃ j0 j1 j2 j3 j4 j5 j6 j7 j8 j9 : Bool, ∃ x0 x1 x2 x3 x4 x5 x6 x7 x8 x9 : Value, l = #[j0, j1, j2, j3, j4, j5, j6, j7, j8, j9, false, false, false] ∧ a = { tmps := #[t0, t1, t2, .pointer (some ⟨b3, 0, none⟩), .pointer (some ⟨b4, 0, none⟩), .pointer (some ⟨b5, 0, none⟩), t6, t7, t8, t9, t10, t11, t12, t13, t14, t15, t16, t17, t18, t19, t20, t21, t22, t23, t24, t25, t26, t27, t28, x0, x1, x2, x3, x4, x5, x6, x7, x8, x9, t39, t40, t41, t42], defers := ds } ∧ (j9 = false → w = w0.drew) ∧
  (j0 = true → x0 = .pointer (some ⟨b, 0, none⟩)) ∧ (j1 = true → x1 = .pointer (some ⟨b, 0, none⟩)) ∧ (j2 = true → x2 = .pointer (some ⟨b, 0, none⟩)) ∧ (j3 = true → x3 = .pointer (some ⟨b, 4, none⟩)) ∧ (j4 = true → x4 = .slice ra rn rc) ∧ (j5 = true → x5 = .int .i64 1) ∧ (j6 = true → x6 = .string s) ∧ (j7 = true → x7 = .int .i64 (s.size : Int)) ∧ (j8 = true → x8 = .agg #[.int .i64 1, .int .i64 (s.size : Int)]) ∧ (j9 = true → R w x9) ∧
  (j2 = true → j1 = true) ∧ (j3 = true → j2 = true) ∧ (j4 = true → j3 = true) ∧ (j7 = true → j6 = true) ∧ (j8 = true → j5 = true ∧ j7 = true) ∧ (j9 = true → j4 = true ∧ j8 = true)
set_option maxHeartbeats 16000000 in
theorem rB1_none (b3 b4 b5 b : Nat) (ra : Option Addr) (rn rc : Nat) (s : ByteArray) (R : World → Value → Prop) (w : World) {t0 t1 t2 t6 t7 t8 t9 t10 t11 t12 t13 t14 t15 t16 t17 t18 t19 t20 t21 t22 t23 t24 t25 t26 t27 t28 t39 t40 t41 t42 : Value} {ds : List Deferred} : ∀ l a w1, rB1I w b3 b4 b5 b ra rn rc s R t0 t1 t2 t6 t7 t8 t9 t10 t11 t12 t13 t14 t15 t16 t17 t18 t19 t20 t21 t22 t23 t24 t25 t26 t27 t28 t39 t40 t41 t42 ds l a w1 → Region.ready .any rB1O l = [] → left l = 3 := by
  simp only [rB1O, findR, Tryd.f75, Option.bind_some, Option.or, Option.getD, Nat.reduceEqDiff, if_true, if_false, reduceIte]
  rintro l a w1 hI hr
  obtain ⟨j0, j1, j2, j3, j4, j5, j6, j7, j8, j9, x0, x1, x2, x3, x4, x5, x6, x7, x8, x9, rfl, rfl, hW, h0, h1, h2, h3, h4, h5, h6, h7, h8, h9, k2, k3, k4, k7, k8, k9⟩ := hI
  have hn := fun i => List.eq_nil_iff_forall_not_mem.1 hr i
  clear hr
  have d0 : j0 = true := by
    cases hj : j0
    · exact absurd (mem_ready.2 ⟨by simp [hj], _, rfl, by simp [Region.binds, hj]⟩) (hn 0)
    · rfl
  subst d0
  have d1 : j1 = true := by
    cases hj : j1
    · exact absurd (mem_ready.2 ⟨by simp [hj], _, rfl, by simp [Region.binds, hj]⟩) (hn 1)
    · rfl
  subst d1
  have d2 : j2 = true := by
    cases hj : j2
    · exact absurd (mem_ready.2 ⟨by simp [hj], _, rfl, by simp [Region.binds, hj]⟩) (hn 2)
    · rfl
  subst d2
  have d3 : j3 = true := by
    cases hj : j3
    · exact absurd (mem_ready.2 ⟨by simp [hj], _, rfl, by simp [Region.binds, hj]⟩) (hn 3)
    · rfl
  subst d3
  have d4 : j4 = true := by
    cases hj : j4
    · exact absurd (mem_ready.2 ⟨by simp [hj], _, rfl, by simp [Region.binds, hj]⟩) (hn 4)
    · rfl
  subst d4
  have d5 : j5 = true := by
    cases hj : j5
    · exact absurd (mem_ready.2 ⟨by simp [hj], _, rfl, by simp [Region.binds, hj]⟩) (hn 5)
    · rfl
  subst d5
  have d6 : j6 = true := by
    cases hj : j6
    · exact absurd (mem_ready.2 ⟨by simp [hj], _, rfl, by simp [Region.binds, hj]⟩) (hn 6)
    · rfl
  subst d6
  have d7 : j7 = true := by
    cases hj : j7
    · exact absurd (mem_ready.2 ⟨by simp [hj], _, rfl, by simp [Region.binds, hj]⟩) (hn 7)
    · rfl
  subst d7
  have d8 : j8 = true := by
    cases hj : j8
    · exact absurd (mem_ready.2 ⟨by simp [hj], _, rfl, by simp [Region.binds, hj]⟩) (hn 8)
    · rfl
  subst d8
  have d9 : j9 = true := by
    cases hj : j9
    · exact absurd (mem_ready.2 ⟨by simp [hj], _, rfl, by simp [Region.binds, hj]⟩) (hn 9)
    · rfl
  subst d9
  rfl
set_option maxHeartbeats 16000000 in
theorem rB1_steps (b3 b4 b5 b : Nat) (ra : Option Addr) (rn rc : Nat) (s : ByteArray) (R : World → Value → Prop) (w : World)  (c0 : w.cell? ⟨b3, 0, none⟩ = some (.pointer (some ⟨b, 0, none⟩))) (rc0 : Hid (∀ w1 v, R w1 v → w1.cell? ⟨b3, 0, none⟩ = some (.pointer (some ⟨b, 0, none⟩)))) (c1 : w.cell? ⟨b, 4, none⟩ = some (.slice ra rn rc)) (rc1 : Hid (∀ w1 v, R w1 v → w1.cell? ⟨b, 4, none⟩ = some (.slice ra rn rc))) (c2 : w.cell? ⟨b4, 0, none⟩ = some (.int .i64 1)) (rc2 : Hid (∀ w1 v, R w1 v → w1.cell? ⟨b4, 0, none⟩ = some (.int .i64 1))) (c3 : w.cell? ⟨b5, 0, none⟩ = some (.string s)) (rc3 : Hid (∀ w1 v, R w1 v → w1.cell? ⟨b5, 0, none⟩ = some (.string s))) (hE : Hid (Calls Tryd.prog 97 #[.slice ra rn rc, .agg #[.int .i64 1, .int .i64 (s.size : Int)]] w.drew fun e w1 => ∃ v, e = .returned v ∧ R w1 v))
    {t0 t1 t2 t6 t7 t8 t9 t10 t11 t12 t13 t14 t15 t16 t17 t18 t19 t20 t21 t22 t23 t24 t25 t26 t27 t28 t39 t40 t41 t42 : Value} {ds : List Deferred} {Q : Exit → Act → World → Prop} :
    ∀ l a w', rB1I w b3 b4 b5 b ra rn rc s R t0 t1 t2 t6 t7 t8 t9 t10 t11 t12 t13 t14 t15 t16 t17 t18 t19 t20 t21 t22 t23 t24 t25 t26 t27 t28 t39 t40 t41 t42 ds l a w' → left l ≠ 3 → ∀ i ∈ Region.ready .any rB1O l, wpOp Tryd.prog rB1O Q i (fun a' w'' => rB1I w b3 b4 b5 b ra rn rc s R t0 t1 t2 t6 t7 t8 t9 t10 t11 t12 t13 t14 t15 t16 t17 t18 t19 t20 t21 t22 t23 t24 t25 t26 t27 t28 t39 t40 t41 t42 ds (l.setIfInBounds i true) a' w'') a w' := by
  simp only [rB1O, findR, Tryd.f75, Option.bind_some, Option.or, Option.getD, Nat.reduceEqDiff, if_true, if_false, reduceIte]
  rintro l a w' hI hlt i hi
  rw [mem_ready] at hi
  obtain ⟨hu, oo, ho, hd⟩ := hi
  have hin : i < 13 := by
    have := (Array.getElem?_eq_some_iff.1 ho).1
    simpa using this
  have hcase : i = 0 ∨ i = 1 ∨ i = 2 ∨ i = 3 ∨ i = 4 ∨ i = 5 ∨ i = 6 ∨ i = 7 ∨ i = 8 ∨ i = 9 ∨ i = 10 ∨ i = 11 ∨ i = 12 := by omega
  obtain ⟨j0, j1, j2, j3, j4, j5, j6, j7, j8, j9, x0, x1, x2, x3, x4, x5, x6, x7, x8, x9, rfl, rfl, hW, h0, h1, h2, h3, h4, h5, h6, h7, h8, h9, k2, k3, k4, k7, k8, k9⟩ := hI
  replace hW := Lib.hid hW
  replace h0 := Lib.hid h0
  replace h1 := Lib.hid h1
  replace h2 := Lib.hid h2
  replace h3 := Lib.hid h3
  replace h4 := Lib.hid h4
  replace h5 := Lib.hid h5
  replace h6 := Lib.hid h6
  replace h7 := Lib.hid h7
  replace h8 := Lib.hid h8
  replace h9 := Lib.hid h9
  replace k2 := Lib.hid k2
  replace k3 := Lib.hid k3
  replace k4 := Lib.hid k4
  replace k7 := Lib.hid k7
  replace k8 := Lib.hid k8
  replace k9 := Lib.hid k9
  have gc0 : w'.cell? ⟨b3, 0, none⟩ = some (.pointer (some ⟨b, 0, none⟩)) := by
    cases hj : j9
    · rw [hW.out hj]; exact c0
    · exact rc0.out _ _ (h9.out hj)
  have gc1 : w'.cell? ⟨b, 4, none⟩ = some (.slice ra rn rc) := by
    cases hj : j9
    · rw [hW.out hj]; exact c1
    · exact rc1.out _ _ (h9.out hj)
  have gc2 : w'.cell? ⟨b4, 0, none⟩ = some (.int .i64 1) := by
    cases hj : j9
    · rw [hW.out hj]; exact c2
    · exact rc2.out _ _ (h9.out hj)
  have gc3 : w'.cell? ⟨b5, 0, none⟩ = some (.string s) := by
    cases hj : j9
    · rw [hW.out hj]; exact c3
    · exact rc3.out _ _ (h9.out hj)
  clear c0 c1 c2 c3
  rcases hcase with rfl | rfl | rfl | rfl | rfl | rfl | rfl | rfl | rfl | rfl | rfl | rfl | rfl
  · obtain rfl := Option.some.inj ho
    simp [Region.binds] at hu hd
    clear hd hlt
    refine wpOp_of rfl rfl ?_
    go_simp
    unfold rB1I
    exact ⟨true, j1, j2, j3, j4, j5, j6, j7, j8, j9, _, x1, x2, x3, x4, x5, x6, x7, x8, x9, rfl, rfl, hW.out, fun _ => rfl, h1.out, h2.out, h3.out, h4.out, h5.out, h6.out, h7.out, h8.out, h9.out, k2.out, k3.out, k4.out, k7.out, k8.out, k9.out⟩
  · obtain rfl := Option.some.inj ho
    simp [Region.binds] at hu hd
    clear hd hlt
    refine wpOp_of rfl rfl ?_
    go_simp
    unfold rB1I
    exact ⟨j0, true, j2, j3, j4, j5, j6, j7, j8, j9, x0, _, x2, x3, x4, x5, x6, x7, x8, x9, rfl, rfl, hW.out, h0.out, fun _ => rfl, h2.out, h3.out, h4.out, h5.out, h6.out, h7.out, h8.out, h9.out, fun hj => absurd ((k2.out hj)) (by simp [hu]), k3.out, k4.out, k7.out, k8.out, k9.out⟩
  · obtain rfl := Option.some.inj ho
    simp [Region.binds] at hu hd
    have d1 : j1 = true := by simp [hd]
    have e1 := h1.out d1
    subst e1
    subst d1
    clear hd hlt
    refine wpOp_of rfl rfl ?_
    go_simp
    unfold rB1I
    exact ⟨j0, true, true, j3, j4, j5, j6, j7, j8, j9, x0, _, _, x3, x4, x5, x6, x7, x8, x9, rfl, rfl, hW.out, h0.out, h1.out, fun _ => rfl, h3.out, h4.out, h5.out, h6.out, h7.out, h8.out, h9.out, fun _ => rfl, fun hj => absurd ((k3.out hj)) (by simp [hu]), k4.out, k7.out, k8.out, k9.out⟩
  · obtain rfl := Option.some.inj ho
    simp [Region.binds] at hu hd
    have d2 : j2 = true := by simp [hd]
    have e2 := h2.out d2
    subst e2
    subst d2
    clear hd hlt
    refine wpOp_of rfl rfl ?_
    go_simp
    unfold rB1I
    exact ⟨j0, j1, true, true, j4, j5, j6, j7, j8, j9, x0, x1, _, _, x4, x5, x6, x7, x8, x9, rfl, rfl, hW.out, h0.out, h1.out, h2.out, fun _ => rfl, h4.out, h5.out, h6.out, h7.out, h8.out, h9.out, k2.out, fun _ => rfl, fun hj => absurd ((k4.out hj)) (by simp [hu]), k7.out, k8.out, k9.out⟩
  · obtain rfl := Option.some.inj ho
    simp [Region.binds] at hu hd
    have d3 : j3 = true := by simp [hd]
    have e3 := h3.out d3
    subst e3
    subst d3
    clear hd hlt
    refine wpOp_of rfl rfl ?_
    go_simp
    unfold rB1I
    exact ⟨j0, j1, j2, true, true, j5, j6, j7, j8, j9, x0, x1, x2, _, _, x5, x6, x7, x8, x9, rfl, rfl, hW.out, h0.out, h1.out, h2.out, h3.out, fun _ => rfl, h5.out, h6.out, h7.out, h8.out, h9.out, k2.out, k3.out, fun _ => rfl, k7.out, k8.out, fun hj => absurd ((k9.out hj).1) (by simp [hu])⟩
  · obtain rfl := Option.some.inj ho
    simp [Region.binds] at hu hd
    clear hd hlt
    refine wpOp_of rfl rfl ?_
    go_simp
    unfold rB1I
    exact ⟨j0, j1, j2, j3, j4, true, j6, j7, j8, j9, x0, x1, x2, x3, x4, _, x6, x7, x8, x9, rfl, rfl, hW.out, h0.out, h1.out, h2.out, h3.out, h4.out, fun _ => rfl, h6.out, h7.out, h8.out, h9.out, k2.out, k3.out, k4.out, k7.out, fun hj => absurd ((k8.out hj).1) (by simp [hu]), k9.out⟩
  · obtain rfl := Option.some.inj ho
    simp [Region.binds] at hu hd
    clear hd hlt
    refine wpOp_of rfl rfl ?_
    go_simp
    unfold rB1I
    exact ⟨j0, j1, j2, j3, j4, j5, true, j7, j8, j9, x0, x1, x2, x3, x4, x5, _, x7, x8, x9, rfl, rfl, hW.out, h0.out, h1.out, h2.out, h3.out, h4.out, h5.out, fun _ => rfl, h7.out, h8.out, h9.out, k2.out, k3.out, k4.out, fun hj => absurd ((k7.out hj)) (by simp [hu]), k8.out, k9.out⟩
  · obtain rfl := Option.some.inj ho
    simp [Region.binds] at hu hd
    have d6 : j6 = true := by simp [hd]
    have e6 := h6.out d6
    subst e6
    subst d6
    clear hd hlt
    refine wpOp_of rfl rfl ?_
    go_simp
    unfold rB1I
    exact ⟨j0, j1, j2, j3, j4, j5, true, true, j8, j9, x0, x1, x2, x3, x4, x5, _, _, x8, x9, rfl, rfl, hW.out, h0.out, h1.out, h2.out, h3.out, h4.out, h5.out, h6.out, fun _ => rfl, h8.out, h9.out, k2.out, k3.out, k4.out, fun _ => rfl, fun hj => absurd ((k8.out hj).2) (by simp [hu]), k9.out⟩
  · obtain rfl := Option.some.inj ho
    simp [Region.binds] at hu hd
    have d5 : j5 = true := by simp [hd]
    have d7 : j7 = true := by simp [hd]
    have e5 := h5.out d5
    subst e5
    have e7 := h7.out d7
    subst e7
    subst d5
    subst d7
    clear hd hlt
    refine wpOp_of rfl rfl ?_
    go_simp
    unfold rB1I
    exact ⟨j0, j1, j2, j3, j4, true, j6, true, true, j9, x0, x1, x2, x3, x4, _, x6, _, _, x9, rfl, rfl, hW.out, h0.out, h1.out, h2.out, h3.out, h4.out, h5.out, h6.out, h7.out, fun _ => rfl, h9.out, k2.out, k3.out, k4.out, k7.out, fun _ => ⟨rfl, rfl⟩, fun hj => absurd ((k9.out hj).2) (by simp [hu])⟩
  · obtain rfl := Option.some.inj ho
    simp [Region.binds] at hu hd
    have d4 : j4 = true := by simp [hd]
    have d8 : j8 = true := by simp [hd]
    have e4 := h4.out d4
    subst e4
    have e8 := h8.out d8
    subst e8
    subst d4
    subst d8
    clear hd hlt
    have hWW := hW.out hu
    clear hW gc0 gc1 gc2 gc3
    subst hWW
    refine wpOp_of rfl rfl ?_
    go_simp
    go_at_call 97
    refine hE.out.mono ?_
    rintro e w2 ⟨v, rfl, hR⟩
    unfold rB1I
    exact ⟨j0, j1, j2, j3, true, j5, j6, j7, true, true, x0, x1, x2, x3, _, x5, x6, x7, _, _, rfl, rfl, (fun h => by cases h), h0.out, h1.out, h2.out, h3.out, h4.out, h5.out, h6.out, h7.out, h8.out, fun _ => hR, k2.out, k3.out, k4.out, k7.out, k8.out, fun _ => ⟨rfl, rfl⟩⟩
  · obtain rfl := Option.some.inj ho
    simp [Region.binds] at hu hd
    exfalso
    have d0 : j0 = true := by simp [hd]
    have d1 : j1 = true := by simp [hd]
    have d2 : j2 = true := by simp [hd]
    have d3 : j3 = true := by simp [hd]
    have d4 : j4 = true := by simp [hd]
    have d5 : j5 = true := by simp [hd]
    have d6 : j6 = true := by simp [hd]
    have d7 : j7 = true := by simp [hd]
    have d8 : j8 = true := by simp [hd]
    have d9 : j9 = true := by simp [hd]
    subst d0
    subst d1
    subst d2
    subst d3
    subst d4
    subst d5
    subst d6
    subst d7
    subst d8
    subst d9
    exact hlt rfl
  · obtain rfl := Option.some.inj ho
    exfalso
    simp [Region.binds] at hd
  · obtain rfl := Option.some.inj ho
    exfalso
    simp [Region.binds] at hd
set_option maxHeartbeats 16000000 in
theorem rB1 (b3 b4 b5 b : Nat) (ra : Option Addr) (rn rc : Nat) (s : ByteArray) (R : World → Value → Prop) (w : World)  (c0 : w.cell? ⟨b3, 0, none⟩ = some (.pointer (some ⟨b, 0, none⟩))) (rc0 : Hid (∀ w1 v, R w1 v → w1.cell? ⟨b3, 0, none⟩ = some (.pointer (some ⟨b, 0, none⟩)))) (c1 : w.cell? ⟨b, 4, none⟩ = some (.slice ra rn rc)) (rc1 : Hid (∀ w1 v, R w1 v → w1.cell? ⟨b, 4, none⟩ = some (.slice ra rn rc))) (c2 : w.cell? ⟨b4, 0, none⟩ = some (.int .i64 1)) (rc2 : Hid (∀ w1 v, R w1 v → w1.cell? ⟨b4, 0, none⟩ = some (.int .i64 1))) (c3 : w.cell? ⟨b5, 0, none⟩ = some (.string s)) (rc3 : Hid (∀ w1 v, R w1 v → w1.cell? ⟨b5, 0, none⟩ = some (.string s))) (hE : Hid (Calls Tryd.prog 97 #[.slice ra rn rc, .agg #[.int .i64 1, .int .i64 (s.size : Int)]] w.drew fun e w1 => ∃ v, e = .returned v ∧ R w1 v)) {t0 t1 t2 t6 t7 t8 t9 t10 t11 t12 t13 t14 t15 t16 t17 t18 t19 t20 t21 t22 t23 t24 t25 t26 t27 t28 t29 t30 t31 t32 t33 t34 t35 t36 t37 t38 t39 t40 t41 t42 : Value} {ds : List Deferred} {Q : Exit → Act → World → Prop}
    (h : ∀ (yE : Value) (w1 : World), R w1 yE → wpList Tryd.prog rB1O Q (rB1O.toList.drop 10) { tmps := #[t0, t1, t2, .pointer (some ⟨b3, 0, none⟩), .pointer (some ⟨b4, 0, none⟩), .pointer (some ⟨b5, 0, none⟩), t6, t7, t8, t9, t10, t11, t12, t13, t14, t15, t16, t17, t18, t19, t20, t21, t22, t23, t24, t25, t26, t27, t28, .pointer (some ⟨b, 0, none⟩), .pointer (some ⟨b, 0, none⟩), .pointer (some ⟨b, 0, none⟩), .pointer (some ⟨b, 4, none⟩), .slice ra rn rc, .int .i64 1, .string s, .int .i64 (s.size : Int), .agg #[.int .i64 1, .int .i64 (s.size : Int)], yE, t39, t40, t41, t42], defers := ds } w1) :
    (Code.region 5 rB1O true).wp Tryd.prog Q { tmps := #[t0, t1, t2, .pointer (some ⟨b3, 0, none⟩), .pointer (some ⟨b4, 0, none⟩), .pointer (some ⟨b5, 0, none⟩), t6, t7, t8, t9, t10, t11, t12, t13, t14, t15, t16, t17, t18, t19, t20, t21, t22, t23, t24, t25, t26, t27, t28, t29, t30, t31, t32, t33, t34, t35, t36, t37, t38, t39, t40, t41, t42], defers := ds } w := by
  have hsz : rB1O.size = 13 := by kernel_rfl
  refine wp_region_any (show Tryd.prog.follows .mixedOrders = true from by kernel_rfl) ?_
  rw [hsz]
  refine wpAny_inv2 (I := rB1I w b3 b4 b5 b ra rn rc s R t0 t1 t2 t6 t7 t8 t9 t10 t11 t12 t13 t14 t15 t16 t17 t18 t19 t20 t21 t22 t23 t24 t25 t26 t27 t28 t39 t40 t41 t42 ds) (g := 3) (rB1_none b3 b4 b5 b ra rn rc s R w) (rB1_steps b3 b4 b5 b ra rn rc s R w  c0 rc0 c1 rc1 c2 rc2 c3 rc3 hE) (fun l a w' hI hl => ?_) 13 _ _ _ (by decide) (by decide) ?_
  · have hI' := hI
    obtain ⟨j0, j1, j2, j3, j4, j5, j6, j7, j8, j9, x0, x1, x2, x3, x4, x5, x6, x7, x8, x9, rfl, rfl, hW, h0, h1, h2, h3, h4, h5, h6, h7, h8, h9, k2, k3, k4, k7, k8, k9⟩ := hI
    obtain ⟨d0, d1, d2, d3, d4, d5, d6, d7, d8, d9⟩ := left_all10_3 hl
    subst d0
    subst d1
    subst d2
    subst d3
    subst d4
    subst d5
    subst d6
    subst d7
    subst d8
    subst d9
    obtain rfl := h0 rfl
    obtain rfl := h1 rfl
    obtain rfl := h2 rfl
    obtain rfl := h3 rfl
    obtain rfl := h4 rfl
    obtain rfl := h5 rfl
    obtain rfl := h6 rfl
    obtain rfl := h7 rfl
    obtain rfl := h8 rfl
    have hw := h _ _ (h9 rfl)
    have hB : Region.seqB .any rB1O (rB1O.toList.drop 10).length 10 #[true, true, true, true, true, true, true, true, true, true, false, false, false] = true := by kernel_rfl
    have hlen : (rB1O.toList.drop 10).length = 3 := by kernel_rfl
    have := wpAny_of_seq (md := .any) (rB1O.toList.drop 10) 10 _ _ _ (fun j => by simp [List.getElem?_drop]) hB hw
    rw [hlen] at this
    exact this
  · exact ⟨false, false, false, false, false, false, false, false, false, false, t29, t30, t31, t32, t33, t34, t35, t36, t37, t38, rfl, rfl, fun _ => rfl, (fun h => by cases h), (fun h => by cases h), (fun h => by cases h), (fun h => by cases h), (fun h => by cases h), (fun h => by cases h), (fun h => by cases h), (fun h => by cases h), (fun h => by cases h), (fun h => by cases h), (fun h => by cases h), (fun h => by cases h), (fun h => by cases h), (fun h => by cases h), (fun h => by cases h), (fun h => by cases h)⟩
end Go.Proofs.YtmoihgniglomiaaDoor
