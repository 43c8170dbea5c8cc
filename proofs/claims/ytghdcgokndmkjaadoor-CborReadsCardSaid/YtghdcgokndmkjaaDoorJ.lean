/- What rises and pairsMayBe answer. Conditions: the sizes of the reading. -/
import Derived.Test.YtghdcgokndmkjaaDoorI
set_option linter.unusedVariables false
set_option linter.unusedSimpArgs false
namespace Go.Proofs.YtghdcgokndmkjaaDoor
open Go.RowKit Go.Sort

set_option maxHeartbeats 1000000 in
set_option maxRecDepth 100000 in
theorem rises_any (s t : It) (A A' : Option Addr) (c c' : Nat) (w : World) (hs : Sz s) (ht : Sz t) (hls : s.list.length ≤ 140737488355328) (hlt : t.list.length ≤ 140737488355328) :
    Calls Tryd.prog 55 #[itV s A c, itV t A' c'] w fun e w' => e = .returned (.bool (risesB s t)) ∧ Below w.heap.size w w' := by
  have hc0 := fun w' => headOf_any s A c w' hs hls
  have hc1 := fun w' => headOf_any t A' c' w' ht hlt
  have hc2 := fun w' => compare_any (headOf s) (headOf t) w'
  unfold itV at hc0 hc1 ⊢
  have HX := Lib.hid (fun w' => compare_any s.text t.text w')
  clear hs ht hls hlt
  generalize hk : Lib.compareBytes (headOf s) (headOf t) = C at hc2
  have hr0 : ∀ (wr : World) d os, Calls Tryd.prog 35 #[.agg #[.int .i64 s.kind, .int .i64 s.num, .string ⟨s.text.toArray⟩, .slice A s.list.length c]] (grow (redrawn wr d) os) fun e w'' => e = .returned (.string ⟨(headOf s).toArray⟩) ∧ ∃ p : Regrown, w'' = grow (redrawn wr p.d) p.os := fun wr d os => Calls.regrown_of (hc0 _)
  have hr1 : ∀ (wr : World) d os, Calls Tryd.prog 35 #[.agg #[.int .i64 t.kind, .int .i64 t.num, .string ⟨t.text.toArray⟩, .slice A' t.list.length c']] (grow (redrawn wr d) os) fun e w'' => e = .returned (.string ⟨(headOf t).toArray⟩) ∧ ∃ p : Regrown, w'' = grow (redrawn wr p.d) p.os := fun wr d os => Calls.regrown_of (hc1 _)
  have hr2 : ∀ (wr : World) d os, Calls Tryd.prog 58 #[.string ⟨(headOf s).toArray⟩, .string ⟨(headOf t).toArray⟩] (grow (redrawn wr d) os) fun e w'' => e = .returned (.int .i64 C) ∧ ∃ p : Regrown, w'' = grow (redrawn wr p.d) p.os := fun wr d os => Calls.regrown_of (hc2 _)
  have H0 := Lib.hid hr0
  have H1 := Lib.hid hr1
  have H2 := Lib.hid hr2
  clear hc0 hc1 hc2 hr0 hr1 hr2
  have HS : Hid (risesB s t = if C = 0 then decide (s.kind = 2) && decide (s.text < t.text) else decide (C < 0)) := Lib.hid (by
    unfold risesB
    by_cases e : headOf s = headOf t
    · rw [if_pos e]
      have : C = 0 := by rw [← hk, e]; exact cmp_self _
      rw [if_pos this]
    · rw [if_neg e]
      have : C ≠ 0 := by rw [← hk]; exact cmp_ne _ _ e
      rw [if_neg this, ← hk, cmp_lt])
  clear hk
  have h2w := box2 (Below.refl (w.heap.size + 2) ((w.alloc (.cells #[.int .i64 s.kind, .int .i64 s.num, .string ⟨s.text.toArray⟩, .slice A s.list.length c] 24)).alloc (.cells #[.int .i64 t.kind, .int .i64 t.num, .string ⟨t.text.toArray⟩, .slice A' t.list.length c'] 24)))
  obtain ⟨q0, q1, hbw, hbs⟩ := h2w
  have HB0 := Lib.hid q0
  have HB1 := Lib.hid q1
  have HBW := Lib.hid hbw
  clear q0 q1 hbw hbs
  go_enter Tryd.func55, Tryd.ntmps55
  go_wp2_with fail
  generalize (w.alloc (.cells #[.int .i64 s.kind, .int .i64 s.num, .string ⟨s.text.toArray⟩, .slice A s.list.length c] 24)).alloc (.cells #[.int .i64 t.kind, .int .i64 t.num, .string ⟨t.text.toArray⟩, .slice A' t.list.length c'] 24) = w2 at HB0 HB1 HBW ⊢
  have a0 := cellOf HB0.out 0
  have a1 := cellOf HB0.out 1
  have a2 := cellOf HB0.out 2
  have a3 := cellOf HB0.out 3
  have b0 := cellOf HB1.out 0
  have b1 := cellOf HB1.out 1
  have b2 := cellOf HB1.out 2
  have b3 := cellOf HB1.out 3
  simp at a0 a1 a2 a3 b0 b1 b2 b3
  have ka0 := cell_regrown a0
  have ka1 := cell_regrown a1
  have ka2 := cell_regrown a2
  have ka3 := cell_regrown a3
  have kb0 := cell_regrown b0
  have kb1 := cell_regrown b1
  have kb2 := cell_regrown b2
  have kb3 := cell_regrown b3
  refine wp_region_quiet_below mixed (by kernel_rfl) ?_
  repeat (quiet_step (first | (with_reducible exact H0.out _ _ _) | (with_reducible exact H1.out _ _ _) | (with_reducible exact H2.out _ _ _)))
  refine wpQuiet_nil ?_
  intro _ hw'
  obtain ⟨⟨dq, osq⟩, hw''⟩ := hw'
  subst hw''
  have d0 := ka0 dq osq
  have d2 := ka2 dq osq
  have e2 := kb2 dq osq
  have hb' := HBW.out.trans ((below_regrown w2 dq osq).mono HBW.out.size)
  clear ka0 ka1 ka2 ka3 kb0 kb1 kb2 kb3 a0 a1 a2 a3 b0 b1 b2 b3 H0 H1 H2
  generalize grow (redrawn w2 dq) osq = w3 at hb' d0 d2 e2 ⊢
  have HB := Lib.hid hb'
  clear hb'
  by_cases hc : C = 0
  · subst hc
    by_cases hk2 : s.kind = 2
    · have f2 : (s.kind == 2) = true := by simp [hk2]
      have HF : Hid (risesB s t = decide (Lib.compareBytes s.text t.text < 0)) := Lib.hid (by rw [HS.out, if_pos rfl, cmp_lt]; simp [hk2])
      clear hk2
      go_wp2_with fail
      refine (HX.out _).mono ?_
      rintro e w' ⟨rfl, hb⟩
      have hb2 := HB.out.trans (hb.mono HB.out.size)
      generalize Lib.compareBytes s.text t.text = D at HF ⊢
      go_wp2_with fail
      go_ret
      exact ⟨by rw [HF.out]; rfl, hb2⟩
    · have f2 : (s.kind == 2) = false := by simp [hk2]
      have HF : Hid (risesB s t = false) := Lib.hid (by rw [HS.out, if_pos rfl]; simp [hk2])
      clear hk2
      go_wp2_with fail
      go_ret
      exact ⟨by rw [HF.out]; rfl, HB.out⟩
  · have f1 : (C == 0) = false := by simp [hc]
    have HF : Hid (risesB s t = decide (C < 0)) := Lib.hid (by rw [HS.out, if_neg hc])
    clear hc
    go_wp2_with fail
    go_ret
    exact ⟨by rw [HF.out]; rfl, HB.out⟩
end Go.Proofs.YtghdcgokndmkjaaDoor
