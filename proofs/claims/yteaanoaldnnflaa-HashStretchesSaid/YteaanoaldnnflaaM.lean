/- The sum of any bytes. Condition: at most 2^48 bytes. -/
import Derived.Test.YteaanoaldnnflaaL
set_option linter.unusedVariables false
set_option linter.unusedSimpArgs false
namespace Go.Proofs.Yteaanoaldnnflaa
open Go.RowKit Go.Sort

theorem behind_length (n : Nat) : (behindL n).length = 9 + (119 - n % 64) % 64 := by
  unfold behindL
  simp [fourL_length]; omega
theorem sum_split (s : List UInt8) : ∃ m, (s.drop (64 * (s.length / 64)) ++ behindL s.length).length = 64 * m ∧ m ≤ 2 ∧ sumL s = textL (thrL m (thrL (s.length / 64) firstL (s.take (64 * (s.length / 64)))) (s.drop (64 * (s.length / 64)) ++ behindL s.length)) := by
  refine ⟨(s.length + 72) / 64 - s.length / 64, ?_, by omega, ?_⟩
  · rw [List.length_append, List.length_drop, behind_length]; omega
  · rw [thr_append _ _ _ _ _ (by rw [List.length_take]; omega), ← List.append_assoc, List.take_append_drop, sumL, show s.length / 64 + ((s.length + 72) / 64 - s.length / 64) = (s.length + 72) / 64 from by omega]
theorem rg {w : World} {f : FuncId} {args : Array Value} {v : Value} (h : ∀ w', Calls Try.prog f args w' fun e w'' => e = .returned v ∧ Below w'.heap.size w' w'') (d : Nat) (os : Array Obj) :
    Calls Try.prog f args (grow (redrawn w d) os) fun e w'' => e = .returned v ∧ ∃ p : Regrown, w'' = grow (redrawn w p.d) p.os := Calls.regrown_of (h _)

set_option maxHeartbeats 4000000 in
set_option maxRecDepth 100000 in
theorem sum_any (s : List UInt8) (hs : s.length ≤ 281474976710656) (w : World) :
    Calls Try.prog 10 #[.string ⟨s.toArray⟩] w fun e w' => e = .returned (.string ⟨(sumL s).toArray⟩) ∧ Below w.heap.size w w' := by
  obtain ⟨m, hm, hm2, hsum⟩ := sum_split s
  obtain ⟨W, hW⟩ : ∃ W, W = 64 * (s.length / 64) := ⟨_, rfl⟩
  have eW : (s.length : Int) - (s.length : Int) % 64 = (W : Int) := by omega
  have hsz := size_ba s
  have hsl : (s.length : Int) ≤ 281474976710656 := by omega
  have hWs : (W : Int) ≤ (s.length : Int) := by omega
  have hWs' : W ≤ s.length := by omega
  have hex1 : (⟨s.toArray⟩ : ByteArray).extract 0 W = ⟨(s.take W).toArray⟩ := by simpa using ext_ba s 0 W
  have hex2 : (⟨s.toArray⟩ : ByteArray).extract W s.length = ⟨(s.drop W).toArray⟩ := by
    have := ext_ba s W (s.length - W)
    rwa [show W + (s.length - W) = s.length from by omega, List.take_of_length_le (by rw [List.length_drop]; omega)] at this
  have HT1 := Lib.hid (rg (w := w) (thr_any (s.length / 64) firstL rfl (s.take W) (by rw [List.length_take]; omega) (by rw [List.length_take]; omega)))
  rw [← hW] at hm hsum
  have HT2 := Lib.hid (rg (w := w) (thr_any m (thrL (s.length / 64) firstL (s.take W)) (thr_length _ _ _ rfl) (s.drop W ++ behindL s.length) hm (by omega)))
  have HX := Lib.hid (rg (w := w) (text_any (thrL m (thrL (s.length / 64) firstL (s.take W)) (s.drop W ++ behindL s.length)) (thr_length _ _ _ (thr_length _ _ _ rfl))))
  have HF := Lib.hid (rg (w := w) first_any)
  have HB := Lib.hid (rg (w := w) (behind_any s.length hs))
  have HS := Lib.hid hsum
  have happ := app_ba (s.drop W) (behindL s.length)
  have hl1 : (s.drop W).length ≤ 64 := by rw [List.length_drop]; omega
  have hl2 : (behindL s.length).length ≤ 128 := by rw [behind_length]; omega
  rw [← HS.out] at HX
  generalize thrL m (thrL (s.length / 64) firstL (s.take W)) (s.drop W ++ behindL s.length) = v2 at HT2 HX
  generalize thrL (s.length / 64) firstL (s.take W) = v1 at HT1 HT2
  generalize s.drop W ++ behindL s.length = r at happ HT2
  generalize s.drop W = p at hex2 happ hl1
  generalize s.take W = q at hex1 HT1
  generalize behindL s.length = bh at happ hl2 HB
  clear hm hsum hs HS hW hm2
  go_enter Try.func10, Try.ntmps10
  go_wp2_with fail
  refine wp_region_quiet_below mixed (by kernel_rfl) ?_
  iterate 4 go_big_quiet_step (exact HF.out _ _)
  go_big_quiet_step (exact HT1.out _ _)
  iterate 7 go_big_quiet_step (exact HB.out _ _)
  go_big_quiet_step (exact HT2.out _ _)
  iterate 2 go_big_quiet_step (exact HX.out _ _)
  refine wpQuiet_nil ?_
  intro _ hw'
  obtain ⟨⟨dq, osq⟩, hw''⟩ := hw'
  subst hw''
  have HQ := Lib.hid (below_regrown w dq osq)
  generalize grow (redrawn w dq) osq = wq at HQ ⊢
  clear HF HT1 HB HT2 HX
  go_wp2_with fail
  go_ret
  exact ⟨rfl, HQ.out⟩
end Go.Proofs.Yteaanoaldnnflaa
