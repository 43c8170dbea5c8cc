/- What the laws' 'awake' answers: true. Condition: the library's table. -/
import Derived.Test.YteaanoaldnnflaaDoorOg
set_option linter.unusedVariables false
set_option linter.unusedSimpArgs false
namespace Go.Proofs.YteaanoaldnnflaaDoor
open Go.RowKit Go.Sort

def keyS : List UInt8 := [49, 50, 51, 52, 53, 54, 55, 56, 57, 48, 49, 50, 51, 52, 53, 54, 55, 56, 57, 48, 49, 50, 51, 52, 53, 54, 55, 56, 57, 48, 49, 50]
theorem code1 : codeL keyS 1 = [49, 49, 57, 50, 52, 54] := by decide +kernel
theorem code2 : decide (codeL keyS 2 = [49, 49, 57, 50, 52, 54]) = false := by decide +kernel
theorem code3 : decide (codeL keyS 3 = [49, 49, 57, 50, 52, 54]) = false := by decide +kernel
theorem code37 : codeL keyS 37037036 = [48, 56, 52, 55, 55, 52] := by decide +kernel
theorem find1 : findL keyS [49, 49, 57, 50, 52, 54] 2 1 = (1, true) := by
  rw [findL, if_neg (by decide), show downL (2 + 1) (max (2 - 1) 0) = [3, 2, 1] from by decide +kernel]
  simp only [List.find?, code3, code2, code1, decide_true]
theorem find0 : findL keyS [49, 49, 57, 50, 52, 54] (-1) 1 = (0, false) := by
  rw [findL, if_pos (by decide)]

set_option maxHeartbeats 4000000 in
set_option maxRecDepth 100000 in
theorem awake_any (w : World) (hT : Tb w) : Calls Tryd.prog 8 #[] w fun e w' => e = .returned (.bool true) ∧ Below w.heap.size w w' := by
  have HT := Lib.hid hT
  have H1 := Lib.hid (fun w h => find_any keyS [49, 49, 57, 50, 52, 54] (by decide) (by decide) 2 1 w h)
  have H2 := Lib.hid (fun w h => find_any keyS [49, 49, 57, 50, 52, 54] (by decide) (by decide) (-1) 1 w h)
  have H3 := Lib.hid (fun w h => code_any keyS (by decide) 1 (by decide) (by decide) w h)
  have H4 := Lib.hid (fun w h => code_any keyS (by decide) 37037036 (by decide) (by decide) w h)
  rw [find1] at H1
  rw [find0] at H2
  rw [code1] at H3
  rw [code37] at H4
  clear hT
  go_enter Tryd.func8, Tryd.ntmps8
  go_wp2_with fail
  refine (H1.out _ HT.out).mono ?_
  rintro e w1 ⟨rfl, b1⟩
  have B1 := Lib.hid b1
  clear b1 H1
  go_wp2_with fail
  refine (H2.out _ (HT.out.below B1.out)).mono ?_
  rintro e w2 ⟨rfl, b2⟩
  have B2 := Lib.hid (B1.out.trans (b2.mono B1.out.size))
  clear b2 B1 H2
  go_wp2_with fail
  refine (H3.out _ (HT.out.below B2.out)).mono ?_
  rintro e w3 ⟨rfl, b3⟩
  have B3 := Lib.hid (B2.out.trans (b3.mono B2.out.size))
  clear b3 B2 H3
  go_wp2_with fail
  refine (H4.out _ (HT.out.below B3.out)).mono ?_
  rintro e w4 ⟨rfl, b4⟩
  have B4 := Lib.hid (B3.out.trans (b4.mono B3.out.size))
  clear b4 B3 H4
  go_wp2_with fail
  go_ret
  exact ⟨rfl, B4.out⟩
end Go.Proofs.YteaanoaldnnflaaDoor
