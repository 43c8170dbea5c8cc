/- HashSums: the walk. Condition: at most 2^47 bytes less 256. -/
import Derived.Test.YteaanoaldnnflaaPm
import Derived.Test.YteaanoaldnnflaaS
set_option linter.unusedVariables false
set_option linter.unusedSimpArgs false
namespace Go.Proofs.Yteaanoaldnnflaa
open Go.RowKit Go.Sort

set_option maxHeartbeats 1000000 in
theorem Sum_ref (s : List UInt8) (hs : s.length ≤ 140737488355200) (w : World) :
    Calls Try.prog 11 #[.string ⟨s.toArray⟩] w fun e w' => e = .returned (.string ⟨(sumL s).toArray⟩) ∧ Below w.heap.size w w' := by
  have HS := Lib.hid hs
  clear hs
  go_enter Try.func11, Try.ntmps11
  go_wp2_with fail
  refine (keys_k _).mono ?_
  rintro e w1 ⟨⟨v, rfl, hk⟩, b1⟩
  have HK := Lib.hid hk
  have B1 := Lib.hid b1
  clear hk b1
  go_wp2_with fail
  refine (sumK s HS.out v _ HK.out).mono ?_
  rintro e w2 ⟨rfl, b2⟩
  have B2 := Lib.hid (B1.out.trans (b2.mono B1.out.size))
  clear b2 B1
  go_wp2_with fail
  go_ret
  exact ⟨rfl, B2.out⟩

namespace hashSums
set_option maxHeartbeats 4000000 in
set_option maxRecDepth 100000 in
theorem walk (s : List UInt8) (w : World) (hs : s.length ≤ 140737488355200) :
    Calls Try.prog 3 #[.string ⟨s.toArray⟩] w fun e w' => e = .returned (.bool true) ∧ Below w.heap.size w w' := by
  have H1 := Lib.hid (sum_any s (Nat.le_trans hs (by decide)))
  have H2 := Lib.hid (Sum_ref s hs)
  clear hs
  go_enter Try.func3, Try.ntmps3
  go_wp2_with fail
  refine (awake_any _).mono ?_
  rintro e w1 ⟨rfl, b1⟩
  have B1 := Lib.hid b1
  clear b1
  go_wp2_with fail
  refine (H1.out _).mono ?_
  rintro e w2 ⟨rfl, b2⟩
  have B2 := Lib.hid (B1.out.trans (b2.mono B1.out.size))
  clear b2 B1 H1
  go_wp2_with fail
  refine (H2.out _).mono ?_
  rintro e w3 ⟨rfl, b3⟩
  have B3 := Lib.hid (B2.out.trans (b3.mono B2.out.size))
  clear b3 B2 H2
  go_wp2_with fail
  go_ret
  exact ⟨rfl, B3.out⟩
end hashSums
end Go.Proofs.Yteaanoaldnnflaa
