/- HashMacs: the walk. Condition: at most 2^47 bytes less 256. -/
import Derived.Test.YteaanoaldnnflaaPm
import Derived.Test.YteaanoaldnnflaaS
set_option linter.unusedVariables false
set_option linter.unusedSimpArgs false
namespace Go.Proofs.Yteaanoaldnnflaa
open Go.RowKit Go.Sort

namespace hashMacs
set_option maxHeartbeats 4000000 in
set_option maxRecDepth 100000 in
theorem walk (key s : List UInt8) (w : World) (hk : key.length ≤ 140737488355200) (hs : s.length ≤ 140737488355100) :
    Calls Try.prog 4 #[.string ⟨key.toArray⟩, .string ⟨s.toArray⟩] w fun e w' => e = .returned (.bool true) ∧ Below w.heap.size w w' := by
  have H1 := Lib.hid (Mac_any key s (Nat.le_trans hk (by decide)) (Nat.le_trans hs (by decide)))
  have H2 := Lib.hid (Mac_ref key s hk hs)
  clear hk hs
  go_enter Try.func4, Try.ntmps4
  go_wp2_with fail
  refine (awake_any _).mono ?_
  rintro e w1 ⟨rfl, b1⟩
  have B1 := Lib.hid b1
  clear b1
  go_wp2_with fail
  refine (H1.out _).mono ?_
  rintro e w2 ⟨rfl, b2⟩
  have B2 := Lib.hid (B1.out.trans (b2.mono B1.out.size))
  clear b2 B1 H1
  go_wp2_with fail
  refine (H2.out _).mono ?_
  rintro e w3 ⟨rfl, b3⟩
  have B3 := Lib.hid (B2.out.trans (b3.mono B2.out.size))
  clear b3 B2 H2
  go_wp2_with fail
  go_ret
  exact ⟨rfl, B3.out⟩
end hashMacs
end Go.Proofs.Yteaanoaldnnflaa
