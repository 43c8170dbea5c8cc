/- WalSums: the sum of any bytes is what the document reckons. Condition: the program's table. -/
import Derived.Test.YtmoihgniglomiaaDoorZXa
set_option linter.unusedVariables false
set_option linter.unusedSimpArgs false
set_option maxRecDepth 100000
namespace Go.Proofs.YtmoihgniglomiaaDoor
open Go.RowKit Go.Sort

set_option maxHeartbeats 8000000 in
theorem sums_walk (s : ByteArray) (hs : s.data.toList.length ≤ 140737488351232) (w : World) (hT : Tb w) :
    Calls Tryd.prog 3 #[.string s] w fun e w' => e = .returned (.bool true) ∧ Below w.heap.size w w' := by
  have HS := Lib.hid (sum_any s.data.toList (by omega) w hT)
  have HR := Lib.hid (rsum_any s.data.toList (by omega) w)
  have HF := Lib.hid (fixed_any w hT)
  rw [ba_eta] at HS HR
  clear hT hs
  generalize Crc.sum s.data.toList = n at *
  go_enter Tryd.func3, Tryd.ntmps3
  go_wp2_with fail
  refine HS.out.mono ?_
  rintro e w1 ⟨rfl, rfl⟩
  go_wp2_with fail
  refine HR.out.mono ?_
  rintro e w1 ⟨rfl, rfl⟩
  go_wp2_with fail
  refine HF.out.mono ?_
  rintro e w1 ⟨rfl, hb⟩
  have HB := Lib.hid hb
  clear hb
  go_wp2_with fail
  go_ret
  exact ⟨rfl, HB.out⟩
end Go.Proofs.YtmoihgniglomiaaDoor
