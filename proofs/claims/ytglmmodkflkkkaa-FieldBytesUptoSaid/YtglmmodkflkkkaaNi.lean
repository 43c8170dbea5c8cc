/- The moduli as the program hands them; the whole product of two numbers. No condition. -/
import Derived.Test.YtglmmodkflkkkaaNg
set_option linter.unusedVariables false
set_option linter.unusedSimpArgs false
set_option maxRecDepth 100000
namespace Go.Proofs.Ytglmmodkflkkkaa
open Go.RowKit Limbs

theorem nvP : nv mP = .agg #[.int .u64 18446744073709551615, .int .u64 4294967295, .int .u64 0, .int .u64 18446744069414584321] := by
  unfold nv num; rw [lbP.1, lbP.2.1, lbP.2.2.1, lbP.2.2.2]; rfl
theorem nvN : nv mN = .agg #[.int .u64 17562291160714782033, .int .u64 13611842547513532036, .int .u64 18446744073709551615, .int .u64 18446744069414584320] := by
  unfold nv num; rw [lbN.1, lbN.2.1, lbN.2.2.1, lbN.2.2.2]; rfl
set_option maxHeartbeats 4000000 in
theorem mod_any (m : Int) (w : World) : Calls Try.prog 16 #[.int .i64 m] w fun e w' => e = .returned (nv (md m)) ∧ Below w.heap.size w w' := by
  by_cases h : m = 0
  · subst h
    show Calls Try.prog 16 #[.int .i64 0] w fun e w' => e = .returned (nv mP) ∧ Below w.heap.size w w'
    rw [nvP]
    go_enter Try.func16, Try.ntmps16
    go_wp2_with fail
    go_returns
    exact ⟨rfl, by go_grown⟩
  · have e : md m = mN := by unfold md; rw [if_neg h]
    rw [e, nvN]
    have t : (m == 0) = false := by simpa using h
    clear e h
    go_enter Try.func16, Try.ntmps16
    go_wp2_with fail
    go_returns
    exact ⟨rfl, by go_grown⟩
end Go.Proofs.Ytglmmodkflkkkaa
