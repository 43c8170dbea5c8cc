/- What the document's own Same answers of two slices that read as the same pairs: that they are the same; it makes draws alone. Condition: at most 1073741824 pairs. -/
import Derived.Test.YtlifnfchemiipaaDoorP
import Derived.Laws.StructEq
set_option linter.unusedSimpArgs false
namespace Go.Proofs.YtlifnfchemiipaaDoor
open Go.RowKit

set_option maxHeartbeats 2000000 in
set_option maxRecDepth 100000 in
theorem same_any (v v' : Value) (l : List (List UInt8 × List UInt8)) (w : World) (hP : PartsIn w v l) (hQ : PartsIn w v' l) (hn : l.length ≤ 1073741824) :
    Calls Tryd.prog 28 #[v, v'] w fun e w' => e = .returned (.bool true) ∧ Below w.heap.size w w' := by
  obtain ⟨A, cap, rfl, hc⟩ := hP
  obtain ⟨A', cap', rfl, hc'⟩ := hQ
  by_cases hl : l = []
  · subst hl
    go_enter Tryd.func28, Tryd.ntmps28
    go_wp2
    go_loopw [5] (fun i wr => i = .int .i64 0 ∧ wr = w) (fun _ _ => 0)
    case atStart => exact ⟨rfl, rfl⟩
    case round =>
      obtain ⟨rfl, rfl⟩ := hrel
      go_wp2
      go_ret
      exact ⟨rfl, Below.refl _ _⟩
  obtain ⟨b, off, rfl, hlt, hc⟩ := hc hl
  obtain ⟨b', off', rfl, hlt', hc'⟩ := hc' hl
  clear hl
  go_enter Tryd.func28, Tryd.ntmps28
  go_wp2
  go_loopw [5] (fun i wr => ∃ k : Nat, k ≤ l.length ∧ i = .int .i64 k ∧ Below w.heap.size w wr) (fun i _ => l.length - (intOf i).toNat)
  case atStart => exact ⟨0, by omega, rfl, Below.refl _ _⟩
  case round =>
    obtain ⟨k, hk, rfl, hb⟩ := hrel
    by_cases hlk : k < l.length
    · have hcc := hc.below hlt hb
      have hcc' := hc'.below hlt' hb
      obtain ⟨c0, c1⟩ := hcc k hlk
      obtain ⟨d0, d1⟩ := hcc' k hlk
      unfold strV at c0 c1 d0 d1
      clear hcc hc hcc' hc'
      have hki : (k : Int) < (l.length : Int) := by omega
      go_wp2_with (fail)
      go_quiet (fail)
      rename_i nq
      have hb2 := below_drewN hb nq
      go_wp2_with (fail)
      go_roundw
      case rel => exact ⟨k + 1, by omega, by go_num, hb2⟩
      case measure => simp [intOf]; omega
    · go_wp2
      go_ret
      exact ⟨rfl, hb⟩
end Go.Proofs.YtlifnfchemiipaaDoor
