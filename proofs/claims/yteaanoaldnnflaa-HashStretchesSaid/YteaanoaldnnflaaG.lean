/- A block's numbers; the tables. Condition: a block of 64 bytes. -/
import Derived.Test.YteaanoaldnnflaaF
set_option linter.unusedVariables false
set_option linter.unusedSimpArgs false
namespace Go.Proofs.Yteaanoaldnnflaa
open Go.RowKit

theorem u75 : Try.prog.underlying 75 = some (.array 16 35) := by kernel_rfl
theorem u72 : Try.prog.underlying 72 = some (.array 64 35) := by kernel_rfl
theorem u46 : Try.prog.underlying 46 = some (.array 64 5) := by kernel_rfl
theorem i75 (l : List UInt32) (h : l.length = 16) : (Try.prog.info? 75).map (·.size) = some (ws l).size := by
  rw [ws_size, h]; kernel_rfl
theorem i72 (l : List UInt32) (h : l.length = 64) : (Try.prog.info? 72).map (·.size) = some (ws l).size := by
  rw [ws_size, h]; kernel_rfl
theorem i46 (l : List UInt8) (h : l.length = 64) : (Try.prog.info? 46).map (·.size) = some (bs l).size := by
  rw [bs_size, h]; kernel_rfl
theorem ws_one (l : List UInt32) : (ws l).all (·.oneCell') = true := by
  unfold ws
  rw [Array.all_eq_true_iff_forall_mem]
  intro x hx
  simp at hx
  obtain ⟨a, _, rfl⟩ := hx
  rfl
theorem bs_one (l : List UInt8) : (bs l).all (·.oneCell') = true := by
  unfold bs
  rw [Array.all_eq_true_iff_forall_mem]
  intro x hx
  simp at hx
  obtain ⟨a, _, rfl⟩ := hx
  rfl
theorem first_ws : ws firstL = #[.int .u32 1779033703, .int .u32 3144134277, .int .u32 1013904242, .int .u32 2773480762, .int .u32 1359893119, .int .u32 2600822924, .int .u32 528734635, .int .u32 1541459225] := by kernel_rfl

set_option maxHeartbeats 2000000 in
theorem first_any (w : World) :
    Calls Try.prog 17 #[] w fun e w' => e = .returned (.agg (ws firstL)) ∧ Below w.heap.size w w' := by
  rw [first_ws]
  go_enter Try.func17, Try.ntmps17
  go_wp2_with fail
  exact bodyPost_ret (v := .agg #[.int .u32 1779033703, .int .u32 3144134277, .int .u32 1013904242, .int .u32 2773480762, .int .u32 1359893119, .int .u32 2600822924, .int .u32 528734635, .int .u32 1541459225]) (by simp [results, Try.results17, go_sem]) rfl ⟨rfl, (Below.refl _ _).alloc (Nat.le_refl _) _⟩
theorem setRow_put {w : World} {b : Nat} {old cs : Array Value} {T : TypeId} {z : Nat × Nat} (h : w.heap[b]? = some (.cells old T z)) : (w.setRow b cs).heap[b]? = some (.cells cs T z) := by
  simp [World.setRow, Array.getElem?_modify, h]
theorem setRow_below {B b : Nat} {a w : World} {cs : Array Value} (h : Below B a w) (hB : B ≤ b) : Below B a (w.setRow b cs) := by
  refine h.trans ⟨rfl, rfl, rfl, by simp [World.setRow], fun k hk => ?_⟩
  simp only [World.setRow, Array.getElem?_modify]
  rw [if_neg (by omega)]
theorem kL_length : kL.length = 64 := by decide +kernel
set_option maxHeartbeats 2000000 in
set_option maxRecDepth 100000 in
theorem consts_any (w : World) :
    Calls Try.prog 41 #[] w fun e w' => e = .returned (.agg (ws kL)) ∧ Below w.heap.size w w' := by
  have HI := Lib.hid (i72 kL kL_length)
  go_enter Try.func41, Try.ntmps41
  go_wp2_with (first
    | (refine wpList_build rfl 72 _ rfl (by kernel_rfl) ?_; generalize hB : (Try.prog.built 72 _).getD #[] = cs; obtain rfl : cs = ws kL := (by rw [← hB]; kernel_rfl); clear hB)
    | (refine wpList_store_row rfl 72 (.tmp 0) (.tmp 1) rfl w.heap.size (ws kL) rfl rfl 72 _ (Go.heap_alloc_new w _) HI.out (by rw [ws_size, kL_length]; rfl) (ws_one _) ?_))
  refine bodyPost_ret (v := .agg (ws kL)) (results_cell_row (p := 0) (ty := 72) rfl _ _ w.heap.size 72 (ws kL) (0, 0) _ rfl (setRow_put (Go.heap_alloc_new w _)) u72 rfl HI.out) rfl ⟨rfl, setRow_below ((Below.refl _ _).alloc (Nat.le_refl _) _) (Nat.le_refl _)⟩
end Go.Proofs.Yteaanoaldnnflaa
