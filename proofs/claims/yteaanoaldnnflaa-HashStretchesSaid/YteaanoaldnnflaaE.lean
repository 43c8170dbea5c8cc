/- A state as text. Conditions: eight numbers. -/
import Derived.Test.YteaanoaldnnflaaD
set_option linter.unusedVariables false
namespace Go.Proofs.Yteaanoaldnnflaa
open Go.RowKit

/-- numbers, and bytes, as cells -/
def ws (l : List UInt32) : Array Value := (l.map fun x => Value.int .u32 (x.toNat : Int)).toArray
def bs (l : List UInt8) : Array Value := (l.map fun x => Value.int .u8 (x.toNat : Int)).toArray
theorem ws_size (l : List UInt32) : (ws l).size = l.length := by simp [ws]
theorem bs_size (l : List UInt8) : (bs l).size = l.length := by simp [bs]
theorem ws_get (l : List UInt32) (i : Nat) (h : i < l.length) : (ws l)[i]? = some (.int .u32 (l[i].toNat : Int)) := by simp [ws, h]
theorem bs_get (l : List UInt8) (i : Nat) (h : i < l.length) : (bs l)[i]? = some (.int .u8 (l[i].toNat : Int)) := by simp [bs, h]
theorem blk_cell {w : World} {b : Nat} {cs : Array Value} {T : TypeId} {z : Nat × Nat} (h : w.heap[b]? = some (.cells cs T z)) (o : Nat) : w.cell? ⟨b, o, none⟩ = cs[o]? := by
  rw [Lib.cell_of_heap h]

theorem i37 (l : List UInt32) (h : l.length = 8) : (Try.prog.info? 37).map (·.size) = some (ws l).size := by
  rw [ws_size, h]; kernel_rfl
theorem u37 : Try.prog.underlying 37 = some (.array 8 35) := by kernel_rfl
theorem run_index37 (cs : Array Value) (k : Nat) (hk : k < 8) (v : Value) (hv : cs[k]? = some v) (h1 : v.oneCell' = true) (w : World) : (Instr.index 37 (.agg cs) (.int .i64 (k : Int))).run Try.prog w = .ok v w := by
  have hz : (sizeOf 35).run Try.prog w = .ok 1 w := Try.sizeOf35 w
  unfold Instr.index
  simp [asIntOf, run_underlying u37 w, hk, hz, hv, part]
theorem textL_length (l : List UInt32) : (textL l).length = 4 * l.length := by
  induction l with
  | nil => rfl
  | cons x l ih => simp only [textL, List.flatMap_cons, List.length_append, List.length_cons] at ih ⊢; rw [ih, fourL_length]; omega
theorem textL_snoc (h : List UInt32) (k : Nat) (hk : k < h.length) : textL (h.take (k + 1)) = textL (h.take k) ++ fourL h[k] := by
  unfold textL
  rw [List.take_succ_eq_append_getElem hk, List.flatMap_append]
  simp
set_option maxHeartbeats 2000000 in
theorem text_any (h : List UInt32) (hl : h.length = 8) (w : World) :
    Calls Try.prog 20 #[.agg (ws h)] w fun e w' => e = .returned (.string ⟨(textL h).toArray⟩) ∧ Below w.heap.size w w' := by
  have HL := Lib.hid hl
  have HK := Lib.hid (show ((w.alloc (.cells (ws h) 37)).alloc (.cells #[Value.pointer none, Value.slice none 0 0] 51)).heap[w.heap.size]? = some (.cells (ws h) 37 (0, 0)) from by
    rw [Lib.alloc_old _ _ _ (by simp)]; exact Go.heap_alloc_new w (.cells (ws h) 37))
  clear hl
  go_enter Try.func20, Try.ntmps20
  go_wp2_with (with_reducible refine wpList_load_row rfl 37 (.tmp 1) rfl w.heap.size rfl 37 (ws h) (0, 0) (.array 8 35) HK.out u37 rfl (i37 h HL.out) ?_)
  go_loopw [7] (fun i wr => ∃ k : Nat, k ≤ 8 ∧ i = .int .i64 k ∧ Bd (w.heap.size + 1) (textL (h.take k)) wr ∧ Below w.heap.size w wr) (fun i _ => 8 - (intOf i).toNat)
  case atStart =>
    refine ⟨0, by omega, rfl, ?_, ((Below.refl _ _).alloc (Nat.le_refl _) _).alloc (by simp) _⟩
    have := Bd.start (w.alloc (.cells (ws h) 37))
    simpa [textL] using this
  case round =>
    obtain ⟨k, hk, rfl, hbd, hb⟩ := hrel
    have HB := Lib.hid hbd
    have HW := Lib.hid hb
    clear hbd hb HK
    by_cases hlt : k < 8
    · have hg := ws_get h k (by rw [HL.out]; exact hlt)
      have hix := run_index37 (ws h) k hlt _ hg rfl
      generalize hx : h[k]'(by rw [HL.out]; exact hlt) = x at hg hix
      have HX := Lib.hid hx
      clear hx hg
      have HF := Lib.hid (four_any x wr)
      have HS : Hid (textL (h.take (k + 1)) = textL (h.take k) ++ fourL x) := Lib.hid (by rw [textL_snoc h k (by rw [HL.out]; exact hlt), HX.out])
      have HN : Hid ((textL (h.take k)).length ≤ 32) := Lib.hid (by rw [textL_length, List.length_take]; omega)
      clear HX
      go_wp2_with fail
      refine HF.out.mono ?_
      rintro e w1 ⟨rfl, b1⟩
      have HW1 := Lib.hid (write_s (w.heap.size + 1) (textL (h.take k)) ⟨(fourL x).toArray⟩ w1 (HB.out.below b1) (by have := HN.out; rw [size_ba, fourL_length]; omega))
      have HB1 := Lib.hid (HW.out.trans (b1.mono HW.out.size))
      clear HF HB HW b1
      go_wp2_with fail
      refine HW1.out.mono ?_
      rintro e w2 ⟨rfl, hbd, hb2, _⟩
      have hB2 : Bd (w.heap.size + 1) (textL (h.take (k + 1))) w2 := by rw [HS.out]; exact hbd
      have hb2 := HB1.out.trans (hb2.mono (by omega))
      have HB2 := Lib.hid hB2
      have HW2 := Lib.hid hb2
      clear hbd hb2 HW1 HB1 HS hB2
      go_wp2_with fail
      go_roundw
      case rel => exact ⟨k + 1, by omega, by go_num, HB2.out, HW2.out⟩
      case measure => simp [intOf]; omega
    · have HS := Lib.hid (string_b (w.heap.size + 1) (textL (h.take k)) wr HB.out)
      have HE : Hid (textL (h.take k) = textL h) := Lib.hid (by rw [List.take_of_length_le (by rw [HL.out]; omega)])
      rw [HE.out] at HS
      go_wp2_with fail
      refine HS.out.mono ?_
      rintro e w1 ⟨rfl, b1⟩
      have HB1 := Lib.hid (HW.out.trans (b1.mono (by omega)))
      clear HS HB HW b1
      go_wp2_with fail
      go_ret
      exact ⟨rfl, HB1.out⟩
end Go.Proofs.Yteaanoaldnnflaa
