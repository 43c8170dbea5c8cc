/- A key as one block. Condition: at most 2^48 bytes. -/
import Derived.Test.YteaanoaldnnflaaM
import Derived.Lib.SlBuf
import Derived.Lib.BufferWrite
set_option linter.unusedVariables false
set_option linter.unusedSimpArgs false
namespace Go.Proofs.Yteaanoaldnnflaa
open Go.RowKit Go.Sort

theorem sum_length (s : List UInt8) : (sumL s).length = 32 := by
  unfold sumL
  rw [textL_length, thr_length _ _ _ rfl]
theorem fill_length (key : List UInt8) : (fillL key).length = 64 := by
  unfold fillL
  by_cases h : 64 < key.length
  · rw [if_pos h, List.length_append, sum_length, List.length_replicate]
  · rw [if_neg h, List.length_append, List.length_replicate]; omega
theorem s5 : (Try.prog.info? 5).map (·.size) = some 1 := by kernel_rfl
theorem copy_fill (K : List UInt8) (n : Nat) : ((bs (List.replicate n 0)).toList.take 0 ++ Lib.byteCells K ++ (bs (List.replicate n 0)).toList.drop (0 + K.length)).toArray = bs (K ++ List.replicate (n - K.length) 0) := by
  simp [bs, Lib.byteCells]

set_option maxHeartbeats 4000000 in
set_option maxRecDepth 100000 in
theorem fill_short (key : List UInt8) (h : key.length ≤ 64) (w : World) :
    Calls Try.prog 24 #[.string ⟨key.toArray⟩] w fun e w' => e = .returned (.agg (bs (key ++ List.replicate (64 - (key).length) 0))) ∧ Below w.heap.size w w' := by
  have hsz := size_ba key
  have hl : ¬ (64 < key.length) := by omega
  have HKL := Lib.hid h
  go_enter Try.func24, Try.ntmps24
  go_upto_region 4 with (fail)
  generalize hw2 : World.alloc _ _ = w2
  have HK2 : Hid (w2.heap[w.heap.size + 1]? = some (.cells (bs (List.replicate 64 0)) 46 (0, 0))) := Lib.hid (by rw [← hw2]; exact (alloc2b w _ _).trans (by kernel_rfl))
  have HR2 : Hid (∃ old : Array Value, w2.heap[w.heap.size]? = some (.cells old 46 (0, 0)) ∧ old.size = 64) := Lib.hid ⟨_, by rw [← hw2]; exact alloc2a w _ _, by rfl⟩
  have HB2 : Hid (Below w.heap.size w w2) := Lib.hid (by rw [← hw2]; exact ((Below.refl _ _).alloc (Nat.le_refl _) _).alloc (by simp) _)
  have HLT : Hid (w.heap.size < w.heap.size + 1) := Lib.hid (by omega)
  clear hw2
  have HC := Lib.hid (Lib.run_copy_row_string (P := Try.prog) w2 33 9 3 5 (w.heap.size + 1) 0 64 64 ⟨(key).toArray⟩ (bs (List.replicate 64 0)) 46 Try.underlying33 s5 HK2.out (by rw [size_ba]; exact HKL.out) (by rw [size_ba, bs_size, List.length_replicate]; have := HKL.out; omega))
  rw [show (⟨(key).toArray⟩ : ByteArray).data.toList = key from rfl, size_ba, copy_fill (key) 64] at HC
  have HF : Hid ((key ++ List.replicate (64 - (key).length) (0 : UInt8)).length = 64) := Lib.hid (by rw [List.length_append, List.length_replicate]; have := HKL.out; omega)
  generalize hf : key ++ List.replicate (64 - (key).length) (0 : UInt8) = f at HC HF
  have HFE := Lib.hid hf
  clear hf
  go_wp2_with fail
  rw [HC.out]
  simp only [Result.andThen]
  rw [Oper.upon_value]
  have HK3 : Hid ((w2.setRow (w.heap.size + 1) (bs f)).heap[w.heap.size + 1]? = some (.cells (bs f) 46 (0, 0))) := Lib.hid (setRow_put HK2.out)
  obtain ⟨old, ho1, ho2⟩ := HR2.out
  have HO1 : Hid ((w2.setRow (w.heap.size + 1) (bs f)).heap[w.heap.size]? = some (.cells old 46 (0, 0))) := Lib.hid ((setRow_other _ _ _ _ (by have := HLT.out; omega)).trans ho1)
  have HO2 := Lib.hid (show old.size = (bs f).size from by rw [bs_size, HF.out]; exact ho2)
  have HB3 := Lib.hid (setRow_below (cs := bs f) HB2.out (Nat.le_of_lt HLT.out))
  clear HC HR2 HK2 HB2 ho1 ho2
  generalize w2.setRow (w.heap.size + 1) (bs f) = w3 at HK3 HO1 HB3 ⊢
  go_wp2_with (first
    | (refine wpList_load_row rfl 46 (.tmp 3) rfl (w.heap.size + 1) rfl 46 (bs f) (0, 0) _ HK3.out u46 rfl (i46 _ HF.out) ?_)
    | (refine wpList_store_row rfl 46 (.tmp 2) (.tmp 12) rfl w.heap.size (bs f) rfl rfl 46 old HO1.out (i46 _ HF.out) HO2.out (bs_one _) ?_))
  exact bodyPost_ret (v := .agg (bs f)) (results_cell_row (p := 2) (ty := 46) rfl _ _ w.heap.size 46 (bs f) (0, 0) _ rfl (setRow_put HO1.out) u46 rfl (i46 _ HF.out)) rfl ⟨by rw [HFE.out], setRow_below HB3.out (Nat.le_refl _)⟩

set_option maxHeartbeats 4000000 in
set_option maxRecDepth 100000 in
theorem fill_long (key : List UInt8) (h : 64 < key.length) (hs : key.length ≤ 281474976710656) (w : World) :
    Calls Try.prog 24 #[.string ⟨key.toArray⟩] w fun e w' => e = .returned (.agg (bs (sumL key ++ List.replicate (64 - (sumL key).length) 0))) ∧ Below w.heap.size w w' := by
  have hsz := size_ba key
  have HS := Lib.hid (sum_any key hs)
  have HKL : Hid ((sumL key).length ≤ 64) := Lib.hid (by rw [sum_length]; omega)
  clear hs
  go_enter Try.func24, Try.ntmps24
  go_wp2_with fail
  generalize hw0 : World.alloc w _ = w0
  have HR0 : Hid (∃ old : Array Value, w0.heap[w.heap.size]? = some (.cells old 46 (0, 0)) ∧ old.size = 64) := Lib.hid ⟨_, by rw [← hw0]; exact Go.heap_alloc_new w _, by rfl⟩
  have HB0 : Hid (Below w.heap.size w w0) := Lib.hid (by rw [← hw0]; exact (Below.refl _ _).alloc (Nat.le_refl _) _)
  have HZ0 : Hid (w.heap.size < w0.heap.size) := Lib.hid (by rw [← hw0]; simp)
  clear hw0
  refine (HS.out _).mono ?_
  rintro e w1 ⟨rfl, b1⟩
  have HR1 : Hid (∃ old : Array Value, w1.heap[w.heap.size]? = some (.cells old 46 (0, 0)) ∧ old.size = 64) := Lib.hid (by
    obtain ⟨old, h1, h2⟩ := HR0.out
    exact ⟨old, (b1.block _ HZ0.out).trans h1, h2⟩)
  have HB1 := Lib.hid (HB0.out.trans (b1.mono HB0.out.size))
  have HZ1 := Lib.hid (Nat.lt_of_lt_of_le HZ0.out b1.size)
  clear b1 HS HR0 HB0 HZ0
  go_upto_region 4 with (fail)
  generalize hw2 : World.alloc _ _ = w2
  have HK2 : Hid (w2.heap[w1.heap.size]? = some (.cells (bs (List.replicate 64 0)) 46 (0, 0))) := Lib.hid (by rw [← hw2]; exact (Go.heap_alloc_new w1 _).trans (by kernel_rfl))
  have HR2 : Hid (∃ old : Array Value, w2.heap[w.heap.size]? = some (.cells old 46 (0, 0)) ∧ old.size = 64) := Lib.hid (by
    obtain ⟨old, h1, h2⟩ := HR1.out
    exact ⟨old, by rw [← hw2, Lib.alloc_old _ _ _ HZ1.out]; exact h1, h2⟩)
  have HB2 : Hid (Below w.heap.size w w2) := Lib.hid (by rw [← hw2]; exact HB1.out.alloc (Nat.le_of_lt HZ1.out) _)
  have HLT : Hid (w.heap.size < w1.heap.size) := Lib.hid HZ1.out
  clear hw2
  have HC := Lib.hid (Lib.run_copy_row_string (P := Try.prog) w2 33 9 3 5 (w1.heap.size) 0 64 64 ⟨(sumL key).toArray⟩ (bs (List.replicate 64 0)) 46 Try.underlying33 s5 HK2.out (by rw [size_ba]; exact HKL.out) (by rw [size_ba, bs_size, List.length_replicate]; have := HKL.out; omega))
  rw [show (⟨(sumL key).toArray⟩ : ByteArray).data.toList = sumL key from rfl, size_ba, copy_fill (sumL key) 64] at HC
  have HF : Hid ((sumL key ++ List.replicate (64 - (sumL key).length) (0 : UInt8)).length = 64) := Lib.hid (by rw [List.length_append, List.length_replicate]; have := HKL.out; omega)
  generalize hf : sumL key ++ List.replicate (64 - (sumL key).length) (0 : UInt8) = f at HC HF
  have HFE := Lib.hid hf
  clear hf
  go_wp2_with fail
  rw [HC.out]
  simp only [Result.andThen]
  rw [Oper.upon_value]
  have HK3 : Hid ((w2.setRow (w1.heap.size) (bs f)).heap[w1.heap.size]? = some (.cells (bs f) 46 (0, 0))) := Lib.hid (setRow_put HK2.out)
  obtain ⟨old, ho1, ho2⟩ := HR2.out
  have HO1 : Hid ((w2.setRow (w1.heap.size) (bs f)).heap[w.heap.size]? = some (.cells old 46 (0, 0))) := Lib.hid ((setRow_other _ _ _ _ (by have := HLT.out; omega)).trans ho1)
  have HO2 := Lib.hid (show old.size = (bs f).size from by rw [bs_size, HF.out]; exact ho2)
  have HB3 := Lib.hid (setRow_below (cs := bs f) HB2.out (Nat.le_of_lt HLT.out))
  clear HC HR2 HK2 HB2 ho1 ho2
  generalize w2.setRow (w1.heap.size) (bs f) = w3 at HK3 HO1 HB3 ⊢
  go_wp2_with (first
    | (refine wpList_load_row rfl 46 (.tmp 3) rfl (w1.heap.size) rfl 46 (bs f) (0, 0) _ HK3.out u46 rfl (i46 _ HF.out) ?_)
    | (refine wpList_store_row rfl 46 (.tmp 2) (.tmp 12) rfl w.heap.size (bs f) rfl rfl 46 old HO1.out (i46 _ HF.out) HO2.out (bs_one _) ?_))
  exact bodyPost_ret (v := .agg (bs f)) (results_cell_row (p := 2) (ty := 46) rfl _ _ w.heap.size 46 (bs f) (0, 0) _ rfl (setRow_put HO1.out) u46 rfl (i46 _ HF.out)) rfl ⟨by rw [HFE.out], setRow_below HB3.out (Nat.le_refl _)⟩

theorem fill_any (key : List UInt8) (hs : key.length ≤ 281474976710656) (w : World) :
    Calls Try.prog 24 #[.string ⟨key.toArray⟩] w fun e w' => e = .returned (.agg (bs (fillL key))) ∧ Below w.heap.size w w' := by
  unfold fillL
  by_cases h : 64 < key.length
  · rw [if_pos h]; exact fill_long key h hs w
  · rw [if_neg h]; exact fill_short key (by omega) w
end Go.Proofs.Yteaanoaldnnflaa
