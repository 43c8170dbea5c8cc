/- A block's sixteen numbers. Condition: a block of 64 bytes. -/
import Derived.Test.YteaanoaldnnflaaG
set_option linter.unusedVariables false
set_option linter.unusedSimpArgs false
namespace Go.Proofs.Yteaanoaldnnflaa
open Go.RowKit

theorem nums_succ (b : List UInt8) (k : Nat) : numsTo b (k + 1) = nstep b (numsTo b k) k := by
  simp [numsTo, List.range_succ]
theorem nstep_length (b : List UInt8) (l : List UInt32) (k : Nat) : (nstep b l k).length = l.length := by simp [nstep]
theorem nums_length (b : List UInt8) (k : Nat) : (numsTo b k).length = 16 := by
  induction k with
  | zero => rfl
  | succ k ih => rw [nums_succ, nstep_length, ih]
theorem zero16 : #[Value.int .u32 0, .int .u32 0, .int .u32 0, .int .u32 0, .int .u32 0, .int .u32 0, .int .u32 0, .int .u32 0, .int .u32 0, .int .u32 0, .int .u32 0, .int .u32 0, .int .u32 0, .int .u32 0, .int .u32 0, .int .u32 0] = ws (numsTo [] 0) := by kernel_rfl

set_option maxHeartbeats 2000000 in
set_option maxRecDepth 100000 in
theorem numbers_any (b : List UInt8) (hb : b.length = 64) (w : World) :
    Calls Try.prog 43 #[.string ⟨b.toArray⟩] w fun e w' => e = .returned (.agg (ws (numsL b))) ∧ Below w.heap.size w w' := by
  have HL := Lib.hid hb
  have hs := size_ba b
  have hl : 64 ≤ b.length := by omega
  clear hb
  go_enter Try.func43, Try.ntmps43
  go_wp2_with fail
  go_loopw [5] (fun i wr => ∃ k : Nat, k ≤ 64 ∧ i = .int .i64 k ∧ wr.heap[w.heap.size + 1]? = some (.cells (ws (numsTo b k)) 75 (0, 0)) ∧ (∃ old : Array Value, wr.heap[w.heap.size]? = some (.cells old 75 (0, 0)) ∧ old.size = 16) ∧ Below w.heap.size w wr) (fun i _ => 64 - (intOf i).toNat)
  case atStart =>
    refine ⟨0, by omega, rfl, ?_, ⟨_, (by rw [Lib.alloc_old _ _ _ (by simp)]; exact Go.heap_alloc_new w _), by rfl⟩, ((Below.refl _ _).alloc (Nat.le_refl _) _).alloc (by simp) _⟩
    · rw [zero16, show numsTo b 0 = numsTo [] 0 from rfl]
      have := Go.heap_alloc_new (w.alloc (.cells (ws (numsTo [] 0)) 75)) (.cells (ws (numsTo [] 0)) 75)
      simpa using this
  case round =>
    obtain ⟨k, hk, rfl, hB, ⟨old, hO, ho⟩, hW⟩ := hrel
    have HB := Lib.hid hB
    have HO := Lib.hid hO
    have HW := Lib.hid hW
    have HZ := Lib.hid ho
    clear hB hO hW ho
    by_cases hlt : k < 64
    · have hkl : k / 4 < (numsTo b k).length := by rw [nums_length]; omega
      have x0 := (blk_cell HB.out (k / 4)).trans (ws_get _ _ hkl)
      have f0 := Lib.frozen_of_heap HB.out (k / 4)
      have hbk : k < b.length := by omega
      have e1 : (numsTo b k).getD (k / 4) 0 = (numsTo b k)[k / 4] := by simp [List.getD, hkl]
      have e2 : b.getD k 0 = b[k] := by simp [List.getD, hbk]
      have HN := Lib.hid (nums_succ b k)
      unfold nstep at HN
      rw [e1, e2] at HN
      have hx := sh8_or ((numsTo b k)[k / 4]) b[k]
      generalize (numsTo b k)[k / 4] = x at x0 hx HN
      have HV : Hid (bits BinOp.or IntKind.u32 ((x.toNat : Int) * 256 % 4294967296) ((((⟨b.toArray⟩ : ByteArray)[k]'(by rw [hs]; omega)).toNat : Int) % 4294967296) = ((sh8 x b[k]).toNat : Int)) := Lib.hid (by
        have hm : (((⟨b.toArray⟩ : ByteArray)[k]'(by rw [hs]; omega)).toNat : Int) % 4294967296 = (b[k].toNat : Int) := by
          have h8 := b[k].toNat_lt
          show ((b[k]).toNat : Int) % 4294967296 = _
          omega
        rw [hm]; exact hx)
      generalize sh8 x b[k] = y at HV HN
      clear e1 e2 hkl hx
      go_wp2_with fail
      go_region
      rw [HV.out]
      have HB2 := Lib.hid (blk_put HB.out (k / 4) (.int .u32 (y.toNat : Int)))
      rw [ws_set, ← HN.out] at HB2
      have HO2 := Lib.hid ((Below.heap_setCell wr ⟨w.heap.size + 1, k / 4, none⟩ (.int .u32 (y.toNat : Int)) w.heap.size (by simp)).trans HO.out)
      have HW2 := Lib.hid (HW.out.setCell (p := ⟨w.heap.size + 1, k / 4, none⟩) (by simp) (.int .u32 (y.toNat : Int)))
      generalize wr.setCell ⟨w.heap.size + 1, k / 4, none⟩ (.int .u32 (y.toNat : Int)) = w2 at HB2 HO2 HW2
      clear HB HO HW x0 f0
      go_wp2_with fail
      go_roundw
      case rel => exact ⟨k + 1, by omega, by go_num, HB2.out, ⟨old, HO2.out, HZ.out⟩, HW2.out.drew⟩
      case measure => simp [intOf]; omega
    · obtain rfl : k = 64 := by omega
      have HI := Lib.hid (i75 (numsL b) (nums_length b 64))
      have HB' : Hid (wr.heap[w.heap.size + 1]? = some (.cells (ws (numsL b)) 75 (0, 0))) := Lib.hid HB.out
      go_wp2_with (first
        | (refine wpList_load_row rfl 75 (.tmp 3) rfl (w.heap.size + 1) rfl 75 (ws (numsL b)) (0, 0) _ HB'.out u75 rfl HI.out ?_)
        | (refine wpList_store_row rfl 75 (.tmp 2) (.tmp 22) rfl w.heap.size (ws (numsL b)) rfl rfl 75 old HO.out HI.out (by rw [ws_size, numsL, nums_length]; exact HZ.out) (ws_one _) ?_))
      refine bodyPost_ret (v := .agg (ws (numsL b))) (results_cell_row (p := 2) (ty := 75) rfl _ _ w.heap.size 75 (ws (numsL b)) (0, 0) _ rfl (setRow_put HO.out) u75 rfl HI.out) rfl ⟨rfl, setRow_below HW.out (Nat.le_refl _)⟩
end Go.Proofs.Yteaanoaldnnflaa
