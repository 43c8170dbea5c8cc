/- The state behind all blocks. Conditions: eight numbers, whole blocks, at most 2^47 bytes and some more. -/
import Derived.Test.YteaanoaldnnflaaRa
import Derived.Test.YteaanoaldnnflaaK
import Derived.Deep.CutBlock
set_option linter.unusedVariables false
set_option linter.unusedSimpArgs false
namespace Go.Proofs.Yteaanoaldnnflaa
open Go.RowKit Go.Sort
theorem next_length (h : List UInt32) (hl : h.length = 8) (b : List UInt8) : (nextL h b).length = 8 := by
  unfold nextL
  rw [List.length_zipWith, turns_length _ _ hl, hl]; rfl
theorem thr_length : ∀ (k : Nat) (h : List UInt32) (s : List UInt8), h.length = 8 → (thrL k h s).length = 8
  | 0, h, s, hl => hl
  | k + 1, h, s, hl => thr_length k _ _ (next_length h hl _)

/-- behind the first k blocks -/
structure Th (w wr : World) (v : List UInt32) : Prop where
  st : wr.heap[w.heap.size]? = some (.cells (ws v) 37 (0, 0))
  res : ∃ old : Array Value, wr.heap[w.heap.size + 1]? = some (.cells old 37 (0, 0)) ∧ old.size = 8
  below : Below w.heap.size w wr
theorem Th.next {w wr w' : World} {v v' : List UInt32} (x : Th w wr v) (hb : Below wr.heap.size wr w') : Th w (w'.setRow w.heap.size (ws v')) v' := by
  have h1 : w.heap.size < wr.heap.size := (Array.getElem?_eq_some_iff.1 x.st).1
  refine ⟨setRow_put ((hb.block _ h1).trans x.st), ?_, setRow_below (x.below.trans (hb.mono (by omega))) (Nat.le_refl _)⟩
  obtain ⟨o, h2, h3⟩ := x.res
  exact ⟨o, (setRow_other _ _ _ _ (by omega)).trans ((hb.block _ (Array.getElem?_eq_some_iff.1 h2).1).trans h2), h3⟩

set_option maxHeartbeats 4000000 in
set_option maxRecDepth 100000 in
theorem thr_any (n : Nat) (h : List UInt32) (hl : h.length = 8) (s : List UInt8) (hs : s.length = 64 * n) (hs2 : s.length ≤ 281474976710656) (w : World) :
    Calls Try.prog 18 #[.agg (ws h), .string ⟨s.toArray⟩] w fun e w' => e = .returned (.agg (ws (thrL n h s))) ∧ Below w.heap.size w w' := by
  have HL := Lib.hid hl
  have HS := Lib.hid hs
  have hsz := size_ba s
  have hsl : (s.length : Int) ≤ 281474976710656 := by omega
  have HA : Hid (((w.alloc (.cells (ws h) 37)).alloc (.cells #[.int .u32 0, .int .u32 0, .int .u32 0, .int .u32 0, .int .u32 0, .int .u32 0, .int .u32 0, .int .u32 0] 37)).heap[w.heap.size]? = some (.cells (ws h) 37 (0, 0))) := Lib.hid (by
    rw [Lib.alloc_old _ _ _ (by simp)]; exact Go.heap_alloc_new w _)
  have HA2 : Hid (((w.alloc (.cells (ws h) 37)).alloc (.cells #[.int .u32 0, .int .u32 0, .int .u32 0, .int .u32 0, .int .u32 0, .int .u32 0, .int .u32 0, .int .u32 0] 37)).heap[w.heap.size + 1]? = some (.cells #[.int .u32 0, .int .u32 0, .int .u32 0, .int .u32 0, .int .u32 0, .int .u32 0, .int .u32 0, .int .u32 0] 37 (0, 0))) := Lib.hid (by
    have := Go.heap_alloc_new (w.alloc (.cells (ws h) 37)) (.cells #[.int .u32 0, .int .u32 0, .int .u32 0, .int .u32 0, .int .u32 0, .int .u32 0, .int .u32 0, .int .u32 0] 37)
    simpa using this)
  clear hl hs hs2
  go_enter Try.func18, Try.ntmps18
  go_wp2_with fail
  go_loopw [5] (fun i wr => ∃ k a : Nat, k ≤ n ∧ i = .int .i64 a ∧ a = 64 * k ∧ Th w wr (thrL k h s)) (fun i _ => 64 * n + 64 - (intOf i).toNat)
  case atStart => exact ⟨0, 0, by omega, rfl, rfl, HA.out, ⟨_, HA2.out, rfl⟩, ((Below.refl _ _).alloc (Nat.le_refl _) _).alloc (by simp) _⟩
  case round =>
    obtain ⟨k, a, hk, rfl, ha, hx⟩ := hrel
    have HX := Lib.hid hx
    have HK := Lib.hid ha
    clear hx ha HA HA2
    by_cases hlt : k < n
    · have ha1 : (a : Int) + 64 ≤ s.length := by have := HS.out; have := HK.out; omega
      have ha2 : a < s.length := by omega
      have ha3 : (a : Int) < s.length := by omega
      have ha4 : ((a : Int) + 64).toNat = a + 64 := by omega
      have hwr : IntKind.i64.wrap ((a : Int) + 64) = (a : Int) + 64 := IntWalk.i64_in _ (by omega)
      have q0 : 0 ≤ (a : Int) + 64 := by omega
      have q1 : (a : Int) ≤ (a : Int) + 64 := by omega
      have hex := ext_ba s a 64
      have HN := Lib.hid (thr_succ k h s)
      rw [← HK.out] at HN
      have hbl : ((s.drop a).take 64).length = 64 := by rw [List.length_take, List.length_drop]; omega
      have HC := Lib.hid (next_any (thrL k h s) (thr_length k h s HL.out) ((s.drop a).take 64) hbl)
      generalize (s.drop a).take 64 = b at hex HN HC
      clear hbl
      go_wp2_with fail
      refine wp_region_still_tail 6 mixed (by kernel_rfl) ?_
      simp only [List.take_succ_cons, List.take_zero, List.drop_succ_cons, List.drop_zero]
      refine wpStill_load_row rfl 37 (.tmp 2) rfl w.heap.size rfl 37 (ws (thrL k h s)) (0, 0) _ (show wr.heap[w.heap.size]? = _ from HX.out.st) u37 rfl (i37 _ (thr_length k h s HL.out)) ?_
      repeat still_step
      refine wpStill_nil ?_
      change wpList _ _ _ _ _ wr.drew
      have HX1 : Hid (Th w wr.drew (thrL k h s)) := Lib.hid ⟨HX.out.st, HX.out.res, HX.out.below.drew⟩
      clear HX hwr q0 q1
      generalize wr.drew = wr1 at HX1 ⊢
      go_wp2_with fail
      refine (HC.out _).mono ?_
      rintro e w5 ⟨rfl, b5⟩
      have HG : Hid (w5.heap[w.heap.size]? = some (.cells (ws (thrL k h s)) 37 (0, 0))) := Lib.hid ((b5.block _ (Array.getElem?_eq_some_iff.1 HX1.out.st).1).trans HX1.out.st)
      have HX2 : Hid (Th w (w5.setRow w.heap.size (ws (nextL (thrL k h s) b))) (thrL (k + 1) h s)) := Lib.hid (by rw [HN.out]; exact HX1.out.next b5)
      have HI := Lib.hid (i37 (nextL (thrL k h s) b) (next_length _ (thr_length k h s HL.out) _))
      have HZ : Hid ((ws (thrL k h s)).size = (ws (nextL (thrL k h s) b)).size) := Lib.hid (by rw [ws_size, ws_size, next_length _ (thr_length k h s HL.out), thr_length k h s HL.out])
      clear b5 HX1 HC HN hex
      generalize nextL (thrL k h s) b = v at HX2 HI HZ ⊢
      go_upto_region 3 with (refine wpList_store_row rfl 37 (.tmp 2) (.tmp 18) rfl w.heap.size (ws v) rfl rfl 37 (ws (thrL k h s)) HG.out HI.out HZ.out (ws_one _) ?_)
      generalize w5.setRow w.heap.size (ws v) = w6 at HX2 ⊢
      go_wp2_with fail
      go_roundw
      case rel => exact ⟨k + 1, a + 64, by omega, by go_num, by have := HK.out; omega, HX2.out⟩
      case measure => have := HS.out; have := HK.out; simp [intOf]; omega
    · obtain rfl : k = n := by omega
      have ha2 : ¬ a < s.length := by have := HS.out; have := HK.out; omega
      have hdc : decide (a < s.length) = false := by simpa using ha2
      have HF := HX.out
      have HFL := Lib.hid (thr_length k h s HL.out)
      obtain ⟨old, ho1, ho2⟩ := HF.res
      have HO1 := Lib.hid ho1
      have HO2 := Lib.hid (show old.size = (ws (thrL k h s)).size from by rw [ws_size, HFL.out]; exact ho2)
      clear HF ho1 ho2
      go_wp2_with (first
        | (refine wpList_load_row rfl 37 (.tmp 2) rfl w.heap.size rfl 37 (ws (thrL k h s)) (0, 0) _ HX.out.st u37 rfl (i37 _ HFL.out) ?_)
        | (refine wpList_store_row rfl 37 (.tmp 4) (.tmp 19) rfl (w.heap.size + 1) (ws (thrL k h s)) rfl rfl 37 old HO1.out (i37 _ HFL.out) HO2.out (ws_one _) ?_))
      refine bodyPost_ret (v := .agg (ws (thrL k h s))) (results_cell_row (p := 4) (ty := 37) rfl _ _ (w.heap.size + 1) 37 (ws (thrL k h s)) (0, 0) _ rfl (setRow_put HO1.out) u37 rfl (i37 _ HFL.out)) rfl ⟨rfl, setRow_below HX.out.below (by omega)⟩
end Go.Proofs.Yteaanoaldnnflaa
