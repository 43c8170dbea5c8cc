/- A block's sixty-four numbers. Condition: sixteen numbers. -/
import Derived.Test.YteaanoaldnnflaaH
import Derived.Laws.CopyOwn
import Derived.Deep.RegionLaw
set_option linter.unusedVariables false
set_option linter.unusedSimpArgs false
namespace Go.Proofs.Yteaanoaldnnflaa
open Go.RowKit

def wl (l : List UInt32) : List Value := l.map fun x => Value.int .u32 (x.toNat : Int)
theorem wl_ws (l : List UInt32) : (wl l).toArray = ws l := rfl
theorem wl_length (l : List UInt32) : (wl l).length = l.length := by simp [wl]
theorem wl_one (l : List UInt32) : ∀ v ∈ wl l, v.oneCell' = true := by
  intro v hv
  simp [wl] at hv
  obtain ⟨a, _, rfl⟩ := hv
  rfl
theorem wl_splice (l m : List UInt32) (o : Nat) : splice (wl l) o (wl m) = wl (splice l o m) := by
  simp [splice, wl]
theorem zero64 : (Try.prog.info? 72).bind (·.zero) = some (.agg (ws (List.replicate 64 0))) := by kernel_rfl
theorem s35 : (Try.prog.info? 35).map (·.size) = some 1 := by kernel_rfl

theorem alloc3 (w : World) (a b c : Obj) : (((w.alloc a).alloc b).alloc c).heap[w.heap.size]? = some a ∧ (((w.alloc a).alloc b).alloc c).heap[w.heap.size + 1]? = some b ∧ (((w.alloc a).alloc b).alloc c).heap[w.heap.size + 1 + 1]? = some c ∧ Below w.heap.size w (((w.alloc a).alloc b).alloc c) := by
  refine ⟨?_, ?_, ?_, (((Below.refl _ _).alloc (Nat.le_refl _) _).alloc (by simp) _).alloc (by simp; omega) _⟩
  · rw [Lib.alloc_old _ _ _ (by simp; omega), Lib.alloc_old _ _ _ (by simp)]; exact Go.heap_alloc_new w a
  · rw [Lib.alloc_old _ _ _ (by simp)]
    have := Go.heap_alloc_new (w.alloc a) b
    simpa using this
  · have := Go.heap_alloc_new ((w.alloc a).alloc b) c
    simpa using this
theorem at0 (b j : Nat) : (⟨b, 0, none⟩ : Addr).add j = ⟨b, j, none⟩ := by unfold Addr.add; split <;> simp_all
theorem spread_start (l : List UInt32) (hl : l.length = 16) : splice (List.replicate 64 0) 0 l = spreadTo l 16 := by
  simp [splice, spreadTo, hl]
theorem spread_succ (l : List UInt32) (k : Nat) (hk : 16 ≤ k) : spreadTo l (k + 1) = sstep (spreadTo l k) k := by
  simp only [spreadTo]
  rw [show k + 1 - 16 = (k - 16) + 1 from by omega, List.range'_concat, List.foldl_append]
  simp only [List.foldl_cons, List.foldl_nil]
  rw [show 16 + 1 * (k - 16) = k from by omega]
theorem sstep_length (l : List UInt32) (k : Nat) : (sstep l k).length = l.length := by simp [sstep]
theorem spread_length (l : List UInt32) (hl : l.length = 16) (j : Nat) : (spreadTo l (16 + j)).length = 64 := by
  induction j with
  | zero => simp [spreadTo, hl]
  | succ j ih => rw [← Nat.add_assoc, spread_succ l _ (by omega), sstep_length, ih]
theorem spread_length' (l : List UInt32) (hl : l.length = 16) (k : Nat) (hk : 16 ≤ k) : (spreadTo l k).length = 64 := by
  have := spread_length l hl (k - 16)
  rwa [show 16 + (k - 16) = k from by omega] at this

set_option maxHeartbeats 2000000 in
set_option maxRecDepth 100000 in
theorem spread_any (l : List UInt32) (hl : l.length = 16) (w : World) :
    Calls Try.prog 42 #[.agg (ws l)] w fun e w' => e = .returned (.agg (ws (spreadL l))) ∧ Below w.heap.size w w' := by
  have HL := Lib.hid hl
  clear hl
  go_enter Try.func42, Try.ntmps42
  go_wp2_with fail
  generalize hw : World.alloc (World.alloc (World.alloc w _) _) _ = w1
  have HA : Hid (w1.heap[w.heap.size]? = some (.cells (ws l) 75 (0, 0))) := Lib.hid (by rw [← hw]; exact (alloc3 w _ _ _).1)
  have HO : Hid (∃ old : Array Value, w1.heap[w.heap.size + 1]? = some (.cells old 72 (0, 0)) ∧ old.size = 64) := Lib.hid ⟨_, by rw [← hw]; exact (alloc3 w _ _ _).2.1, by rfl⟩
  have HK : Hid (w1.heap[w.heap.size + 1 + 1]? = some (.cells (wl (List.replicate 64 0)).toArray 72 (0, 0))) := Lib.hid (by rw [← hw]; exact ((alloc3 w _ _ _).2.2.1).trans (by kernel_rfl))
  have HB : Hid (Below w.heap.size w w1) := Lib.hid (by rw [← hw]; exact (alloc3 w _ _ _).2.2.2)
  clear hw
  go_region_law (refine step_copy_splice rfl (.tmp 9) (.tmp 10) 43 43 rfl 35 Try.underlying43 s35 (some ⟨w.heap.size + 1 + 1, 0, none⟩) (some ⟨w.heap.size, 0, none⟩) 64 64 16 16 (by simp [Act.eval, Act.put]) (by simp [Act.eval, Act.put]) (w.heap.size + 1 + 1) 0 (wl (List.replicate 64 0)) 72 HK.out (wl l) (by rw [wl_length, HL.out]; rfl) (fun _ => ⟨rfl, _, rfl, fun j v hv => by rw [at0]; exact (blk_cell HA.out j).trans (by rw [← wl_ws]; simpa using hv)⟩) (by rw [wl_length, wl_length, HL.out]; simp) (wl_one _) (w.heap.size + 1 + 1) w1.drew (Below.refl _ _) (Nat.le_refl _) ?_; intro w4 hg4 hb4)
  have HK4 := Lib.hid hg4.out
  rw [wl_splice, spread_start l HL.out, wl_ws] at HK4
  have HO4 : Hid (∃ old : Array Value, w4.heap[w.heap.size + 1]? = some (.cells old 72 (0, 0)) ∧ old.size = 64) := Lib.hid (by
    obtain ⟨old, h1, h2⟩ := HO.out
    exact ⟨old, (hb4.block _ (by omega)).trans h1, h2⟩)
  have HB4 := Lib.hid (HB.out.drew.trans (hb4.mono (by omega)))
  clear hg4 hb4 HA HO HK HB
  go_wp2_with fail
  go_loopw [4] (fun i wr => ∃ k : Nat, 16 ≤ k ∧ k ≤ 64 ∧ i = .int .i64 k ∧ wr.heap[w.heap.size + 1 + 1]? = some (.cells (ws (spreadTo l k)) 72 (0, 0)) ∧ (∃ old : Array Value, wr.heap[w.heap.size + 1]? = some (.cells old 72 (0, 0)) ∧ old.size = 64) ∧ Below w.heap.size w wr) (fun i _ => 64 - (intOf i).toNat)
  case atStart => exact ⟨16, by omega, by omega, rfl, HK4.out, HO4.out, HB4.out⟩
  case round =>
    obtain ⟨k, hk, hk2, rfl, hB, hO, hW⟩ := hrel
    have HB := Lib.hid hB
    have HO := Lib.hid hO
    have HW := Lib.hid hW
    clear hB hO hW HK4 HO4 HB4
    by_cases hlt : k < 64
    · have HN := Lib.hid (spread_succ l k hk)
      have hln := spread_length' l HL.out k hk
      have c16 := (blk_cell HB.out (k - 16)).trans (ws_get _ _ (by omega))
      have c15 := (blk_cell HB.out (k - 15)).trans (ws_get _ _ (by omega))
      have c7 := (blk_cell HB.out (k - 7)).trans (ws_get _ _ (by omega))
      have c2 := (blk_cell HB.out (k - 2)).trans (ws_get _ _ (by omega))
      have ck := (blk_cell HB.out k).trans (ws_get _ _ (by omega))
      have fk := Lib.frozen_of_heap HB.out k
      unfold sstep at HN
      have e16 : (spreadTo l k).getD (k - 16) 0 = (spreadTo l k)[k - 16]'(by omega) := by simp [List.getD, show k - 16 < (spreadTo l k).length by omega]
      have e15 : (spreadTo l k).getD (k - 15) 0 = (spreadTo l k)[k - 15]'(by omega) := by simp [List.getD, show k - 15 < (spreadTo l k).length by omega]
      have e7 : (spreadTo l k).getD (k - 7) 0 = (spreadTo l k)[k - 7]'(by omega) := by simp [List.getD, show k - 7 < (spreadTo l k).length by omega]
      have e2 : (spreadTo l k).getD (k - 2) 0 = (spreadTo l k)[k - 2]'(by omega) := by simp [List.getD, show k - 2 < (spreadTo l k).length by omega]
      rw [e16, e15, e7, e2] at HN
      clear e16 e15 e7 e2
      generalize (spreadTo l k)[k - 16]'(by omega) = a16 at c16 HN
      generalize (spreadTo l k)[k - 15]'(by omega) = a15 at c15 HN
      generalize (spreadTo l k)[k - 7]'(by omega) = a7 at c7 HN
      generalize (spreadTo l k)[k - 2]'(by omega) = a2 at c2 HN
      generalize (spreadTo l k)[k]'(by omega) = ak at ck
      clear hln
      have t16 : ((k : Int) - 16).toNat = k - 16 := by omega
      have t15 : ((k : Int) - 15).toNat = k - 15 := by omega
      have t7 : ((k : Int) - 7).toNat = k - 7 := by omega
      have t2 : ((k : Int) - 2).toNat = k - 2 := by omega
      have R7 := Lib.hid (ror7 a15)
      have R18 := Lib.hid (ror18 a15)
      have R17 := Lib.hid (ror17 a2)
      have R19 := Lib.hid (ror19 a2)
      have x1 := xorW (rorW a15 7) (rorW a15 18)
      have x2 := xorW (rorW a15 7 ^^^ rorW a15 18) (shrW a15 3)
      have x3 := xorW (rorW a2 17) (rorW a2 19)
      have x4 := xorW (rorW a2 17 ^^^ rorW a2 19) (shrW a2 10)
      have d1 : (a15.toNat : Int) / 8 = ((shrW a15 3).toNat : Int) := shrW_div a15 3 8 (by decide)
      have d2 : (a2.toNat : Int) / 1024 = ((shrW a2 10).toNat : Int) := shrW_div a2 10 1024 (by decide)
      have s1 : ((a16.toNat : Int) + ((sig0 a15).toNat : Int) + (a7.toNat : Int) + ((sig1 a2).toNat : Int)) % 4294967296 = ((a16 + sig0 a15 + a7 + sig1 a2).toNat : Int) := by
        rw [UInt32.toNat_add, UInt32.toNat_add, UInt32.toNat_add]; omega
      generalize a16 + sig0 a15 + a7 + sig1 a2 = y at s1 HN
      unfold sig0 sig1 at s1
      generalize rorW a15 7 ^^^ rorW a15 18 ^^^ shrW a15 3 = q0 at x2 s1
      generalize rorW a2 17 ^^^ rorW a2 19 ^^^ shrW a2 10 = q1 at x4 s1
      generalize rorW a15 7 ^^^ rorW a15 18 = p0 at x1 x2
      generalize rorW a2 17 ^^^ rorW a2 19 = p1 at x3 x4
      generalize rorW a15 7 = r7 at x1 R7
      generalize rorW a15 18 = r18 at x1 R18
      generalize rorW a2 17 = r17 at x3 R17
      generalize rorW a2 19 = r19 at x3 R19
      generalize shrW a15 3 = h3 at d1 x2
      generalize shrW a2 10 = h10 at d2 x4
      go_wp2_with fail
      go_region
      go_wp2_with fail
      refine (R7.out _).mono ?_
      rintro e w5 ⟨rfl, rfl⟩
      go_wp2_with fail
      refine (R18.out _).mono ?_
      rintro e w5 ⟨rfl, rfl⟩
      go_wp2_with fail
      refine (R17.out _).mono ?_
      rintro e w5 ⟨rfl, rfl⟩
      go_wp2_with fail
      refine (R19.out _).mono ?_
      rintro e w5 ⟨rfl, rfl⟩
      go_wp2_with fail
      go_region
      have HB2 := Lib.hid (blk_put HB.out k (.int .u32 (y.toNat : Int)))
      rw [ws_set, ← HN.out] at HB2
      have HO2 : Hid (∃ old : Array Value, (wr.setCell ⟨w.heap.size + 1 + 1, k, none⟩ (.int .u32 (y.toNat : Int))).heap[w.heap.size + 1]? = some (.cells old 72 (0, 0)) ∧ old.size = 64) := Lib.hid (by
        obtain ⟨old, h1, h2⟩ := HO.out
        exact ⟨old, (Below.heap_setCell wr ⟨w.heap.size + 1 + 1, k, none⟩ (.int .u32 (y.toNat : Int)) (w.heap.size + 1) (by simp)).trans h1, h2⟩)
      have HW2 := Lib.hid (HW.out.setCell (p := ⟨w.heap.size + 1 + 1, k, none⟩) (by simp; omega) (.int .u32 (y.toNat : Int)))
      clear HB HO HW c16 c15 c7 c2 ck fk
      go_wp2_with fail
      go_roundw
      case rel => exact ⟨k + 1, by omega, by omega, by go_num, HB2.out, HO2.out, HW2.out.drew.drew⟩
      case measure => simp [intOf]; omega
    · obtain rfl : k = 64 := by omega
      have hL : (spreadL l).length = 64 := spread_length' l HL.out 64 (by omega)
      have HI := Lib.hid (i72 (spreadL l) hL)
      have HB' : Hid (wr.heap[w.heap.size + 1 + 1]? = some (.cells (ws (spreadL l)) 72 (0, 0))) := Lib.hid HB.out
      obtain ⟨old, ho1, ho2⟩ := HO.out
      have HO1 := Lib.hid ho1
      have HO2 := Lib.hid (show old.size = (ws (spreadL l)).size from by rw [ws_size, hL]; exact ho2)
      clear hL ho1 ho2
      go_wp2_with (first
        | (refine wpList_load_row rfl 72 (.tmp 3) rfl (w.heap.size + 1 + 1) rfl 72 (ws (spreadL l)) (0, 0) _ HB'.out u72 rfl HI.out ?_)
        | (refine wpList_store_row rfl 72 (.tmp 2) (.tmp 55) rfl (w.heap.size + 1) (ws (spreadL l)) rfl rfl 72 old HO1.out HI.out HO2.out (ws_one _) ?_))
      refine bodyPost_ret (v := .agg (ws (spreadL l))) (results_cell_row (p := 2) (ty := 72) rfl _ _ (w.heap.size + 1) 72 (ws (spreadL l)) (0, 0) _ rfl (setRow_put HO1.out) u72 rfl HI.out) rfl ⟨rfl, setRow_below HW.out (by omega)⟩
end Go.Proofs.Yteaanoaldnnflaa
