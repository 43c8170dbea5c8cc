/- A block's sixteen numbers. Condition: a block of 64 bytes. A block's sixty-four numbers. Condition: sixteen numbers. What one number does to a state. Condition: a state in a block of its own. The state behind one more block, behind all blocks. Conditions: eight numbers, blocks of 64 bytes. What a strings.Builder holds behind WriteByte. Condition: at most 2^47 bytes in all. What codec.Base64 answer -/
import Derived.Test.YtpggkfdijmnmiaaGreatZuk10
import Derived.Laws.CopyOwn
import Derived.Deep.RegionLaw
import Derived.Deep.CutBlock
import Derived.StillTailTactics
import Derived.LoopN
import Derived.Laws.BitsAllLaws
import Derived.Laws.BitsLemmas
import Derived.Deep.AppendLies
import Derived.Deep.QuietTactic
import Derived.BigQuiet
import Derived.Laws.IdiomStrings
import Derived.Lib.BufferRead
import Derived.Lib.QuietBelow
set_option linter.unusedVariables false
set_option linter.unusedSimpArgs false
set_option maxRecDepth 100000
namespace Go.Proofs.YtpggkfdijmnmiaaGreat.Hs
open Go.RowKit
theorem nums_succ (b : List UInt8) (k : Nat) : numsTo b (k + 1) = nstep b (numsTo b k) k := by
  simp [numsTo, List.range_succ]
theorem nstep_length (b : List UInt8) (l : List UInt32) (k : Nat) : (nstep b l k).length = l.length := by simp [nstep]
theorem nums_length (b : List UInt8) (k : Nat) : (numsTo b k).length = 16 := by
  induction k with
  | zero => rfl
  | succ k ih => rw [nums_succ, nstep_length, ih]
theorem zero16 : #[Value.int .u32 0, .int .u32 0, .int .u32 0, .int .u32 0, .int .u32 0, .int .u32 0, .int .u32 0, .int .u32 0, .int .u32 0, .int .u32 0, .int .u32 0, .int .u32 0, .int .u32 0, .int .u32 0, .int .u32 0, .int .u32 0] = ws (numsTo [] 0) := by kernel_rfl
set_option maxHeartbeats 2000000 in
set_option maxRecDepth 100000 in
theorem numbers_any (b : List UInt8) (hb : b.length = 64) (w : World) :
    Calls Tryz.prog 194 #[.string ⟨b.toArray⟩] w fun e w' => e = .returned (.agg (ws (numsL b))) ∧ Below w.heap.size w w' := by
  have HL := Lib.hid hb
  have hs := size_ba b
  have hl : 64 ≤ b.length := by omega
  clear hb
  go_enter Tryz.func194, Tryz.ntmps194
  go_wp2_with fail
  go_loopw [5] (fun i wr => ∃ k : Nat, k ≤ 64 ∧ i = .int .i64 k ∧ wr.heap[w.heap.size + 1]? = some (.cells (ws (numsTo b k)) 219 (0, 0)) ∧ (∃ old : Array Value, wr.heap[w.heap.size]? = some (.cells old 219 (0, 0)) ∧ old.size = 16) ∧ Below w.heap.size w wr) (fun i _ => 64 - (intOf i).toNat)
  case atStart =>
    refine ⟨0, by omega, rfl, ?_, ⟨_, (by rw [Lib.alloc_old _ _ _ (by simp)]; exact Go.heap_alloc_new w _), by rfl⟩, ((Below.refl _ _).alloc (Nat.le_refl _) _).alloc (by simp) _⟩
    · rw [zero16, show numsTo b 0 = numsTo [] 0 from rfl]
      have := Go.heap_alloc_new (w.alloc (.cells (ws (numsTo [] 0)) 219)) (.cells (ws (numsTo [] 0)) 219)
      simpa using this
  case round =>
    obtain ⟨k, hk, rfl, hB, ⟨old, hO, ho⟩, hW⟩ := hrel
    have HB := Lib.hid hB
    have HO := Lib.hid hO
    have HW := Lib.hid hW
    have HZ := Lib.hid ho
    clear hB hO hW ho
    by_cases hlt : k < 64
    · have hkl : k / 4 < (numsTo b k).length := by rw [nums_length]; omega
      have x0 := (blk_cell HB.out (k / 4)).trans (ws_get _ _ hkl)
      have f0 := Lib.frozen_of_heap HB.out (k / 4)
      have hbk : k < b.length := by omega
      have e1 : (numsTo b k).getD (k / 4) 0 = (numsTo b k)[k / 4] := by simp [List.getD, hkl]
      have e2 : b.getD k 0 = b[k] := by simp [List.getD, hbk]
      have HN := Lib.hid (nums_succ b k)
      unfold nstep at HN
      rw [e1, e2] at HN
      have hx := sh8_or ((numsTo b k)[k / 4]) b[k]
      generalize (numsTo b k)[k / 4] = x at x0 hx HN
      have HV : Hid (bits BinOp.or IntKind.u32 ((x.toNat : Int) * 256 % 4294967296) ((((⟨b.toArray⟩ : ByteArray)[k]'(by rw [hs]; omega)).toNat : Int) % 4294967296) = ((sh8 x b[k]).toNat : Int)) := Lib.hid (by
        have hm : (((⟨b.toArray⟩ : ByteArray)[k]'(by rw [hs]; omega)).toNat : Int) % 4294967296 = (b[k].toNat : Int) := by
          have h8 := b[k].toNat_lt
          show ((b[k]).toNat : Int) % 4294967296 = _
          omega
        rw [hm]; exact hx)
      generalize sh8 x b[k] = y at HV HN
      clear e1 e2 hkl hx
      go_wp2_with fail
      go_region
      rw [HV.out]
      have HB2 := Lib.hid (blk_put HB.out (k / 4) (.int .u32 (y.toNat : Int)))
      rw [ws_set, ← HN.out] at HB2
      have HO2 := Lib.hid ((Below.heap_setCell wr ⟨w.heap.size + 1, k / 4, none⟩ (.int .u32 (y.toNat : Int)) w.heap.size (by simp)).trans HO.out)
      have HW2 := Lib.hid (HW.out.setCell (p := ⟨w.heap.size + 1, k / 4, none⟩) (by simp) (.int .u32 (y.toNat : Int)))
      generalize wr.setCell ⟨w.heap.size + 1, k / 4, none⟩ (.int .u32 (y.toNat : Int)) = w2 at HB2 HO2 HW2
      clear HB HO HW x0 f0
      go_wp2_with fail
      go_roundw
      case rel => exact ⟨k + 1, by omega, by go_num, HB2.out, ⟨old, HO2.out, HZ.out⟩, HW2.out.drew⟩
      case measure => simp [intOf]; omega
    · obtain rfl : k = 64 := by omega
      have HI := Lib.hid (i75 (numsL b) (nums_length b 64))
      have HB' : Hid (wr.heap[w.heap.size + 1]? = some (.cells (ws (numsL b)) 219 (0, 0))) := Lib.hid HB.out
      go_wp2_with (first
        | (refine wpList_load_row rfl 219 (.tmp 3) rfl (w.heap.size + 1) rfl 219 (ws (numsL b)) (0, 0) _ HB'.out u75 rfl HI.out ?_)
        | (refine wpList_store_row rfl 219 (.tmp 2) (.tmp 22) rfl w.heap.size (ws (numsL b)) rfl rfl 219 old HO.out HI.out (by rw [ws_size, numsL, nums_length]; exact HZ.out) (ws_one _) ?_))
      refine bodyPost_ret (v := .agg (ws (numsL b))) (results_cell_row (p := 2) (ty := 219) rfl _ _ w.heap.size 219 (ws (numsL b)) (0, 0) _ rfl (setRow_put HO.out) u75 rfl HI.out) rfl ⟨rfl, setRow_below HW.out (Nat.le_refl _)⟩
def wl (l : List UInt32) : List Value := l.map fun x => Value.int .u32 (x.toNat : Int)
theorem wl_ws (l : List UInt32) : (wl l).toArray = ws l := rfl
theorem wl_length (l : List UInt32) : (wl l).length = l.length := by simp [wl]
theorem wl_one (l : List UInt32) : ∀ v ∈ wl l, v.oneCell' = true := by
  intro v hv
  simp [wl] at hv
  obtain ⟨a, _, rfl⟩ := hv
  rfl
theorem wl_splice (l m : List UInt32) (o : Nat) : splice (wl l) o (wl m) = wl (splice l o m) := by
  simp [splice, wl]
theorem s35 : (Tryz.prog.info? 111).map (·.size) = some 1 := by kernel_rfl
theorem alloc3 (w : World) (a b c : Obj) : (((w.alloc a).alloc b).alloc c).heap[w.heap.size]? = some a ∧ (((w.alloc a).alloc b).alloc c).heap[w.heap.size + 1]? = some b ∧ (((w.alloc a).alloc b).alloc c).heap[w.heap.size + 1 + 1]? = some c ∧ Below w.heap.size w (((w.alloc a).alloc b).alloc c) := by
  refine ⟨?_, ?_, ?_, (((Below.refl _ _).alloc (Nat.le_refl _) _).alloc (by simp) _).alloc (by simp; omega) _⟩
  · rw [Lib.alloc_old _ _ _ (by simp; omega), Lib.alloc_old _ _ _ (by simp)]; exact Go.heap_alloc_new w a
  · rw [Lib.alloc_old _ _ _ (by simp)]
    have := Go.heap_alloc_new (w.alloc a) b
    simpa using this
  · have := Go.heap_alloc_new ((w.alloc a).alloc b) c
    simpa using this
theorem at0 (b j : Nat) : (⟨b, 0, none⟩ : Addr).add j = ⟨b, j, none⟩ := by unfold Addr.add; split <;> simp_all
theorem spread_start (l : List UInt32) (hl : l.length = 16) : splice (List.replicate 64 0) 0 l = spreadTo l 16 := by
  simp [splice, spreadTo, hl]
theorem spread_succ (l : List UInt32) (k : Nat) (hk : 16 ≤ k) : spreadTo l (k + 1) = sstep (spreadTo l k) k := by
  simp only [spreadTo]
  rw [show k + 1 - 16 = (k - 16) + 1 from by omega, List.range'_concat, List.foldl_append]
  simp only [List.foldl_cons, List.foldl_nil]
  rw [show 16 + 1 * (k - 16) = k from by omega]
theorem sstep_length (l : List UInt32) (k : Nat) : (sstep l k).length = l.length := by simp [sstep]
theorem spread_length (l : List UInt32) (hl : l.length = 16) (j : Nat) : (spreadTo l (16 + j)).length = 64 := by
  induction j with
  | zero => simp [spreadTo, hl]
  | succ j ih => rw [← Nat.add_assoc, spread_succ l _ (by omega), sstep_length, ih]
theorem spread_length' (l : List UInt32) (hl : l.length = 16) (k : Nat) (hk : 16 ≤ k) : (spreadTo l k).length = 64 := by
  have := spread_length l hl (k - 16)
  rwa [show 16 + (k - 16) = k from by omega] at this
set_option maxHeartbeats 2000000 in
set_option maxRecDepth 100000 in
theorem spread_any (l : List UInt32) (hl : l.length = 16) (w : World) :
    Calls Tryz.prog 193 #[.agg (ws l)] w fun e w' => e = .returned (.agg (ws (spreadL l))) ∧ Below w.heap.size w w' := by
  have HL := Lib.hid hl
  clear hl
  go_enter Tryz.func193, Tryz.ntmps193
  go_wp2_with fail
  generalize hw : World.alloc (World.alloc (World.alloc w _) _) _ = w1
  have HA : Hid (w1.heap[w.heap.size]? = some (.cells (ws l) 219 (0, 0))) := Lib.hid (by rw [← hw]; exact (alloc3 w _ _ _).1)
  have HO : Hid (∃ old : Array Value, w1.heap[w.heap.size + 1]? = some (.cells old 216 (0, 0)) ∧ old.size = 64) := Lib.hid ⟨_, by rw [← hw]; exact (alloc3 w _ _ _).2.1, by rfl⟩
  have HK : Hid (w1.heap[w.heap.size + 1 + 1]? = some (.cells (wl (List.replicate 64 0)).toArray 216 (0, 0))) := Lib.hid (by rw [← hw]; exact ((alloc3 w _ _ _).2.2.1).trans (by kernel_rfl))
  have HB : Hid (Below w.heap.size w w1) := Lib.hid (by rw [← hw]; exact (alloc3 w _ _ _).2.2.2)
  clear hw
  go_region_law (refine step_copy_splice rfl (.tmp 9) (.tmp 10) 69 69 rfl 111 Tryz.underlying69 s35 (some ⟨w.heap.size + 1 + 1, 0, none⟩) (some ⟨w.heap.size, 0, none⟩) 64 64 16 16 (by simp [Act.eval, Act.put]) (by simp [Act.eval, Act.put]) (w.heap.size + 1 + 1) 0 (wl (List.replicate 64 0)) 216 HK.out (wl l) (by rw [wl_length, HL.out]; rfl) (fun _ => ⟨rfl, _, rfl, fun j v hv => by rw [at0]; exact (blk_cell HA.out j).trans (by rw [← wl_ws]; simpa using hv)⟩) (by rw [wl_length, wl_length, HL.out]; simp) (wl_one _) (w.heap.size + 1 + 1) w1.drew (Below.refl _ _) (Nat.le_refl _) ?_; intro w4 hg4 hb4)
  have HK4 := Lib.hid hg4.out
  rw [wl_splice, spread_start l HL.out, wl_ws] at HK4
  have HO4 : Hid (∃ old : Array Value, w4.heap[w.heap.size + 1]? = some (.cells old 216 (0, 0)) ∧ old.size = 64) := Lib.hid (by
    obtain ⟨old, h1, h2⟩ := HO.out
    exact ⟨old, (hb4.block _ (by omega)).trans h1, h2⟩)
  have HB4 := Lib.hid (HB.out.drew.trans (hb4.mono (by omega)))
  clear hg4 hb4 HA HO HK HB
  go_wp2_with fail
  go_loopw [4] (fun i wr => ∃ k : Nat, 16 ≤ k ∧ k ≤ 64 ∧ i = .int .i64 k ∧ wr.heap[w.heap.size + 1 + 1]? = some (.cells (ws (spreadTo l k)) 216 (0, 0)) ∧ (∃ old : Array Value, wr.heap[w.heap.size + 1]? = some (.cells old 216 (0, 0)) ∧ old.size = 64) ∧ Below w.heap.size w wr) (fun i _ => 64 - (intOf i).toNat)
  case atStart => exact ⟨16, by omega, by omega, rfl, HK4.out, HO4.out, HB4.out⟩
  case round =>
    obtain ⟨k, hk, hk2, rfl, hB, hO, hW⟩ := hrel
    have HB := Lib.hid hB
    have HO := Lib.hid hO
    have HW := Lib.hid hW
    clear hB hO hW HK4 HO4 HB4
    by_cases hlt : k < 64
    · have HN := Lib.hid (spread_succ l k hk)
      have hln := spread_length' l HL.out k hk
      have c16 := (blk_cell HB.out (k - 16)).trans (ws_get _ _ (by omega))
      have c15 := (blk_cell HB.out (k - 15)).trans (ws_get _ _ (by omega))
      have c7 := (blk_cell HB.out (k - 7)).trans (ws_get _ _ (by omega))
      have c2 := (blk_cell HB.out (k - 2)).trans (ws_get _ _ (by omega))
      have ck := (blk_cell HB.out k).trans (ws_get _ _ (by omega))
      have fk := Lib.frozen_of_heap HB.out k
      unfold sstep at HN
      have e16 : (spreadTo l k).getD (k - 16) 0 = (spreadTo l k)[k - 16]'(by omega) := by simp [List.getD, show k - 16 < (spreadTo l k).length by omega]
      have e15 : (spreadTo l k).getD (k - 15) 0 = (spreadTo l k)[k - 15]'(by omega) := by simp [List.getD, show k - 15 < (spreadTo l k).length by omega]
      have e7 : (spreadTo l k).getD (k - 7) 0 = (spreadTo l k)[k - 7]'(by omega) := by simp [List.getD, show k - 7 < (spreadTo l k).length by omega]
      have e2 : (spreadTo l k).getD (k - 2) 0 = (spreadTo l k)[k - 2]'(by omega) := by simp [List.getD, show k - 2 < (spreadTo l k).length by omega]
      rw [e16, e15, e7, e2] at HN
      clear e16 e15 e7 e2
      generalize (spreadTo l k)[k - 16]'(by omega) = a16 at c16 HN
      generalize (spreadTo l k)[k - 15]'(by omega) = a15 at c15 HN
      generalize (spreadTo l k)[k - 7]'(by omega) = a7 at c7 HN
      generalize (spreadTo l k)[k - 2]'(by omega) = a2 at c2 HN
      generalize (spreadTo l k)[k]'(by omega) = ak at ck
      clear hln
      have t16 : ((k : Int) - 16).toNat = k - 16 := by omega
      have t15 : ((k : Int) - 15).toNat = k - 15 := by omega
      have t7 : ((k : Int) - 7).toNat = k - 7 := by omega
      have t2 : ((k : Int) - 2).toNat = k - 2 := by omega
      have R7 := Lib.hid (ror7 a15)
      have R18 := Lib.hid (ror18 a15)
      have R17 := Lib.hid (ror17 a2)
      have R19 := Lib.hid (ror19 a2)
      have x1 := xorW (rorW a15 7) (rorW a15 18)
      have x2 := xorW (rorW a15 7 ^^^ rorW a15 18) (shrW a15 3)
      have x3 := xorW (rorW a2 17) (rorW a2 19)
      have x4 := xorW (rorW a2 17 ^^^ rorW a2 19) (shrW a2 10)
      have d1 : (a15.toNat : Int) / 8 = ((shrW a15 3).toNat : Int) := shrW_div a15 3 8 (by decide)
      have d2 : (a2.toNat : Int) / 1024 = ((shrW a2 10).toNat : Int) := shrW_div a2 10 1024 (by decide)
      have s1 : ((a16.toNat : Int) + ((sig0 a15).toNat : Int) + (a7.toNat : Int) + ((sig1 a2).toNat : Int)) % 4294967296 = ((a16 + sig0 a15 + a7 + sig1 a2).toNat : Int) := by
        rw [UInt32.toNat_add, UInt32.toNat_add, UInt32.toNat_add]; omega
      generalize a16 + sig0 a15 + a7 + sig1 a2 = y at s1 HN
      unfold sig0 sig1 at s1
      generalize rorW a15 7 ^^^ rorW a15 18 ^^^ shrW a15 3 = q0 at x2 s1
      generalize rorW a2 17 ^^^ rorW a2 19 ^^^ shrW a2 10 = q1 at x4 s1
      generalize rorW a15 7 ^^^ rorW a15 18 = p0 at x1 x2
      generalize rorW a2 17 ^^^ rorW a2 19 = p1 at x3 x4
      generalize rorW a15 7 = r7 at x1 R7
      generalize rorW a15 18 = r18 at x1 R18
      generalize rorW a2 17 = r17 at x3 R17
      generalize rorW a2 19 = r19 at x3 R19
      generalize shrW a15 3 = h3 at d1 x2
      generalize shrW a2 10 = h10 at d2 x4
      go_wp2_with fail
      go_region
      go_wp2_with fail
      refine (R7.out _).mono ?_
      rintro e w5 ⟨rfl, rfl⟩
      go_wp2_with fail
      refine (R18.out _).mono ?_
      rintro e w5 ⟨rfl, rfl⟩
      go_wp2_with fail
      refine (R17.out _).mono ?_
      rintro e w5 ⟨rfl, rfl⟩
      go_wp2_with fail
      refine (R19.out _).mono ?_
      rintro e w5 ⟨rfl, rfl⟩
      go_wp2_with fail
      go_region
      have HB2 := Lib.hid (blk_put HB.out k (.int .u32 (y.toNat : Int)))
      rw [ws_set, ← HN.out] at HB2
      have HO2 : Hid (∃ old : Array Value, (wr.setCell ⟨w.heap.size + 1 + 1, k, none⟩ (.int .u32 (y.toNat : Int))).heap[w.heap.size + 1]? = some (.cells old 216 (0, 0)) ∧ old.size = 64) := Lib.hid (by
        obtain ⟨old, h1, h2⟩ := HO.out
        exact ⟨old, (Below.heap_setCell wr ⟨w.heap.size + 1 + 1, k, none⟩ (.int .u32 (y.toNat : Int)) (w.heap.size + 1) (by simp)).trans h1, h2⟩)
      have HW2 := Lib.hid (HW.out.setCell (p := ⟨w.heap.size + 1 + 1, k, none⟩) (by simp; omega) (.int .u32 (y.toNat : Int)))
      clear HB HO HW c16 c15 c7 c2 ck fk
      go_wp2_with fail
      go_roundw
      case rel => exact ⟨k + 1, by omega, by omega, by go_num, HB2.out, HO2.out, HW2.out.drew.drew⟩
      case measure => simp [intOf]; omega
    · obtain rfl : k = 64 := by omega
      have hL : (spreadL l).length = 64 := spread_length' l HL.out 64 (by omega)
      have HI := Lib.hid (i72 (spreadL l) hL)
      have HB' : Hid (wr.heap[w.heap.size + 1 + 1]? = some (.cells (ws (spreadL l)) 216 (0, 0))) := Lib.hid HB.out
      obtain ⟨old, ho1, ho2⟩ := HO.out
      have HO1 := Lib.hid ho1
      have HO2 := Lib.hid (show old.size = (ws (spreadL l)).size from by rw [ws_size, hL]; exact ho2)
      clear hL ho1 ho2
      go_wp2_with (first
        | (refine wpList_load_row rfl 216 (.tmp 3) rfl (w.heap.size + 1 + 1) rfl 216 (ws (spreadL l)) (0, 0) _ HB'.out u72 rfl HI.out ?_)
        | (refine wpList_store_row rfl 216 (.tmp 2) (.tmp 55) rfl (w.heap.size + 1) (ws (spreadL l)) rfl rfl 216 old HO1.out HI.out HO2.out (ws_one _) ?_))
      refine bodyPost_ret (v := .agg (ws (spreadL l))) (results_cell_row (p := 2) (ty := 216) rfl _ _ (w.heap.size + 1) 216 (ws (spreadL l)) (0, 0) _ rfl (setRow_put HO1.out) u72 rfl HI.out) rfl ⟨rfl, setRow_below HW.out (by omega)⟩
theorem qs {f : FuncId} {args : Array Value} {w : World} {v : Value} (h : Calls Tryz.prog f args w fun e w' => e = .returned v ∧ w = w') : Calls Tryz.prog f args w fun e w' => e = .returned v ∧ w' = w := h.mono fun _ _ h => ⟨h.1, h.2.symm⟩
theorem step_copy_row {P : Program} {ops : Array Oper} {o : Oper} {a : Act} {w : World} {K : Act → World → Prop} {Q : Exit → Act → World → Prop} {E : Prop} (hgd : o.guard = none) (d s : Operand) (dT sT : TypeId)
    (ho : o.op = .call { callee := .builtin .copy, args := #[d, s], argTypes := #[dT, sT] }) (elem : TypeId) (hu : P.underlying dT = some (.slice elem)) (hsz : (P.info? elem).map (·.size) = some 1)
    (g off : Nat) (ad : Addr) (dLen dCap sLen sCap : Nat) (hd : a.eval d = .slice (some ⟨g, off, none⟩) dLen dCap) (hs : a.eval s = .slice (some ad) sLen sCap)
    (cur : List Value) (t : TypeId) (hg : w.heap[g]? = some (.cells cur.toArray t (0, 0))) (cs : List Value) (hn : cs.length = Nat.min sLen dLen)
    (hsrc : ∀ j v, cs[j]? = some v → w.cell? (ad.add j) = some v) (hfit : off + cs.length ≤ cur.length) (h1 : ∀ v ∈ cs, v.oneCell' = true)
    (h : K (a.put o.dst (goInt cs.length)) (w.setRow g (splice cur off cs).toArray)) :
    if Region.wanted o (yielded ops a.tmps) = true then Oper.wp P o a w K Q else E := by
  have hw : Region.wanted o (yielded ops a.tmps) = true := by simp [Region.wanted, hgd]
  rw [if_pos hw]
  have hrun := run_copy_row (P := P) w dT sT o.type elem g off dLen dCap ad sLen sCap cur.toArray t cs hu hsz hg hn hsrc (by simpa using hfit) h1
  unfold Oper.wp
  simp [execOp, ho, resolve, invoke, builtin, hd, hs, hrun, Result.andThen]
  exact h
def Oth (b : Nat) (w w' : World) : Prop := (∀ j : Nat, j ≠ b → w'.heap[j]? = w.heap[j]?) ∧ Below b w w'
theorem Oth.refl (b : Nat) (w : World) : Oth b w w := ⟨fun _ _ => rfl, Below.refl _ _⟩
theorem Oth.drew {b : Nat} {w w' : World} (h : Oth b w w') : Oth b w w'.drew := ⟨h.1, h.2.drew⟩
theorem Oth.setRow {b : Nat} {w w' : World} (h : Oth b w w') (cs : Array Value) : Oth b w (w'.setRow b cs) :=
  ⟨fun j hj => by
    rw [← h.1 j hj]
    simp only [World.setRow, Array.getElem?_modify]
    rw [if_neg (fun e => hj e.symm)], setRow_below h.2 (Nat.le_refl _)⟩
theorem Oth.setCell {b : Nat} {w w' : World} (h : Oth b w w') (o : Nat) (v : Value) : Oth b w (w'.setCell ⟨b, o, none⟩ v) :=
  ⟨fun j hj => (Below.heap_setCell w' ⟨b, o, none⟩ v j hj).trans (h.1 j hj), h.2.setCell (p := ⟨b, o, none⟩) (Nat.le_refl _) _⟩
set_option maxHeartbeats 8000000 in
set_option maxRecDepth 100000 in
theorem turn8_any (b : Nat) (h0 h1 h2 h3 h4 h5 h6 h7 n : UInt32) (w : World) (hb : w.heap[b]? = some (.cells (ws [h0, h1, h2, h3, h4, h5, h6, h7]) 169 (0, 0))) :
    Calls Tryz.prog 195 #[.pointer (some ⟨b, 0, none⟩), .int .u32 (n.toNat : Int)] w fun e w' => e = .returned (.tuple #[]) ∧
      w'.heap[b]? = some (.cells (ws (turnL [h0, h1, h2, h3, h4, h5, h6, h7] n)) 169 (0, 0)) ∧ Oth b w w' := by
  have HB := Lib.hid hb
  have c0 : w.cell? ⟨b, 0, none⟩ = some (.int .u32 (h0.toNat : Int)) := blk_cell hb 0
  have c1 : w.cell? ⟨b, 1, none⟩ = some (.int .u32 (h1.toNat : Int)) := blk_cell hb 1
  have c2 : w.cell? ⟨b, 2, none⟩ = some (.int .u32 (h2.toNat : Int)) := blk_cell hb 2
  have c4 : w.cell? ⟨b, 4, none⟩ = some (.int .u32 (h4.toNat : Int)) := blk_cell hb 4
  have c5 : w.cell? ⟨b, 5, none⟩ = some (.int .u32 (h5.toNat : Int)) := blk_cell hb 5
  have c6 : w.cell? ⟨b, 6, none⟩ = some (.int .u32 (h6.toNat : Int)) := blk_cell hb 6
  have c7 : w.cell? ⟨b, 7, none⟩ = some (.int .u32 (h7.toNat : Int)) := blk_cell hb 7
  have R6 := Lib.hid (ror6 h4)
  have R11 := Lib.hid (ror11 h4)
  have R25 := Lib.hid (ror25 h4)
  have R2 := Lib.hid (ror2 h0)
  have R13 := Lib.hid (ror13 h0)
  have R22 := Lib.hid (ror22 h0)
  have x1 := xorW (rorW h4 6) (rorW h4 11)
  have x2 := xorW (rorW h4 6 ^^^ rorW h4 11) (rorW h4 25)
  have x3 := andW h4 h5
  have x4 := andNotW h6 h4
  have x5 := xorW (h4 &&& h5) (h6 &&& ~~~h4)
  have y1 := xorW (rorW h0 2) (rorW h0 13)
  have y2 := xorW (rorW h0 2 ^^^ rorW h0 13) (rorW h0 22)
  have y3 := andW h0 h1
  have y4 := andW h0 h2
  have y5 := xorW (h0 &&& h1) (h0 &&& h2)
  have y6 := andW h1 h2
  have y7 := xorW (h0 &&& h1 ^^^ h0 &&& h2) (h1 &&& h2)
  have hT : (((h7.toNat : Int) + ((S1 h4).toNat : Int) + ((Ch h4 h5 h6).toNat : Int)) % 4294967296 + (n.toNat : Int)) % 4294967296 = ((h7 + S1 h4 + Ch h4 h5 h6 + n).toNat : Int) := by
    rw [UInt32.toNat_add, UInt32.toNat_add, UInt32.toNat_add]; omega
  have hU : (((S0 h0).toNat : Int) + ((Maj h0 h1 h2).toNat : Int)) % 4294967296 = ((S0 h0 + Maj h0 h1 h2).toNat : Int) := by
    rw [UInt32.toNat_add]; omega
  have HL : Hid (turnL [h0, h1, h2, h3, h4, h5, h6, h7] n = [(h7 + S1 h4 + Ch h4 h5 h6 + n) + (S0 h0 + Maj h0 h1 h2), h0, h1, h2, h3 + (h7 + S1 h4 + Ch h4 h5 h6 + n), h4, h5, h6]) := Lib.hid rfl
  rw [HL.out]
  clear HL
  generalize h7 + S1 h4 + Ch h4 h5 h6 + n = T at hT ⊢
  generalize S0 h0 + Maj h0 h1 h2 = U at hU ⊢
  unfold S1 Ch at hT
  unfold S0 Maj at hU
  have hE : ((h3.toNat : Int) + (T.toNat : Int)) % 4294967296 = ((h3 + T).toNat : Int) := by rw [UInt32.toNat_add]; omega
  have hF : ((T.toNat : Int) + (U.toNat : Int)) % 4294967296 = ((T + U).toNat : Int) := by rw [UInt32.toNat_add]; omega
  generalize h3 + T = E at hE ⊢
  generalize T + U = F at hF ⊢
  generalize rorW h4 6 ^^^ rorW h4 11 ^^^ rorW h4 25 = s1 at x2 hT
  generalize rorW h4 6 ^^^ rorW h4 11 = p1 at x1 x2
  generalize h4 &&& h5 ^^^ h6 &&& ~~~h4 = ch at x5 hT
  generalize h4 &&& h5 = q1 at x3 x5
  generalize h6 &&& ~~~h4 = q2 at x4 x5
  generalize rorW h0 2 ^^^ rorW h0 13 ^^^ rorW h0 22 = s0 at y2 hU
  generalize rorW h0 2 ^^^ rorW h0 13 = p0 at y1 y2
  generalize h0 &&& h1 ^^^ h0 &&& h2 ^^^ h1 &&& h2 = mj at y7 hU
  generalize h0 &&& h1 ^^^ h0 &&& h2 = m3 at y5 y7
  generalize h0 &&& h1 = m1 at y3 y5
  generalize h0 &&& h2 = m2 at y4 y5
  generalize h1 &&& h2 = m4 at y6 y7
  generalize rorW h4 6 = r6 at x1 R6
  generalize rorW h4 11 = r11 at x1 R11
  generalize rorW h4 25 = r25 at x2 R25
  generalize rorW h0 2 = r2 at y1 R2
  generalize rorW h0 13 = r13 at y1 R13
  generalize rorW h0 22 = r22 at y2 R22
  clear hb
  go_enter Tryz.func195, Tryz.ntmps195
  go_wp2_with fail
  go_region
  have HB1 : Hid (w.drew.heap[b]? = some (.cells (ws [h0, h1, h2, h3, h4, h5, h6, h7]) 169 (0, 0))) := Lib.hid HB.out
  have HD : Hid (Oth b w w.drew) := Lib.hid (Oth.refl b w).drew
  clear c0 c1 c2 c4 c5 c6 c7 HB
  generalize w.drew = w1 at HB1 HD ⊢
  have c7 : w1.cell? ⟨b, 7, none⟩ = some (.int .u32 (h7.toNat : Int)) := blk_cell HB1.out 7
  go_wp2_with fail
  go_quiet ((go_at_call 205; first | exact Calls.quiet_of_same (qs (R6.out _)) | exact Calls.quiet_of_same (qs (R11.out _)) | exact Calls.quiet_of_same (qs (R25.out _))))
  have HB2 : Hid ((w1.drewN nq).heap[b]? = some (.cells (ws [h0, h1, h2, h3, h4, h5, h6, h7]) 169 (0, 0))) := Lib.hid HB1.out
  have HD2 : Hid (Oth b w (w1.drewN nq)) := Lib.hid ⟨HD.out.1, ⟨HD.out.2.os, HD.out.2.tape, HD.out.2.output, HD.out.2.size, HD.out.2.block⟩⟩
  clear c7 HB1 HD
  generalize w1.drewN nq = w2 at HB2 HD2 ⊢
  go_wp2_with fail
  refine (R2.out _).mono ?_
  rintro e w5 ⟨rfl, rfl⟩
  go_wp2_with fail
  refine (R13.out _).mono ?_
  rintro e w5 ⟨rfl, rfl⟩
  go_wp2_with fail
  refine (R22.out _).mono ?_
  rintro e w5 ⟨rfl, rfl⟩
  go_wp2_with fail
  go_region_law (refine step_copy_row rfl (.tmp 81) (.tmp 84) 69 69 rfl 111 Tryz.underlying69 s35 b 1 ⟨b, 0, none⟩ 7 7 7 8 (by simp [Act.eval, Act.put]) (by simp [Act.eval, Act.put]) (wl [h0, h1, h2, h3, h4, h5, h6, h7]) 169 HB2.out (wl [h0, h1, h2, h3, h4, h5, h6]) rfl (fun j v hv => by rw [at0]; refine (blk_cell HB2.out j).trans ?_; have hj := (List.getElem?_eq_some_iff.1 hv).1; simp only [wl, List.map_cons, List.map_nil, List.length_cons, List.length_nil] at hj; simp only [ws, wl, List.map_cons, List.map_nil] at hv ⊢; match j, hj with | 0, _ => exact hv | 1, _ => exact hv | 2, _ => exact hv | 3, _ => exact hv | 4, _ => exact hv | 5, _ => exact hv | 6, _ => exact hv) (by simp [wl]) (wl_one _) ?_)
  have HB3 : Hid ((w2.drew.setRow b (splice (wl [h0, h1, h2, h3, h4, h5, h6, h7]) 1 (wl [h0, h1, h2, h3, h4, h5, h6])).toArray).heap[b]? = some (.cells (ws [h0, h0, h1, h2, h3, h4, h5, h6]) 169 (0, 0))) := Lib.hid (setRow_put (show w2.drew.heap[b]? = _ from HB2.out))
  have HD3 := Lib.hid (HD2.out.drew.setRow (splice (wl [h0, h1, h2, h3, h4, h5, h6, h7]) 1 (wl [h0, h1, h2, h3, h4, h5, h6])).toArray)
  clear HB2 HD2
  generalize w2.drew.setRow b (splice (wl [h0, h1, h2, h3, h4, h5, h6, h7]) 1 (wl [h0, h1, h2, h3, h4, h5, h6])).toArray = w3 at HB3 HD3 ⊢
  have c4 : w3.cell? ⟨b, 4, none⟩ = some (.int .u32 (h3.toNat : Int)) := blk_cell HB3.out 4
  have f4 := Lib.frozen_of_heap HB3.out 4
  go_wp2_with fail
  go_region
  have HB4 : Hid ((w3.setCell ⟨b, 4, none⟩ (.int .u32 (E.toNat : Int))).heap[b]? = some (.cells (ws [h0, h0, h1, h2, E, h4, h5, h6]) 169 (0, 0))) := Lib.hid (by
    have := blk_put HB3.out 4 (.int .u32 (E.toNat : Int))
    rwa [ws_set] at this)
  have HD4 := Lib.hid (HD3.out.setCell 4 (.int .u32 (E.toNat : Int)))
  clear c4 f4 HB3 HD3
  generalize w3.setCell ⟨b, 4, none⟩ (.int .u32 (E.toNat : Int)) = w4 at HB4 HD4 ⊢
  have c0 : w4.cell? ⟨b, 0, none⟩ = some (.int .u32 (h0.toNat : Int)) := blk_cell HB4.out 0
  have f0 := Lib.frozen_of_heap HB4.out 0
  go_wp2_with fail
  have HB5 : Hid ((w4.setCell ⟨b, 0, none⟩ (.int .u32 (F.toNat : Int))).heap[b]? = some (.cells (ws [F, h0, h1, h2, E, h4, h5, h6]) 169 (0, 0))) := Lib.hid (by
    have := blk_put HB4.out 0 (.int .u32 (F.toNat : Int))
    rwa [ws_set] at this)
  have HD5 := Lib.hid ((HD4.out.setCell 0 (.int .u32 (F.toNat : Int))).drew)
  clear c0 f0 HB4 HD4
  go_end0
  exact ⟨rfl, HB5.out, HD5.out⟩
theorem turn_any (b : Nat) (h : List UInt32) (hl : h.length = 8) (n : UInt32) (w : World) (hb : w.heap[b]? = some (.cells (ws h) 169 (0, 0))) :
    Calls Tryz.prog 195 #[.pointer (some ⟨b, 0, none⟩), .int .u32 (n.toNat : Int)] w fun e w' => e = .returned (.tuple #[]) ∧
      w'.heap[b]? = some (.cells (ws (turnL h n)) 169 (0, 0)) ∧ Oth b w w' := by
  match h, hl with
  | [h0, h1, h2, h3, h4, h5, h6, h7], _ => exact turn8_any b h0 h1 h2 h3 h4 h5 h6 h7 n w hb
theorem turns_succ (w h : List UInt32) (k : Nat) : turnsTo w h (k + 1) = turnL (turnsTo w h k) (kL.getD k 0 + w.getD k 0) := by
  simp [turnsTo, List.range_succ]
theorem turn_length (h : List UInt32) (hl : h.length = 8) (n : UInt32) : (turnL h n).length = 8 := by
  match h, hl with
  | [a, b, c, d, e, f, g, i], _ => rfl
theorem turns_length (w h : List UInt32) (hl : h.length = 8) (k : Nat) : (turnsTo w h k).length = 8 := by
  induction k with
  | zero => exact hl
  | succ k ih => rw [turns_succ, turn_length _ ih]
theorem num_length (b : List UInt8) : (numsL b).length = 16 := nums_length b 64
theorem spr_length (b : List UInt8) : (spreadL (numsL b)).length = 64 := spread_length' _ (num_length b) 64 (by omega)
theorem addW' (x y : UInt32) : ((x.toNat : Int) + (y.toNat : Int)) % 4294967296 = ((x + y).toNat : Int) := by
  rw [UInt32.toNat_add]; omega
theorem alloc2a (w : World) (a b : Obj) : ((w.alloc a).alloc b).heap[w.heap.size]? = some a := by
  rw [Lib.alloc_old _ _ _ (by simp)]; exact Go.heap_alloc_new w a
theorem alloc2b (w : World) (a b : Obj) : ((w.alloc a).alloc b).heap[w.heap.size + 1]? = some b := by
  have := Go.heap_alloc_new (w.alloc a) b
  simpa using this
theorem alloc2_old (w : World) (a b : Obj) (k : Nat) (h : k < w.heap.size) : ((w.alloc a).alloc b).heap[k]? = w.heap[k]? := by
  rw [Lib.alloc_old _ _ _ (by simp; omega), Lib.alloc_old _ _ _ h]
theorem setRow_oth (w : World) (g k : Nat) (cs : Array Value) (h : k ≠ g) : (w.setRow g cs).heap[k]? = w.heap[k]? := setRow_other w g k cs h
theorem setRow_size (w : World) (g : Nat) (cs : Array Value) : (w.setRow g cs).heap.size = w.heap.size := by simp [World.setRow]
structure Nx (w wr : World) (n3 n4 : Nat) (h v ww : List UInt32) : Prop where
  st : wr.heap[w.heap.size]? = some (.cells (ws v) 169 (0, 0))
  res : ∃ old : Array Value, wr.heap[w.heap.size + 1]? = some (.cells old 169 (0, 0)) ∧ old.size = 8
  ks : wr.heap[n3]? = some (.cells (ws kL) 216 (0, 0))
  wws : wr.heap[n3 + 1]? = some (.cells (ws ww) 216 (0, 0))
  old : wr.heap[n4]? = some (.cells (ws h) 169 (0, 0))
  below : Below w.heap.size w wr
  l3 : w.heap.size + 2 ≤ n3
  l4 : n3 + 2 ≤ n4
theorem Nx.on {w wr w' : World} {n3 n4 : Nat} {h v v' ww : List UInt32} (x : Nx w wr n3 n4 h v ww) (hv : w'.heap[w.heap.size]? = some (.cells (ws v') 169 (0, 0))) (ho : Oth w.heap.size wr w') : Nx w w' n3 n4 h v' ww := by
  have h3 := x.l3
  have h4 := x.l4
  refine ⟨hv, ?_, (ho.1 _ (by omega)).trans x.ks, (ho.1 _ (by omega)).trans x.wws, (ho.1 _ (by omega)).trans x.old, x.below.trans ho.2, h3, h4⟩
  obtain ⟨o, h1, h2⟩ := x.res
  exact ⟨o, (ho.1 _ (by omega)).trans h1, h2⟩
def zipTo (v h : List UInt32) (k : Nat) : List UInt32 := (List.zipWith (· + ·) v h).take k ++ v.drop k
theorem zipTo_length (v h : List UInt32) (hv : v.length = 8) (hh : h.length = 8) (k : Nat) : (zipTo v h k).length = 8 := by
  simp [zipTo, hv, hh]; omega
theorem zipTo_get (v h : List UInt32) (hv : v.length = 8) (hh : h.length = 8) (k : Nat) (hk : k < 8) : (zipTo v h k)[k]'(by rw [zipTo_length v h hv hh]; exact hk) = v[k] := by
  simp only [zipTo]
  rw [List.getElem_append_right (by simp; omega)]
  simp [hv, hh, Nat.min_eq_left (Nat.le_of_lt hk)]
theorem zipTo_set (v h : List UInt32) (hv : v.length = 8) (hh : h.length = 8) (k : Nat) (hk : k < 8) : (zipTo v h k).set k (v[k] + h[k]) = zipTo v h (k + 1) := by
  have hz : (List.zipWith (· + ·) v h).length = 8 := by simp [hv, hh]
  simp only [zipTo]
  have e : k - ((List.zipWith (· + ·) v h).take k).length = 0 := by rw [List.length_take, hz]; omega
  rw [List.set_append_right _ _ (by rw [List.length_take, hz]; omega), e, List.drop_eq_getElem_cons (by omega), List.set_cons_zero, List.take_succ_eq_append_getElem (by omega), List.append_assoc]
  simp
theorem zipTo_all (v h : List UInt32) (hv : v.length = 8) (hh : h.length = 8) : zipTo v h 8 = List.zipWith (· + ·) v h := by
  unfold zipTo
  rw [List.take_of_length_le (by simp [hv, hh]), List.drop_of_length_le (by omega), List.append_nil]
set_option maxHeartbeats 4000000 in
set_option maxRecDepth 100000 in
theorem next_any (h : List UInt32) (hl : h.length = 8) (b : List UInt8) (hb : b.length = 64) (w : World) :
    Calls Tryz.prog 171 #[.agg (ws h), .string ⟨b.toArray⟩] w fun e w' => e = .returned (.agg (ws (nextL h b))) ∧ Below w.heap.size w w' := by
  have HL := Lib.hid hl
  have HC := Lib.hid consts_any
  have HN := Lib.hid (numbers_any b hb)
  have HS := Lib.hid (spread_any (numsL b) (num_length b))
  have HKL := Lib.hid (spr_length b)
  have HX : Hid (nextL h b = List.zipWith (· + ·) (turnsTo (spreadL (numsL b)) h 64) h) := Lib.hid rfl
  clear hl hb
  generalize spreadL (numsL b) = ww at HS HKL HX
  go_enter Tryz.func171, Tryz.ntmps171
  go_wp2_with fail
  refine (HC.out _).mono ?_
  rintro e w1 ⟨rfl, b1⟩
  go_wp2_with fail
  refine (HN.out _).mono ?_
  rintro e w2 ⟨rfl, b2⟩
  go_wp2_with fail
  refine (HS.out _).mono ?_
  rintro e w3 ⟨rfl, b3⟩
  have hb123 := b1.trans ((b2.mono b1.size).trans (b3.mono (Nat.le_trans b1.size b2.size)))
  have hz3 : w.heap.size + 2 ≤ w3.heap.size := by
    have := hb123.size
    simpa using this
  have HW3 := Lib.hid hb123
  have HZ3 := Lib.hid hz3
  clear hb123 hz3 b1 b2 b3 HC HN HS
  go_upto_region 2 with (first
    | (refine wpList_store_row rfl 216 (.tmp 5) (.tmp 10) rfl w3.heap.size (ws kL) rfl rfl 216 _ (alloc2a w3 _ _) (i72 kL kL_length) (by rw [ws_size, kL_length]; rfl) (ws_one _) ?_)
    | (refine wpList_store_row rfl 216 (.tmp 6) (.tmp 13) rfl (w3.heap.size + 1) (ws ww) rfl rfl 216 _ ((setRow_oth _ _ _ _ (by omega)).trans (alloc2b w3 _ _)) (i72 ww HKL.out) (by rw [ws_size, HKL.out]; rfl) (ws_one _) ?_))
  generalize hw4 : World.setRow (World.setRow (World.alloc (World.alloc w3 _) _) _ _) _ _ = w4
  have HS4 : Hid (w4.heap.size = w3.heap.size + 2) := Lib.hid (by rw [← hw4, setRow_size, setRow_size]; simp)
  have HX4 : Hid (w4.heap[w.heap.size]? = some (.cells (ws h) 169 (0, 0)) ∧ (∃ old : Array Value, w4.heap[w.heap.size + 1]? = some (.cells old 169 (0, 0)) ∧ old.size = 8) ∧
      w4.heap[w3.heap.size]? = some (.cells (ws kL) 216 (0, 0)) ∧ w4.heap[w3.heap.size + 1]? = some (.cells (ws ww) 216 (0, 0)) ∧ Below w.heap.size w w4) := Lib.hid (by
    have hz := HZ3.out
    rw [← hw4]
    refine ⟨?_, ⟨_, ((setRow_oth _ _ _ _ (by omega)).trans ((setRow_oth _ _ _ _ (by omega)).trans (alloc2_old w3 _ _ _ (by omega)))).trans ((HW3.out.block _ (by simp)).trans (alloc2b w _ _)), rfl⟩, ?_, ?_, ?_⟩
    · rw [setRow_oth _ _ _ _ (by omega), setRow_oth _ _ _ _ (by omega), alloc2_old w3 _ _ _ (by omega)]
      exact (HW3.out.block _ (by simp; omega)).trans (alloc2a w _ _)
    · rw [setRow_oth _ _ _ _ (by omega)]
      exact setRow_put (alloc2a w3 _ _)
    · exact setRow_put ((setRow_oth _ _ _ _ (by omega)).trans (alloc2b w3 _ _))
    · exact setRow_below (setRow_below (((((((Below.refl _ _).alloc (Nat.le_refl _) _).alloc (by simp) _).trans (HW3.out.mono (by simp; omega))).alloc (by omega) _).alloc (by simp; omega) _)) (by omega)) (by omega))
  clear hw4 HW3
  have HH4 := Lib.hid HX4.out.1
  go_wp2_with (first
    | (refine wpList_load_row rfl 169 (.tmp 2) rfl w.heap.size rfl 169 (ws h) (0, 0) _ HH4.out u37 rfl (i37 h HL.out) ?_)
    | (refine wpList_store_row rfl 169 (.tmp 7) (.tmp 14) rfl w4.heap.size (ws h) rfl rfl 169 _ (Go.heap_alloc_new w4 _) (i37 h HL.out) (by rw [ws_size, HL.out]; rfl) (ws_one _) ?_))
  go_loopw [15] (fun i wr => ∃ k : Nat, k ≤ 64 ∧ i = .int .i64 k ∧ Nx w wr w3.heap.size w4.heap.size h (turnsTo ww h k) ww) (fun i _ => 64 - (intOf i).toNat)
  case atStart =>
    obtain ⟨g1, ⟨old, g2, g2'⟩, g3, g4, g5⟩ := HX4.out
    have hz3 := HZ3.out
    have hs4 := HS4.out
    refine ⟨0, by omega, rfl, ?_, ⟨old, ?_, g2'⟩, ?_, ?_, setRow_put (Go.heap_alloc_new w4 _), setRow_below (g5.alloc (by omega) _) (by omega), hz3, by omega⟩
    · rw [setRow_oth _ _ _ _ (by omega), Lib.alloc_old _ _ _ (by omega)]; exact g1
    · rw [setRow_oth _ _ _ _ (by omega), Lib.alloc_old _ _ _ (by omega)]; exact g2
    · rw [setRow_oth _ _ _ _ (by omega), Lib.alloc_old _ _ _ (by omega)]; exact g3
    · rw [setRow_oth _ _ _ _ (by omega), Lib.alloc_old _ _ _ (by omega)]; exact g4
  case round =>
    obtain ⟨k, hk, rfl, hx⟩ := hrel
    have HN := Lib.hid hx
    clear hx HX4 HH4
    by_cases hlt : k < 64
    · have ck := (blk_cell HN.out.ks k).trans (ws_get kL k (by rw [kL_length]; exact hlt))
      have cw := (blk_cell HN.out.wws k).trans (ws_get ww k (by rw [HKL.out]; exact hlt))
      have HT := Lib.hid (turns_succ ww h k)
      have e1 : kL.getD k 0 = kL[k]'(by rw [kL_length]; exact hlt) := by simp [List.getD, show k < kL.length by rw [kL_length]; exact hlt]
      have e2 : ww.getD k 0 = ww[k]'(by rw [HKL.out]; exact hlt) := by simp [List.getD, show k < ww.length by rw [HKL.out]; exact hlt]
      rw [e1, e2] at HT
      clear e1 e2
      generalize kL[k]'(by rw [kL_length]; exact hlt) = xk at ck HT
      generalize ww[k]'(by rw [HKL.out]; exact hlt) = xw at cw HT
      have s1 := addW xk xw
      have s2 := addW' xk xw
      generalize xk + xw = y at s1 s2 HT
      go_wp2_with fail
      go_still_tail 7, (by kernel_rfl)
      change wpList _ _ _ _ _ wr.drew
      have HN1 : Hid (Nx w wr.drew w3.heap.size w4.heap.size h (turnsTo ww h k) ww) := Lib.hid (HN.out.on HN.out.st ⟨fun _ _ => rfl, (Below.refl _ _).drew⟩)
      clear ck cw HN
      have HC := Lib.hid (turn_any w.heap.size (turnsTo ww h k) (turns_length ww h HL.out k) y wr.drew HN1.out.st)
      generalize wr.drew = wr1 at HN1 HC ⊢
      go_wp2_with fail
      refine HC.out.mono ?_
      rintro e w5 ⟨rfl, hv, ho⟩
      have HN2 : Hid (Nx w w5 w3.heap.size w4.heap.size h (turnsTo ww h (k + 1)) ww) := Lib.hid (HN1.out.on (by rw [HT.out]; exact hv) ho)
      clear HC hv ho HN1
      go_wp2_with fail
      go_roundw
      case rel => exact ⟨k + 1, by omega, by go_num, HN2.out⟩
      case measure => simp [intOf]; omega
    · obtain rfl : k = 64 := by omega
      go_wp2_with fail
      have HN0 : Hid (Nx w wr w3.heap.size w4.heap.size h (zipTo (turnsTo ww h 64) h 0) ww) := Lib.hid HN.out
      have HVL := Lib.hid (turns_length ww h HL.out 64)
      have HZ : Hid (zipTo (turnsTo ww h 64) h 8 = nextL h b) := Lib.hid ((zipTo_all _ _ HVL.out HL.out).trans HX.out.symm)
      clear HX HN
      generalize turnsTo ww h 64 = v at HN0 HVL HZ
      go_loopw [27] (fun i wr => ∃ k : Nat, k ≤ 8 ∧ i = .int .i64 k ∧ Nx w wr w3.heap.size w4.heap.size h (zipTo v h k) ww) (fun i _ => 8 - (intOf i).toNat)
      case atStart => exact ⟨0, by omega, rfl, HN0.out⟩
      case round =>
        obtain ⟨k, hk, rfl, hx⟩ := hrel
        have HN := Lib.hid hx
        clear hx HN0
        by_cases hlt : k < 8
        · have cv := (blk_cell HN.out.st k).trans (ws_get _ k (by rw [zipTo_length v h HVL.out HL.out]; exact hlt))
          rw [zipTo_get v h HVL.out HL.out k hlt] at cv
          have ch := (blk_cell HN.out.old k).trans (ws_get h k (by rw [HL.out]; exact hlt))
          have fv := Lib.frozen_of_heap HN.out.st k
          have HT := Lib.hid (zipTo_set v h HVL.out HL.out k hlt)
          generalize v[k]'(by rw [HVL.out]; exact hlt) = xv at cv HT
          generalize h[k]'(by rw [HL.out]; exact hlt) = xh at ch HT
          have s1 := addW xv xh
          have s2 := addW' xv xh
          generalize xv + xh = y at s1 s2 HT
          go_wp2_with fail
          go_region
          have HN2 : Hid (Nx w ((wr.setCell ⟨w.heap.size, k, none⟩ (.int .u32 (y.toNat : Int))).drew) w3.heap.size w4.heap.size h (zipTo v h (k + 1)) ww) := Lib.hid (HN.out.on (by
            have := blk_put HN.out.st k (.int .u32 (y.toNat : Int))
            rw [ws_set, HT.out] at this
            exact this) ((Oth.refl _ _).setCell k _).drew)
          clear HN cv ch fv
          go_wp2_with fail
          go_roundw
          case rel => exact ⟨k + 1, by omega, by go_num, HN2.out⟩
          case measure => simp [intOf]; omega
        · obtain rfl : k = 8 := by omega
          have hN := HN.out
          rw [HZ.out] at hN
          have HF := Lib.hid hN
          have HFL : Hid ((nextL h b).length = 8) := Lib.hid (by rw [← HZ.out]; exact zipTo_length v h HVL.out HL.out 8)
          obtain ⟨old, ho1, ho2⟩ := hN.res
          have HO1 := Lib.hid ho1
          have HO2 := Lib.hid (show old.size = (ws (nextL h b)).size from by rw [ws_size, HFL.out]; exact ho2)
          clear hN HN ho1 ho2
          go_wp2_with (first
            | (refine wpList_load_row rfl 169 (.tmp 2) rfl w.heap.size rfl 169 (ws (nextL h b)) (0, 0) _ HF.out.st Go.Proofs.YtpggkfdijmnmiaaGreat.Hs.u37 rfl (i37 _ HFL.out) ?_)
            | (refine wpList_store_row rfl 169 (.tmp 4) (.tmp 39) rfl (w.heap.size + 1) (ws (nextL h b)) rfl rfl 169 old HO1.out (i37 _ HFL.out) HO2.out (ws_one _) ?_))
          refine bodyPost_ret (v := .agg (ws (nextL h b))) (results_cell_row (p := 4) (ty := 169) rfl _ _ (w.heap.size + 1) 169 (ws (nextL h b)) (0, 0) _ rfl (setRow_put HO1.out) Go.Proofs.YtpggkfdijmnmiaaGreat.Hs.u37 rfl (i37 _ HFL.out)) rfl ⟨rfl, setRow_below HF.out.below (by omega)⟩
set_option maxHeartbeats 2000000 in
set_option maxRecDepth 100000 in
theorem writeByte_any (B b : Nat) (bs : List Value) (c : Int) (w : World) (h : Lib.IsBuilderF 188 5 B b bs w) (hlen : bs.length + 1 ≤ 140737488355328) (hBw : B ≤ w.heap.size) :
    Calls Tryz.prog 164 #[.pointer (some ⟨b, 0, none⟩), .int .u8 c] w fun e w' => e = .returned .nilIface ∧ Lib.BuilderAtF 188 5 B b (.pointer (some ⟨b, 0, none⟩)) (bs ++ [.int .u8 c]) w' ∧ Below B w w' ∧ Lib.OthersKept 5 (some b) w w' := by
  obtain ⟨i0, hi, hz0, hz1, hz2⟩ := info_parts infoByte
  go_enter Tryz.func164, Tryz.ntmps164
  go_wp2_with (go_at_call 187; refine (copyCheck_any B b bs _ h).mono ?_)
  rintro e w1 ⟨rfl, h1, hb1, hk1⟩
  obtain ⟨hB, v, hbk, hown, hne⟩ := h1
  have c0 : w1.cell? ⟨b, 0, none⟩ = some (.pointer (some ⟨b, 0, none⟩)) := by rw [Lib.cell_of_heap hbk]; rfl
  have c1 : w1.cell? ⟨b, 1, none⟩ = some v := by rw [Lib.cell_of_heap hbk]; rfl
  have hsz := hb1.size
  go_wp2_with (at_builtin; refine wpList_append_ownF _ rfl _ _ 101 rfl B 5 i0 (.int .u8 0) 1 1 Tryz.underlying101 hi hz0 hz1 hz2 rfl (by decide) _ _ _ rfl (hown.alloc _) ⟨w1.heap.size, 0, none⟩ 1 1 [.int .u8 c] rfl rfl ?c1 ?c2 ?c3 ?c4 ?c5 ?_)
  case c1 =>
    intro j u hj
    match j, hj with
    | 0, hj => simp at hj; subst hj; simp [Addr.add]
  case c2 => intro u hu; simp at hu; subst hu; rfl
  case c3 => unfold maxLen; omega
  case c4 => omega
  case c5 => simp; omega
  intro v' w2 hown' hgrow _
  have hlt := blk_lt hbk
  have hb2 : w2.heap[b]? = some (.cells #[.pointer (some ⟨b, 0, none⟩), v] 188 (0, 0)) := by
    rw [hgrow.block b (by simp; omega) (fun e => hne e.symm), Lib.alloc_old w1 _ b hlt]
    exact hbk
  have d0 : w2.cell? ⟨b, 0, none⟩ = some (.pointer (some ⟨b, 0, none⟩)) := by rw [Lib.cell_of_heap hb2]; rfl
  have d1 : w2.cell? ⟨b, 1, none⟩ = some v := by rw [Lib.cell_of_heap hb2]; rfl
  have f1 : w2.frozen? ⟨b, 1, none⟩ = false := Lib.frozen_of_heap hb2 1
  obtain ⟨g, cap, rfl⟩ : ∃ g cap, v' = .slice (some ⟨g, 0, none⟩) (bs.length + 1) cap := by
    rcases hown'.2 with ⟨_, h0⟩ | ⟨g, cap, cur, fz, hv, _⟩
    · omega
    · exact ⟨g, cap, hv⟩
  go_wp2
  go_ret
  refine ⟨rfl, ?_, ?_, ((hk1.alloc _).grown hgrow (Lib.ownsRowF_kind (hown.alloc _))).setCell ⟨b, 1, none⟩ rfl _⟩
  · exact Lib.BuilderAtF.put hB hb2 (bs' := bs ++ [.int .u8 c]) (by simpa using hown') (by decide)
  · exact ((hb1.alloc (by omega) _).grown hgrow (by simp; omega) (fun k hk => (hown.lt k hk).1)).setCell (p := ⟨b, 1, none⟩) hB _
theorem byteCells_snoc (l : List UInt8) (c : UInt8) : Lib.byteCells l ++ [.int .u8 c.toNat] = Lib.byteCells (l ++ [c]) := by
  rw [Lib.byteCells_append]; rfl
theorem write_b (B : Nat) (l : List UInt8) (c : UInt8) (w : World) (h : Bd B l w) (hlen : l.length + 1 ≤ 140737488355328) :
    Calls Tryz.prog 164 #[.pointer (some ⟨B, 0, none⟩), .int .u8 c.toNat] w fun e w' => e = .returned .nilIface ∧ Bd B (l ++ [c]) w' ∧ Below B w w' ∧ Lib.OthersKept 5 (some B) w w' := by
  refine (writeByte_any B B (Lib.byteCells l) c.toNat w h (by rw [Lib.byteCells_length]; exact hlen) (Nat.le_of_lt h.lt)).mono ?_
  rintro e w' ⟨rfl, h1, h2, h3⟩
  rw [byteCells_snoc] at h1
  exact ⟨rfl, .inr h1, h2, h3⟩
def sixD : List UInt8 := [65, 66, 67, 68, 69, 70, 71, 72, 73, 74, 75, 76, 77, 78, 79, 80, 81, 82, 83, 84, 85, 86, 87, 88, 89, 90, 97, 98, 99, 100, 101, 102, 103, 104, 105, 106, 107, 108, 109, 110, 111, 112, 113, 114, 115, 116, 117, 118, 119, 120, 121, 122, 48, 49, 50, 51, 52, 53, 54, 55, 56, 57, 45, 95]
def six (n : Nat) : UInt8 := sixD.getD n 0
def enc (rest bits : Nat) : List UInt8 → List UInt8
  | [] => if 0 < bits then [six (rest * 2 ^ (6 - bits))] else []
  | c :: r =>
    let n := rest * 256 + c.toNat
    if 4 ≤ bits then six (n / 2 ^ (bits + 2)) :: six (n % 2 ^ (bits + 2) / 2 ^ (bits - 4)) :: enc (n % 2 ^ (bits + 2) % 2 ^ (bits - 4)) (bits - 4) r
    else six (n / 2 ^ (bits + 2)) :: enc (n % 2 ^ (bits + 2)) (bits + 2) r
def b64L (l : List UInt8) : List UInt8 := enc 0 0 l
theorem six_at (n : Nat) (h : n < 64) : (({ data := #[65, 66, 67, 68, 69, 70, 71, 72, 73, 74, 75, 76, 77, 78, 79, 80, 81, 82, 83, 84, 85, 86, 87, 88, 89, 90, 97, 98, 99, 100, 101, 102, 103, 104, 105, 106, 107, 108, 109, 110, 111, 112, 113, 114, 115, 116, 117, 118, 119, 120, 121, 122, 48, 49, 50, 51, 52, 53, 54, 55, 56, 57, 45, 95] } : ByteArray)[n]'h) = six n := by
  show sixD[n]'h = _
  rw [six, List.getD_eq_getElem?_getD, List.getElem?_eq_getElem h]; rfl
theorem ofInt_i64 (a : Nat) (ha : a < 9223372036854775808) : (BitVec.ofInt 64 (a : Int)).toNat = a := by
  rw [BitVec.ofInt_natCast, BitVec.toNat_ofNat]; exact Nat.mod_eq_of_lt (by omega)
theorem or_add (i a b : Nat) (ha : a < 1048576) (hi : i ≤ 8) (hb : b < 2 ^ i) : bits BinOp.or IntKind.i64 ((a : Int) * ((2 ^ i : Nat) : Int)) (b : Int) = (a : Int) * ((2 ^ i : Nat) : Int) + (b : Int) := by
  have h2 : 2 ^ i ≤ 2 ^ 8 := Nat.pow_le_pow_right (by omega) hi
  have h3 : a * 2 ^ i ≤ 1048576 * 2 ^ 8 := Nat.mul_le_mul (by omega) h2
  have e : a * 2 ^ i ||| b = a * 2 ^ i + b := by
    rw [Nat.mul_comm]; exact (Nat.two_pow_add_eq_or_of_lt hb a).symm
  rw [← Int.natCast_mul]
  show IntKind.i64.wrap ((BitVec.ofInt 64 ((a * 2 ^ i : Nat) : Int) ||| BitVec.ofInt 64 (b : Int)).toNat : Int) = _
  rw [BitVec.toNat_or, ofInt_i64 _ (by omega), ofInt_i64 b (by omega), IntKind.wrap_i64, e]
  omega
theorem or_256 (a : Nat) (c : UInt8) (ha : a < 1048576) : bits BinOp.or IntKind.i64 ((a : Int) * 256) (c.toNat : Int) = (a : Int) * 256 + (c.toNat : Int) := or_add 8 a c.toNat ha (by omega) c.toNat_lt
theorem and_mask (i a : Nat) (hi : i ≤ 8) (ha : a < 9223372036854775808) : bits BinOp.and IntKind.i64 (a : Int) ((2 ^ i - 1 : Nat) : Int) = ((a % 2 ^ i : Nat) : Int) := by
  have h2 : 2 ^ i ≤ 2 ^ 8 := Nat.pow_le_pow_right (by omega) hi
  have h3 : a % 2 ^ i < 2 ^ i := Nat.mod_lt _ (Nat.two_pow_pos i)
  show IntKind.i64.wrap ((BitVec.ofInt 64 (a : Int) &&& BitVec.ofInt 64 ((2 ^ i - 1 : Nat) : Int)).toNat : Int) = _
  rw [BitVec.toNat_and, ofInt_i64 a ha, ofInt_i64 _ (by omega), IntKind.wrap_i64, Nat.and_two_pow_sub_one_eq_mod]
  omega
theorem and_int (i : Nat) (x m : Int) (hi : i ≤ 8) (hm : m = ((2 ^ i - 1 : Nat) : Int)) (h0 : 0 ≤ x) (h1 : x < 9223372036854775808) : bits BinOp.and IntKind.i64 x m = x % ((2 ^ i : Nat) : Int) := by
  obtain ⟨a, rfl⟩ := Int.eq_ofNat_of_zero_le h0
  subst hm
  exact and_mask i a hi (by omega)
theorem enc_len (l : List UInt8) : ∀ rest bits, bits ≤ 5 → 6 * (enc rest bits l).length ≤ 8 * l.length + bits + 5 := by
  induction l with
  | nil =>
    intro rest bits h
    rw [enc]
    split
    · simp; omega
    · simp
  | cons c l ih =>
    intro rest bits h
    rw [enc]
    split
    · have := ih ((rest * 256 + c.toNat) % 2 ^ (bits + 2) % 2 ^ (bits - 4)) (bits - 4) (by omega)
      simp only [List.length_cons]; omega
    · have := ih ((rest * 256 + c.toNat) % 2 ^ (bits + 2)) (bits + 2) (by omega)
      simp only [List.length_cons]; omega
theorem drop_one (s : ByteArray) (k : Nat) (h : k < s.size) : s.data.toList.drop k = s[k] :: s.data.toList.drop (k + 1) := by
  rw [List.drop_eq_getElem_cons (by simp; omega)]; rfl
set_option maxHeartbeats 2000000 in
set_option maxRecDepth 100000 in
theorem base64_any (s : ByteArray) (w : World) (hs : s.size ≤ 2097152) :
    Calls Tryz.prog 134 #[.string s] w fun e w' => e = .returned (.string ⟨(b64L s.data.toList).toArray⟩) ∧ Below w.heap.size w w' := by
  go_enter Tryz.func134, Tryz.ntmps134
  go_wp2
  go_loopw [4, 5, 9] (fun x y i wr => ∃ (k r b : Nat) (acc : List UInt8), k ≤ s.size ∧ (b = 0 ∧ r < 1 ∨ b = 2 ∧ r < 4 ∨ b = 4 ∧ r < 16) ∧ acc.length ≤ 2 * k ∧ x = .int .i64 r ∧ y = .int .i64 b ∧ i = .int .i64 k ∧ b64L s.data.toList = acc ++ enc r b (s.data.toList.drop k) ∧ Bd w.heap.size acc wr ∧ Below w.heap.size w wr) (fun _ _ i _ => s.size - (intOf i).toNat)
  case atStart => exact ⟨0, 0, 0, [], by omega, .inl ⟨rfl, by omega⟩, by simp, rfl, rfl, rfl, rfl, Bd.start w, (Below.refl _ _).alloc (Nat.le_refl _) _⟩
  case round =>
    obtain ⟨k, r, b, acc, hk, hrb, hal, rfl, rfl, rfl, hU, hI, hb⟩ := hrel
    have HU := Lib.hid hU
    clear hU
    by_cases hlt : k < s.size
    · have hor := or_256 r s[k] (by omega)
      have h8 := s[k].toNat_lt
      have ha3 : bits BinOp.and IntKind.i64 ((r : Int) * 256 + (s[k].toNat : Int)) 3 = ((r : Int) * 256 + (s[k].toNat : Int)) % 4 := and_int 2 _ _ (by omega) rfl (by omega) (by omega)
      have ha15 : bits BinOp.and IntKind.i64 ((r : Int) * 256 + (s[k].toNat : Int)) 15 = ((r : Int) * 256 + (s[k].toNat : Int)) % 16 := and_int 4 _ _ (by omega) rfl (by omega) (by omega)
      have ha63 : bits BinOp.and IntKind.i64 ((r : Int) * 256 + (s[k].toNat : Int)) 63 = ((r : Int) * 256 + (s[k].toNat : Int)) % 64 := and_int 6 _ _ (by omega) rfl (by omega) (by omega)
      have ha0 : bits BinOp.and IntKind.i64 (((r : Int) * 256 + (s[k].toNat : Int)) % 64) 0 = 0 := by
        have := and_int 0 (((r : Int) * 256 + (s[k].toNat : Int)) % 64) 0 (by omega) rfl (by omega) (by omega)
        rw [this]; omega
      rcases hrb with ⟨rfl, hr⟩ | ⟨rfl, hr⟩ | ⟨rfl, hr⟩
      · have HS : Hid (enc r 0 (s.data.toList.drop k) = six ((r * 256 + s[k].toNat) / 4) :: enc ((r * 256 + s[k].toNat) % 4) 2 (s.data.toList.drop (k + 1))) := by rw [drop_one s k hlt]; rfl
        go_wp2_with (fail)
        refine wp_loop_rounds 2 ?_
        rw [rounds_succ]
        go_wp2_with (fail)
        refine (write_b w.heap.size acc _ _ hI (by omega)).mono ?_
        rintro e w1 ⟨rfl, h1, b1, _⟩
        rw [six_at _ (by omega)] at h1
        have hb' := hb.trans b1
        go_wp2_with (fail)
        rw [rounds_succ]
        go_wp2_with (fail)
        go_roundw
        case rel => exact ⟨k + 1, (r * 256 + s[k].toNat) % 4, 2, _, by omega, by omega, by simp; omega, by go_num, by go_num, by go_num, by rw [HU.out, HS.out]; simp, h1, hb'⟩
        case measure => simp [intOf]; omega
      · have HS : Hid (enc r 2 (s.data.toList.drop k) = six ((r * 256 + s[k].toNat) / 16) :: enc ((r * 256 + s[k].toNat) % 16) 4 (s.data.toList.drop (k + 1))) := by rw [drop_one s k hlt]; rfl
        go_wp2_with (fail)
        refine wp_loop_rounds 2 ?_
        rw [rounds_succ]
        go_wp2_with (fail)
        refine (write_b w.heap.size acc _ _ hI (by omega)).mono ?_
        rintro e w1 ⟨rfl, h1, b1, _⟩
        rw [six_at _ (by omega)] at h1
        have hb' := hb.trans b1
        go_wp2_with (fail)
        rw [rounds_succ]
        go_wp2_with (fail)
        go_roundw
        case rel => exact ⟨k + 1, (r * 256 + s[k].toNat) % 16, 4, _, by omega, by omega, by simp; omega, by go_num, by go_num, by go_num, by rw [HU.out, HS.out]; simp, h1, hb'⟩
        case measure => simp [intOf]; omega
      · have HS : Hid (enc r 4 (s.data.toList.drop k) = six ((r * 256 + s[k].toNat) / 64) :: six ((r * 256 + s[k].toNat) % 64) :: enc 0 0 (s.data.toList.drop (k + 1))) := by
          rw [drop_one s k hlt]
          show six _ :: six (_ % 64 / 1) :: enc (_ % 64 % 1) 0 _ = _
          rw [Nat.div_one, Nat.mod_one]
        go_wp2_with (fail)
        refine wp_loop_rounds 3 ?_
        rw [rounds_succ]
        go_wp2_with (fail)
        refine (write_b w.heap.size acc _ _ hI (by omega)).mono ?_
        rintro e w1 ⟨rfl, h1, b1, _⟩
        rw [six_at _ (by omega)] at h1
        have hb' := hb.trans b1
        go_wp2_with (fail)
        rw [rounds_succ]
        go_wp2_with (fail)
        refine (write_b w.heap.size _ _ _ h1 (by simp; omega)).mono ?_
        rintro e w2 ⟨rfl, h2, b2, _⟩
        go_wp2_with (fail)
        rw [six_at _ (by omega)] at h2
        have hb'' := hb'.trans b2
        go_wp2_with (fail)
        rw [rounds_succ]
        go_wp2_with (fail)
        go_roundw
        case rel => exact ⟨k + 1, 0, 0, _, by omega, by omega, by simp; omega, by go_num, by go_num, by go_num, by rw [HU.out, HS.out]; simp, h2, hb''⟩
        case measure => simp [intOf]; omega
    · have e : s.data.toList.drop k = [] := List.drop_of_length_le (by simp; omega)
      have HE := Lib.hid e
      clear e
      rcases hrb with ⟨rfl, hr⟩ | ⟨rfl, hr⟩ | ⟨rfl, hr⟩
      · go_wp2_with (go_at_call 165; refine (string_b w.heap.size _ _ hI).mono ?_)
        rintro e w1 ⟨rfl, h1⟩
        go_wp2
        go_ret
        refine ⟨?_, hb.trans h1⟩
        rw [HU.out, HE.out]
        simp [enc]
      · have ht : (r : Int) * 16 < 64 := by omega
        go_wp2_with (fail)
        refine (write_b w.heap.size acc _ _ hI (by omega)).mono ?_
        rintro e w1 ⟨rfl, h1, b1, _⟩
        rw [six_at _ (by omega)] at h1
        go_wp2_with (go_at_call 165; refine (string_b w.heap.size _ _ h1).mono ?_)
        rintro e w2 ⟨rfl, h2⟩
        go_wp2
        go_ret
        refine ⟨?_, (hb.trans b1).trans h2⟩
        rw [HU.out, HE.out]
        simp [enc]
      · have ht : (r : Int) * 4 < 64 := by omega
        go_wp2_with (fail)
        refine (write_b w.heap.size acc _ _ hI (by omega)).mono ?_
        rintro e w1 ⟨rfl, h1, b1, _⟩
        rw [six_at _ (by omega)] at h1
        go_wp2_with (go_at_call 165; refine (string_b w.heap.size _ _ h1).mono ?_)
        rintro e w2 ⟨rfl, h2⟩
        go_wp2
        go_ret
        refine ⟨?_, (hb.trans b1).trans h2⟩
        rw [HU.out, HE.out]
        simp [enc]
def Rw (B : Nat) (v : Value) (l : List UInt8) (w : World) : Prop := w.ownsRow B 5 1 v l.length (Lib.byteCells l)
theorem Rw.snoc {B : Nat} {v : Value} {l : List UInt8} {w : World} {c : UInt8} (h : w.ownsRow B 5 1 v (l.length + 1) (Lib.byteCells l ++ [.int .u8 c.toNat])) : Rw B v (l ++ [c]) w := by
  unfold Rw
  rw [← byteCells_snoc]
  simpa using h
theorem Rw.conv {B : Nat} {v : Value} {l : List UInt8} {w : World} (h : Rw B v l w) : (convert 101 9 v).run Tryz.prog w = .ok (.string ⟨l.toArray⟩) w := by
  rcases h.2 with ⟨rfl, h0⟩ | ⟨g, cap, cur, rfl, hg, hh, _⟩
  · have : l = [] := List.eq_nil_of_length_eq_zero h0
    subst this
    exact Lib.run_convert_nil_bytes w 101 9 5 _ Tryz.underlying101 Tryz.underlying5 Tryz.underlying9
  · refine run_convert_bytes_back w 101 9 5 _ cap l Tryz.underlying101 Tryz.underlying5 Tryz.underlying9 (fun j hj => ?_)
    exact World.ownsRow.cells h (g := g) rfl j _ (by simp [Lib.byteCells, hj])
theorem Rw.start (w : World) : Rw w.heap.size (.slice (some ⟨w.heap.size, 0, none⟩) 0 0) [] (w.alloc (.cells #[] 5)) :=
  ⟨rfl, .inr ⟨w.heap.size, 0, #[], rfl, Nat.le_refl _, heap_alloc_new w _, Nat.le_refl _, Nat.zero_le _, rfl, rfl⟩⟩
theorem Rw.drewN {B : Nat} {v : Value} {l : List UInt8} {w : World} (h : Rw B v l w) (n : Nat) : Rw B v l (w.drewN n) := h
theorem Rw.drew {B : Nat} {v : Value} {l : List UInt8} {w : World} (h : Rw B v l w) : Rw B v l w.drew := h
theorem Rw.below {B : Nat} {v : Value} {l : List UInt8} {w w' : World} (h : Rw B v l w) (hb : Below w.heap.size w w') : Rw B v l w' := by
  refine ⟨h.1, ?_⟩
  rcases h.2 with hn | ⟨g, cap, cur, hv, hg, hh, rest⟩
  · exact .inl hn
  · exact .inr ⟨g, cap, cur, hv, hg, (hb.block _ (blk_lt hh)).trans hh, rest⟩
theorem Rw.alloc {B : Nat} {v : Value} {l : List UInt8} {w : World} (h : Rw B v l w) (o : Obj) : Rw B v l (w.alloc o) := h.below ((Below.refl _ _).alloc (Nat.le_refl _) o)
theorem Rw.grown {B : Nat} {v : Value} {l : List UInt8} {w w' W : World} (h : Rw B v l w) (hb : Below B W w) (hg : w.grownBy w' v.ownBlock) (hB : B ≤ W.heap.size) : Below B W w' :=
  hb.grown hg (by have := hb.size; omega) (fun g hk => (World.ownsRow.lt h g hk).1)
def vb (f : Nat → Nat) (k : Nat) : Nat → Nat
  | 0 => 0
  | n + 1 => 2 * vb f k n + f (k + n)
theorem q2 (x y : Nat) : (x % 4 * 256 + y) / 16 = x % 4 * 16 + y / 16 := by omega
theorem q3 (y z : Nat) : (y % 16 * 256 + z) / 64 = y % 16 * 4 + z / 64 := by omega
theorem q4 (y z : Nat) : (y % 16 * 256 + z) % 64 = z % 64 := by omega
end Go.Proofs.YtpggkfdijmnmiaaGreat.Hs
namespace Go.Proofs.YtpggkfdijmnmiaaGreat.Hs
open Go.RowKit Go.Sort
section
variable {P : Program}
theorem exec_load_row {o : Oper} {a : Act} {w : World} (ty : TypeId) (x : Operand) (ho : o.op = .load ty x)
    (g : Nat) (hx : a.eval x = .pointer (some ⟨g, 0, none⟩)) (t : TypeId) (cs : Array Value) (fr : Nat × Nat) (d : TypeDesc) (hg : w.heap[g]? = some (.cells cs t fr))
    (hu : P.underlying ty = some d) (hd : (match d with | .struct _ | .array _ _ => true | _ => false) = true) (hi : (P.info? ty).map (·.size) = some cs.size) :
    (execOp a.eval o).run P w = .ok (.value (.agg cs)) w := by
  unfold execOp
  simp only [ho, hx, Instr.loadAt, Instr.sureAddr, Sem.run_bind, Sem.run_pure, Result.andThen_ok, run_loadVar_row w g t ty cs fr d hg hu hd hi]
theorem wpStill_load_row {ops : Array Oper} {w : World} {Q : Act → Prop} {a : Act} {o : Oper} {rest : List Oper} (hgd : o.guard = none) (ty : TypeId) (x : Operand) (ho : o.op = .load ty x)
    (g : Nat) (hx : a.eval x = .pointer (some ⟨g, 0, none⟩)) (t : TypeId) (cs : Array Value) (fr : Nat × Nat) (d : TypeDesc) (hg : w.heap[g]? = some (.cells cs t fr))
    (hu : P.underlying ty = some d) (hd : (match d with | .struct _ | .array _ _ => true | _ => false) = true) (hi : (P.info? ty).map (·.size) = some cs.size)
    (h : wpStill P ops w Q rest (a.put o.dst (.agg cs))) : wpStill P ops w Q (o :: rest) a :=
  wpStill_step fun K hK => by
    rw [if_pos (by simp [Region.wanted, hgd])]
    unfold Oper.still
    rw [exec_load_row ty x ho g hx t cs fr d hg hu hd hi, Oper.stillUpon_value]
    exact hK _ h
theorem wpQuiet_load_row {ops : Array Oper} {C : World → Prop} {Q : Act → Prop} {a : Act} {o : Oper} {rest : List Oper} (hgd : o.guard = none) (ty : TypeId) (x : Operand) (ho : o.op = .load ty x)
    (g : Nat) (hx : a.eval x = .pointer (some ⟨g, 0, none⟩)) (t : TypeId) (cs : Array Value) (fr : Nat × Nat) (d : TypeDesc) (hg : ∀ w, C w → w.heap[g]? = some (.cells cs t fr))
    (hu : P.underlying ty = some d) (hd : (match d with | .struct _ | .array _ _ => true | _ => false) = true) (hi : (P.info? ty).map (·.size) = some cs.size)
    (h : wpQuiet P ops C Q rest (a.put o.dst (.agg cs))) : wpQuiet P ops C Q (o :: rest) a :=
  wpQuiet_step fun K hK => by
    rw [if_pos (by simp [Region.wanted, hgd])]
    refine ⟨.agg cs, fun w hw => ?_, hK _ h⟩
    unfold Oper.quietAt
    rw [exec_load_row ty x ho g hx t cs fr d (hg w hw) hu hd hi]
    exact ⟨rfl, rfl⟩
theorem heap_regrown {w w' : World} {b : Nat} {o : Obj} (h : w.heap[b]? = some o) (hw : ∃ p : Regrown, w' = grow (redrawn w p.d) p.os) : w'.heap[b]? = some o := by
  obtain ⟨p, rfl⟩ := hw
  exact ((below_regrown w p.d p.os).block _ (Array.getElem?_eq_some_iff.1 h).1).trans h
end
theorem mixed : Tryz.prog.follows .mixedOrders = true := by kernel_rfl
theorem thr_succ : ∀ (k : Nat) (h : List UInt32) (s : List UInt8), thrL (k + 1) h s = nextL (thrL k h s) ((s.drop (64 * k)).take 64)
  | 0, h, s => by simp [thrL]
  | k + 1, h, s => by
    rw [thrL, thr_succ k, thrL, List.drop_drop, show 64 + 64 * k = 64 * (k + 1) from by omega]
theorem thr_append : ∀ (k m : Nat) (h : List UInt32) (s t : List UInt8), s.length = 64 * k → thrL m (thrL k h s) t = thrL (k + m) h (s ++ t)
  | 0, m, h, s, t, hs => by
    obtain rfl : s = [] := List.eq_nil_of_length_eq_zero (by omega)
    simp [thrL]
  | k + 1, m, h, s, t, hs => by
    rw [thrL, thr_append k m _ _ _ (by rw [List.length_drop]; omega), show k + 1 + m = (k + m) + 1 from by omega, thrL, List.take_append_of_le_length (by omega), List.drop_append_of_le_length (by omega)]
theorem ext_ba (l : List UInt8) (a n : Nat) : (⟨l.toArray⟩ : ByteArray).extract a (a + n) = ⟨((l.drop a).take n).toArray⟩ := by
  apply ByteArray.ext
  rw [ByteArray.data_extract]
  simp [List.extract_eq_take_drop]
theorem next_length (h : List UInt32) (hl : h.length = 8) (b : List UInt8) : (nextL h b).length = 8 := by
  unfold nextL
  rw [List.length_zipWith, turns_length _ _ hl, hl]; rfl
theorem thr_length : ∀ (k : Nat) (h : List UInt32) (s : List UInt8), h.length = 8 → (thrL k h s).length = 8
  | 0, h, s, hl => hl
  | k + 1, h, s, hl => thr_length k _ _ (next_length h hl _)
structure Th (w wr : World) (v : List UInt32) : Prop where
  st : wr.heap[w.heap.size]? = some (.cells (ws v) 169 (0, 0))
  res : ∃ old : Array Value, wr.heap[w.heap.size + 1]? = some (.cells old 169 (0, 0)) ∧ old.size = 8
  below : Below w.heap.size w wr
theorem Th.next {w wr w' : World} {v v' : List UInt32} (x : Th w wr v) (hb : Below wr.heap.size wr w') : Th w (w'.setRow w.heap.size (ws v')) v' := by
  have h1 : w.heap.size < wr.heap.size := (Array.getElem?_eq_some_iff.1 x.st).1
  refine ⟨setRow_put ((hb.block _ h1).trans x.st), ?_, setRow_below (x.below.trans (hb.mono (by omega))) (Nat.le_refl _)⟩
  obtain ⟨o, h2, h3⟩ := x.res
  exact ⟨o, (setRow_other _ _ _ _ (by omega)).trans ((hb.block _ (Array.getElem?_eq_some_iff.1 h2).1).trans h2), h3⟩
set_option maxHeartbeats 4000000 in
set_option maxRecDepth 100000 in
theorem thr_any (n : Nat) (h : List UInt32) (hl : h.length = 8) (s : List UInt8) (hs : s.length = 64 * n) (hs2 : s.length ≤ 281474976710656) (w : World) :
    Calls Tryz.prog 147 #[.agg (ws h), .string ⟨s.toArray⟩] w fun e w' => e = .returned (.agg (ws (thrL n h s))) ∧ Below w.heap.size w w' := by
  have HL := Lib.hid hl
  have HS := Lib.hid hs
  have hsz := size_ba s
  have hsl : (s.length : Int) ≤ 281474976710656 := by omega
  have HA : Hid (((w.alloc (.cells (ws h) 169)).alloc (.cells #[.int .u32 0, .int .u32 0, .int .u32 0, .int .u32 0, .int .u32 0, .int .u32 0, .int .u32 0, .int .u32 0] 169)).heap[w.heap.size]? = some (.cells (ws h) 169 (0, 0))) := Lib.hid (by
    rw [Lib.alloc_old _ _ _ (by simp)]; exact Go.heap_alloc_new w _)
  have HA2 : Hid (((w.alloc (.cells (ws h) 169)).alloc (.cells #[.int .u32 0, .int .u32 0, .int .u32 0, .int .u32 0, .int .u32 0, .int .u32 0, .int .u32 0, .int .u32 0] 169)).heap[w.heap.size + 1]? = some (.cells #[.int .u32 0, .int .u32 0, .int .u32 0, .int .u32 0, .int .u32 0, .int .u32 0, .int .u32 0, .int .u32 0] 169 (0, 0))) := Lib.hid (by
    have := Go.heap_alloc_new (w.alloc (.cells (ws h) 169)) (.cells #[.int .u32 0, .int .u32 0, .int .u32 0, .int .u32 0, .int .u32 0, .int .u32 0, .int .u32 0, .int .u32 0] 169)
    simpa using this)
  clear hl hs hs2
  go_enter Tryz.func147, Tryz.ntmps147
  go_wp2_with fail
  go_loopw [5] (fun i wr => ∃ k a : Nat, k ≤ n ∧ i = .int .i64 a ∧ a = 64 * k ∧ Th w wr (thrL k h s)) (fun i _ => 64 * n + 64 - (intOf i).toNat)
  case atStart => exact ⟨0, 0, by omega, rfl, rfl, HA.out, ⟨_, HA2.out, rfl⟩, ((Below.refl _ _).alloc (Nat.le_refl _) _).alloc (by simp) _⟩
  case round =>
    obtain ⟨k, a, hk, rfl, ha, hx⟩ := hrel
    have HX := Lib.hid hx
    have HK := Lib.hid ha
    clear hx ha HA HA2
    by_cases hlt : k < n
    · have ha1 : (a : Int) + 64 ≤ s.length := by have := HS.out; have := HK.out; omega
      have ha2 : a < s.length := by omega
      have ha3 : (a : Int) < s.length := by omega
      have ha4 : ((a : Int) + 64).toNat = a + 64 := by omega
      have hwr : IntKind.i64.wrap ((a : Int) + 64) = (a : Int) + 64 := IntWalk.i64_in _ (by omega)
      have q0 : 0 ≤ (a : Int) + 64 := by omega
      have q1 : (a : Int) ≤ (a : Int) + 64 := by omega
      have hex := ext_ba s a 64
      have HN := Lib.hid (thr_succ k h s)
      rw [← HK.out] at HN
      have hbl : ((s.drop a).take 64).length = 64 := by rw [List.length_take, List.length_drop]; omega
      have HC := Lib.hid (next_any (thrL k h s) (thr_length k h s HL.out) ((s.drop a).take 64) hbl)
      generalize (s.drop a).take 64 = b at hex HN HC
      clear hbl
      go_wp2_with fail
      refine wp_region_still_tail 6 mixed (by kernel_rfl) ?_
      simp only [List.take_succ_cons, List.take_zero, List.drop_succ_cons, List.drop_zero]
      refine wpStill_load_row rfl 169 (.tmp 2) rfl w.heap.size rfl 169 (ws (thrL k h s)) (0, 0) _ (show wr.heap[w.heap.size]? = _ from HX.out.st) u37 rfl (i37 _ (thr_length k h s HL.out)) ?_
      repeat still_step
      refine wpStill_nil ?_
      change wpList _ _ _ _ _ wr.drew
      have HX1 : Hid (Th w wr.drew (thrL k h s)) := Lib.hid ⟨HX.out.st, HX.out.res, HX.out.below.drew⟩
      clear HX hwr q0 q1
      generalize wr.drew = wr1 at HX1 ⊢
      go_wp2_with fail
      refine (HC.out _).mono ?_
      rintro e w5 ⟨rfl, b5⟩
      have HG : Hid (w5.heap[w.heap.size]? = some (.cells (ws (thrL k h s)) 169 (0, 0))) := Lib.hid ((b5.block _ (Array.getElem?_eq_some_iff.1 HX1.out.st).1).trans HX1.out.st)
      have HX2 : Hid (Th w (w5.setRow w.heap.size (ws (nextL (thrL k h s) b))) (thrL (k + 1) h s)) := Lib.hid (by rw [HN.out]; exact HX1.out.next b5)
      have HI := Lib.hid (i37 (nextL (thrL k h s) b) (next_length _ (thr_length k h s HL.out) _))
      have HZ : Hid ((ws (thrL k h s)).size = (ws (nextL (thrL k h s) b)).size) := Lib.hid (by rw [ws_size, ws_size, next_length _ (thr_length k h s HL.out), thr_length k h s HL.out])
      clear b5 HX1 HC HN hex
      generalize nextL (thrL k h s) b = v at HX2 HI HZ ⊢
      go_upto_region 3 with (refine wpList_store_row rfl 169 (.tmp 2) (.tmp 18) rfl w.heap.size (ws v) rfl rfl 169 (ws (thrL k h s)) HG.out HI.out HZ.out (ws_one _) ?_)
      generalize w5.setRow w.heap.size (ws v) = w6 at HX2 ⊢
      go_wp2_with fail
      go_roundw
      case rel => exact ⟨k + 1, a + 64, by omega, by go_num, by have := HK.out; omega, HX2.out⟩
      case measure => have := HS.out; have := HK.out; simp [intOf]; omega
    · obtain rfl : k = n := by omega
      have ha2 : ¬ a < s.length := by have := HS.out; have := HK.out; omega
      have hdc : decide (a < s.length) = false := by simpa using ha2
      have HF := HX.out
      have HFL := Lib.hid (thr_length k h s HL.out)
      obtain ⟨old, ho1, ho2⟩ := HF.res
      have HO1 := Lib.hid ho1
      have HO2 := Lib.hid (show old.size = (ws (thrL k h s)).size from by rw [ws_size, HFL.out]; exact ho2)
      clear HF ho1 ho2
      go_wp2_with (first
        | (refine wpList_load_row rfl 169 (.tmp 2) rfl w.heap.size rfl 169 (ws (thrL k h s)) (0, 0) _ HX.out.st u37 rfl (i37 _ HFL.out) ?_)
        | (refine wpList_store_row rfl 169 (.tmp 4) (.tmp 19) rfl (w.heap.size + 1) (ws (thrL k h s)) rfl rfl 169 old HO1.out (i37 _ HFL.out) HO2.out (ws_one _) ?_))
      refine bodyPost_ret (v := .agg (ws (thrL k h s))) (results_cell_row (p := 4) (ty := 169) rfl _ _ (w.heap.size + 1) 169 (ws (thrL k h s)) (0, 0) _ rfl (setRow_put HO1.out) u37 rfl (i37 _ HFL.out)) rfl ⟨rfl, setRow_below HX.out.below (by omega)⟩
end Go.Proofs.YtpggkfdijmnmiaaGreat.Hs
