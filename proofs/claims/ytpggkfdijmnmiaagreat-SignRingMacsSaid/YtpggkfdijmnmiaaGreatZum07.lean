/- The state behind one more block, behind all blocks. Conditions: eight numbers, blocks of 64 bytes. The state behind all blocks. Conditions: eight numbers, whole blocks, at most 2^47 bytes and some more. The sum of any bytes. Condition: at most 2^48 bytes. A key as one block. Condition: at most 2^48 bytes. Macs. Condition: at most 2^47 bytes each. What a strings.Builder holds behind WriteByte. Cond -/
import Derived.Deep.CutBlock
import Derived.StillTailTactics
import Derived.Test.YtpggkfdijmnmiaaGreatZum06
import Derived.Lib.SlBuf
import Derived.Lib.BufferWrite
import Derived.Test.YtpggkfdijmnmiaaGreatZum05
import Derived.LoopN
import Derived.Laws.BitsAllLaws
import Derived.Laws.BitsLemmas
set_option linter.unusedVariables false
set_option linter.unusedSimpArgs false
set_option maxRecDepth 100000
namespace Go.Proofs.YtpggkfdijmnmiaaGreat.Hs
open Go.RowKit
theorem turns_succ (w h : List UInt32) (k : Nat) : turnsTo w h (k + 1) = turnL (turnsTo w h k) (kL.getD k 0 + w.getD k 0) := by
  simp [turnsTo, List.range_succ]
theorem turn_length (h : List UInt32) (hl : h.length = 8) (n : UInt32) : (turnL h n).length = 8 := by
  match h, hl with
  | [a, b, c, d, e, f, g, i], _ => rfl
theorem turns_length (w h : List UInt32) (hl : h.length = 8) (k : Nat) : (turnsTo w h k).length = 8 := by
  induction k with
  | zero => exact hl
  | succ k ih => rw [turns_succ, turn_length _ ih]
theorem num_length (b : List UInt8) : (numsL b).length = 16 := nums_length b 64
theorem spr_length (b : List UInt8) : (spreadL (numsL b)).length = 64 := spread_length' _ (num_length b) 64 (by omega)
theorem addW' (x y : UInt32) : ((x.toNat : Int) + (y.toNat : Int)) % 4294967296 = ((x + y).toNat : Int) := by
  rw [UInt32.toNat_add]; omega
theorem alloc2a (w : World) (a b : Obj) : ((w.alloc a).alloc b).heap[w.heap.size]? = some a := by
  rw [Lib.alloc_old _ _ _ (by simp)]; exact Go.heap_alloc_new w a
theorem alloc2b (w : World) (a b : Obj) : ((w.alloc a).alloc b).heap[w.heap.size + 1]? = some b := by
  have := Go.heap_alloc_new (w.alloc a) b
  simpa using this
theorem alloc2_old (w : World) (a b : Obj) (k : Nat) (h : k < w.heap.size) : ((w.alloc a).alloc b).heap[k]? = w.heap[k]? := by
  rw [Lib.alloc_old _ _ _ (by simp; omega), Lib.alloc_old _ _ _ h]
theorem setRow_oth (w : World) (g k : Nat) (cs : Array Value) (h : k ≠ g) : (w.setRow g cs).heap[k]? = w.heap[k]? := setRow_other w g k cs h
theorem setRow_size (w : World) (g : Nat) (cs : Array Value) : (w.setRow g cs).heap.size = w.heap.size := by simp [World.setRow]
structure Nx (w wr : World) (n3 n4 : Nat) (h v ww : List UInt32) : Prop where
  st : wr.heap[w.heap.size]? = some (.cells (ws v) 169 (0, 0))
  res : ∃ old : Array Value, wr.heap[w.heap.size + 1]? = some (.cells old 169 (0, 0)) ∧ old.size = 8
  ks : wr.heap[n3]? = some (.cells (ws kL) 216 (0, 0))
  wws : wr.heap[n3 + 1]? = some (.cells (ws ww) 216 (0, 0))
  old : wr.heap[n4]? = some (.cells (ws h) 169 (0, 0))
  below : Below w.heap.size w wr
  l3 : w.heap.size + 2 ≤ n3
  l4 : n3 + 2 ≤ n4
theorem Nx.on {w wr w' : World} {n3 n4 : Nat} {h v v' ww : List UInt32} (x : Nx w wr n3 n4 h v ww) (hv : w'.heap[w.heap.size]? = some (.cells (ws v') 169 (0, 0))) (ho : Oth w.heap.size wr w') : Nx w w' n3 n4 h v' ww := by
  have h3 := x.l3
  have h4 := x.l4
  refine ⟨hv, ?_, (ho.1 _ (by omega)).trans x.ks, (ho.1 _ (by omega)).trans x.wws, (ho.1 _ (by omega)).trans x.old, x.below.trans ho.2, h3, h4⟩
  obtain ⟨o, h1, h2⟩ := x.res
  exact ⟨o, (ho.1 _ (by omega)).trans h1, h2⟩
def zipTo (v h : List UInt32) (k : Nat) : List UInt32 := (List.zipWith (· + ·) v h).take k ++ v.drop k
theorem zipTo_length (v h : List UInt32) (hv : v.length = 8) (hh : h.length = 8) (k : Nat) : (zipTo v h k).length = 8 := by
  simp [zipTo, hv, hh]; omega
theorem zipTo_get (v h : List UInt32) (hv : v.length = 8) (hh : h.length = 8) (k : Nat) (hk : k < 8) : (zipTo v h k)[k]'(by rw [zipTo_length v h hv hh]; exact hk) = v[k] := by
  simp only [zipTo]
  rw [List.getElem_append_right (by simp; omega)]
  simp [hv, hh, Nat.min_eq_left (Nat.le_of_lt hk)]
theorem zipTo_set (v h : List UInt32) (hv : v.length = 8) (hh : h.length = 8) (k : Nat) (hk : k < 8) : (zipTo v h k).set k (v[k] + h[k]) = zipTo v h (k + 1) := by
  have hz : (List.zipWith (· + ·) v h).length = 8 := by simp [hv, hh]
  simp only [zipTo]
  have e : k - ((List.zipWith (· + ·) v h).take k).length = 0 := by rw [List.length_take, hz]; omega
  rw [List.set_append_right _ _ (by rw [List.length_take, hz]; omega), e, List.drop_eq_getElem_cons (by omega), List.set_cons_zero, List.take_succ_eq_append_getElem (by omega), List.append_assoc]
  simp
theorem zipTo_all (v h : List UInt32) (hv : v.length = 8) (hh : h.length = 8) : zipTo v h 8 = List.zipWith (· + ·) v h := by
  unfold zipTo
  rw [List.take_of_length_le (by simp [hv, hh]), List.drop_of_length_le (by omega), List.append_nil]
set_option maxHeartbeats 4000000 in
set_option maxRecDepth 100000 in
theorem next_any (h : List UInt32) (hl : h.length = 8) (b : List UInt8) (hb : b.length = 64) (w : World) :
    Calls Tryz.prog 171 #[.agg (ws h), .string ⟨b.toArray⟩] w fun e w' => e = .returned (.agg (ws (nextL h b))) ∧ Below w.heap.size w w' := by
  have HL := Lib.hid hl
  have HC := Lib.hid consts_any
  have HN := Lib.hid (numbers_any b hb)
  have HS := Lib.hid (spread_any (numsL b) (num_length b))
  have HKL := Lib.hid (spr_length b)
  have HX : Hid (nextL h b = List.zipWith (· + ·) (turnsTo (spreadL (numsL b)) h 64) h) := Lib.hid rfl
  clear hl hb
  generalize spreadL (numsL b) = ww at HS HKL HX
  go_enter Tryz.func171, Tryz.ntmps171
  go_wp2_with fail
  refine (HC.out _).mono ?_
  rintro e w1 ⟨rfl, b1⟩
  go_wp2_with fail
  refine (HN.out _).mono ?_
  rintro e w2 ⟨rfl, b2⟩
  go_wp2_with fail
  refine (HS.out _).mono ?_
  rintro e w3 ⟨rfl, b3⟩
  have hb123 := b1.trans ((b2.mono b1.size).trans (b3.mono (Nat.le_trans b1.size b2.size)))
  have hz3 : w.heap.size + 2 ≤ w3.heap.size := by
    have := hb123.size
    simpa using this
  have HW3 := Lib.hid hb123
  have HZ3 := Lib.hid hz3
  clear hb123 hz3 b1 b2 b3 HC HN HS
  go_upto_region 2 with (first
    | (refine wpList_store_row rfl 216 (.tmp 5) (.tmp 10) rfl w3.heap.size (ws kL) rfl rfl 216 _ (alloc2a w3 _ _) (i72 kL kL_length) (by rw [ws_size, kL_length]; rfl) (ws_one _) ?_)
    | (refine wpList_store_row rfl 216 (.tmp 6) (.tmp 13) rfl (w3.heap.size + 1) (ws ww) rfl rfl 216 _ ((setRow_oth _ _ _ _ (by omega)).trans (alloc2b w3 _ _)) (i72 ww HKL.out) (by rw [ws_size, HKL.out]; rfl) (ws_one _) ?_))
  generalize hw4 : World.setRow (World.setRow (World.alloc (World.alloc w3 _) _) _ _) _ _ = w4
  have HS4 : Hid (w4.heap.size = w3.heap.size + 2) := Lib.hid (by rw [← hw4, setRow_size, setRow_size]; simp)
  have HX4 : Hid (w4.heap[w.heap.size]? = some (.cells (ws h) 169 (0, 0)) ∧ (∃ old : Array Value, w4.heap[w.heap.size + 1]? = some (.cells old 169 (0, 0)) ∧ old.size = 8) ∧
      w4.heap[w3.heap.size]? = some (.cells (ws kL) 216 (0, 0)) ∧ w4.heap[w3.heap.size + 1]? = some (.cells (ws ww) 216 (0, 0)) ∧ Below w.heap.size w w4) := Lib.hid (by
    have hz := HZ3.out
    rw [← hw4]
    refine ⟨?_, ⟨_, ((setRow_oth _ _ _ _ (by omega)).trans ((setRow_oth _ _ _ _ (by omega)).trans (alloc2_old w3 _ _ _ (by omega)))).trans ((HW3.out.block _ (by simp)).trans (alloc2b w _ _)), rfl⟩, ?_, ?_, ?_⟩
    · rw [setRow_oth _ _ _ _ (by omega), setRow_oth _ _ _ _ (by omega), alloc2_old w3 _ _ _ (by omega)]
      exact (HW3.out.block _ (by simp; omega)).trans (alloc2a w _ _)
    · rw [setRow_oth _ _ _ _ (by omega)]
      exact setRow_put (alloc2a w3 _ _)
    · exact setRow_put ((setRow_oth _ _ _ _ (by omega)).trans (alloc2b w3 _ _))
    · exact setRow_below (setRow_below (((((((Below.refl _ _).alloc (Nat.le_refl _) _).alloc (by simp) _).trans (HW3.out.mono (by simp; omega))).alloc (by omega) _).alloc (by simp; omega) _)) (by omega)) (by omega))
  clear hw4 HW3
  have HH4 := Lib.hid HX4.out.1
  go_wp2_with (first
    | (refine wpList_load_row rfl 169 (.tmp 2) rfl w.heap.size rfl 169 (ws h) (0, 0) _ HH4.out u37 rfl (i37 h HL.out) ?_)
    | (refine wpList_store_row rfl 169 (.tmp 7) (.tmp 14) rfl w4.heap.size (ws h) rfl rfl 169 _ (Go.heap_alloc_new w4 _) (i37 h HL.out) (by rw [ws_size, HL.out]; rfl) (ws_one _) ?_))
  go_loopw [15] (fun i wr => ∃ k : Nat, k ≤ 64 ∧ i = .int .i64 k ∧ Nx w wr w3.heap.size w4.heap.size h (turnsTo ww h k) ww) (fun i _ => 64 - (intOf i).toNat)
  case atStart =>
    obtain ⟨g1, ⟨old, g2, g2'⟩, g3, g4, g5⟩ := HX4.out
    have hz3 := HZ3.out
    have hs4 := HS4.out
    refine ⟨0, by omega, rfl, ?_, ⟨old, ?_, g2'⟩, ?_, ?_, setRow_put (Go.heap_alloc_new w4 _), setRow_below (g5.alloc (by omega) _) (by omega), hz3, by omega⟩
    · rw [setRow_oth _ _ _ _ (by omega), Lib.alloc_old _ _ _ (by omega)]; exact g1
    · rw [setRow_oth _ _ _ _ (by omega), Lib.alloc_old _ _ _ (by omega)]; exact g2
    · rw [setRow_oth _ _ _ _ (by omega), Lib.alloc_old _ _ _ (by omega)]; exact g3
    · rw [setRow_oth _ _ _ _ (by omega), Lib.alloc_old _ _ _ (by omega)]; exact g4
  case round =>
    obtain ⟨k, hk, rfl, hx⟩ := hrel
    have HN := Lib.hid hx
    clear hx HX4 HH4
    by_cases hlt : k < 64
    · have ck := (blk_cell HN.out.ks k).trans (ws_get kL k (by rw [kL_length]; exact hlt))
      have cw := (blk_cell HN.out.wws k).trans (ws_get ww k (by rw [HKL.out]; exact hlt))
      have HT := Lib.hid (turns_succ ww h k)
      have e1 : kL.getD k 0 = kL[k]'(by rw [kL_length]; exact hlt) := by simp [List.getD, show k < kL.length by rw [kL_length]; exact hlt]
      have e2 : ww.getD k 0 = ww[k]'(by rw [HKL.out]; exact hlt) := by simp [List.getD, show k < ww.length by rw [HKL.out]; exact hlt]
      rw [e1, e2] at HT
      clear e1 e2
      generalize kL[k]'(by rw [kL_length]; exact hlt) = xk at ck HT
      generalize ww[k]'(by rw [HKL.out]; exact hlt) = xw at cw HT
      have s1 := addW xk xw
      have s2 := addW' xk xw
      generalize xk + xw = y at s1 s2 HT
      go_wp2_with fail
      go_still_tail 7, (by kernel_rfl)
      change wpList _ _ _ _ _ wr.drew
      have HN1 : Hid (Nx w wr.drew w3.heap.size w4.heap.size h (turnsTo ww h k) ww) := Lib.hid (HN.out.on HN.out.st ⟨fun _ _ => rfl, (Below.refl _ _).drew⟩)
      clear ck cw HN
      have HC := Lib.hid (turn_any w.heap.size (turnsTo ww h k) (turns_length ww h HL.out k) y wr.drew HN1.out.st)
      generalize wr.drew = wr1 at HN1 HC ⊢
      go_wp2_with fail
      refine HC.out.mono ?_
      rintro e w5 ⟨rfl, hv, ho⟩
      have HN2 : Hid (Nx w w5 w3.heap.size w4.heap.size h (turnsTo ww h (k + 1)) ww) := Lib.hid (HN1.out.on (by rw [HT.out]; exact hv) ho)
      clear HC hv ho HN1
      go_wp2_with fail
      go_roundw
      case rel => exact ⟨k + 1, by omega, by go_num, HN2.out⟩
      case measure => simp [intOf]; omega
    · obtain rfl : k = 64 := by omega
      go_wp2_with fail
      have HN0 : Hid (Nx w wr w3.heap.size w4.heap.size h (zipTo (turnsTo ww h 64) h 0) ww) := Lib.hid HN.out
      have HVL := Lib.hid (turns_length ww h HL.out 64)
      have HZ : Hid (zipTo (turnsTo ww h 64) h 8 = nextL h b) := Lib.hid ((zipTo_all _ _ HVL.out HL.out).trans HX.out.symm)
      clear HX HN
      generalize turnsTo ww h 64 = v at HN0 HVL HZ
      go_loopw [27] (fun i wr => ∃ k : Nat, k ≤ 8 ∧ i = .int .i64 k ∧ Nx w wr w3.heap.size w4.heap.size h (zipTo v h k) ww) (fun i _ => 8 - (intOf i).toNat)
      case atStart => exact ⟨0, by omega, rfl, HN0.out⟩
      case round =>
        obtain ⟨k, hk, rfl, hx⟩ := hrel
        have HN := Lib.hid hx
        clear hx HN0
        by_cases hlt : k < 8
        · have cv := (blk_cell HN.out.st k).trans (ws_get _ k (by rw [zipTo_length v h HVL.out HL.out]; exact hlt))
          rw [zipTo_get v h HVL.out HL.out k hlt] at cv
          have ch := (blk_cell HN.out.old k).trans (ws_get h k (by rw [HL.out]; exact hlt))
          have fv := Lib.frozen_of_heap HN.out.st k
          have HT := Lib.hid (zipTo_set v h HVL.out HL.out k hlt)
          generalize v[k]'(by rw [HVL.out]; exact hlt) = xv at cv HT
          generalize h[k]'(by rw [HL.out]; exact hlt) = xh at ch HT
          have s1 := addW xv xh
          have s2 := addW' xv xh
          generalize xv + xh = y at s1 s2 HT
          go_wp2_with fail
          go_region
          have HN2 : Hid (Nx w ((wr.setCell ⟨w.heap.size, k, none⟩ (.int .u32 (y.toNat : Int))).drew) w3.heap.size w4.heap.size h (zipTo v h (k + 1)) ww) := Lib.hid (HN.out.on (by
            have := blk_put HN.out.st k (.int .u32 (y.toNat : Int))
            rw [ws_set, HT.out] at this
            exact this) ((Oth.refl _ _).setCell k _).drew)
          clear HN cv ch fv
          go_wp2_with fail
          go_roundw
          case rel => exact ⟨k + 1, by omega, by go_num, HN2.out⟩
          case measure => simp [intOf]; omega
        · obtain rfl : k = 8 := by omega
          have hN := HN.out
          rw [HZ.out] at hN
          have HF := Lib.hid hN
          have HFL : Hid ((nextL h b).length = 8) := Lib.hid (by rw [← HZ.out]; exact zipTo_length v h HVL.out HL.out 8)
          obtain ⟨old, ho1, ho2⟩ := hN.res
          have HO1 := Lib.hid ho1
          have HO2 := Lib.hid (show old.size = (ws (nextL h b)).size from by rw [ws_size, HFL.out]; exact ho2)
          clear hN HN ho1 ho2
          go_wp2_with (first
            | (refine wpList_load_row rfl 169 (.tmp 2) rfl w.heap.size rfl 169 (ws (nextL h b)) (0, 0) _ HF.out.st Go.Proofs.YtpggkfdijmnmiaaGreat.Hs.u37 rfl (i37 _ HFL.out) ?_)
            | (refine wpList_store_row rfl 169 (.tmp 4) (.tmp 39) rfl (w.heap.size + 1) (ws (nextL h b)) rfl rfl 169 old HO1.out (i37 _ HFL.out) HO2.out (ws_one _) ?_))
          refine bodyPost_ret (v := .agg (ws (nextL h b))) (results_cell_row (p := 4) (ty := 169) rfl _ _ (w.heap.size + 1) 169 (ws (nextL h b)) (0, 0) _ rfl (setRow_put HO1.out) Go.Proofs.YtpggkfdijmnmiaaGreat.Hs.u37 rfl (i37 _ HFL.out)) rfl ⟨rfl, setRow_below HF.out.below (by omega)⟩
end Go.Proofs.YtpggkfdijmnmiaaGreat.Hs
namespace Go.Proofs.YtpggkfdijmnmiaaGreat.Hs
open Go.RowKit Go.Sort
theorem next_length (h : List UInt32) (hl : h.length = 8) (b : List UInt8) : (nextL h b).length = 8 := by
  unfold nextL
  rw [List.length_zipWith, turns_length _ _ hl, hl]; rfl
theorem thr_length : ∀ (k : Nat) (h : List UInt32) (s : List UInt8), h.length = 8 → (thrL k h s).length = 8
  | 0, h, s, hl => hl
  | k + 1, h, s, hl => thr_length k _ _ (next_length h hl _)
structure Th (w wr : World) (v : List UInt32) : Prop where
  st : wr.heap[w.heap.size]? = some (.cells (ws v) 169 (0, 0))
  res : ∃ old : Array Value, wr.heap[w.heap.size + 1]? = some (.cells old 169 (0, 0)) ∧ old.size = 8
  below : Below w.heap.size w wr
theorem Th.next {w wr w' : World} {v v' : List UInt32} (x : Th w wr v) (hb : Below wr.heap.size wr w') : Th w (w'.setRow w.heap.size (ws v')) v' := by
  have h1 : w.heap.size < wr.heap.size := (Array.getElem?_eq_some_iff.1 x.st).1
  refine ⟨setRow_put ((hb.block _ h1).trans x.st), ?_, setRow_below (x.below.trans (hb.mono (by omega))) (Nat.le_refl _)⟩
  obtain ⟨o, h2, h3⟩ := x.res
  exact ⟨o, (setRow_other _ _ _ _ (by omega)).trans ((hb.block _ (Array.getElem?_eq_some_iff.1 h2).1).trans h2), h3⟩
set_option maxHeartbeats 4000000 in
set_option maxRecDepth 100000 in
theorem thr_any (n : Nat) (h : List UInt32) (hl : h.length = 8) (s : List UInt8) (hs : s.length = 64 * n) (hs2 : s.length ≤ 281474976710656) (w : World) :
    Calls Tryz.prog 147 #[.agg (ws h), .string ⟨s.toArray⟩] w fun e w' => e = .returned (.agg (ws (thrL n h s))) ∧ Below w.heap.size w w' := by
  have HL := Lib.hid hl
  have HS := Lib.hid hs
  have hsz := size_ba s
  have hsl : (s.length : Int) ≤ 281474976710656 := by omega
  have HA : Hid (((w.alloc (.cells (ws h) 169)).alloc (.cells #[.int .u32 0, .int .u32 0, .int .u32 0, .int .u32 0, .int .u32 0, .int .u32 0, .int .u32 0, .int .u32 0] 169)).heap[w.heap.size]? = some (.cells (ws h) 169 (0, 0))) := Lib.hid (by
    rw [Lib.alloc_old _ _ _ (by simp)]; exact Go.heap_alloc_new w _)
  have HA2 : Hid (((w.alloc (.cells (ws h) 169)).alloc (.cells #[.int .u32 0, .int .u32 0, .int .u32 0, .int .u32 0, .int .u32 0, .int .u32 0, .int .u32 0, .int .u32 0] 169)).heap[w.heap.size + 1]? = some (.cells #[.int .u32 0, .int .u32 0, .int .u32 0, .int .u32 0, .int .u32 0, .int .u32 0, .int .u32 0, .int .u32 0] 169 (0, 0))) := Lib.hid (by
    have := Go.heap_alloc_new (w.alloc (.cells (ws h) 169)) (.cells #[.int .u32 0, .int .u32 0, .int .u32 0, .int .u32 0, .int .u32 0, .int .u32 0, .int .u32 0, .int .u32 0] 169)
    simpa using this)
  clear hl hs hs2
  go_enter Tryz.func147, Tryz.ntmps147
  go_wp2_with fail
  go_loopw [5] (fun i wr => ∃ k a : Nat, k ≤ n ∧ i = .int .i64 a ∧ a = 64 * k ∧ Th w wr (thrL k h s)) (fun i _ => 64 * n + 64 - (intOf i).toNat)
  case atStart => exact ⟨0, 0, by omega, rfl, rfl, HA.out, ⟨_, HA2.out, rfl⟩, ((Below.refl _ _).alloc (Nat.le_refl _) _).alloc (by simp) _⟩
  case round =>
    obtain ⟨k, a, hk, rfl, ha, hx⟩ := hrel
    have HX := Lib.hid hx
    have HK := Lib.hid ha
    clear hx ha HA HA2
    by_cases hlt : k < n
    · have ha1 : (a : Int) + 64 ≤ s.length := by have := HS.out; have := HK.out; omega
      have ha2 : a < s.length := by omega
      have ha3 : (a : Int) < s.length := by omega
      have ha4 : ((a : Int) + 64).toNat = a + 64 := by omega
      have hwr : IntKind.i64.wrap ((a : Int) + 64) = (a : Int) + 64 := IntWalk.i64_in _ (by omega)
      have q0 : 0 ≤ (a : Int) + 64 := by omega
      have q1 : (a : Int) ≤ (a : Int) + 64 := by omega
      have hex := ext_ba s a 64
      have HN := Lib.hid (thr_succ k h s)
      rw [← HK.out] at HN
      have hbl : ((s.drop a).take 64).length = 64 := by rw [List.length_take, List.length_drop]; omega
      have HC := Lib.hid (next_any (thrL k h s) (thr_length k h s HL.out) ((s.drop a).take 64) hbl)
      generalize (s.drop a).take 64 = b at hex HN HC
      clear hbl
      go_wp2_with fail
      refine wp_region_still_tail 6 mixed (by kernel_rfl) ?_
      simp only [List.take_succ_cons, List.take_zero, List.drop_succ_cons, List.drop_zero]
      refine wpStill_load_row rfl 169 (.tmp 2) rfl w.heap.size rfl 169 (ws (thrL k h s)) (0, 0) _ (show wr.heap[w.heap.size]? = _ from HX.out.st) u37 rfl (i37 _ (thr_length k h s HL.out)) ?_
      repeat still_step
      refine wpStill_nil ?_
      change wpList _ _ _ _ _ wr.drew
      have HX1 : Hid (Th w wr.drew (thrL k h s)) := Lib.hid ⟨HX.out.st, HX.out.res, HX.out.below.drew⟩
      clear HX hwr q0 q1
      generalize wr.drew = wr1 at HX1 ⊢
      go_wp2_with fail
      refine (HC.out _).mono ?_
      rintro e w5 ⟨rfl, b5⟩
      have HG : Hid (w5.heap[w.heap.size]? = some (.cells (ws (thrL k h s)) 169 (0, 0))) := Lib.hid ((b5.block _ (Array.getElem?_eq_some_iff.1 HX1.out.st).1).trans HX1.out.st)
      have HX2 : Hid (Th w (w5.setRow w.heap.size (ws (nextL (thrL k h s) b))) (thrL (k + 1) h s)) := Lib.hid (by rw [HN.out]; exact HX1.out.next b5)
      have HI := Lib.hid (i37 (nextL (thrL k h s) b) (next_length _ (thr_length k h s HL.out) _))
      have HZ : Hid ((ws (thrL k h s)).size = (ws (nextL (thrL k h s) b)).size) := Lib.hid (by rw [ws_size, ws_size, next_length _ (thr_length k h s HL.out), thr_length k h s HL.out])
      clear b5 HX1 HC HN hex
      generalize nextL (thrL k h s) b = v at HX2 HI HZ ⊢
      go_upto_region 3 with (refine wpList_store_row rfl 169 (.tmp 2) (.tmp 18) rfl w.heap.size (ws v) rfl rfl 169 (ws (thrL k h s)) HG.out HI.out HZ.out (ws_one _) ?_)
      generalize w5.setRow w.heap.size (ws v) = w6 at HX2 ⊢
      go_wp2_with fail
      go_roundw
      case rel => exact ⟨k + 1, a + 64, by omega, by go_num, by have := HK.out; omega, HX2.out⟩
      case measure => have := HS.out; have := HK.out; simp [intOf]; omega
    · obtain rfl : k = n := by omega
      have ha2 : ¬ a < s.length := by have := HS.out; have := HK.out; omega
      have hdc : decide (a < s.length) = false := by simpa using ha2
      have HF := HX.out
      have HFL := Lib.hid (thr_length k h s HL.out)
      obtain ⟨old, ho1, ho2⟩ := HF.res
      have HO1 := Lib.hid ho1
      have HO2 := Lib.hid (show old.size = (ws (thrL k h s)).size from by rw [ws_size, HFL.out]; exact ho2)
      clear HF ho1 ho2
      go_wp2_with (first
        | (refine wpList_load_row rfl 169 (.tmp 2) rfl w.heap.size rfl 169 (ws (thrL k h s)) (0, 0) _ HX.out.st u37 rfl (i37 _ HFL.out) ?_)
        | (refine wpList_store_row rfl 169 (.tmp 4) (.tmp 19) rfl (w.heap.size + 1) (ws (thrL k h s)) rfl rfl 169 old HO1.out (i37 _ HFL.out) HO2.out (ws_one _) ?_))
      refine bodyPost_ret (v := .agg (ws (thrL k h s))) (results_cell_row (p := 4) (ty := 169) rfl _ _ (w.heap.size + 1) 169 (ws (thrL k h s)) (0, 0) _ rfl (setRow_put HO1.out) u37 rfl (i37 _ HFL.out)) rfl ⟨rfl, setRow_below HX.out.below (by omega)⟩
end Go.Proofs.YtpggkfdijmnmiaaGreat.Hs
namespace Go.Proofs.YtpggkfdijmnmiaaGreat.Hs
open Go.RowKit Go.Sort
theorem behind_length (n : Nat) : (behindL n).length = 9 + (119 - n % 64) % 64 := by
  unfold behindL
  simp [fourL_length]; omega
theorem sum_split (s : List UInt8) : ∃ m, (s.drop (64 * (s.length / 64)) ++ behindL s.length).length = 64 * m ∧ m ≤ 2 ∧ sumL s = textL (thrL m (thrL (s.length / 64) firstL (s.take (64 * (s.length / 64)))) (s.drop (64 * (s.length / 64)) ++ behindL s.length)) := by
  refine ⟨(s.length + 72) / 64 - s.length / 64, ?_, by omega, ?_⟩
  · rw [List.length_append, List.length_drop, behind_length]; omega
  · rw [thr_append _ _ _ _ _ (by rw [List.length_take]; omega), ← List.append_assoc, List.take_append_drop, sumL, show s.length / 64 + ((s.length + 72) / 64 - s.length / 64) = (s.length + 72) / 64 from by omega]
theorem rg {w : World} {f : FuncId} {args : Array Value} {v : Value} (h : ∀ w', Calls Tryz.prog f args w' fun e w'' => e = .returned v ∧ Below w'.heap.size w' w'') (d : Nat) (os : Array Obj) :
    Calls Tryz.prog f args (grow (redrawn w d) os) fun e w'' => e = .returned v ∧ ∃ p : Regrown, w'' = grow (redrawn w p.d) p.os := Calls.regrown_of (h _)
set_option maxHeartbeats 4000000 in
set_option maxRecDepth 100000 in
theorem sum_any (s : List UInt8) (hs : s.length ≤ 281474976710656) (w : World) :
    Calls Tryz.prog 97 #[.string ⟨s.toArray⟩] w fun e w' => e = .returned (.string ⟨(sumL s).toArray⟩) ∧ Below w.heap.size w w' := by
  obtain ⟨m, hm, hm2, hsum⟩ := sum_split s
  obtain ⟨W, hW⟩ : ∃ W, W = 64 * (s.length / 64) := ⟨_, rfl⟩
  have eW : (s.length : Int) - (s.length : Int) % 64 = (W : Int) := by omega
  have hsz := size_ba s
  have hsl : (s.length : Int) ≤ 281474976710656 := by omega
  have hWs : (W : Int) ≤ (s.length : Int) := by omega
  have hWs' : W ≤ s.length := by omega
  have hex1 : (⟨s.toArray⟩ : ByteArray).extract 0 W = ⟨(s.take W).toArray⟩ := by simpa using ext_ba s 0 W
  have hex2 : (⟨s.toArray⟩ : ByteArray).extract W s.length = ⟨(s.drop W).toArray⟩ := by
    have := ext_ba s W (s.length - W)
    rwa [show W + (s.length - W) = s.length from by omega, List.take_of_length_le (by rw [List.length_drop]; omega)] at this
  have HT1 := Lib.hid (rg (w := w) (thr_any (s.length / 64) firstL rfl (s.take W) (by rw [List.length_take]; omega) (by rw [List.length_take]; omega)))
  rw [← hW] at hm hsum
  have HT2 := Lib.hid (rg (w := w) (thr_any m (thrL (s.length / 64) firstL (s.take W)) (thr_length _ _ _ rfl) (s.drop W ++ behindL s.length) hm (by omega)))
  have HX := Lib.hid (rg (w := w) (text_any (thrL m (thrL (s.length / 64) firstL (s.take W)) (s.drop W ++ behindL s.length)) (thr_length _ _ _ (thr_length _ _ _ rfl))))
  have HF := Lib.hid (rg (w := w) first_any)
  have HB := Lib.hid (rg (w := w) (behind_any s.length hs))
  have HS := Lib.hid hsum
  have happ := app_ba (s.drop W) (behindL s.length)
  have hl1 : (s.drop W).length ≤ 64 := by rw [List.length_drop]; omega
  have hl2 : (behindL s.length).length ≤ 128 := by rw [behind_length]; omega
  rw [← HS.out] at HX
  generalize thrL m (thrL (s.length / 64) firstL (s.take W)) (s.drop W ++ behindL s.length) = v2 at HT2 HX
  generalize thrL (s.length / 64) firstL (s.take W) = v1 at HT1 HT2
  generalize s.drop W ++ behindL s.length = r at happ HT2
  generalize s.drop W = p at hex2 happ hl1
  generalize s.take W = q at hex1 HT1
  generalize behindL s.length = bh at happ hl2 HB
  clear hm hsum hs HS hW hm2
  go_enter Tryz.func97, Tryz.ntmps97
  go_wp2_with fail
  refine wp_region_quiet_below mixed (by kernel_rfl) ?_
  iterate 4 go_big_quiet_step (exact HF.out _ _)
  go_big_quiet_step (exact HT1.out _ _)
  iterate 7 go_big_quiet_step (exact HB.out _ _)
  go_big_quiet_step (exact HT2.out _ _)
  iterate 2 go_big_quiet_step (exact HX.out _ _)
  refine wpQuiet_nil ?_
  intro _ hw'
  obtain ⟨⟨dq, osq⟩, hw''⟩ := hw'
  subst hw''
  have HQ := Lib.hid (below_regrown w dq osq)
  generalize grow (redrawn w dq) osq = wq at HQ ⊢
  clear HF HT1 HB HT2 HX
  go_wp2_with fail
  go_ret
  exact ⟨rfl, HQ.out⟩
end Go.Proofs.YtpggkfdijmnmiaaGreat.Hs
namespace Go.Proofs.YtpggkfdijmnmiaaGreat.Hs
open Go.RowKit Go.Sort
theorem sum_length (s : List UInt8) : (sumL s).length = 32 := by
  unfold sumL
  rw [textL_length, thr_length _ _ _ rfl]
theorem fill_length (key : List UInt8) : (fillL key).length = 64 := by
  unfold fillL
  by_cases h : 64 < key.length
  · rw [if_pos h, List.length_append, sum_length, List.length_replicate]
  · rw [if_neg h, List.length_append, List.length_replicate]; omega
theorem s5 : (Tryz.prog.info? 5).map (·.size) = some 1 := by kernel_rfl
theorem copy_fill (K : List UInt8) (n : Nat) : ((bs (List.replicate n 0)).toList.take 0 ++ Lib.byteCells K ++ (bs (List.replicate n 0)).toList.drop (0 + K.length)).toArray = bs (K ++ List.replicate (n - K.length) 0) := by
  simp [bs, Lib.byteCells]
set_option maxHeartbeats 4000000 in
set_option maxRecDepth 100000 in
theorem fill_short (key : List UInt8) (h : key.length ≤ 64) (w : World) :
    Calls Tryz.prog 90 #[.string ⟨key.toArray⟩] w fun e w' => e = .returned (.agg (bs (key ++ List.replicate (64 - (key).length) 0))) ∧ Below w.heap.size w w' := by
  have hsz := size_ba key
  have hl : ¬ (64 < key.length) := by omega
  have HKL := Lib.hid h
  go_enter Tryz.func90, Tryz.ntmps90
  go_upto_region 4 with (fail)
  generalize hw2 : World.alloc _ _ = w2
  have HK2 : Hid (w2.heap[w.heap.size + 1]? = some (.cells (bs (List.replicate 64 0)) 129 (0, 0))) := Lib.hid (by rw [← hw2]; exact (alloc2b w _ _).trans (by kernel_rfl))
  have HR2 : Hid (∃ old : Array Value, w2.heap[w.heap.size]? = some (.cells old 129 (0, 0)) ∧ old.size = 64) := Lib.hid ⟨_, by rw [← hw2]; exact alloc2a w _ _, by rfl⟩
  have HB2 : Hid (Below w.heap.size w w2) := Lib.hid (by rw [← hw2]; exact ((Below.refl _ _).alloc (Nat.le_refl _) _).alloc (by simp) _)
  have HLT : Hid (w.heap.size < w.heap.size + 1) := Lib.hid (by omega)
  clear hw2
  have HC := Lib.hid (Lib.run_copy_row_string (P := Tryz.prog) w2 101 9 3 5 (w.heap.size + 1) 0 64 64 ⟨(key).toArray⟩ (bs (List.replicate 64 0)) 129 Tryz.underlying101 s5 HK2.out (by rw [size_ba]; exact HKL.out) (by rw [size_ba, bs_size, List.length_replicate]; have := HKL.out; omega))
  rw [show (⟨(key).toArray⟩ : ByteArray).data.toList = key from rfl, size_ba, copy_fill (key) 64] at HC
  have HF : Hid ((key ++ List.replicate (64 - (key).length) (0 : UInt8)).length = 64) := Lib.hid (by rw [List.length_append, List.length_replicate]; have := HKL.out; omega)
  generalize hf : key ++ List.replicate (64 - (key).length) (0 : UInt8) = f at HC HF
  have HFE := Lib.hid hf
  clear hf
  go_wp2_with fail
  rw [HC.out]
  simp only [Result.andThen]
  rw [Oper.upon_value]
  have HK3 : Hid ((w2.setRow (w.heap.size + 1) (bs f)).heap[w.heap.size + 1]? = some (.cells (bs f) 129 (0, 0))) := Lib.hid (setRow_put HK2.out)
  obtain ⟨old, ho1, ho2⟩ := HR2.out
  have HO1 : Hid ((w2.setRow (w.heap.size + 1) (bs f)).heap[w.heap.size]? = some (.cells old 129 (0, 0))) := Lib.hid ((setRow_other _ _ _ _ (by have := HLT.out; omega)).trans ho1)
  have HO2 := Lib.hid (show old.size = (bs f).size from by rw [bs_size, HF.out]; exact ho2)
  have HB3 := Lib.hid (setRow_below (cs := bs f) HB2.out (Nat.le_of_lt HLT.out))
  clear HC HR2 HK2 HB2 ho1 ho2
  generalize w2.setRow (w.heap.size + 1) (bs f) = w3 at HK3 HO1 HB3 ⊢
  go_wp2_with (first
    | (refine wpList_load_row rfl 129 (.tmp 3) rfl (w.heap.size + 1) rfl 129 (bs f) (0, 0) _ HK3.out u46 rfl (i46 _ HF.out) ?_)
    | (refine wpList_store_row rfl 129 (.tmp 2) (.tmp 12) rfl w.heap.size (bs f) rfl rfl 129 old HO1.out (i46 _ HF.out) HO2.out (bs_one _) ?_))
  exact bodyPost_ret (v := .agg (bs f)) (results_cell_row (p := 2) (ty := 129) rfl _ _ w.heap.size 129 (bs f) (0, 0) _ rfl (setRow_put HO1.out) u46 rfl (i46 _ HF.out)) rfl ⟨by rw [HFE.out], setRow_below HB3.out (Nat.le_refl _)⟩
set_option maxHeartbeats 4000000 in
set_option maxRecDepth 100000 in
theorem fill_long (key : List UInt8) (h : 64 < key.length) (hs : key.length ≤ 281474976710656) (w : World) :
    Calls Tryz.prog 90 #[.string ⟨key.toArray⟩] w fun e w' => e = .returned (.agg (bs (sumL key ++ List.replicate (64 - (sumL key).length) 0))) ∧ Below w.heap.size w w' := by
  have hsz := size_ba key
  have HS := Lib.hid (sum_any key hs)
  have HKL : Hid ((sumL key).length ≤ 64) := Lib.hid (by rw [sum_length]; omega)
  clear hs
  go_enter Tryz.func90, Tryz.ntmps90
  go_wp2_with fail
  generalize hw0 : World.alloc w _ = w0
  have HR0 : Hid (∃ old : Array Value, w0.heap[w.heap.size]? = some (.cells old 129 (0, 0)) ∧ old.size = 64) := Lib.hid ⟨_, by rw [← hw0]; exact Go.heap_alloc_new w _, by rfl⟩
  have HB0 : Hid (Below w.heap.size w w0) := Lib.hid (by rw [← hw0]; exact (Below.refl _ _).alloc (Nat.le_refl _) _)
  have HZ0 : Hid (w.heap.size < w0.heap.size) := Lib.hid (by rw [← hw0]; simp)
  clear hw0
  refine (HS.out _).mono ?_
  rintro e w1 ⟨rfl, b1⟩
  have HR1 : Hid (∃ old : Array Value, w1.heap[w.heap.size]? = some (.cells old 129 (0, 0)) ∧ old.size = 64) := Lib.hid (by
    obtain ⟨old, h1, h2⟩ := HR0.out
    exact ⟨old, (b1.block _ HZ0.out).trans h1, h2⟩)
  have HB1 := Lib.hid (HB0.out.trans (b1.mono HB0.out.size))
  have HZ1 := Lib.hid (Nat.lt_of_lt_of_le HZ0.out b1.size)
  clear b1 HS HR0 HB0 HZ0
  go_upto_region 4 with (fail)
  generalize hw2 : World.alloc _ _ = w2
  have HK2 : Hid (w2.heap[w1.heap.size]? = some (.cells (bs (List.replicate 64 0)) 129 (0, 0))) := Lib.hid (by rw [← hw2]; exact (Go.heap_alloc_new w1 _).trans (by kernel_rfl))
  have HR2 : Hid (∃ old : Array Value, w2.heap[w.heap.size]? = some (.cells old 129 (0, 0)) ∧ old.size = 64) := Lib.hid (by
    obtain ⟨old, h1, h2⟩ := HR1.out
    exact ⟨old, by rw [← hw2, Lib.alloc_old _ _ _ HZ1.out]; exact h1, h2⟩)
  have HB2 : Hid (Below w.heap.size w w2) := Lib.hid (by rw [← hw2]; exact HB1.out.alloc (Nat.le_of_lt HZ1.out) _)
  have HLT : Hid (w.heap.size < w1.heap.size) := Lib.hid HZ1.out
  clear hw2
  have HC := Lib.hid (Lib.run_copy_row_string (P := Tryz.prog) w2 101 9 3 5 (w1.heap.size) 0 64 64 ⟨(sumL key).toArray⟩ (bs (List.replicate 64 0)) 129 Tryz.underlying101 s5 HK2.out (by rw [size_ba]; exact HKL.out) (by rw [size_ba, bs_size, List.length_replicate]; have := HKL.out; omega))
  rw [show (⟨(sumL key).toArray⟩ : ByteArray).data.toList = sumL key from rfl, size_ba, copy_fill (sumL key) 64] at HC
  have HF : Hid ((sumL key ++ List.replicate (64 - (sumL key).length) (0 : UInt8)).length = 64) := Lib.hid (by rw [List.length_append, List.length_replicate]; have := HKL.out; omega)
  generalize hf : sumL key ++ List.replicate (64 - (sumL key).length) (0 : UInt8) = f at HC HF
  have HFE := Lib.hid hf
  clear hf
  go_wp2_with fail
  rw [HC.out]
  simp only [Result.andThen]
  rw [Oper.upon_value]
  have HK3 : Hid ((w2.setRow (w1.heap.size) (bs f)).heap[w1.heap.size]? = some (.cells (bs f) 129 (0, 0))) := Lib.hid (setRow_put HK2.out)
  obtain ⟨old, ho1, ho2⟩ := HR2.out
  have HO1 : Hid ((w2.setRow (w1.heap.size) (bs f)).heap[w.heap.size]? = some (.cells old 129 (0, 0))) := Lib.hid ((setRow_other _ _ _ _ (by have := HLT.out; omega)).trans ho1)
  have HO2 := Lib.hid (show old.size = (bs f).size from by rw [bs_size, HF.out]; exact ho2)
  have HB3 := Lib.hid (setRow_below (cs := bs f) HB2.out (Nat.le_of_lt HLT.out))
  clear HC HR2 HK2 HB2 ho1 ho2
  generalize w2.setRow (w1.heap.size) (bs f) = w3 at HK3 HO1 HB3 ⊢
  go_wp2_with (first
    | (refine wpList_load_row rfl 129 (.tmp 3) rfl (w1.heap.size) rfl 129 (bs f) (0, 0) _ HK3.out u46 rfl (i46 _ HF.out) ?_)
    | (refine wpList_store_row rfl 129 (.tmp 2) (.tmp 12) rfl w.heap.size (bs f) rfl rfl 129 old HO1.out (i46 _ HF.out) HO2.out (bs_one _) ?_))
  exact bodyPost_ret (v := .agg (bs f)) (results_cell_row (p := 2) (ty := 129) rfl _ _ w.heap.size 129 (bs f) (0, 0) _ rfl (setRow_put HO1.out) u46 rfl (i46 _ HF.out)) rfl ⟨by rw [HFE.out], setRow_below HB3.out (Nat.le_refl _)⟩
theorem fill_any (key : List UInt8) (hs : key.length ≤ 281474976710656) (w : World) :
    Calls Tryz.prog 90 #[.string ⟨key.toArray⟩] w fun e w' => e = .returned (.agg (bs (fillL key))) ∧ Below w.heap.size w w' := by
  unfold fillL
  by_cases h : 64 < key.length
  · rw [if_pos h]; exact fill_long key h hs w
  · rw [if_neg h]; exact fill_short key (by omega) w
end Go.Proofs.YtpggkfdijmnmiaaGreat.Hs
namespace Go.Proofs.YtpggkfdijmnmiaaGreat.Hs
open Go.RowKit Go.Sort
theorem turned_length (k : List UInt8) (c : UInt8) : (turnedL k c).length = k.length := by simp [turnedL]
theorem mac_length (k s : List UInt8) : (macK k s).length = 32 := sum_length _
set_option maxHeartbeats 4000000 in
set_option maxRecDepth 100000 in
theorem macK_any (k : List UInt8) (hk : k.length = 64) (s : List UInt8) (hs : s.length ≤ 140737488355392) (w : World) :
    Calls Tryz.prog 89 #[.agg (bs k), .string ⟨s.toArray⟩] w fun e w' => e = .returned (.string ⟨(macK k s).toArray⟩) ∧ Below w.heap.size w w' := by
  have HK := Lib.hid (Go.heap_alloc_new w (.cells (bs k) 129))
  have HI := Lib.hid (i46 k hk)
  have HA := Lib.hid (rg (w := w.alloc (.cells (bs k) 129)) (turned_any k hk 92))
  have HB := Lib.hid (rg (w := w.alloc (.cells (bs k) 129)) (turned_any k hk 54))
  have HC := Lib.hid (rg (w := w.alloc (.cells (bs k) 129)) (sum_any (turnedL k 54 ++ s) (by rw [List.length_append, turned_length]; omega)))
  have HD := Lib.hid (rg (w := w.alloc (.cells (bs k) 129)) (sum_any (turnedL k 92 ++ sumL (turnedL k 54 ++ s)) (by rw [List.length_append, turned_length, sum_length]; omega)))
  have HM : Hid (macK k s = sumL (turnedL k 92 ++ sumL (turnedL k 54 ++ s))) := Lib.hid rfl
  have a1 := app_ba (turnedL k 54) s
  have a2 := app_ba (turnedL k 92) (sumL (turnedL k 54 ++ s))
  have l1 : (turnedL k 54).length ≤ 64 := by rw [turned_length]; omega
  have l2 : (turnedL k 92).length ≤ 64 := by rw [turned_length]; omega
  have l3 : (sumL (turnedL k 54 ++ s)).length ≤ 32 := by rw [sum_length]; omega
  rw [← HM.out] at HD
  clear HM
  have HBW : Hid (Below w.heap.size w (w.alloc (.cells (bs k) 129))) := Lib.hid ((Below.refl _ _).alloc (Nat.le_refl _) _)
  generalize turnedL k 92 ++ sumL (turnedL k 54 ++ s) = x2 at a2 HD
  generalize sumL (turnedL k 54 ++ s) = m1 at a2 HC l3
  generalize turnedL k 54 ++ s = x1 at a1 HC
  generalize turnedL k 54 = t1 at a1 HB l1
  generalize turnedL k 92 = t2 at a2 HA l2
  clear hk
  go_enter Tryz.func89, Tryz.ntmps89
  go_wp2_with fail
  generalize w.alloc (.cells (bs k) 129) = w0 at HK HA HB HC HD HBW ⊢
  refine wp_region_quiet_below mixed (by kernel_rfl) ?_
  refine wpQuiet_load_row rfl 129 (.tmp 2) rfl w.heap.size rfl 129 (bs k) (0, 0) _ (fun w' hw' => heap_regrown HK.out hw') u46 rfl HI.out ?_
  quiet_step (exact HA.out _ _)
  refine wpQuiet_load_row rfl 129 (.tmp 2) rfl w.heap.size rfl 129 (bs k) (0, 0) _ (fun w' hw' => heap_regrown HK.out hw') u46 rfl HI.out ?_
  quiet_step (exact HB.out _ _)
  iterate 2 go_big_quiet_step (exact HC.out _ _)
  go_big_quiet_step (exact HC.out _ _)
  iterate 2 go_big_quiet_step (exact HD.out _ _)
  go_big_quiet_step (exact HD.out _ _)
  refine wpQuiet_nil ?_
  intro _ hw'
  obtain ⟨⟨dq, osq⟩, hw''⟩ := hw'
  subst hw''
  have HQ := Lib.hid (HBW.out.trans ((below_regrown w0 dq osq).mono HBW.out.size))
  generalize grow (redrawn w0 dq) osq = wq at HQ ⊢
  clear HA HB HC HD HK HBW
  go_wp2_with fail
  go_ret
  exact ⟨rfl, HQ.out⟩
theorem Mac_any (key s : List UInt8) (hk : key.length ≤ 281474976710656) (hs : s.length ≤ 140737488355392) (w : World) :
    Calls Tryz.prog 39 #[.string ⟨key.toArray⟩, .string ⟨s.toArray⟩] w fun e w' => e = .returned (.string ⟨(macL key s).toArray⟩) ∧ Below w.heap.size w w' := by
  have HA := Lib.hid (fill_any key hk)
  have HB := Lib.hid (macK_any (fillL key) (fill_length key) s hs)
  have HM : Hid (macL key s = macK (fillL key) s) := Lib.hid rfl
  rw [← HM.out] at HB
  clear HM hk hs
  generalize fillL key = k at HA HB
  go_enter Tryz.func39, Tryz.ntmps39
  go_wp2_with fail
  refine (HA.out _).mono ?_
  rintro e w1 ⟨rfl, b1⟩
  go_wp2_with fail
  refine (HB.out _).mono ?_
  rintro e w2 ⟨rfl, b2⟩
  go_wp2_with fail
  go_ret
  exact ⟨rfl, b1.trans (b2.mono b1.size)⟩
end Go.Proofs.YtpggkfdijmnmiaaGreat.Hs
namespace Go.Proofs.YtpggkfdijmnmiaaGreat.Hs
open Go.RowKit
set_option maxHeartbeats 2000000 in
set_option maxRecDepth 100000 in
theorem writeByte_any (B b : Nat) (bs : List Value) (c : Int) (w : World) (h : Lib.IsBuilderF 188 5 B b bs w) (hlen : bs.length + 1 ≤ 140737488355328) (hBw : B ≤ w.heap.size) :
    Calls Tryz.prog 164 #[.pointer (some ⟨b, 0, none⟩), .int .u8 c] w fun e w' => e = .returned .nilIface ∧ Lib.BuilderAtF 188 5 B b (.pointer (some ⟨b, 0, none⟩)) (bs ++ [.int .u8 c]) w' ∧ Below B w w' ∧ Lib.OthersKept 5 (some b) w w' := by
  obtain ⟨i0, hi, hz0, hz1, hz2⟩ := info_parts infoByte
  go_enter Tryz.func164, Tryz.ntmps164
  go_wp2_with (go_at_call 187; refine (copyCheck_any B b bs _ h).mono ?_)
  rintro e w1 ⟨rfl, h1, hb1, hk1⟩
  obtain ⟨hB, v, hbk, hown, hne⟩ := h1
  have c0 : w1.cell? ⟨b, 0, none⟩ = some (.pointer (some ⟨b, 0, none⟩)) := by rw [Lib.cell_of_heap hbk]; rfl
  have c1 : w1.cell? ⟨b, 1, none⟩ = some v := by rw [Lib.cell_of_heap hbk]; rfl
  have hsz := hb1.size
  go_wp2_with (at_builtin; refine wpList_append_ownF _ rfl _ _ 101 rfl B 5 i0 (.int .u8 0) 1 1 Tryz.underlying101 hi hz0 hz1 hz2 rfl (by decide) _ _ _ rfl (hown.alloc _) ⟨w1.heap.size, 0, none⟩ 1 1 [.int .u8 c] rfl rfl ?c1 ?c2 ?c3 ?c4 ?c5 ?_)
  case c1 =>
    intro j u hj
    match j, hj with
    | 0, hj => simp at hj; subst hj; simp [Addr.add]
  case c2 => intro u hu; simp at hu; subst hu; rfl
  case c3 => unfold maxLen; omega
  case c4 => omega
  case c5 => simp; omega
  intro v' w2 hown' hgrow _
  have hlt := blk_lt hbk
  have hb2 : w2.heap[b]? = some (.cells #[.pointer (some ⟨b, 0, none⟩), v] 188 (0, 0)) := by
    rw [hgrow.block b (by simp; omega) (fun e => hne e.symm), Lib.alloc_old w1 _ b hlt]
    exact hbk
  have d0 : w2.cell? ⟨b, 0, none⟩ = some (.pointer (some ⟨b, 0, none⟩)) := by rw [Lib.cell_of_heap hb2]; rfl
  have d1 : w2.cell? ⟨b, 1, none⟩ = some v := by rw [Lib.cell_of_heap hb2]; rfl
  have f1 : w2.frozen? ⟨b, 1, none⟩ = false := Lib.frozen_of_heap hb2 1
  obtain ⟨g, cap, rfl⟩ : ∃ g cap, v' = .slice (some ⟨g, 0, none⟩) (bs.length + 1) cap := by
    rcases hown'.2 with ⟨_, h0⟩ | ⟨g, cap, cur, fz, hv, _⟩
    · omega
    · exact ⟨g, cap, hv⟩
  go_wp2
  go_ret
  refine ⟨rfl, ?_, ?_, ((hk1.alloc _).grown hgrow (Lib.ownsRowF_kind (hown.alloc _))).setCell ⟨b, 1, none⟩ rfl _⟩
  · exact Lib.BuilderAtF.put hB hb2 (bs' := bs ++ [.int .u8 c]) (by simpa using hown') (by decide)
  · exact ((hb1.alloc (by omega) _).grown hgrow (by simp; omega) (fun k hk => (hown.lt k hk).1)).setCell (p := ⟨b, 1, none⟩) hB _
theorem byteCells_snoc (l : List UInt8) (c : UInt8) : Lib.byteCells l ++ [.int .u8 c.toNat] = Lib.byteCells (l ++ [c]) := by
  rw [Lib.byteCells_append]; rfl
theorem write_b (B : Nat) (l : List UInt8) (c : UInt8) (w : World) (h : Bd B l w) (hlen : l.length + 1 ≤ 140737488355328) :
    Calls Tryz.prog 164 #[.pointer (some ⟨B, 0, none⟩), .int .u8 c.toNat] w fun e w' => e = .returned .nilIface ∧ Bd B (l ++ [c]) w' ∧ Below B w w' ∧ Lib.OthersKept 5 (some B) w w' := by
  refine (writeByte_any B B (Lib.byteCells l) c.toNat w h (by rw [Lib.byteCells_length]; exact hlen) (Nat.le_of_lt h.lt)).mono ?_
  rintro e w' ⟨rfl, h1, h2, h3⟩
  rw [byteCells_snoc] at h1
  exact ⟨rfl, .inr h1, h2, h3⟩
end Go.Proofs.YtpggkfdijmnmiaaGreat.Hs
namespace Go.Proofs.YtpggkfdijmnmiaaGreat.Hs
open Go.RowKit
def sixD : List UInt8 := [65, 66, 67, 68, 69, 70, 71, 72, 73, 74, 75, 76, 77, 78, 79, 80, 81, 82, 83, 84, 85, 86, 87, 88, 89, 90, 97, 98, 99, 100, 101, 102, 103, 104, 105, 106, 107, 108, 109, 110, 111, 112, 113, 114, 115, 116, 117, 118, 119, 120, 121, 122, 48, 49, 50, 51, 52, 53, 54, 55, 56, 57, 45, 95]
def six (n : Nat) : UInt8 := sixD.getD n 0
def enc (rest bits : Nat) : List UInt8 → List UInt8
  | [] => if 0 < bits then [six (rest * 2 ^ (6 - bits))] else []
  | c :: r =>
    let n := rest * 256 + c.toNat
    if 4 ≤ bits then six (n / 2 ^ (bits + 2)) :: six (n % 2 ^ (bits + 2) / 2 ^ (bits - 4)) :: enc (n % 2 ^ (bits + 2) % 2 ^ (bits - 4)) (bits - 4) r
    else six (n / 2 ^ (bits + 2)) :: enc (n % 2 ^ (bits + 2)) (bits + 2) r
def b64L (l : List UInt8) : List UInt8 := enc 0 0 l
theorem six_at (n : Nat) (h : n < 64) : (({ data := #[65, 66, 67, 68, 69, 70, 71, 72, 73, 74, 75, 76, 77, 78, 79, 80, 81, 82, 83, 84, 85, 86, 87, 88, 89, 90, 97, 98, 99, 100, 101, 102, 103, 104, 105, 106, 107, 108, 109, 110, 111, 112, 113, 114, 115, 116, 117, 118, 119, 120, 121, 122, 48, 49, 50, 51, 52, 53, 54, 55, 56, 57, 45, 95] } : ByteArray)[n]'h) = six n := by
  show sixD[n]'h = _
  rw [six, List.getD_eq_getElem?_getD, List.getElem?_eq_getElem h]; rfl
theorem ofInt_i64 (a : Nat) (ha : a < 9223372036854775808) : (BitVec.ofInt 64 (a : Int)).toNat = a := by
  rw [BitVec.ofInt_natCast, BitVec.toNat_ofNat]; exact Nat.mod_eq_of_lt (by omega)
theorem or_add (i a b : Nat) (ha : a < 1048576) (hi : i ≤ 8) (hb : b < 2 ^ i) : bits BinOp.or IntKind.i64 ((a : Int) * ((2 ^ i : Nat) : Int)) (b : Int) = (a : Int) * ((2 ^ i : Nat) : Int) + (b : Int) := by
  have h2 : 2 ^ i ≤ 2 ^ 8 := Nat.pow_le_pow_right (by omega) hi
  have h3 : a * 2 ^ i ≤ 1048576 * 2 ^ 8 := Nat.mul_le_mul (by omega) h2
  have e : a * 2 ^ i ||| b = a * 2 ^ i + b := by
    rw [Nat.mul_comm]; exact (Nat.two_pow_add_eq_or_of_lt hb a).symm
  rw [← Int.natCast_mul]
  show IntKind.i64.wrap ((BitVec.ofInt 64 ((a * 2 ^ i : Nat) : Int) ||| BitVec.ofInt 64 (b : Int)).toNat : Int) = _
  rw [BitVec.toNat_or, ofInt_i64 _ (by omega), ofInt_i64 b (by omega), IntKind.wrap_i64, e]
  omega
theorem or_256 (a : Nat) (c : UInt8) (ha : a < 1048576) : bits BinOp.or IntKind.i64 ((a : Int) * 256) (c.toNat : Int) = (a : Int) * 256 + (c.toNat : Int) := or_add 8 a c.toNat ha (by omega) c.toNat_lt
theorem and_mask (i a : Nat) (hi : i ≤ 8) (ha : a < 9223372036854775808) : bits BinOp.and IntKind.i64 (a : Int) ((2 ^ i - 1 : Nat) : Int) = ((a % 2 ^ i : Nat) : Int) := by
  have h2 : 2 ^ i ≤ 2 ^ 8 := Nat.pow_le_pow_right (by omega) hi
  have h3 : a % 2 ^ i < 2 ^ i := Nat.mod_lt _ (Nat.two_pow_pos i)
  show IntKind.i64.wrap ((BitVec.ofInt 64 (a : Int) &&& BitVec.ofInt 64 ((2 ^ i - 1 : Nat) : Int)).toNat : Int) = _
  rw [BitVec.toNat_and, ofInt_i64 a ha, ofInt_i64 _ (by omega), IntKind.wrap_i64, Nat.and_two_pow_sub_one_eq_mod]
  omega
theorem and_int (i : Nat) (x m : Int) (hi : i ≤ 8) (hm : m = ((2 ^ i - 1 : Nat) : Int)) (h0 : 0 ≤ x) (h1 : x < 9223372036854775808) : bits BinOp.and IntKind.i64 x m = x % ((2 ^ i : Nat) : Int) := by
  obtain ⟨a, rfl⟩ := Int.eq_ofNat_of_zero_le h0
  subst hm
  exact and_mask i a hi (by omega)
theorem enc_len (l : List UInt8) : ∀ rest bits, bits ≤ 5 → 6 * (enc rest bits l).length ≤ 8 * l.length + bits + 5 := by
  induction l with
  | nil =>
    intro rest bits h
    rw [enc]
    split
    · simp; omega
    · simp
  | cons c l ih =>
    intro rest bits h
    rw [enc]
    split
    · have := ih ((rest * 256 + c.toNat) % 2 ^ (bits + 2) % 2 ^ (bits - 4)) (bits - 4) (by omega)
      simp only [List.length_cons]; omega
    · have := ih ((rest * 256 + c.toNat) % 2 ^ (bits + 2)) (bits + 2) (by omega)
      simp only [List.length_cons]; omega
theorem drop_one (s : ByteArray) (k : Nat) (h : k < s.size) : s.data.toList.drop k = s[k] :: s.data.toList.drop (k + 1) := by
  rw [List.drop_eq_getElem_cons (by simp; omega)]; rfl
set_option maxHeartbeats 2000000 in
set_option maxRecDepth 100000 in
theorem base64_any (s : ByteArray) (w : World) (hs : s.size ≤ 2097152) :
    Calls Tryz.prog 134 #[.string s] w fun e w' => e = .returned (.string ⟨(b64L s.data.toList).toArray⟩) ∧ Below w.heap.size w w' := by
  go_enter Tryz.func134, Tryz.ntmps134
  go_wp2
  go_loopw [4, 5, 9] (fun x y i wr => ∃ (k r b : Nat) (acc : List UInt8), k ≤ s.size ∧ (b = 0 ∧ r < 1 ∨ b = 2 ∧ r < 4 ∨ b = 4 ∧ r < 16) ∧ acc.length ≤ 2 * k ∧ x = .int .i64 r ∧ y = .int .i64 b ∧ i = .int .i64 k ∧ b64L s.data.toList = acc ++ enc r b (s.data.toList.drop k) ∧ Bd w.heap.size acc wr ∧ Below w.heap.size w wr) (fun _ _ i _ => s.size - (intOf i).toNat)
  case atStart => exact ⟨0, 0, 0, [], by omega, .inl ⟨rfl, by omega⟩, by simp, rfl, rfl, rfl, rfl, Bd.start w, (Below.refl _ _).alloc (Nat.le_refl _) _⟩
  case round =>
    obtain ⟨k, r, b, acc, hk, hrb, hal, rfl, rfl, rfl, hU, hI, hb⟩ := hrel
    have HU := Lib.hid hU
    clear hU
    by_cases hlt : k < s.size
    · have hor := or_256 r s[k] (by omega)
      have h8 := s[k].toNat_lt
      have ha3 : bits BinOp.and IntKind.i64 ((r : Int) * 256 + (s[k].toNat : Int)) 3 = ((r : Int) * 256 + (s[k].toNat : Int)) % 4 := and_int 2 _ _ (by omega) rfl (by omega) (by omega)
      have ha15 : bits BinOp.and IntKind.i64 ((r : Int) * 256 + (s[k].toNat : Int)) 15 = ((r : Int) * 256 + (s[k].toNat : Int)) % 16 := and_int 4 _ _ (by omega) rfl (by omega) (by omega)
      have ha63 : bits BinOp.and IntKind.i64 ((r : Int) * 256 + (s[k].toNat : Int)) 63 = ((r : Int) * 256 + (s[k].toNat : Int)) % 64 := and_int 6 _ _ (by omega) rfl (by omega) (by omega)
      have ha0 : bits BinOp.and IntKind.i64 (((r : Int) * 256 + (s[k].toNat : Int)) % 64) 0 = 0 := by
        have := and_int 0 (((r : Int) * 256 + (s[k].toNat : Int)) % 64) 0 (by omega) rfl (by omega) (by omega)
        rw [this]; omega
      rcases hrb with ⟨rfl, hr⟩ | ⟨rfl, hr⟩ | ⟨rfl, hr⟩
      · have HS : Hid (enc r 0 (s.data.toList.drop k) = six ((r * 256 + s[k].toNat) / 4) :: enc ((r * 256 + s[k].toNat) % 4) 2 (s.data.toList.drop (k + 1))) := by rw [drop_one s k hlt]; rfl
        go_wp2_with (fail)
        refine wp_loop_rounds 2 ?_
        rw [rounds_succ]
        go_wp2_with (fail)
        refine (write_b w.heap.size acc _ _ hI (by omega)).mono ?_
        rintro e w1 ⟨rfl, h1, b1, _⟩
        rw [six_at _ (by omega)] at h1
        have hb' := hb.trans b1
        go_wp2_with (fail)
        rw [rounds_succ]
        go_wp2_with (fail)
        go_roundw
        case rel => exact ⟨k + 1, (r * 256 + s[k].toNat) % 4, 2, _, by omega, by omega, by simp; omega, by go_num, by go_num, by go_num, by rw [HU.out, HS.out]; simp, h1, hb'⟩
        case measure => simp [intOf]; omega
      · have HS : Hid (enc r 2 (s.data.toList.drop k) = six ((r * 256 + s[k].toNat) / 16) :: enc ((r * 256 + s[k].toNat) % 16) 4 (s.data.toList.drop (k + 1))) := by rw [drop_one s k hlt]; rfl
        go_wp2_with (fail)
        refine wp_loop_rounds 2 ?_
        rw [rounds_succ]
        go_wp2_with (fail)
        refine (write_b w.heap.size acc _ _ hI (by omega)).mono ?_
        rintro e w1 ⟨rfl, h1, b1, _⟩
        rw [six_at _ (by omega)] at h1
        have hb' := hb.trans b1
        go_wp2_with (fail)
        rw [rounds_succ]
        go_wp2_with (fail)
        go_roundw
        case rel => exact ⟨k + 1, (r * 256 + s[k].toNat) % 16, 4, _, by omega, by omega, by simp; omega, by go_num, by go_num, by go_num, by rw [HU.out, HS.out]; simp, h1, hb'⟩
        case measure => simp [intOf]; omega
      · have HS : Hid (enc r 4 (s.data.toList.drop k) = six ((r * 256 + s[k].toNat) / 64) :: six ((r * 256 + s[k].toNat) % 64) :: enc 0 0 (s.data.toList.drop (k + 1))) := by
          rw [drop_one s k hlt]
          show six _ :: six (_ % 64 / 1) :: enc (_ % 64 % 1) 0 _ = _
          rw [Nat.div_one, Nat.mod_one]
        go_wp2_with (fail)
        refine wp_loop_rounds 3 ?_
        rw [rounds_succ]
        go_wp2_with (fail)
        refine (write_b w.heap.size acc _ _ hI (by omega)).mono ?_
        rintro e w1 ⟨rfl, h1, b1, _⟩
        rw [six_at _ (by omega)] at h1
        have hb' := hb.trans b1
        go_wp2_with (fail)
        rw [rounds_succ]
        go_wp2_with (fail)
        refine (write_b w.heap.size _ _ _ h1 (by simp; omega)).mono ?_
        rintro e w2 ⟨rfl, h2, b2, _⟩
        go_wp2_with (fail)
        rw [six_at _ (by omega)] at h2
        have hb'' := hb'.trans b2
        go_wp2_with (fail)
        rw [rounds_succ]
        go_wp2_with (fail)
        go_roundw
        case rel => exact ⟨k + 1, 0, 0, _, by omega, by omega, by simp; omega, by go_num, by go_num, by go_num, by rw [HU.out, HS.out]; simp, h2, hb''⟩
        case measure => simp [intOf]; omega
    · have e : s.data.toList.drop k = [] := List.drop_of_length_le (by simp; omega)
      have HE := Lib.hid e
      clear e
      rcases hrb with ⟨rfl, hr⟩ | ⟨rfl, hr⟩ | ⟨rfl, hr⟩
      · go_wp2_with (go_at_call 165; refine (string_b w.heap.size _ _ hI).mono ?_)
        rintro e w1 ⟨rfl, h1⟩
        go_wp2
        go_ret
        refine ⟨?_, hb.trans h1⟩
        rw [HU.out, HE.out]
        simp [enc]
      · have ht : (r : Int) * 16 < 64 := by omega
        go_wp2_with (fail)
        refine (write_b w.heap.size acc _ _ hI (by omega)).mono ?_
        rintro e w1 ⟨rfl, h1, b1, _⟩
        rw [six_at _ (by omega)] at h1
        go_wp2_with (go_at_call 165; refine (string_b w.heap.size _ _ h1).mono ?_)
        rintro e w2 ⟨rfl, h2⟩
        go_wp2
        go_ret
        refine ⟨?_, (hb.trans b1).trans h2⟩
        rw [HU.out, HE.out]
        simp [enc]
      · have ht : (r : Int) * 4 < 64 := by omega
        go_wp2_with (fail)
        refine (write_b w.heap.size acc _ _ hI (by omega)).mono ?_
        rintro e w1 ⟨rfl, h1, b1, _⟩
        rw [six_at _ (by omega)] at h1
        go_wp2_with (go_at_call 165; refine (string_b w.heap.size _ _ h1).mono ?_)
        rintro e w2 ⟨rfl, h2⟩
        go_wp2
        go_ret
        refine ⟨?_, (hb.trans b1).trans h2⟩
        rw [HU.out, HE.out]
        simp [enc]
end Go.Proofs.YtpggkfdijmnmiaaGreat.Hs
namespace Go.Proofs.YtpggkfdijmnmiaaGreat
open Go.RowKit Limbs
def kidOf (s : List UInt8) : List UInt8 := Hs.b64L ((Hs.macL [107, 105, 100] s).take 9)
def macOf (s : List UInt8) : List UInt8 := Hs.macL [109, 97, 99] s
def privAt (s : List UInt8) : Nat := if bv s % mN = 0 then 1 else bv s % mN
def privOf (s : List UInt8) : Nat := privAt (Hs.macL [107, 101, 121] s)
theorem macL_len (k s : List UInt8) : (Hs.macL k s).length = 32 := Hs.mac_length _ _
theorem sclone_any (l : List UInt8) (w : World) (h : l.length ≤ 281474976710656) :
    Calls Tryz.prog 79 #[.string ⟨l.toArray⟩] w fun e w' => e = .returned (.string ⟨l.toArray⟩) ∧ Below w.heap.size w w' := by
  go_enter Tryz.func79, Tryz.ntmps79
  go_wp2_with (fail)
  refine (Tryz.stringslite_Clone ⟨l.toArray⟩ w (by show l.toArray.size ≤ _; simpa using h)).mono ?_
  rintro e w1 ⟨rfl, b1⟩
  go_wp2
  go_ret
  exact ⟨rfl, b1⟩
set_option maxHeartbeats 8000000 in
theorem priv_any (s : List UInt8) (hs : s.length ≤ 140737488351232) (w : World) : Calls Tryz.prog 135 #[.string ⟨s.toArray⟩] w fun e w' => e = .returned (nv (privAt s)) ∧ Below w.heap.size w w' := by
  have hr := reduce_any 1 s hs
  rw [show md 1 = mN by unfold md; rw [if_neg (by decide)]] at hr
  have hlt : bv s % mN < W256 := Nat.lt_trans (Nat.mod_lt _ (by decide)) (show mN < W256 by decide)
  obtain ⟨r, hre⟩ : ∃ r, r = bv s % mN := ⟨_, rfl⟩
  have hpv : privAt s = if r = 0 then 1 else r := by rw [hre]; rfl
  rw [hpv]
  rw [← hre] at hr hlt
  have HR := Lib.hid hr
  have HZ : Hid (∀ w, (Op.equalIn 10000 24 (.agg #[.int .u64 (lb r 0 : Nat), .int .u64 (lb r 1 : Nat), .int .u64 (lb r 2 : Nat), .int .u64 (lb r 3 : Nat)]) (.agg #[.int .u64 0, .int .u64 0, .int .u64 0, .int .u64 0])).run Tryz.prog w = .ok (decide (r = 0)) w) := Lib.hid fun w => eqN r 0 hlt (by decide) w
  clear hr hre hlt hpv hs
  have h1 : nv 1 = .agg #[.int .u64 1, .int .u64 0, .int .u64 0, .int .u64 0] := rfl
  have hz := HZ.out
  by_cases h0 : r = 0
  · rw [decide_eq_true h0] at hz
    rw [if_pos h0, h1]
    clear h0
    simp only [nv, num] at HR
    go_enter Tryz.func135, Tryz.ntmps135
    go_wp2_with fail
    refine (keep w.heap.size w (HR.out _) (by go_grown) (Nat.le_refl _)).mono ?_
    rintro e w1 ⟨rfl, hb, hk⟩
    have KR : Bk 24 w1 w.heap.size cs0 := Bk.below (Bk.new rfl) hk
    obtain ⟨f0, f1, f2, f3⟩ := KR.frosA
    obtain ⟨j0, j1, j2, j3⟩ := KR.cellsA
    go_wp2_with fail
    refine ret_cell rfl w.heap.size 1 rfl (Bk.put KR.alloc) rfl ⟨by rw [h1], ?_⟩
    have hs := hb.size
    go_grown
  · rw [decide_eq_false h0] at hz
    rw [if_neg h0]
    clear h0
    simp only [nv, num] at HR ⊢
    go_enter Tryz.func135, Tryz.ntmps135
    go_wp2_with fail
    refine (keep w.heap.size w (HR.out _) (by go_grown) (Nat.le_refl _)).mono ?_
    rintro e w1 ⟨rfl, hb, hk⟩
    have KR : Bk 24 w1 w.heap.size cs0 := Bk.below (Bk.new rfl) hk
    obtain ⟨f0, f1, f2, f3⟩ := KR.frosA
    obtain ⟨j0, j1, j2, j3⟩ := KR.cellsA
    go_wp2_with fail
    refine ret_cell rfl w.heap.size r rfl (Bk.put KR.alloc) rfl ⟨rfl, ?_⟩
    have hs := hb.size
    go_grown
theorem bthen {w w1 w2 : World} (h : Below w.heap.size w w1) (h2 : Below w1.heap.size w1 w2) : Below w.heap.size w w2 := h.trans (h2.mono h.size)
theorem ba_take (l : List UInt8) (n : Nat) : (⟨l.toArray⟩ : ByteArray).extract 0 n = ⟨(l.take n).toArray⟩ := by
  apply ByteArray.ext
  simp [ByteArray.data_extract]
def keyC (s : List UInt8) : Array Value := #[.string ⟨s.toArray⟩, .string ⟨(kidOf s).toArray⟩, .string ⟨(macOf s).toArray⟩, .int .u64 (lb (privOf s) 0 : Nat), .int .u64 (lb (privOf s) 1 : Nat), .int .u64 (lb (privOf s) 2 : Nat), .int .u64 (lb (privOf s) 3 : Nat), .int .u32 0, .int .i32 0, .int .u32 0, .int .u64 0, .int .u64 0, .int .u64 0, .int .u64 0, .int .u64 0, .int .u64 0, .int .u64 0, .int .u64 0, .bool false]
set_option maxHeartbeats 8000000 in
theorem newKey_any (s : List UInt8) (hs : s.length ≤ 140737488351232) (w : World) : Calls Tryz.prog 74 #[.string ⟨s.toArray⟩] w fun e w' => ∃ g, e = .returned (.pointer (some ⟨g, 0, none⟩)) ∧ w.heap.size ≤ g ∧ Bk 121 w' g (keyC s) ∧ Below w.heap.size w w' := by
  have HC := Lib.hid (fun w => sclone_any s w (by omega))
  have HM1 := Lib.hid (fun w => Hs.Mac_any [107, 105, 100] s (by decide) (by omega) w)
  have HM2 := Lib.hid (fun w => Hs.Mac_any [109, 97, 99] s (by decide) (by omega) w)
  have HM3 := Lib.hid (fun w => Hs.Mac_any [107, 101, 121] s (by decide) (by omega) w)
  have HP := Lib.hid (priv_any (Hs.macL [107, 101, 121] s) (by rw [macL_len]; decide))
  have HB : Hid (∀ w, Calls Tryz.prog 134 #[.string ⟨((Hs.macL [107, 105, 100] s).take 9).toArray⟩] w fun e w' => e = .returned (.string ⟨(Hs.b64L ((Hs.macL [107, 105, 100] s).take 9)).toArray⟩) ∧ Below w.heap.size w w') := Lib.hid fun w => Hs.base64_any ⟨((Hs.macL [107, 105, 100] s).take 9).toArray⟩ w (by show ((Hs.macL [107, 105, 100] s).take 9).toArray.size ≤ _; simp [macL_len])
  have hl1 := macL_len [107, 105, 100] s
  obtain ⟨m1, hm1⟩ : ∃ m, m = Hs.macL [107, 105, 100] s := ⟨_, rfl⟩
  have hkid : kidOf s = Hs.b64L (m1.take 9) := by rw [hm1]; rfl
  have hmac : macOf s = Hs.macL [109, 97, 99] s := rfl
  have hprv : privOf s = privAt (Hs.macL [107, 101, 121] s) := rfl
  unfold keyC
  rw [hkid, hmac, hprv]
  rw [← hm1] at HM1 HB hl1
  generalize Hs.macL [109, 97, 99] s = m2 at *
  generalize Hs.macL [107, 101, 121] s = m3 at *
  generalize privAt m3 = pv at *
  clear hkid hmac hprv hm1 hs
  simp only [nv, num] at HP
  go_enter Tryz.func74, Tryz.ntmps74
  go_wp2_with fail
  refine (HC.out w).mono ?_
  rintro e w1 ⟨rfl, hb1⟩
  go_wp2_with fail
  refine (HM1.out w1).mono ?_
  rintro e w2 ⟨rfl, hb2⟩
  have hsz : (9 : Nat) ≤ m1.length := by rw [hl1]; decide
  go_wp2_with fail
  rw [ba_take]
  refine (HB.out w2).mono ?_
  rintro e w3 ⟨rfl, hb3⟩
  go_wp2_with fail
  refine (HM2.out w3).mono ?_
  rintro e w4 ⟨rfl, hb4⟩
  go_wp2_with fail
  refine (HM3.out w4).mono ?_
  rintro e w5 ⟨rfl, hb5⟩
  go_wp2_with fail
  refine (HP.out w5).mono ?_
  rintro e w6 ⟨rfl, hb6⟩
  have hb : Below w.heap.size w w6 := bthen (bthen (bthen (bthen (bthen hb1 hb2) hb3) hb4) hb5) hb6
  clear hb1 hb2 hb3 hb4 hb5 hb6
  go_wp2_with fail
  go_returns
  refine ⟨_, rfl, hb.size, Bk.new rfl, ?_⟩
  have hs := hb.size
  go_grown
end Go.Proofs.YtpggkfdijmnmiaaGreat
