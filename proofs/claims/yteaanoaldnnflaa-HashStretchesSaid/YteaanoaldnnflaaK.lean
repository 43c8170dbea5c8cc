/- The state behind one more block, behind all blocks. Conditions: eight numbers, blocks of 64 bytes. -/
import Derived.Test.YteaanoaldnnflaaJ
import Derived.Deep.CutBlock
import Derived.StillTailTactics
set_option linter.unusedVariables false
set_option linter.unusedSimpArgs false
namespace Go.Proofs.Yteaanoaldnnflaa
open Go.RowKit

theorem turns_succ (w h : List UInt32) (k : Nat) : turnsTo w h (k + 1) = turnL (turnsTo w h k) (kL.getD k 0 + w.getD k 0) := by
  simp [turnsTo, List.range_succ]
theorem turn_length (h : List UInt32) (hl : h.length = 8) (n : UInt32) : (turnL h n).length = 8 := by
  match h, hl with
  | [a, b, c, d, e, f, g, i], _ => rfl
theorem turns_length (w h : List UInt32) (hl : h.length = 8) (k : Nat) : (turnsTo w h k).length = 8 := by
  induction k with
  | zero => exact hl
  | succ k ih => rw [turns_succ, turn_length _ ih]
theorem num_length (b : List UInt8) : (numsL b).length = 16 := nums_length b 64
theorem spr_length (b : List UInt8) : (spreadL (numsL b)).length = 64 := spread_length' _ (num_length b) 64 (by omega)

theorem addW' (x y : UInt32) : ((x.toNat : Int) + (y.toNat : Int)) % 4294967296 = ((x + y).toNat : Int) := by
  rw [UInt32.toNat_add]; omega
theorem alloc2a (w : World) (a b : Obj) : ((w.alloc a).alloc b).heap[w.heap.size]? = some a := by
  rw [Lib.alloc_old _ _ _ (by simp)]; exact Go.heap_alloc_new w a
theorem alloc2b (w : World) (a b : Obj) : ((w.alloc a).alloc b).heap[w.heap.size + 1]? = some b := by
  have := Go.heap_alloc_new (w.alloc a) b
  simpa using this
theorem alloc2_old (w : World) (a b : Obj) (k : Nat) (h : k < w.heap.size) : ((w.alloc a).alloc b).heap[k]? = w.heap[k]? := by
  rw [Lib.alloc_old _ _ _ (by simp; omega), Lib.alloc_old _ _ _ h]
theorem setRow_oth (w : World) (g k : Nat) (cs : Array Value) (h : k ≠ g) : (w.setRow g cs).heap[k]? = w.heap[k]? := setRow_other w g k cs h
theorem setRow_size (w : World) (g : Nat) (cs : Array Value) : (w.setRow g cs).heap.size = w.heap.size := by simp [World.setRow]

/-- where the arrays of a block's round lie -/
structure Nx (w wr : World) (n3 n4 : Nat) (h v ww : List UInt32) : Prop where
  st : wr.heap[w.heap.size]? = some (.cells (ws v) 37 (0, 0))
  res : ∃ old : Array Value, wr.heap[w.heap.size + 1]? = some (.cells old 37 (0, 0)) ∧ old.size = 8
  ks : wr.heap[n3]? = some (.cells (ws kL) 72 (0, 0))
  wws : wr.heap[n3 + 1]? = some (.cells (ws ww) 72 (0, 0))
  old : wr.heap[n4]? = some (.cells (ws h) 37 (0, 0))
  below : Below w.heap.size w wr
  l3 : w.heap.size + 2 ≤ n3
  l4 : n3 + 2 ≤ n4
theorem Nx.on {w wr w' : World} {n3 n4 : Nat} {h v v' ww : List UInt32} (x : Nx w wr n3 n4 h v ww) (hv : w'.heap[w.heap.size]? = some (.cells (ws v') 37 (0, 0))) (ho : Oth w.heap.size wr w') : Nx w w' n3 n4 h v' ww := by
  have h3 := x.l3
  have h4 := x.l4
  refine ⟨hv, ?_, (ho.1 _ (by omega)).trans x.ks, (ho.1 _ (by omega)).trans x.wws, (ho.1 _ (by omega)).trans x.old, x.below.trans ho.2, h3, h4⟩
  obtain ⟨o, h1, h2⟩ := x.res
  exact ⟨o, (ho.1 _ (by omega)).trans h1, h2⟩
/-- the first k of two lists added, the rest of the first -/
def zipTo (v h : List UInt32) (k : Nat) : List UInt32 := (List.zipWith (· + ·) v h).take k ++ v.drop k
theorem zipTo_length (v h : List UInt32) (hv : v.length = 8) (hh : h.length = 8) (k : Nat) : (zipTo v h k).length = 8 := by
  simp [zipTo, hv, hh]; omega
theorem zipTo_get (v h : List UInt32) (hv : v.length = 8) (hh : h.length = 8) (k : Nat) (hk : k < 8) : (zipTo v h k)[k]'(by rw [zipTo_length v h hv hh]; exact hk) = v[k] := by
  simp only [zipTo]
  rw [List.getElem_append_right (by simp; omega)]
  simp [hv, hh, Nat.min_eq_left (Nat.le_of_lt hk)]
theorem zipTo_set (v h : List UInt32) (hv : v.length = 8) (hh : h.length = 8) (k : Nat) (hk : k < 8) : (zipTo v h k).set k (v[k] + h[k]) = zipTo v h (k + 1) := by
  have hz : (List.zipWith (· + ·) v h).length = 8 := by simp [hv, hh]
  simp only [zipTo]
  have e : k - ((List.zipWith (· + ·) v h).take k).length = 0 := by rw [List.length_take, hz]; omega
  rw [List.set_append_right _ _ (by rw [List.length_take, hz]; omega), e, List.drop_eq_getElem_cons (by omega), List.set_cons_zero, List.take_succ_eq_append_getElem (by omega), List.append_assoc]
  simp
theorem zipTo_all (v h : List UInt32) (hv : v.length = 8) (hh : h.length = 8) : zipTo v h 8 = List.zipWith (· + ·) v h := by
  unfold zipTo
  rw [List.take_of_length_le (by simp [hv, hh]), List.drop_of_length_le (by omega), List.append_nil]

set_option maxHeartbeats 4000000 in
set_option maxRecDepth 100000 in
theorem next_any (h : List UInt32) (hl : h.length = 8) (b : List UInt8) (hb : b.length = 64) (w : World) :
    Calls Try.prog 33 #[.agg (ws h), .string ⟨b.toArray⟩] w fun e w' => e = .returned (.agg (ws (nextL h b))) ∧ Below w.heap.size w w' := by
  have HL := Lib.hid hl
  have HC := Lib.hid consts_any
  have HN := Lib.hid (numbers_any b hb)
  have HS := Lib.hid (spread_any (numsL b) (num_length b))
  have HKL := Lib.hid (spr_length b)
  have HX : Hid (nextL h b = List.zipWith (· + ·) (turnsTo (spreadL (numsL b)) h 64) h) := Lib.hid rfl
  clear hl hb
  generalize spreadL (numsL b) = ww at HS HKL HX
  go_enter Try.func33, Try.ntmps33
  go_wp2_with fail
  refine (HC.out _).mono ?_
  rintro e w1 ⟨rfl, b1⟩
  go_wp2_with fail
  refine (HN.out _).mono ?_
  rintro e w2 ⟨rfl, b2⟩
  go_wp2_with fail
  refine (HS.out _).mono ?_
  rintro e w3 ⟨rfl, b3⟩
  have hb123 := b1.trans ((b2.mono b1.size).trans (b3.mono (Nat.le_trans b1.size b2.size)))
  have hz3 : w.heap.size + 2 ≤ w3.heap.size := by
    have := hb123.size
    simpa using this
  have HW3 := Lib.hid hb123
  have HZ3 := Lib.hid hz3
  clear hb123 hz3 b1 b2 b3 HC HN HS
  go_upto_region 2 with (first
    | (refine wpList_store_row rfl 72 (.tmp 5) (.tmp 10) rfl w3.heap.size (ws kL) rfl rfl 72 _ (alloc2a w3 _ _) (i72 kL kL_length) (by rw [ws_size, kL_length]; rfl) (ws_one _) ?_)
    | (refine wpList_store_row rfl 72 (.tmp 6) (.tmp 13) rfl (w3.heap.size + 1) (ws ww) rfl rfl 72 _ ((setRow_oth _ _ _ _ (by omega)).trans (alloc2b w3 _ _)) (i72 ww HKL.out) (by rw [ws_size, HKL.out]; rfl) (ws_one _) ?_))
  generalize hw4 : World.setRow (World.setRow (World.alloc (World.alloc w3 _) _) _ _) _ _ = w4
  have HS4 : Hid (w4.heap.size = w3.heap.size + 2) := Lib.hid (by rw [← hw4, setRow_size, setRow_size]; simp)
  have HX4 : Hid (w4.heap[w.heap.size]? = some (.cells (ws h) 37 (0, 0)) ∧ (∃ old : Array Value, w4.heap[w.heap.size + 1]? = some (.cells old 37 (0, 0)) ∧ old.size = 8) ∧
      w4.heap[w3.heap.size]? = some (.cells (ws kL) 72 (0, 0)) ∧ w4.heap[w3.heap.size + 1]? = some (.cells (ws ww) 72 (0, 0)) ∧ Below w.heap.size w w4) := Lib.hid (by
    have hz := HZ3.out
    rw [← hw4]
    refine ⟨?_, ⟨_, ((setRow_oth _ _ _ _ (by omega)).trans ((setRow_oth _ _ _ _ (by omega)).trans (alloc2_old w3 _ _ _ (by omega)))).trans ((HW3.out.block _ (by simp)).trans (alloc2b w _ _)), rfl⟩, ?_, ?_, ?_⟩
    · rw [setRow_oth _ _ _ _ (by omega), setRow_oth _ _ _ _ (by omega), alloc2_old w3 _ _ _ (by omega)]
      exact (HW3.out.block _ (by simp; omega)).trans (alloc2a w _ _)
    · rw [setRow_oth _ _ _ _ (by omega)]
      exact setRow_put (alloc2a w3 _ _)
    · exact setRow_put ((setRow_oth _ _ _ _ (by omega)).trans (alloc2b w3 _ _))
    · exact setRow_below (setRow_below (((((((Below.refl _ _).alloc (Nat.le_refl _) _).alloc (by simp) _).trans (HW3.out.mono (by simp; omega))).alloc (by omega) _).alloc (by simp; omega) _)) (by omega)) (by omega))
  clear hw4 HW3
  have HH4 := Lib.hid HX4.out.1
  go_wp2_with (first
    | (refine wpList_load_row rfl 37 (.tmp 2) rfl w.heap.size rfl 37 (ws h) (0, 0) _ HH4.out u37 rfl (i37 h HL.out) ?_)
    | (refine wpList_store_row rfl 37 (.tmp 7) (.tmp 14) rfl w4.heap.size (ws h) rfl rfl 37 _ (Go.heap_alloc_new w4 _) (i37 h HL.out) (by rw [ws_size, HL.out]; rfl) (ws_one _) ?_))
  go_loopw [15] (fun i wr => ∃ k : Nat, k ≤ 64 ∧ i = .int .i64 k ∧ Nx w wr w3.heap.size w4.heap.size h (turnsTo ww h k) ww) (fun i _ => 64 - (intOf i).toNat)
  case atStart =>
    obtain ⟨g1, ⟨old, g2, g2'⟩, g3, g4, g5⟩ := HX4.out
    have hz3 := HZ3.out
    have hs4 := HS4.out
    refine ⟨0, by omega, rfl, ?_, ⟨old, ?_, g2'⟩, ?_, ?_, setRow_put (Go.heap_alloc_new w4 _), setRow_below (g5.alloc (by omega) _) (by omega), hz3, by omega⟩
    · rw [setRow_oth _ _ _ _ (by omega), Lib.alloc_old _ _ _ (by omega)]; exact g1
    · rw [setRow_oth _ _ _ _ (by omega), Lib.alloc_old _ _ _ (by omega)]; exact g2
    · rw [setRow_oth _ _ _ _ (by omega), Lib.alloc_old _ _ _ (by omega)]; exact g3
    · rw [setRow_oth _ _ _ _ (by omega), Lib.alloc_old _ _ _ (by omega)]; exact g4
  case round =>
    obtain ⟨k, hk, rfl, hx⟩ := hrel
    have HN := Lib.hid hx
    clear hx HX4 HH4
    by_cases hlt : k < 64
    · have ck := (blk_cell HN.out.ks k).trans (ws_get kL k (by rw [kL_length]; exact hlt))
      have cw := (blk_cell HN.out.wws k).trans (ws_get ww k (by rw [HKL.out]; exact hlt))
      have HT := Lib.hid (turns_succ ww h k)
      have e1 : kL.getD k 0 = kL[k]'(by rw [kL_length]; exact hlt) := by simp [List.getD, show k < kL.length by rw [kL_length]; exact hlt]
      have e2 : ww.getD k 0 = ww[k]'(by rw [HKL.out]; exact hlt) := by simp [List.getD, show k < ww.length by rw [HKL.out]; exact hlt]
      rw [e1, e2] at HT
      clear e1 e2
      generalize kL[k]'(by rw [kL_length]; exact hlt) = xk at ck HT
      generalize ww[k]'(by rw [HKL.out]; exact hlt) = xw at cw HT
      have s1 := addW xk xw
      have s2 := addW' xk xw
      generalize xk + xw = y at s1 s2 HT
      go_wp2_with fail
      go_still_tail 7, (by kernel_rfl)
      change wpList _ _ _ _ _ wr.drew
      have HN1 : Hid (Nx w wr.drew w3.heap.size w4.heap.size h (turnsTo ww h k) ww) := Lib.hid (HN.out.on HN.out.st ⟨fun _ _ => rfl, (Below.refl _ _).drew⟩)
      clear ck cw HN
      have HC := Lib.hid (turn_any w.heap.size (turnsTo ww h k) (turns_length ww h HL.out k) y wr.drew HN1.out.st)
      generalize wr.drew = wr1 at HN1 HC ⊢
      go_wp2_with fail
      refine HC.out.mono ?_
      rintro e w5 ⟨rfl, hv, ho⟩
      have HN2 : Hid (Nx w w5 w3.heap.size w4.heap.size h (turnsTo ww h (k + 1)) ww) := Lib.hid (HN1.out.on (by rw [HT.out]; exact hv) ho)
      clear HC hv ho HN1
      go_wp2_with fail
      go_roundw
      case rel => exact ⟨k + 1, by omega, by go_num, HN2.out⟩
      case measure => simp [intOf]; omega
    · obtain rfl : k = 64 := by omega
      go_wp2_with fail
      have HN0 : Hid (Nx w wr w3.heap.size w4.heap.size h (zipTo (turnsTo ww h 64) h 0) ww) := Lib.hid HN.out
      have HVL := Lib.hid (turns_length ww h HL.out 64)
      have HZ : Hid (zipTo (turnsTo ww h 64) h 8 = nextL h b) := Lib.hid ((zipTo_all _ _ HVL.out HL.out).trans HX.out.symm)
      clear HX HN
      generalize turnsTo ww h 64 = v at HN0 HVL HZ
      go_loopw [27] (fun i wr => ∃ k : Nat, k ≤ 8 ∧ i = .int .i64 k ∧ Nx w wr w3.heap.size w4.heap.size h (zipTo v h k) ww) (fun i _ => 8 - (intOf i).toNat)
      case atStart => exact ⟨0, by omega, rfl, HN0.out⟩
      case round =>
        obtain ⟨k, hk, rfl, hx⟩ := hrel
        have HN := Lib.hid hx
        clear hx HN0
        by_cases hlt : k < 8
        · have cv := (blk_cell HN.out.st k).trans (ws_get _ k (by rw [zipTo_length v h HVL.out HL.out]; exact hlt))
          rw [zipTo_get v h HVL.out HL.out k hlt] at cv
          have ch := (blk_cell HN.out.old k).trans (ws_get h k (by rw [HL.out]; exact hlt))
          have fv := Lib.frozen_of_heap HN.out.st k
          have HT := Lib.hid (zipTo_set v h HVL.out HL.out k hlt)
          generalize v[k]'(by rw [HVL.out]; exact hlt) = xv at cv HT
          generalize h[k]'(by rw [HL.out]; exact hlt) = xh at ch HT
          have s1 := addW xv xh
          have s2 := addW' xv xh
          generalize xv + xh = y at s1 s2 HT
          go_wp2_with fail
          go_region
          have HN2 : Hid (Nx w ((wr.setCell ⟨w.heap.size, k, none⟩ (.int .u32 (y.toNat : Int))).drew) w3.heap.size w4.heap.size h (zipTo v h (k + 1)) ww) := Lib.hid (HN.out.on (by
            have := blk_put HN.out.st k (.int .u32 (y.toNat : Int))
            rw [ws_set, HT.out] at this
            exact this) ((Oth.refl _ _).setCell k _).drew)
          clear HN cv ch fv
          go_wp2_with fail
          go_roundw
          case rel => exact ⟨k + 1, by omega, by go_num, HN2.out⟩
          case measure => simp [intOf]; omega
        · obtain rfl : k = 8 := by omega
          have hN := HN.out
          rw [HZ.out] at hN
          have HF := Lib.hid hN
          have HFL : Hid ((nextL h b).length = 8) := Lib.hid (by rw [← HZ.out]; exact zipTo_length v h HVL.out HL.out 8)
          obtain ⟨old, ho1, ho2⟩ := hN.res
          have HO1 := Lib.hid ho1
          have HO2 := Lib.hid (show old.size = (ws (nextL h b)).size from by rw [ws_size, HFL.out]; exact ho2)
          clear hN HN ho1 ho2
          go_wp2_with (first
            | (refine wpList_load_row rfl 37 (.tmp 2) rfl w.heap.size rfl 37 (ws (nextL h b)) (0, 0) _ HF.out.st Go.Proofs.Yteaanoaldnnflaa.u37 rfl (i37 _ HFL.out) ?_)
            | (refine wpList_store_row rfl 37 (.tmp 4) (.tmp 39) rfl (w.heap.size + 1) (ws (nextL h b)) rfl rfl 37 old HO1.out (i37 _ HFL.out) HO2.out (ws_one _) ?_))
          refine bodyPost_ret (v := .agg (ws (nextL h b))) (results_cell_row (p := 4) (ty := 37) rfl _ _ (w.heap.size + 1) 37 (ws (nextL h b)) (0, 0) _ rfl (setRow_put HO1.out) Go.Proofs.Yteaanoaldnnflaa.u37 rfl (i37 _ HFL.out)) rfl ⟨rfl, setRow_below HF.out.below (by omega)⟩
end Go.Proofs.Yteaanoaldnnflaa
