/- The sum of any bytes. Condition: at most 2^48 bytes. A key as one block. Condition: at most 2^48 bytes. Macs. Condition: at most 2^47 bytes each. The document's own product of two numbers in digits. Condition: at most 1000 digits. The document's own comparison of a number in digits. Condition: at most 1000 digits. The document's own roots. Condition: a number below 2^16, its square or cube root. T -/
import Derived.Test.YtpggkfdijmnmiaaGreatZuk11
import Derived.Lib.SlBuf
import Derived.Lib.BufferWrite
import Derived.Laws.MakeOwn
import Derived.Test.YtpggkfdijmnmiaaGreatZuk10
import Derived.Deep.AppendLies
import Derived.StillTail
import Derived.BigQuiet
import Derived.Test.YtpggkfdijmnmiaaGreatZuk04
import Derived.Tactics
import Derived.Tactics2
import Derived.Defers
import Derived.Laws.Pointers
import Derived.Laws.LoneSync
import Derived.RegionTactic
import Derived.RegionCalls
import Derived.ChangeAlike
import Derived.Deep.QuietTactic
set_option linter.unusedVariables false
set_option linter.unusedSimpArgs false
set_option maxRecDepth 100000
namespace Go.Proofs.YtpggkfdijmnmiaaGreat.Hs
open Go.RowKit Go.Sort
theorem behind_length (n : Nat) : (behindL n).length = 9 + (119 - n % 64) % 64 := by
  unfold behindL
  simp [fourL_length]; omega
theorem sum_split (s : List UInt8) : ∃ m, (s.drop (64 * (s.length / 64)) ++ behindL s.length).length = 64 * m ∧ m ≤ 2 ∧ sumL s = textL (thrL m (thrL (s.length / 64) firstL (s.take (64 * (s.length / 64)))) (s.drop (64 * (s.length / 64)) ++ behindL s.length)) := by
  refine ⟨(s.length + 72) / 64 - s.length / 64, ?_, by omega, ?_⟩
  · rw [List.length_append, List.length_drop, behind_length]; omega
  · rw [thr_append _ _ _ _ _ (by rw [List.length_take]; omega), ← List.append_assoc, List.take_append_drop, sumL, show s.length / 64 + ((s.length + 72) / 64 - s.length / 64) = (s.length + 72) / 64 from by omega]
theorem rg {w : World} {f : FuncId} {args : Array Value} {v : Value} (h : ∀ w', Calls Tryz.prog f args w' fun e w'' => e = .returned v ∧ Below w'.heap.size w' w'') (d : Nat) (os : Array Obj) :
    Calls Tryz.prog f args (grow (redrawn w d) os) fun e w'' => e = .returned v ∧ ∃ p : Regrown, w'' = grow (redrawn w p.d) p.os := Calls.regrown_of (h _)
set_option maxHeartbeats 4000000 in
set_option maxRecDepth 100000 in
theorem sum_any (s : List UInt8) (hs : s.length ≤ 281474976710656) (w : World) :
    Calls Tryz.prog 97 #[.string ⟨s.toArray⟩] w fun e w' => e = .returned (.string ⟨(sumL s).toArray⟩) ∧ Below w.heap.size w w' := by
  obtain ⟨m, hm, hm2, hsum⟩ := sum_split s
  obtain ⟨W, hW⟩ : ∃ W, W = 64 * (s.length / 64) := ⟨_, rfl⟩
  have eW : (s.length : Int) - (s.length : Int) % 64 = (W : Int) := by omega
  have hsz := size_ba s
  have hsl : (s.length : Int) ≤ 281474976710656 := by omega
  have hWs : (W : Int) ≤ (s.length : Int) := by omega
  have hWs' : W ≤ s.length := by omega
  have hex1 : (⟨s.toArray⟩ : ByteArray).extract 0 W = ⟨(s.take W).toArray⟩ := by simpa using ext_ba s 0 W
  have hex2 : (⟨s.toArray⟩ : ByteArray).extract W s.length = ⟨(s.drop W).toArray⟩ := by
    have := ext_ba s W (s.length - W)
    rwa [show W + (s.length - W) = s.length from by omega, List.take_of_length_le (by rw [List.length_drop]; omega)] at this
  have HT1 := Lib.hid (rg (w := w) (thr_any (s.length / 64) firstL rfl (s.take W) (by rw [List.length_take]; omega) (by rw [List.length_take]; omega)))
  rw [← hW] at hm hsum
  have HT2 := Lib.hid (rg (w := w) (thr_any m (thrL (s.length / 64) firstL (s.take W)) (thr_length _ _ _ rfl) (s.drop W ++ behindL s.length) hm (by omega)))
  have HX := Lib.hid (rg (w := w) (text_any (thrL m (thrL (s.length / 64) firstL (s.take W)) (s.drop W ++ behindL s.length)) (thr_length _ _ _ (thr_length _ _ _ rfl))))
  have HF := Lib.hid (rg (w := w) first_any)
  have HB := Lib.hid (rg (w := w) (behind_any s.length hs))
  have HS := Lib.hid hsum
  have happ := app_ba (s.drop W) (behindL s.length)
  have hl1 : (s.drop W).length ≤ 64 := by rw [List.length_drop]; omega
  have hl2 : (behindL s.length).length ≤ 128 := by rw [behind_length]; omega
  rw [← HS.out] at HX
  generalize thrL m (thrL (s.length / 64) firstL (s.take W)) (s.drop W ++ behindL s.length) = v2 at HT2 HX
  generalize thrL (s.length / 64) firstL (s.take W) = v1 at HT1 HT2
  generalize s.drop W ++ behindL s.length = r at happ HT2
  generalize s.drop W = p at hex2 happ hl1
  generalize s.take W = q at hex1 HT1
  generalize behindL s.length = bh at happ hl2 HB
  clear hm hsum hs HS hW hm2
  go_enter Tryz.func97, Tryz.ntmps97
  go_wp2_with fail
  refine wp_region_quiet_below mixed (by kernel_rfl) ?_
  iterate 4 go_big_quiet_step (exact HF.out _ _)
  go_big_quiet_step (exact HT1.out _ _)
  iterate 7 go_big_quiet_step (exact HB.out _ _)
  go_big_quiet_step (exact HT2.out _ _)
  iterate 2 go_big_quiet_step (exact HX.out _ _)
  refine wpQuiet_nil ?_
  intro _ hw'
  obtain ⟨⟨dq, osq⟩, hw''⟩ := hw'
  subst hw''
  have HQ := Lib.hid (below_regrown w dq osq)
  generalize grow (redrawn w dq) osq = wq at HQ ⊢
  clear HF HT1 HB HT2 HX
  go_wp2_with fail
  go_ret
  exact ⟨rfl, HQ.out⟩
theorem sum_length (s : List UInt8) : (sumL s).length = 32 := by
  unfold sumL
  rw [textL_length, thr_length _ _ _ rfl]
theorem fill_length (key : List UInt8) : (fillL key).length = 64 := by
  unfold fillL
  by_cases h : 64 < key.length
  · rw [if_pos h, List.length_append, sum_length, List.length_replicate]
  · rw [if_neg h, List.length_append, List.length_replicate]; omega
theorem s5 : (Tryz.prog.info? 5).map (·.size) = some 1 := by kernel_rfl
theorem copy_fill (K : List UInt8) (n : Nat) : ((bs (List.replicate n 0)).toList.take 0 ++ Lib.byteCells K ++ (bs (List.replicate n 0)).toList.drop (0 + K.length)).toArray = bs (K ++ List.replicate (n - K.length) 0) := by
  simp [bs, Lib.byteCells]
set_option maxHeartbeats 4000000 in
set_option maxRecDepth 100000 in
theorem fill_short (key : List UInt8) (h : key.length ≤ 64) (w : World) :
    Calls Tryz.prog 90 #[.string ⟨key.toArray⟩] w fun e w' => e = .returned (.agg (bs (key ++ List.replicate (64 - (key).length) 0))) ∧ Below w.heap.size w w' := by
  have hsz := size_ba key
  have hl : ¬ (64 < key.length) := by omega
  have HKL := Lib.hid h
  go_enter Tryz.func90, Tryz.ntmps90
  go_upto_region 4 with (fail)
  generalize hw2 : World.alloc _ _ = w2
  have HK2 : Hid (w2.heap[w.heap.size + 1]? = some (.cells (bs (List.replicate 64 0)) 129 (0, 0))) := Lib.hid (by rw [← hw2]; exact (alloc2b w _ _).trans (by kernel_rfl))
  have HR2 : Hid (∃ old : Array Value, w2.heap[w.heap.size]? = some (.cells old 129 (0, 0)) ∧ old.size = 64) := Lib.hid ⟨_, by rw [← hw2]; exact alloc2a w _ _, by rfl⟩
  have HB2 : Hid (Below w.heap.size w w2) := Lib.hid (by rw [← hw2]; exact ((Below.refl _ _).alloc (Nat.le_refl _) _).alloc (by simp) _)
  have HLT : Hid (w.heap.size < w.heap.size + 1) := Lib.hid (by omega)
  clear hw2
  have HC := Lib.hid (Lib.run_copy_row_string (P := Tryz.prog) w2 101 9 3 5 (w.heap.size + 1) 0 64 64 ⟨(key).toArray⟩ (bs (List.replicate 64 0)) 129 Tryz.underlying101 s5 HK2.out (by rw [size_ba]; exact HKL.out) (by rw [size_ba, bs_size, List.length_replicate]; have := HKL.out; omega))
  rw [show (⟨(key).toArray⟩ : ByteArray).data.toList = key from rfl, size_ba, copy_fill (key) 64] at HC
  have HF : Hid ((key ++ List.replicate (64 - (key).length) (0 : UInt8)).length = 64) := Lib.hid (by rw [List.length_append, List.length_replicate]; have := HKL.out; omega)
  generalize hf : key ++ List.replicate (64 - (key).length) (0 : UInt8) = f at HC HF
  have HFE := Lib.hid hf
  clear hf
  go_wp2_with fail
  rw [HC.out]
  simp only [Result.andThen]
  rw [Oper.upon_value]
  have HK3 : Hid ((w2.setRow (w.heap.size + 1) (bs f)).heap[w.heap.size + 1]? = some (.cells (bs f) 129 (0, 0))) := Lib.hid (setRow_put HK2.out)
  obtain ⟨old, ho1, ho2⟩ := HR2.out
  have HO1 : Hid ((w2.setRow (w.heap.size + 1) (bs f)).heap[w.heap.size]? = some (.cells old 129 (0, 0))) := Lib.hid ((setRow_other _ _ _ _ (by have := HLT.out; omega)).trans ho1)
  have HO2 := Lib.hid (show old.size = (bs f).size from by rw [bs_size, HF.out]; exact ho2)
  have HB3 := Lib.hid (setRow_below (cs := bs f) HB2.out (Nat.le_of_lt HLT.out))
  clear HC HR2 HK2 HB2 ho1 ho2
  generalize w2.setRow (w.heap.size + 1) (bs f) = w3 at HK3 HO1 HB3 ⊢
  go_wp2_with (first
    | (refine wpList_load_row rfl 129 (.tmp 3) rfl (w.heap.size + 1) rfl 129 (bs f) (0, 0) _ HK3.out u46 rfl (i46 _ HF.out) ?_)
    | (refine wpList_store_row rfl 129 (.tmp 2) (.tmp 12) rfl w.heap.size (bs f) rfl rfl 129 old HO1.out (i46 _ HF.out) HO2.out (bs_one _) ?_))
  exact bodyPost_ret (v := .agg (bs f)) (results_cell_row (p := 2) (ty := 129) rfl _ _ w.heap.size 129 (bs f) (0, 0) _ rfl (setRow_put HO1.out) u46 rfl (i46 _ HF.out)) rfl ⟨by rw [HFE.out], setRow_below HB3.out (Nat.le_refl _)⟩
set_option maxHeartbeats 4000000 in
set_option maxRecDepth 100000 in
theorem fill_long (key : List UInt8) (h : 64 < key.length) (hs : key.length ≤ 281474976710656) (w : World) :
    Calls Tryz.prog 90 #[.string ⟨key.toArray⟩] w fun e w' => e = .returned (.agg (bs (sumL key ++ List.replicate (64 - (sumL key).length) 0))) ∧ Below w.heap.size w w' := by
  have hsz := size_ba key
  have HS := Lib.hid (sum_any key hs)
  have HKL : Hid ((sumL key).length ≤ 64) := Lib.hid (by rw [sum_length]; omega)
  clear hs
  go_enter Tryz.func90, Tryz.ntmps90
  go_wp2_with fail
  generalize hw0 : World.alloc w _ = w0
  have HR0 : Hid (∃ old : Array Value, w0.heap[w.heap.size]? = some (.cells old 129 (0, 0)) ∧ old.size = 64) := Lib.hid ⟨_, by rw [← hw0]; exact Go.heap_alloc_new w _, by rfl⟩
  have HB0 : Hid (Below w.heap.size w w0) := Lib.hid (by rw [← hw0]; exact (Below.refl _ _).alloc (Nat.le_refl _) _)
  have HZ0 : Hid (w.heap.size < w0.heap.size) := Lib.hid (by rw [← hw0]; simp)
  clear hw0
  refine (HS.out _).mono ?_
  rintro e w1 ⟨rfl, b1⟩
  have HR1 : Hid (∃ old : Array Value, w1.heap[w.heap.size]? = some (.cells old 129 (0, 0)) ∧ old.size = 64) := Lib.hid (by
    obtain ⟨old, h1, h2⟩ := HR0.out
    exact ⟨old, (b1.block _ HZ0.out).trans h1, h2⟩)
  have HB1 := Lib.hid (HB0.out.trans (b1.mono HB0.out.size))
  have HZ1 := Lib.hid (Nat.lt_of_lt_of_le HZ0.out b1.size)
  clear b1 HS HR0 HB0 HZ0
  go_upto_region 4 with (fail)
  generalize hw2 : World.alloc _ _ = w2
  have HK2 : Hid (w2.heap[w1.heap.size]? = some (.cells (bs (List.replicate 64 0)) 129 (0, 0))) := Lib.hid (by rw [← hw2]; exact (Go.heap_alloc_new w1 _).trans (by kernel_rfl))
  have HR2 : Hid (∃ old : Array Value, w2.heap[w.heap.size]? = some (.cells old 129 (0, 0)) ∧ old.size = 64) := Lib.hid (by
    obtain ⟨old, h1, h2⟩ := HR1.out
    exact ⟨old, by rw [← hw2, Lib.alloc_old _ _ _ HZ1.out]; exact h1, h2⟩)
  have HB2 : Hid (Below w.heap.size w w2) := Lib.hid (by rw [← hw2]; exact HB1.out.alloc (Nat.le_of_lt HZ1.out) _)
  have HLT : Hid (w.heap.size < w1.heap.size) := Lib.hid HZ1.out
  clear hw2
  have HC := Lib.hid (Lib.run_copy_row_string (P := Tryz.prog) w2 101 9 3 5 (w1.heap.size) 0 64 64 ⟨(sumL key).toArray⟩ (bs (List.replicate 64 0)) 129 Tryz.underlying101 s5 HK2.out (by rw [size_ba]; exact HKL.out) (by rw [size_ba, bs_size, List.length_replicate]; have := HKL.out; omega))
  rw [show (⟨(sumL key).toArray⟩ : ByteArray).data.toList = sumL key from rfl, size_ba, copy_fill (sumL key) 64] at HC
  have HF : Hid ((sumL key ++ List.replicate (64 - (sumL key).length) (0 : UInt8)).length = 64) := Lib.hid (by rw [List.length_append, List.length_replicate]; have := HKL.out; omega)
  generalize hf : sumL key ++ List.replicate (64 - (sumL key).length) (0 : UInt8) = f at HC HF
  have HFE := Lib.hid hf
  clear hf
  go_wp2_with fail
  rw [HC.out]
  simp only [Result.andThen]
  rw [Oper.upon_value]
  have HK3 : Hid ((w2.setRow (w1.heap.size) (bs f)).heap[w1.heap.size]? = some (.cells (bs f) 129 (0, 0))) := Lib.hid (setRow_put HK2.out)
  obtain ⟨old, ho1, ho2⟩ := HR2.out
  have HO1 : Hid ((w2.setRow (w1.heap.size) (bs f)).heap[w.heap.size]? = some (.cells old 129 (0, 0))) := Lib.hid ((setRow_other _ _ _ _ (by have := HLT.out; omega)).trans ho1)
  have HO2 := Lib.hid (show old.size = (bs f).size from by rw [bs_size, HF.out]; exact ho2)
  have HB3 := Lib.hid (setRow_below (cs := bs f) HB2.out (Nat.le_of_lt HLT.out))
  clear HC HR2 HK2 HB2 ho1 ho2
  generalize w2.setRow (w1.heap.size) (bs f) = w3 at HK3 HO1 HB3 ⊢
  go_wp2_with (first
    | (refine wpList_load_row rfl 129 (.tmp 3) rfl (w1.heap.size) rfl 129 (bs f) (0, 0) _ HK3.out u46 rfl (i46 _ HF.out) ?_)
    | (refine wpList_store_row rfl 129 (.tmp 2) (.tmp 12) rfl w.heap.size (bs f) rfl rfl 129 old HO1.out (i46 _ HF.out) HO2.out (bs_one _) ?_))
  exact bodyPost_ret (v := .agg (bs f)) (results_cell_row (p := 2) (ty := 129) rfl _ _ w.heap.size 129 (bs f) (0, 0) _ rfl (setRow_put HO1.out) u46 rfl (i46 _ HF.out)) rfl ⟨by rw [HFE.out], setRow_below HB3.out (Nat.le_refl _)⟩
theorem fill_any (key : List UInt8) (hs : key.length ≤ 281474976710656) (w : World) :
    Calls Tryz.prog 90 #[.string ⟨key.toArray⟩] w fun e w' => e = .returned (.agg (bs (fillL key))) ∧ Below w.heap.size w w' := by
  unfold fillL
  by_cases h : 64 < key.length
  · rw [if_pos h]; exact fill_long key h hs w
  · rw [if_neg h]; exact fill_short key (by omega) w
theorem turned_length (k : List UInt8) (c : UInt8) : (turnedL k c).length = k.length := by simp [turnedL]
theorem mac_length (k s : List UInt8) : (macK k s).length = 32 := sum_length _
set_option maxHeartbeats 4000000 in
set_option maxRecDepth 100000 in
theorem macK_any (k : List UInt8) (hk : k.length = 64) (s : List UInt8) (hs : s.length ≤ 140737488355392) (w : World) :
    Calls Tryz.prog 89 #[.agg (bs k), .string ⟨s.toArray⟩] w fun e w' => e = .returned (.string ⟨(macK k s).toArray⟩) ∧ Below w.heap.size w w' := by
  have HK := Lib.hid (Go.heap_alloc_new w (.cells (bs k) 129))
  have HI := Lib.hid (i46 k hk)
  have HA := Lib.hid (rg (w := w.alloc (.cells (bs k) 129)) (turned_any k hk 92))
  have HB := Lib.hid (rg (w := w.alloc (.cells (bs k) 129)) (turned_any k hk 54))
  have HC := Lib.hid (rg (w := w.alloc (.cells (bs k) 129)) (sum_any (turnedL k 54 ++ s) (by rw [List.length_append, turned_length]; omega)))
  have HD := Lib.hid (rg (w := w.alloc (.cells (bs k) 129)) (sum_any (turnedL k 92 ++ sumL (turnedL k 54 ++ s)) (by rw [List.length_append, turned_length, sum_length]; omega)))
  have HM : Hid (macK k s = sumL (turnedL k 92 ++ sumL (turnedL k 54 ++ s))) := Lib.hid rfl
  have a1 := app_ba (turnedL k 54) s
  have a2 := app_ba (turnedL k 92) (sumL (turnedL k 54 ++ s))
  have l1 : (turnedL k 54).length ≤ 64 := by rw [turned_length]; omega
  have l2 : (turnedL k 92).length ≤ 64 := by rw [turned_length]; omega
  have l3 : (sumL (turnedL k 54 ++ s)).length ≤ 32 := by rw [sum_length]; omega
  rw [← HM.out] at HD
  clear HM
  have HBW : Hid (Below w.heap.size w (w.alloc (.cells (bs k) 129))) := Lib.hid ((Below.refl _ _).alloc (Nat.le_refl _) _)
  generalize turnedL k 92 ++ sumL (turnedL k 54 ++ s) = x2 at a2 HD
  generalize sumL (turnedL k 54 ++ s) = m1 at a2 HC l3
  generalize turnedL k 54 ++ s = x1 at a1 HC
  generalize turnedL k 54 = t1 at a1 HB l1
  generalize turnedL k 92 = t2 at a2 HA l2
  clear hk
  go_enter Tryz.func89, Tryz.ntmps89
  go_wp2_with fail
  generalize w.alloc (.cells (bs k) 129) = w0 at HK HA HB HC HD HBW ⊢
  refine wp_region_quiet_below mixed (by kernel_rfl) ?_
  refine wpQuiet_load_row rfl 129 (.tmp 2) rfl w.heap.size rfl 129 (bs k) (0, 0) _ (fun w' hw' => heap_regrown HK.out hw') u46 rfl HI.out ?_
  quiet_step (exact HA.out _ _)
  refine wpQuiet_load_row rfl 129 (.tmp 2) rfl w.heap.size rfl 129 (bs k) (0, 0) _ (fun w' hw' => heap_regrown HK.out hw') u46 rfl HI.out ?_
  quiet_step (exact HB.out _ _)
  iterate 2 go_big_quiet_step (exact HC.out _ _)
  go_big_quiet_step (exact HC.out _ _)
  iterate 2 go_big_quiet_step (exact HD.out _ _)
  go_big_quiet_step (exact HD.out _ _)
  refine wpQuiet_nil ?_
  intro _ hw'
  obtain ⟨⟨dq, osq⟩, hw''⟩ := hw'
  subst hw''
  have HQ := Lib.hid (HBW.out.trans ((below_regrown w0 dq osq).mono HBW.out.size))
  generalize grow (redrawn w0 dq) osq = wq at HQ ⊢
  clear HA HB HC HD HK HBW
  go_wp2_with fail
  go_ret
  exact ⟨rfl, HQ.out⟩
theorem Mac_any (key s : List UInt8) (hk : key.length ≤ 281474976710656) (hs : s.length ≤ 140737488355392) (w : World) :
    Calls Tryz.prog 39 #[.string ⟨key.toArray⟩, .string ⟨s.toArray⟩] w fun e w' => e = .returned (.string ⟨(macL key s).toArray⟩) ∧ Below w.heap.size w w' := by
  have HA := Lib.hid (fill_any key hk)
  have HB := Lib.hid (macK_any (fillL key) (fill_length key) s hs)
  have HM : Hid (macL key s = macK (fillL key) s) := Lib.hid rfl
  rw [← HM.out] at HB
  clear HM hk hs
  generalize fillL key = k at HA HB
  go_enter Tryz.func39, Tryz.ntmps39
  go_wp2_with fail
  refine (HA.out _).mono ?_
  rintro e w1 ⟨rfl, b1⟩
  go_wp2_with fail
  refine (HB.out _).mono ?_
  rintro e w2 ⟨rfl, b2⟩
  go_wp2_with fail
  go_ret
  exact ⟨rfl, b1.trans (b2.mono b1.size)⟩
def us (l : List Nat) : Array Value := (l.map fun (x : Nat) => Value.int .u64 (x : Int)).toArray
theorem us_get (l : List Nat) (i : Nat) (h : i < l.length) : (us l)[i]? = some (.int .u64 (l[i] : Int)) := by simp [us, h]
theorem us_set (l : List Nat) (o x : Nat) : (us l).setIfInBounds o (.int .u64 (x : Int)) = us (l.set o x) := by
  simp [us, List.map_set]
theorem info61 : (Tryz.prog.info? 22).map (fun i => (i.zero, i.size, i.bytes)) = some (some (.int .u64 0), 1, 8) := by kernel_rfl
theorem made_us (n : Nat) : madeCells (Value.int .u64 0).cells (n * 1) = us (List.replicate n 0) := by
  apply Array.ext
  · simp [us, madeCells]
  · intro i h1 h2
    simp [us, madeCells, Value.cells, Nat.mod_one]
theorem make_u64 (w : World) (n : Nat) (hn : n ≤ 100000) : (Instr.makeSlice 178 (.int .i64 (n : Int)) (.int .i64 (n : Int))).run Tryz.prog w = .ok (.slice (some ⟨w.heap.size, 0, none⟩) n n) (w.alloc (.cells (us (List.replicate n 0)) 22)) := by
  obtain ⟨i0, hi, hz0, hz1, hz2⟩ := info_parts info61
  have := run_make (P := Tryz.prog) w 178 22 i0 (.int .u64 0) Tryz.underlying178 hi hz0 .i64 .i64 n n (by omega) (Int.le_refl _) (by rw [hz2]; omega) (by omega)
  rw [hz1] at this
  simp only [Int.toNat_natCast] at this
  rw [this, made_us]
theorem and16 (T : Nat) (hT : T < 18446744073709551616) : bits .and .u64 (T : Int) 65535 = ((T % 65536 : Nat) : Int) := by
  have := u64_and_nat T 65535 hT (by omega)
  rw [show ((65535 : Nat) : Int) = 65535 from rfl] at this
  rw [this, show (65535 : Nat) = 2 ^ 16 - 1 from rfl, Nat.and_two_pow_sub_one_eq_mod]
def TiO (w : World) (a b : List Nat) (i : Value) (wr : World) : Prop := ∃ (n : Nat) (out : List Nat), n ≤ a.length ∧ i = .int .i64 n ∧ wr.heap[w.heap.size]? = some (.cells (us out) 22 (0, 0)) ∧ Out a b out n ∧ Below w.heap.size w wr
def TiI (w : World) (S ai : Nat) (b : List Nat) (n L : Nat) (u i : Value) (wr : World) : Prop := ∃ (k c : Nat) (out : List Nat), k ≤ b.length ∧ i = .int .i64 k ∧ u = .int .u64 c ∧ wr.heap[w.heap.size]? = some (.cells (us out) 22 (0, 0)) ∧ Inn S ai b out n k c ∧ out.length = L ∧ Below w.heap.size w wr
set_option maxHeartbeats 4000000 in
set_option maxRecDepth 100000 in
theorem times_any (ga gb : Nat) (a b : List Nat) (ha : Dig a) (hb : Dig b) (la : a.length ≤ 1000) (lb : b.length ≤ 1000) (ca cb : Nat) (Ta Tb : TypeId) (w : World) (wa : w.heap[ga]? = some (.cells (us a) Ta (0, 0))) (wb : w.heap[gb]? = some (.cells (us b) Tb (0, 0))) :
    Calls Tryz.prog 180 #[.slice (some ⟨ga, 0, none⟩) a.length ca, .slice (some ⟨gb, 0, none⟩) b.length cb] w fun e w' =>
      (∃ g out, e = .returned (.slice (some ⟨g, 0, none⟩) out.length out.length) ∧ w'.heap[g]? = some (.cells (us out) 22 (0, 0)) ∧ Dig out ∧ out.length = a.length + b.length ∧ val out = val a * val b) ∧ Below w.heap.size w w' := by
  have HDA := Lib.hid ha
  have HDB := Lib.hid hb
  have HWA := Lib.hid wa
  have HWB := Lib.hid wb
  have la1 : (a.length : Int) ≤ 1000 := by omega
  have lb1 : (b.length : Int) ≤ 1000 := by omega
  clear ha hb wa wb
  go_enter Tryz.func180, Tryz.ntmps180
  go_wp2_with fail
  rw [show (a.length : Int) + (b.length : Int) = ((a.length + b.length : Nat) : Int) from by omega, make_u64 w (a.length + b.length) (by omega)]
  simp only [Result.andThen]
  rw [Oper.upon_value]
  have HN : Hid ((w.alloc (.cells (us (List.replicate (a.length + b.length) 0)) 22)).heap[w.heap.size]? = some (.cells (us (List.replicate (a.length + b.length) 0)) 22 (0, 0))) := Lib.hid (Go.heap_alloc_new w _)
  have HO := Lib.hid (out_start a b)
  have HB0 : Hid (Below w.heap.size w (w.alloc (.cells (us (List.replicate (a.length + b.length) 0)) 22))) := Lib.hid ((Below.refl _ _).alloc (Nat.le_refl _) _)
  generalize w.alloc (.cells (us (List.replicate (a.length + b.length) 0)) 22) = w1 at HN HB0 ⊢
  generalize List.replicate (a.length + b.length) 0 = out0 at HN HO
  have hge : (((a.length + b.length : Nat) : Int)) = (a.length : Int) + (b.length : Int) := by omega
  go_wp2_with fail
  go_loopw [6] (fun i wr => TiO w a b i wr) (fun i _ => a.length - (intOf i).toNat)
  case atStart => exact ⟨0, out0, by omega, rfl, HN.out, HO.out, HB0.out⟩
  case round =>
    obtain ⟨n, out, hn, rfl, hw, ho, hb⟩ := hrel
    have HN1 := Lib.hid hw
    have HO1 := Lib.hid ho
    have HB1 := Lib.hid hb
    clear hw ho hb HN HO HB0
    by_cases hlt : n < a.length
    · have HI0 := Lib.hid (out_in HO1.out hlt)
      have HAD := Lib.hid (dig_get HDA.out n hlt)
      have HOL := Lib.hid HO1.out.len
      generalize hai : a[n] = ai at HI0 HAD
      have HAI := Lib.hid hai
      clear hai
      go_wp2_with fail
      go_loopw [7, 8] (fun u i wr => TiI w (val out) ai b n out.length u i wr) (fun _ i _ => b.length - (intOf i).toNat)
      case atStart => exact ⟨0, 0, out, by omega, rfl, rfl, HN1.out, HI0.out, rfl, HB1.out⟩
      case round =>
        obtain ⟨k, c, o2, hk, rfl, rfl, hw, hi, hl, hb⟩ := hrel
        have HN2 := Lib.hid hw
        have HI2 := Lib.hid hi
        have HL2 := Lib.hid hl
        have HB2 := Lib.hid hb
        clear hw hi hl hb HN1 HI0 HB1
        by_cases hkl : k < b.length
        · have hnk : n + k < o2.length := by have := HL2.out; have := HOL.out; omega
          have HT := Lib.hid (inn_step HI2.out HAD.out HDB.out hkl (by have := HL2.out; have := HOL.out; omega))
          have c0 := (blk_cell HN2.out (n + k)).trans (us_get o2 (n + k) hnk)
          have c1 := (blk_cell ((HB2.out.block ga (blk_lt HWA.out)).trans HWA.out) n).trans (us_get a n hlt)
          have c2 := (blk_cell ((HB2.out.block gb (blk_lt HWB.out)).trans HWB.out) k).trans (us_get b k hkl)
          have f0 := Lib.frozen_of_heap HN2.out (n + k)
          have hok := dig_get HI2.out.dig (n + k) hnk
          have hbk := dig_get HDB.out k hkl
          have hcr := HI2.out.carry
          have ha0 := HAD.out
          rw [HAI.out] at c1
          have hm0 : ai * b[k] ≤ 65535 * 65535 := Nat.mul_le_mul (by omega) (by omega)
          generalize b[k] = bk at c2 hbk hm0 HT
          generalize o2[n + k] = ok at c0 hok HT
          have hmc : ((ai * bk : Nat) : Int) = (ai : Int) * (bk : Int) := by simp
          obtain ⟨M, hM⟩ : ∃ M : Nat, M = ai * bk := ⟨_, rfl⟩
          rw [← hM] at hm0 hmc HT
          have e1 : (ai : Int) * (bk : Int) = (M : Int) := hmc.symm
          have e2 : IntKind.u64.wrap (M : Int) = (M : Int) := IntWalk.u64_in _ (by omega)
          obtain ⟨T, hT⟩ : ∃ T : Nat, T = c + (ok + M) := ⟨_, rfl⟩
          rw [← hT] at HT
          have e3 : IntKind.u64.wrap ((ok : Int) + (M : Int)) = (ok : Int) + (M : Int) := IntWalk.u64_in _ (by omega)
          have e4 : IntKind.u64.wrap ((c : Int) + ((ok : Int) + (M : Int))) = (T : Int) := by rw [IntWalk.u64_in _ (by omega)]; omega
          have e5 : (c : Int) + ((ok : Int) + (M : Int)) = (T : Int) := by omega
          have e6 := and16 T (by omega)
          have e7 : (T : Int) / 65536 = ((T / 65536 : Nat) : Int) := by simp
          generalize T % 65536 = r at e6 HT
          generalize T / 65536 = q at e7 HT
          have e8 : IntKind.i64.wrap ((n : Int) + (k : Int)) = (n : Int) + (k : Int) := IntWalk.i64_in _ (by omega)
          have e9 : ((n : Int) + (k : Int)).toNat = n + k := by omega
          have j1 : 0 ≤ (n : Int) + (k : Int) := by omega
          have j2 : (n : Int) + (k : Int) < (a.length : Int) + (b.length : Int) := by omega
          clear hmc hM hT
          go_wp2_with fail
          go_quiet (fail)
          have HN3 : Hid ((wr.drewN nq).heap[w.heap.size]? = some (.cells (us o2) 22 (0, 0))) := Lib.hid HN2.out
          have HB3 : Hid (Below w.heap.size w (wr.drewN nq)) := Lib.hid ⟨HB2.out.os, HB2.out.tape, HB2.out.output, HB2.out.size, HB2.out.block⟩
          clear c0 c1 c2 f0 HN2 HB2 e1 e2 e3 e4 e5
          generalize wr.drewN nq = w5 at HN3 HB3 ⊢
          have c0 := (blk_cell HN3.out (n + k)).trans (us_get o2 (n + k) hnk)
          have f0 := Lib.frozen_of_heap HN3.out (n + k)
          go_wp2_with fail
          have HN4 := Lib.hid (blk_put HN3.out (n + k) (.int .u64 (r : Int)))
          rw [us_set] at HN4
          have HB4 := Lib.hid (HB3.out.setCell (p := ⟨w.heap.size, n + k, none⟩) (Nat.le_refl _) (.int .u64 (r : Int)))
          go_roundw
          case rel => exact ⟨k + 1, q, o2.set (n + k) r, by omega, by go_num, rfl, HN4.out, HT.out, by rw [List.length_set]; exact HL2.out, HB4.out⟩
          case measure => simp [intOf]; omega
        · obtain rfl : k = b.length := by omega
          have HF := Lib.hid (in_out HO1.out hlt (by rw [HAI.out]; exact HI2.out) HL2.out)
          have hnb : n + b.length < o2.length := by have := HL2.out; have := HOL.out; omega
          have c0 := (blk_cell HN2.out (n + b.length)).trans (us_get o2 (n + b.length) hnb)
          have f0 := Lib.frozen_of_heap HN2.out (n + b.length)
          have e8 : IntKind.i64.wrap ((n : Int) + (b.length : Int)) = (n : Int) + (b.length : Int) := IntWalk.i64_in _ (by omega)
          have e9 : ((n : Int) + (b.length : Int)).toNat = n + b.length := by omega
          have q1 : 0 ≤ (n : Int) + (b.length : Int) := by omega
          have q2 : (n : Int) + (b.length : Int) < (a.length : Int) + (b.length : Int) := by omega
          go_wp2_with fail
          have HN4 := Lib.hid (blk_put HN2.out (n + b.length) (.int .u64 (c : Int)))
          rw [us_set] at HN4
          have HB4 := Lib.hid (HB2.out.setCell (p := ⟨w.heap.size, n + b.length, none⟩) (Nat.le_refl _) (.int .u64 (c : Int)))
          go_roundw
          case rel => exact ⟨n + 1, o2.set (n + b.length) c, by omega, by go_num, HN4.out, HF.out, HB4.out⟩
          case measure => simp [intOf]; omega
    · obtain rfl : n = a.length := by omega
      have HE := Lib.hid (out_end HO1.out)
      have HOL := Lib.hid HO1.out.len
      go_wp2_with fail
      go_ret
      exact ⟨⟨w.heap.size, out, by rw [HOL.out]; rfl, HN1.out, HO1.out.dig, HOL.out, HE.out⟩, HB1.out⟩
def cu (l : List Nat) : List Value := l.map fun (x : Nat) => Value.int .u64 (x : Int)
def Ru (B : Nat) (v : Value) (l : List Nat) (w : World) : Prop := w.ownsRow B 22 1 v l.length (cu l)
theorem Ru.snoc {B : Nat} {v : Value} {l : List Nat} {w : World} {x : Nat} (h : w.ownsRow B 22 1 v (l.length + 1) (cu l ++ [.int .u64 (x : Int)])) : Ru B v (l ++ [x]) w := by
  have e : cu (l ++ [x]) = cu l ++ [.int .u64 (x : Int)] := by simp [cu]
  unfold Ru
  rw [e]
  simpa using h
theorem Ru.below {B : Nat} {v : Value} {l : List Nat} {w w' : World} (h : Ru B v l w) (hb : Below w.heap.size w w') : Ru B v l w' := by
  refine ⟨h.1, ?_⟩
  rcases h.2 with hn | ⟨g, cap, cur, hv, hg, hh, rest⟩
  · exact .inl hn
  · exact .inr ⟨g, cap, cur, hv, hg, (hb.block _ (blk_lt hh)).trans hh, rest⟩
theorem Ru.un {B : Nat} {v : Value} {l : List Nat} {w : World} (h : Ru B v l w) (hl : l ≠ []) : ∃ g cap, v = .slice (some ⟨g, 0, none⟩) l.length cap ∧ ∀ i (hi : i < l.length), w.cell? ⟨g, i, none⟩ = some (.int .u64 (l[i] : Int)) := by
  rcases h.2 with ⟨rfl, h0⟩ | ⟨g, cap, cur, rfl, hg, hh, _⟩
  · exact absurd (List.eq_nil_of_length_eq_zero h0) hl
  · refine ⟨g, cap, rfl, fun i hi => ?_⟩
    have := World.ownsRow.cells h (g := g) rfl i (.int .u64 (l[i] : Int)) (by simp [cu, hi])
    rwa [at0] at this
theorem Ru.len {B : Nat} {v : Value} {l : List Nat} {w : World} (h : Ru B v l w) : ∃ a cap, v = .slice a l.length cap := by
  rcases h.2 with ⟨rfl, h0⟩ | ⟨g, cap, cur, rfl, hg, hh, _⟩
  · exact ⟨none, 0, by rw [h0]⟩
  · exact ⟨_, cap, rfl⟩
def cw (l : List UInt32) : List Value := l.map fun x => Value.int .u32 (x.toNat : Int)
def Rk (B : Nat) (v : Value) (l : List UInt32) (w : World) : Prop := w.ownsRow B 111 1 v l.length (cw l)
theorem Rk.snoc {B : Nat} {v : Value} {l : List UInt32} {w : World} {x : UInt32} (h : w.ownsRow B 111 1 v (l.length + 1) (cw l ++ [.int .u32 (x.toNat : Int)])) : Rk B v (l ++ [x]) w := by
  have e : cw (l ++ [x]) = cw l ++ [.int .u32 (x.toNat : Int)] := by simp [cw]
  unfold Rk
  rw [e]
  simpa using h
theorem Rk.below {B : Nat} {v : Value} {l : List UInt32} {w w' : World} (h : Rk B v l w) (hb : Below w.heap.size w w') : Rk B v l w' := by
  refine ⟨h.1, ?_⟩
  rcases h.2 with hn | ⟨g, cap, cur, hv, hg, hh, rest⟩
  · exact .inl hn
  · exact .inr ⟨g, cap, cur, hv, hg, (hb.block _ (blk_lt hh)).trans hh, rest⟩
theorem Rk.un {B : Nat} {v : Value} {l : List UInt32} {w : World} (h : Rk B v l w) (hl : l ≠ []) : ∃ g cap, v = .slice (some ⟨g, 0, none⟩) l.length cap ∧ B ≤ g ∧ ∀ i (hi : i < l.length), w.cell? ⟨g, i, none⟩ = some (.int .u32 (l[i].toNat : Int)) := by
  rcases h.2 with ⟨rfl, h0⟩ | ⟨g, cap, cur, rfl, hg, hh, _⟩
  · exact absurd (List.eq_nil_of_length_eq_zero h0) hl
  · refine ⟨g, cap, rfl, hg, fun i hi => ?_⟩
    have := World.ownsRow.cells h (g := g) rfl i (.int .u32 (l[i].toNat : Int)) (by simp [cw, hi])
    rwa [at0] at this
theorem Rk.not {B : Nat} {v : Value} {l : List UInt32} {w : World} (h : Rk B v l w) {g : Nat} {cur : Array Value} {f : Nat × Nat} (hh : w.heap[g]? = some (.cells cur 22 f)) : v.ownBlock ≠ some g := by
  rcases h.2 with ⟨rfl, h0⟩ | ⟨g', cap, cur', rfl, hg', hh', _⟩
  · intro e; cases e
  · intro e
    cases e
    rw [hh] at hh'
    cases hh'
def Rwm (B : Nat) (v : Value) (l : List UInt8) (w : World) : Prop := w.ownsRow B 5 1 v l.length (Lib.byteCells l)
theorem Rwm.snoc {B : Nat} {v : Value} {l : List UInt8} {w : World} {c : UInt8} (h : w.ownsRow B 5 1 v (l.length + 1) (Lib.byteCells l ++ [.int .u8 c.toNat])) : Rwm B v (l ++ [c]) w := by
  have e : Lib.byteCells (l ++ [c]) = Lib.byteCells l ++ [.int .u8 c.toNat] := by rw [Lib.byteCells_append]; rfl
  unfold Rwm
  rw [e]
  simpa using h
theorem Rwm.conv {B : Nat} {v : Value} {l : List UInt8} {w : World} (h : Rwm B v l w) : (convert 101 9 v).run Tryz.prog w = .ok (.string ⟨l.toArray⟩) w := by
  rcases h.2 with ⟨rfl, h0⟩ | ⟨g, cap, cur, rfl, hg, hh, _⟩
  · obtain rfl : l = [] := List.eq_nil_of_length_eq_zero h0
    exact Lib.run_convert_nil_bytes w 101 9 5 _ Tryz.underlying101 Tryz.underlying5 Tryz.underlying9
  · refine run_convert_bytes_back w 101 9 5 _ cap l Tryz.underlying101 Tryz.underlying5 Tryz.underlying9 (fun j hj => ?_)
    exact World.ownsRow.cells h (g := g) rfl j _ (by simp [Lib.byteCells, hj])
theorem Rwm.keep {B : Nat} {v : Value} {l : List UInt8} {w w' : World} (h : Rwm B v l w) (hb : ∀ g, v.ownBlock = some g → g < w.heap.size → w'.heap[g]? = w.heap[g]?) : Rwm B v l w' := by
  refine ⟨h.1, ?_⟩
  rcases h.2 with hn | ⟨g, cap, cur, hv, hg, hh, rest⟩
  · exact .inl hn
  · exact .inr ⟨g, cap, cur, hv, hg, (hb g (by rw [hv]; rfl) (blk_lt hh)).trans hh, rest⟩
theorem Rwm.below {B : Nat} {v : Value} {l : List UInt8} {w w' : World} (h : Rwm B v l w) (hb : Below w.heap.size w w') : Rwm B v l w' := h.keep fun g _ hg => hb.block g hg
def Fst (v : Value) (l : List UInt8) (w : World) : Prop := l = [] → ∀ g, v.ownBlock = some g → g < w.heap.size ∧ w.cell? ⟨g, 0, none⟩ = none
structure Two (W w : World) (va vb : Value) (la lb : List UInt8) : Prop where
  a : Rwm W.heap.size va la w
  b : Rwm W.heap.size vb lb w
  apart : ∀ g, va.ownBlock = some g → vb.ownBlock ≠ some g
  fa : Fst va la w
  fb : Fst vb lb w
  below : Below W.heap.size W w
theorem Two.swap {W w : World} {va vb : Value} {la lb : List UInt8} (h : Two W w va vb la lb) : Two W w vb va lb la :=
  ⟨h.b, h.a, fun g hg hg' => h.apart g hg' hg, h.fb, h.fa, h.below⟩
theorem Two.on {W w w' : World} {va vb : Value} {la lb : List UInt8} (h : Two W w va vb la lb) (b : Below w.heap.size w w') : Two W w' va vb la lb := by
  refine ⟨h.a.below b, h.b.below b, h.apart, fun e g hg => ?_, fun e g hg => ?_, h.below.trans (b.mono h.below.size)⟩
  · obtain ⟨h1, h2⟩ := h.fa e g hg
    exact ⟨Nat.lt_of_lt_of_le h1 b.size, (b.cell (p := ⟨g, 0, none⟩) h1).trans h2⟩
  · obtain ⟨h1, h2⟩ := h.fb e g hg
    exact ⟨Nat.lt_of_lt_of_le h1 b.size, (b.cell (p := ⟨g, 0, none⟩) h1).trans h2⟩
section
variable {P : Program} {ops : Array Oper} {md : Region.Mode} {C : World → Prop}
def headQ (P : Program) (md : Region.Mode) (ops : Array Oper) (C : World → Prop) (n : Nat) (L : Array Bool → Act → Prop) : Nat → Array Bool → Act → Prop
  | 0, ls, a => L ls a
  | f + 1, ls, a => Region.ready md ops ls ≠ [] ∧ ∀ i, i ∈ Region.ready md ops ls → i < n ∧ qOp P ops C i (headQ P md ops C n L f (ls.setIfInBounds i true)) a
theorem any_of_headQ {n g : Nat} {L : Array Bool → Act → Prop} {Q : Exit → Act → World → Prop} (hL : ∀ ls a w, C w → L ls a → wpAny P md ops Q g ls a w) (f : Nat) :
    ∀ (ls : Array Bool) (a : Act) (w : World), C w → headQ P md ops C n L f ls a → wpAny P md ops Q (f + g) ls a w := by
  induction f with
  | zero => intro ls a w hw h; rw [Nat.zero_add]; exact hL _ _ _ hw h
  | succ f ih =>
    intro ls a w hw h
    rw [Nat.succ_add]
    exact ⟨fun h0 => absurd h0 h.1, fun i hi => wpOp_of_qOp hw (fun a' w' hw' h' => ih _ a' w' hw' h') (h.2 i hi).2⟩
theorem headQ_first {n i : Nat} {oi : Oper} {v : Value} {L : Array Bool → Act → Prop} (hi : ops[i]? = some oi) (hsel : ∀ (j : Nat) (o : Oper) cs b, ops[j]? = some o → o.op ≠ .select cs b)
    (hs : Region.sinkB md ops n = true) (hc : Region.chainB md ops n = true) (hn : n < ops.size) (hin : i < n) (hdone : ∀ ls a, L ls a → ∀ j ∈ Region.ready md ops ls, n ≤ j) (f : Nat) :
    ∀ (ls : Array Bool) (a : Act), HeadInv md ops n ls → (∀ j oj, ops[j]? = some oj → j ≠ i → ls.getD j true = false → (∀ e ∈ oj.after, Region.binds md e = true → e.on ≠ i) → oi.apart ops oj = true) →
      i ∈ Region.ready md ops ls → YieldsIn P ops C oi v a → headQ P md ops C n L f (ls.setIfInBounds i true) (a.put oi.dst v) → headQ P md ops C n L (f + 1) ls a := by
  induction f with
  | zero =>
    intro ls a inv _ hr hy H
    have hun := (mem_ready.1 hr).1
    refine ⟨fun h => (by rw [h] at hr; cases hr), fun j hj => ?_⟩
    have hjn : j < n := Nat.lt_of_not_le fun h => tail_waits hs hc hn inv _ i rfl hin hun j h hj
    refine ⟨hjn, ?_⟩
    by_cases hji : j = i
    · subst hji; exact hy.qOp hi H
    · have := hdone _ _ H j (ready_mono hj hji)
      omega
  | succ f ih =>
    intro ls a inv hfree hr hy H
    have hun := (mem_ready.1 hr).1
    refine ⟨fun h => (by rw [h] at hr; cases hr), fun j hj => ?_⟩
    have hjn : j < n := Nat.lt_of_not_le fun h => tail_waits hs hc hn inv _ i rfl hin hun j h hj
    refine ⟨hjn, ?_⟩
    by_cases hji : j = i
    · subst hji; exact hy.qOp hi H
    · obtain ⟨hjun, oj, hoj, hall⟩ := mem_ready.1 hj
      have hnot : ∀ e ∈ oj.after, Region.binds md e = true → e.on ≠ i := fun e he hb heq => by
        have h1 := hall e he hb
        rw [heq, getD_both hun] at h1
        cases h1
      have h2 := qOp_put hoj (hfree j oj hoj hji hjun hnot) (fun cs b => hsel i oi cs b hi) (fun cs b => hsel j oj cs b hoj) hy (H.2 j (ready_mono hj hji)).2
      refine qOp_mono (fun a' h3 => ih _ a' (inv.set hj hjn) (fun k ok hk hki hu hno => hfree k ok hk hki ?_ hno) (ready_mono hr (Ne.symm hji)) h3.1 ?_) h2
      · by_cases hjk : j = k
        · subst hjk; exact hjun
        · rw [getD_set_ne true hjk] at hu; exact hu
      · rw [Array.setIfInBounds_comm _ _ hji]; exact h3.2
theorem headQ_lex {n g : Nat} {F : Act → Prop} (hsel : Region.noSelect ops = true) (hs : Region.sinkB md ops n = true) (hc : Region.chainB md ops n = true) (hn : n < ops.size) :
    ∀ (l : List Oper) (k : Nat) (ls : Array Bool) (a : Act), (∀ j, j < l.length → l[j]? = ops[k + j]?) → k + l.length = n → HeadInv md ops n ls →
    Region.lexHead md ops g l.length k ls = true → wpQuiet P ops C F l a → headQ P md ops C n (fun ls' a' => Region.seqB md ops g n ls' = true ∧ F a') l.length ls a
  | [], k, ls, a, _, hk, _, hB, h => by
    obtain rfl : k = n := by simpa using hk
    exact ⟨by simpa [Region.lexHead] using hB, h⟩
  | o :: l, k, ls, a, hl, hk, inv, hB, h => by
    have h0 : ops[k]? = some o := by simpa using (hl 0 (by simp)).symm
    simp only [List.length_cons, Region.lexHead, Bool.and_eq_true] at hB hk
    obtain ⟨⟨hr, hf⟩, hB'⟩ := hB
    have hr' : k ∈ Region.ready md ops ls := by simpa using hr
    obtain ⟨v, hy, hK⟩ := yieldsIn_of_qOp (K := wpQuiet P ops C F l) h0 (by unfold qOp; simp only [h0]; exact h)
    exact headQ_first h0 (Region.noSelect_spec hsel) hs hc hn (by omega) (fun ls' a' hL => seqB_ready hL.1) l.length ls a inv (Region.free_spec h0 hf) hr' hy
      (headQ_lex hsel hs hc hn l (k + 1) _ _ (fun j hj => by have := hl (j + 1) (by simp; omega); simpa [Nat.add_assoc, Nat.add_comm 1 j] using this) (by omega) (inv.set hr' (by omega)) hB' hK)
theorem wp_region_below_tail {id : Nat} {Q : Exit → Act → World → Prop} {a : Act} {w : World} {l : List Oper} (n : Nat) (hm : P.follows .mixedOrders = true) (hB : Region.lexTailB .any l.toArray n = true)
    (h : wpQuiet P l.toArray (fun w' => ∃ p : Regrown, w' = grow (redrawn w p.d) p.os) (fun a' => ∀ w', (∃ p : Regrown, w' = grow (redrawn w p.d) p.os) → wpList P l.toArray Q (l.drop n) a' w') (l.take n) a) : (Code.region id l.toArray true).wp P Q a w := by
  simp only [Region.lexTailB, Bool.and_eq_true, decide_eq_true_eq] at hB
  obtain ⟨⟨⟨⟨hsel, hn⟩, hs⟩, hc⟩, hlex⟩ := hB
  have hn' : n < l.length := by simpa using hn
  have htl : (l.take n).length = n := by simp; omega
  have hdl : (l.drop n).length = l.toArray.size - n := by simp
  have inv0 : HeadInv .any l.toArray n (Array.replicate l.toArray.size false) :=
    ⟨by simp, fun j oj _ hl => (by rw [getD_replicate_false] at hl; cases hl), fun t _ ht => getD_in (by simpa using ht) (getD_replicate_false _ _)⟩
  have H := headQ_lex (md := .any) (g := l.toArray.size - n) hsel hs hc hn (l.take n) 0 _ a (fun j hj => by
    have hj' : j < n := by rw [htl] at hj; exact hj
    simp [hj']) (by simpa using htl) inv0 (by rw [htl]; exact hlex) h
  refine wp_region_any hm ?_
  have := any_of_headQ (Q := Q) (g := l.toArray.size - n) (fun ls a' w' hw' hL => by
    have := wpAny_of_seq (md := .any) (Q' := Q) (l.drop n) n ls a' w' (fun j => by simp [List.getElem?_drop]) (by rw [hdl]; exact hL.1) (hL.2 w' hw')
    rwa [hdl] at this) _ _ _ _ (show ∃ p : Regrown, _ = grow (redrawn w p.d) p.os from ⟨⟨w.drawn + 1, #[]⟩, by rw [grow_empty]⟩) H
  rw [htl, show n + (l.toArray.size - n) = l.toArray.size by omega] at this
  exact this
end
section
variable {P : Program}
theorem wp_region_quiet_tail {id : Nat} {Q : Exit → Act → World → Prop} {a : Act} {w : World} {l : List Oper} (n : Nat) (hm : P.follows .mixedOrders = true) (hB : Region.lexTailB .any l.toArray n = true)
    (h : wpQuiet P l.toArray (fun w' => ∃ m : Nat, w' = w.drewN m) (fun a' => ∀ w', (∃ m : Nat, w' = w.drewN m) → wpList P l.toArray Q (l.drop n) a' w') (l.take n) a) : (Code.region id l.toArray true).wp P Q a w := by
  simp only [Region.lexTailB, Bool.and_eq_true, decide_eq_true_eq] at hB
  obtain ⟨⟨⟨⟨hsel, hn⟩, hs⟩, hc⟩, hlex⟩ := hB
  have hn' : n < l.length := by simpa using hn
  have htl : (l.take n).length = n := by simp; omega
  have hdl : (l.drop n).length = l.toArray.size - n := by simp
  have inv0 : HeadInv .any l.toArray n (Array.replicate l.toArray.size false) :=
    ⟨by simp, fun j oj _ hl => (by rw [getD_replicate_false] at hl; cases hl), fun t _ ht => getD_in (by simpa using ht) (getD_replicate_false _ _)⟩
  have H := headQ_lex (md := .any) (g := l.toArray.size - n) hsel hs hc hn (l.take n) 0 _ a (fun j hj => by
    have hj' : j < n := by rw [htl] at hj; exact hj
    simp [hj']) (by simpa using htl) inv0 (by rw [htl]; exact hlex) h
  refine wp_region_any hm ?_
  have := any_of_headQ (Q := Q) (g := l.toArray.size - n) (fun ls a' w' hw' hL => by
    have := wpAny_of_seq (md := .any) (Q' := Q) (l.drop n) n ls a' w' (fun j => by simp [List.getElem?_drop]) (by rw [hdl]; exact hL.1) (hL.2 w' hw')
    rwa [hdl] at this) _ _ _ _ (show ∃ m : Nat, w.drew = w.drewN m from ⟨1, rfl⟩) H
  rw [htl, show n + (l.toArray.size - n) = l.toArray.size by omega] at this
  exact this
end
end Go.Proofs.YtpggkfdijmnmiaaGreat.Hs
namespace Go.Proofs.YtpggkfdijmnmiaaGreat
open Go.RowKit Limbs
def kidOf (s : List UInt8) : List UInt8 := Hs.b64L ((Hs.macL [107, 105, 100] s).take 9)
def macOf (s : List UInt8) : List UInt8 := Hs.macL [109, 97, 99] s
def privAt (s : List UInt8) : Nat := if bv s % mN = 0 then 1 else bv s % mN
def privOf (s : List UInt8) : Nat := privAt (Hs.macL [107, 101, 121] s)
theorem privAt_lt (s : List UInt8) : 0 < privAt s ∧ privAt s < mN := by
  have h : bv s % mN < mN := Nat.mod_lt _ (by decide)
  unfold privAt
  split
  · exact ⟨by decide, by decide⟩
  · omega
theorem macL_len (k s : List UInt8) : (Hs.macL k s).length = 32 := Hs.mac_length _ _
theorem sclone_any (l : List UInt8) (w : World) (h : l.length ≤ 281474976710656) :
    Calls Tryz.prog 79 #[.string ⟨l.toArray⟩] w fun e w' => e = .returned (.string ⟨l.toArray⟩) ∧ Below w.heap.size w w' := by
  go_enter Tryz.func79, Tryz.ntmps79
  go_wp2_with (fail)
  refine (Tryz.stringslite_Clone ⟨l.toArray⟩ w (by show l.toArray.size ≤ _; simpa using h)).mono ?_
  rintro e w1 ⟨rfl, b1⟩
  go_wp2
  go_ret
  exact ⟨rfl, b1⟩
set_option maxHeartbeats 8000000 in
theorem priv_any (s : List UInt8) (hs : s.length ≤ 140737488351232) (w : World) : Calls Tryz.prog 135 #[.string ⟨s.toArray⟩] w fun e w' => e = .returned (nv (privAt s)) ∧ Below w.heap.size w w' := by
  have hr := reduce_any 1 s hs
  rw [show md 1 = mN by unfold md; rw [if_neg (by decide)]] at hr
  have hlt : bv s % mN < W256 := Nat.lt_trans (Nat.mod_lt _ (by decide)) (show mN < W256 by decide)
  obtain ⟨r, hre⟩ : ∃ r, r = bv s % mN := ⟨_, rfl⟩
  have hpv : privAt s = if r = 0 then 1 else r := by rw [hre]; rfl
  rw [hpv]
  rw [← hre] at hr hlt
  have HR := Lib.hid hr
  have HZ : Hid (∀ w, (Op.equalIn 10000 24 (.agg #[.int .u64 (lb r 0 : Nat), .int .u64 (lb r 1 : Nat), .int .u64 (lb r 2 : Nat), .int .u64 (lb r 3 : Nat)]) (.agg #[.int .u64 0, .int .u64 0, .int .u64 0, .int .u64 0])).run Tryz.prog w = .ok (decide (r = 0)) w) := Lib.hid fun w => eqN r 0 hlt (by decide) w
  clear hr hre hlt hpv hs
  have h1 : nv 1 = .agg #[.int .u64 1, .int .u64 0, .int .u64 0, .int .u64 0] := rfl
  have hz := HZ.out
  by_cases h0 : r = 0
  · rw [decide_eq_true h0] at hz
    rw [if_pos h0, h1]
    clear h0
    simp only [nv, num] at HR
    go_enter Tryz.func135, Tryz.ntmps135
    go_wp2_with fail
    refine (keep w.heap.size w (HR.out _) (by go_grown) (Nat.le_refl _)).mono ?_
    rintro e w1 ⟨rfl, hb, hk⟩
    have KR : Bk 24 w1 w.heap.size cs0 := Bk.below (Bk.new rfl) hk
    obtain ⟨f0, f1, f2, f3⟩ := KR.frosA
    obtain ⟨j0, j1, j2, j3⟩ := KR.cellsA
    go_wp2_with fail
    refine ret_cell rfl w.heap.size 1 rfl (Bk.put KR.alloc) rfl ⟨by rw [h1], ?_⟩
    have hs := hb.size
    go_grown
  · rw [decide_eq_false h0] at hz
    rw [if_neg h0]
    clear h0
    simp only [nv, num] at HR ⊢
    go_enter Tryz.func135, Tryz.ntmps135
    go_wp2_with fail
    refine (keep w.heap.size w (HR.out _) (by go_grown) (Nat.le_refl _)).mono ?_
    rintro e w1 ⟨rfl, hb, hk⟩
    have KR : Bk 24 w1 w.heap.size cs0 := Bk.below (Bk.new rfl) hk
    obtain ⟨f0, f1, f2, f3⟩ := KR.frosA
    obtain ⟨j0, j1, j2, j3⟩ := KR.cellsA
    go_wp2_with fail
    refine ret_cell rfl w.heap.size r rfl (Bk.put KR.alloc) rfl ⟨rfl, ?_⟩
    have hs := hb.size
    go_grown
theorem bthen {w w1 w2 : World} (h : Below w.heap.size w w1) (h2 : Below w1.heap.size w1 w2) : Below w.heap.size w w2 := h.trans (h2.mono h.size)
theorem ba_take (l : List UInt8) (n : Nat) : (⟨l.toArray⟩ : ByteArray).extract 0 n = ⟨(l.take n).toArray⟩ := by
  apply ByteArray.ext
  simp [ByteArray.data_extract]
def keyC (s : List UInt8) : Array Value := #[.string ⟨s.toArray⟩, .string ⟨(kidOf s).toArray⟩, .string ⟨(macOf s).toArray⟩, .int .u64 (lb (privOf s) 0 : Nat), .int .u64 (lb (privOf s) 1 : Nat), .int .u64 (lb (privOf s) 2 : Nat), .int .u64 (lb (privOf s) 3 : Nat), .int .u32 0, .int .i32 0, .int .u32 0, .int .u64 0, .int .u64 0, .int .u64 0, .int .u64 0, .int .u64 0, .int .u64 0, .int .u64 0, .int .u64 0, .bool false]
set_option maxHeartbeats 8000000 in
theorem newKey_any (s : List UInt8) (hs : s.length ≤ 140737488351232) (w : World) : Calls Tryz.prog 74 #[.string ⟨s.toArray⟩] w fun e w' => ∃ g, e = .returned (.pointer (some ⟨g, 0, none⟩)) ∧ w.heap.size ≤ g ∧ Bk 121 w' g (keyC s) ∧ Below w.heap.size w w' := by
  have HC := Lib.hid (fun w => sclone_any s w (by omega))
  have HM1 := Lib.hid (fun w => Hs.Mac_any [107, 105, 100] s (by decide) (by omega) w)
  have HM2 := Lib.hid (fun w => Hs.Mac_any [109, 97, 99] s (by decide) (by omega) w)
  have HM3 := Lib.hid (fun w => Hs.Mac_any [107, 101, 121] s (by decide) (by omega) w)
  have HP := Lib.hid (priv_any (Hs.macL [107, 101, 121] s) (by rw [macL_len]; decide))
  have HB : Hid (∀ w, Calls Tryz.prog 134 #[.string ⟨((Hs.macL [107, 105, 100] s).take 9).toArray⟩] w fun e w' => e = .returned (.string ⟨(Hs.b64L ((Hs.macL [107, 105, 100] s).take 9)).toArray⟩) ∧ Below w.heap.size w w') := Lib.hid fun w => Hs.base64_any ⟨((Hs.macL [107, 105, 100] s).take 9).toArray⟩ w (by show ((Hs.macL [107, 105, 100] s).take 9).toArray.size ≤ _; simp [macL_len])
  have hl1 := macL_len [107, 105, 100] s
  obtain ⟨m1, hm1⟩ : ∃ m, m = Hs.macL [107, 105, 100] s := ⟨_, rfl⟩
  have hkid : kidOf s = Hs.b64L (m1.take 9) := by rw [hm1]; rfl
  have hmac : macOf s = Hs.macL [109, 97, 99] s := rfl
  have hprv : privOf s = privAt (Hs.macL [107, 101, 121] s) := rfl
  unfold keyC
  rw [hkid, hmac, hprv]
  rw [← hm1] at HM1 HB hl1
  generalize Hs.macL [109, 97, 99] s = m2 at *
  generalize Hs.macL [107, 101, 121] s = m3 at *
  generalize privAt m3 = pv at *
  clear hkid hmac hprv hm1 hs
  simp only [nv, num] at HP
  go_enter Tryz.func74, Tryz.ntmps74
  go_wp2_with fail
  refine (HC.out w).mono ?_
  rintro e w1 ⟨rfl, hb1⟩
  go_wp2_with fail
  refine (HM1.out w1).mono ?_
  rintro e w2 ⟨rfl, hb2⟩
  have hsz : (9 : Nat) ≤ m1.length := by rw [hl1]; decide
  go_wp2_with fail
  rw [ba_take]
  refine (HB.out w2).mono ?_
  rintro e w3 ⟨rfl, hb3⟩
  go_wp2_with fail
  refine (HM2.out w3).mono ?_
  rintro e w4 ⟨rfl, hb4⟩
  go_wp2_with fail
  refine (HM3.out w4).mono ?_
  rintro e w5 ⟨rfl, hb5⟩
  go_wp2_with fail
  refine (HP.out w5).mono ?_
  rintro e w6 ⟨rfl, hb6⟩
  have hb : Below w.heap.size w w6 := bthen (bthen (bthen (bthen (bthen hb1 hb2) hb3) hb4) hb5) hb6
  clear hb1 hb2 hb3 hb4 hb5 hb6
  go_wp2_with fail
  go_returns
  refine ⟨_, rfl, hb.size, Bk.new rfl, ?_⟩
  have hs := hb.size
  go_grown
theorem o_disable (w : World) : (callFunc 208 #[]).run Tryz.prog w = .ok (.value (.tuple #[])) w := run_call_mark0 Tryz.func208 (by kernel_rfl) (by kernel_rfl) (by kernel_rfl) .disable (by kernel_rfl) w
theorem o_enable (w : World) : (callFunc 210 #[]).run Tryz.prog w = .ok (.value (.tuple #[])) w := run_call_mark0 Tryz.func210 (by kernel_rfl) (by kernel_rfl) (by kernel_rfl) .enable (by kernel_rfl) w
theorem o_acquire (a : Addr) (w : World) : (callFunc 211 #[.pointer (some a)]).run Tryz.prog w = .ok (.value (.tuple #[])) w := run_call_marked Tryz.func211 (by kernel_rfl) (by kernel_rfl) (by kernel_rfl) .acquire (by kernel_rfl) a w
theorem o_release (a : Addr) (w : World) : (callFunc 213 #[.pointer (some a)]).run Tryz.prog w = .ok (.value (.tuple #[])) w := run_call_marked Tryz.func213 (by kernel_rfl) (by kernel_rfl) (by kernel_rfl) .releaseMerge (by kernel_rfl) a w
theorem load_bool (a : Addr) (d : Int) (w : World) (h0 : w.cell? a = some (.int .u32 d)) : Calls Tryz.prog 166 #[.pointer (some a)] w fun e w' => e = .returned (.bool (d != 0)) ∧ w' = w := by
  have hl := run_call_load (P := Tryz.prog) Tryz.func188 (by kernel_rfl) (by kernel_rfl) (by kernel_rfl) .u32 (by kernel_rfl) h0
  go_enter Tryz.func166, Tryz.ntmps166
  go_wp2_with fail
  go_returns
  exact ⟨rfl, rfl⟩
theorem lock_in (a : Addr) (w : World) (hc : w.cell? a = some (.int .i32 0)) (hz : w.frozen? a = false) :
    Calls Tryz.prog 201 #[.pointer (some a)] w fun e w' => e = .returned (.tuple #[]) ∧ w' = w.setCell a (.int .i32 1) := by
  have hd := o_disable
  have he := o_enable
  have ha := o_acquire
  have hcas := run_call_cas_hit (P := Tryz.prog) Tryz.func209 (by kernel_rfl) (by kernel_rfl) (by kernel_rfl) .i32 (by kernel_rfl) (y := 1) hc hz
  have hc' : (w.setCell a (.int .i32 1)).cell? a = some (.int .i32 1) := World.cell?_setCell_same w a _ hc
  have hcv := run_convert_to_unsafe (P := Tryz.prog) (src := 232) (dst := 225) Tryz.underlying232 Tryz.underlying225 (by kernel_rfl) hc'
  go_enter Tryz.func201, Tryz.ntmps201
  go_wp2
  first | go_end0 | (simp only [Exit.inBlock, Exit.then]; refine bodyPost_ret (results_none rfl _ _ _) rfl ?_) | refine bodyPost_ret (results_none rfl _ _ _) rfl ?_
  all_goals try go_wp2
  all_goals try go_end0
  all_goals exact ⟨rfl, rfl⟩
def kpt (g : Nat) : Value := .pointer (some ⟨g, 0, none⟩)
def Rg (B : Nat) (w : World) (r : Nat) (ks : List (Nat × List UInt8)) : Prop :=
  ∃ a c, Bk 107 w r #[.slice (some ⟨a, 0, none⟩) ks.length c] ∧ w.ownsRow B 103 1 (.slice (some ⟨a, 0, none⟩) ks.length c) ks.length (ks.map fun k => kpt k.1) ∧ ∀ k ∈ ks, Bk 121 w k.1 (keyC k.2)
theorem own_below {B : Nat} {T : TypeId} {z n : Nat} {v : Value} {l : List Value} {w w' : World} (h : w.ownsRow B T z v n l) (hb : Below w.heap.size w w') : w'.ownsRow B T z v n l := by
  refine ⟨h.1, ?_⟩
  rcases h.2 with hn | ⟨g, cap, cur, hv, hg, hh, rest⟩
  · exact .inl hn
  · exact .inr ⟨g, cap, cur, hv, hg, (hb.block _ ((Array.getElem?_eq_some_iff.1 hh).1)).trans hh, rest⟩
theorem Rg.below {B : Nat} {w w' : World} {r : Nat} {ks : List (Nat × List UInt8)} (h : Rg B w r ks) (hb : Below w.heap.size w w') : Rg B w' r ks := by
  obtain ⟨a, c, h1, h2, h3⟩ := h
  exact ⟨a, c, h1.below hb, own_below h2 hb, fun k hk => (h3 k hk).below hb⟩
def findK : List (Nat × List UInt8) → List UInt8 → Option Nat
  | [], _ => none
  | k :: ks, n => if kidOf k.2 = n then some k.1 else findK ks n
def fV : Option Nat → Value
  | none => .pointer none
  | some g => kpt g
theorem findK_drop (n : List UInt8) : ∀ (ks : List (Nat × List UInt8)) (i : Nat), (∀ j (h : j < i) (h2 : j < ks.length), kidOf (ks[j]).2 ≠ n) → findK ks n = findK (ks.drop i) n
  | [], i, _ => by simp
  | k :: ks, 0, _ => rfl
  | k :: ks, i + 1, h => by
    have h0 := h 0 (by omega) (by simp)
    rw [findK, if_neg (show ¬ kidOf k.2 = n from h0), findK_drop n ks i (fun j hj h2 => h (j + 1) (by omega) (by simpa using h2))]
    rfl
set_option maxHeartbeats 8000000 in
theorem find_any {B : Nat} {w : World} {r : Nat} {ks : List (Nat × List UInt8)} (h : Rg B w r ks) (hl : ks.length ≤ 1000000) (n : List UInt8) : Calls Tryz.prog 75 #[kpt r, .string ⟨n.toArray⟩] w fun e w' => e = .returned (fV (findK ks n)) ∧ w = w' := by
  obtain ⟨a, c, h1, h2, h3⟩ := h
  have hc : w.cell? ⟨r, 0, none⟩ = some (.slice (some ⟨a, 0, none⟩) ks.length c) := h1.cell 0
  have HR := Lib.hid h2
  have HK := Lib.hid h3
  clear h1 h2 h3
  unfold kpt
  go_enter Tryz.func75, Tryz.ntmps75
  go_wp2_with fail
  go_loopw [12] (fun iv wr => ∃ i : Nat, i ≤ ks.length ∧ iv = .int .i64 (i : Int) ∧ wr = w ∧ ∀ j (h : j < i) (h2 : j < ks.length), kidOf (ks[j]).2 ≠ n) (fun iv _ => ks.length - (intOf iv).toNat)
  case atStart => exact ⟨0, Nat.zero_le _, rfl, rfl, fun j h => by omega⟩
  case round =>
    obtain ⟨i, hi, rfl, rfl, hne⟩ := hrel
    by_cases hlt : i < ks.length
    · obtain ⟨k, hk⟩ : ∃ k, ks[i]'hlt = k := ⟨_, rfl⟩
      have hkm : k ∈ ks := hk ▸ List.getElem_mem hlt
      have K1 := HK.out k hkm
      have c1 := K1.cell 1
      unfold keyC at c1
      simp only [List.getElem?_toArray, List.getElem?_cons_succ, List.getElem?_cons_zero] at c1
      have c0 : wr.cell? ⟨a, i, none⟩ = some (.pointer (some ⟨k.1, 0, none⟩)) := by
        have := HR.out.cells (g := a) rfl i (kpt k.1) (by rw [List.getElem?_map, List.getElem?_eq_getElem hlt, hk]; rfl)
        by_cases h0 : i = 0
        · subst h0; simpa [Addr.add, kpt] using this
        · simpa [Addr.add, h0, kpt] using this
      have hltI : (i : Int) < (ks.length : Int) := by omega
      have HNE := Lib.hid hne
      have HKI := Lib.hid hk
      clear hne hk K1
      by_cases hq : kidOf k.2 = n
      · have hb : (kidOf k.2 == n) = true := by simp [hq]
        have HF : Hid (findK ks n = some k.1) := Lib.hid (by rw [findK_drop n ks i HNE.out, List.drop_eq_getElem_cons hlt, HKI.out, findK, if_pos hq])
        clear hq
        go_wp2_with fail
        go_returns
        rw [HF.out]
        exact ⟨rfl, rfl⟩
      · have hb : (kidOf k.2 == n) = false := by simp [hq]
        have HQ := Lib.hid hq
        clear hq
        go_wp2_with fail
        go_roundw
        case rel => exact ⟨i + 1, by omega, by go_num, trivial, fun j hj h2 => by
          rcases Nat.lt_succ_iff_lt_or_eq.1 hj with h1 | rfl
          · exact HNE.out j h1 h2
          · rw [HKI.out]; exact HQ.out⟩
        case measure => simp [intOf]; omega
    · have hie : i = ks.length := by omega
      have hltI : decide ((i : Int) < (ks.length : Int)) = false := decide_eq_false (by omega)
      have HF : Hid (findK ks n = none) := Lib.hid (by rw [findK_drop n ks i hne, hie, List.drop_length]; rfl)
      clear hne
      go_wp2_with fail
      go_returns
      rw [HF.out]
      exact ⟨rfl, rfl⟩
theorem Rg.last {B : Nat} {w : World} {r : Nat} {ks : List (Nat × List UInt8)} {k : Nat × List UInt8} (h : Rg B w r (ks ++ [k])) : ∃ a c, w.cell? ⟨r, 0, none⟩ = some (.slice (some ⟨a, 0, none⟩) (ks.length + 1) c) ∧ w.cell? ⟨a, ks.length, none⟩ = some (.pointer (some ⟨k.1, 0, none⟩)) := by
  obtain ⟨a, c, h1, h2, h3⟩ := h
  rw [List.length_append] at h1 h2
  refine ⟨a, c, h1.cell 0, ?_⟩
  have := h2.cells (g := a) rfl ks.length (kpt k.1) (by simp)
  by_cases h0 : ks.length = 0
  · rw [h0] at this ⊢; simpa [Addr.add, kpt] using this
  · simpa [Addr.add, h0, kpt] using this
set_option maxHeartbeats 8000000 in
theorem newest_any {B : Nat} {w : World} {r : Nat} {ks : List (Nat × List UInt8)} {k : Nat × List UInt8} (h : Rg B w r (ks ++ [k])) (hl : ks.length ≤ 1000000) : Calls Tryz.prog 78 #[kpt r] w fun e w' => e = .returned (kpt k.1) ∧ Below w.heap.size w w' := by
  obtain ⟨a, c, c0, c1⟩ := h.last
  clear h
  generalize ks.length = m at *
  have hi1 : (m : Int) < ((m : Int) + 1) := by omega
  have hw : IntKind.i64.wrap ((m : Int) + 1 - 1) = (m : Int) := by rw [show (m : Int) + 1 - 1 = (m : Int) by omega]; exact IntWalk.i64_in _ (by omega)
  unfold kpt
  go_enter Tryz.func78, Tryz.ntmps78
  go_wp2_with fail
  go_quiet (fail)
  go_wp2_with fail
  go_returns
  exact ⟨rfl, rfl, rfl, rfl, Nat.le_refl _, fun _ _ => rfl⟩
set_option maxHeartbeats 8000000 in
theorem newRing_any (s : List UInt8) (hs : s.length ≤ 140737488351232) (w : World) : Calls Tryz.prog 21 #[.string ⟨s.toArray⟩] w fun e w' => ∃ r g, e = .returned (kpt r) ∧ Rg w.heap.size w' r [(g, s)] ∧ Below w.heap.size w w' ∧ w.heap.size ≤ r := by
  have HK := Lib.hid (newKey_any s hs w)
  clear hs
  go_enter Tryz.func21, Tryz.ntmps21
  go_wp2_with fail
  refine HK.out.mono ?_
  rintro e w1 ⟨g, rfl, hg, hk, hb⟩
  clear HK
  go_wp2_with fail
  go_returns
  have hbn : Below w1.heap.size w1 ((w1.alloc (.cells #[.pointer (some ⟨g, 0, none⟩)] 103)).alloc (.cells #[.slice (some ⟨w1.heap.size, 0, none⟩) 1 1] 107)) := by go_grown
  refine ⟨_, g, rfl, ⟨w1.heap.size, 1, Bk.new (by simp), ⟨rfl, .inr ⟨w1.heap.size, 1, #[.pointer (some ⟨g, 0, none⟩)], rfl, hb.size, Bk.alloc (Bk.new rfl), by simp, by unfold maxLen; omega, rfl, rfl⟩⟩, fun k hk2 => ?_⟩, hb.trans (hbn.mono hb.size), by have := hb.size; omega⟩
  rw [List.mem_singleton] at hk2
  subst hk2
  exact hk.below hbn
set_option maxHeartbeats 8000000 in
theorem rmac_any {B : Nat} {w : World} {r : Nat} {ks : List (Nat × List UInt8)} {k : Nat × List UInt8} (h : Rg B w r (ks ++ [k])) (hl : ks.length ≤ 1000000) (hk : k.2.length ≤ 140737488351232) (s : List UInt8) (hs : s.length ≤ 140737488351232) : Calls Tryz.prog 24 #[kpt r, .string ⟨s.toArray⟩] w fun e w' => e = .returned (.tuple #[.string ⟨(kidOf k.2).toArray⟩, .string ⟨(Hs.macL (macOf k.2) s).toArray⟩]) ∧ Below w.heap.size w w' := by
  have HN := Lib.hid (newest_any h hl)
  obtain ⟨a, c, h1, h2, h3⟩ := h
  have K1 := Lib.hid (h3 k (by simp))
  have hkl : (kidOf k.2).length ≤ 281474976710656 := by
    unfold kidOf
    have := Hs.enc_len ((Hs.macL [107, 105, 100] k.2).take 9) 0 0 (by decide)
    have h9 : ((Hs.macL [107, 105, 100] k.2).take 9).length ≤ 9 := by simp; omega
    unfold Hs.b64L
    omega
  have HC := Lib.hid (fun w => sclone_any (kidOf k.2) w hkl)
  have hml : (macOf k.2).length = 32 := macL_len _ _
  have HM := Lib.hid (fun w => Hs.Mac_any (macOf k.2) s (by omega) (by omega) w)
  clear h1 h2 h3 hkl hml hk hs
  unfold kpt at HN ⊢
  go_enter Tryz.func24, Tryz.ntmps24
  go_wp2_with fail
  refine HN.out.mono ?_
  rintro e w1 ⟨rfl, hb1⟩
  have K2 := K1.out.below hb1
  obtain ⟨g, sd⟩ := k
  have c1 := fun d os => (K2.regrown d os).cell 1
  have c2 := fun d os => (K2.regrown d os).cell 2
  unfold keyC at c1 c2
  simp only [List.getElem?_toArray, List.getElem?_cons_succ, List.getElem?_cons_zero] at c1 c2
  simp only at HC HM c1 c2 ⊢
  go_wp2_with fail
  refine wp_region_quiet_below mixed (by kernel_rfl) ?_
  repeat (first | go_big_quiet_step (first | exact qg HC.out | exact qg HM.out) | quiet_step (first | exact qg HC.out | exact qg HM.out))
  refine wpQuiet_nil ?_
  intro _ hw'
  obtain ⟨⟨dq, osq⟩, hw''⟩ := hw'
  subst hw''
  go_wp2_with fail
  go_returns
  exact ⟨rfl, hb1.trans ((below_regrown w1 dq osq).mono hb1.size)⟩
theorem infoKey : (Tryz.prog.info? 103).map (fun i => (i.zero, i.size, i.bytes)) = some (some (.pointer none), 1, 8) := by kernel_rfl
theorem appk {ops : Array Oper} {rest : List Oper} {o : Oper} {a : Act} {Q : Exit → Act → World → Prop} {w : World} {B : Nat} {v : Value} {n : Nat} {l : List Value} (g : Nat) (s x : Operand) (hgd : o.guard = none)
    (ho : o.op = .call { callee := .builtin .append, args := #[s, x], argTypes := #[105, 105] }) (hs : a.eval s = v) (hx : a.eval x = .slice (some ⟨w.heap.size, 0, none⟩) 1 1)
    (hI : w.ownsRow B 103 1 v n l) (hB : B ≤ w.heap.size) (hlen : n ≤ 1000000)
    (h : ∀ v' w', w'.ownsRow B 103 1 v' (n + 1) (l ++ [kpt g]) → (w.alloc (.cells #[kpt g] 103)).grownBy w' v.ownBlock → wpList Tryz.prog ops Q rest (a.put o.dst v') w') : wpList Tryz.prog ops Q (o :: rest) a (w.alloc (.cells #[kpt g] 103)) := by
  obtain ⟨i0, hi, hz0, hz1, hz2⟩ := info_parts infoKey
  refine wpList_append_own _ hgd s x 105 ho B 103 i0 (.pointer none) 1 8 Tryz.underlying105 hi hz0 hz1 hz2 rfl (by decide) v n _ hs (hI.alloc _) ⟨w.heap.size, 0, none⟩ 1 1 [kpt g] hx rfl (World.news_of_block (heap_alloc_new w _)) (by simp [Value.oneCell', kpt]) (by unfold maxLen; omega) (by omega) (by simp; omega) ?_
  intro v' w' h1 h2 _
  exact h v' w' h1 h2
theorem bk_ne {t u : TypeId} {w : World} {g h : Nat} {cs ds : Array Value} (a : Bk t w g cs) (b : Bk u w h ds) (hn : t ≠ u) : g ≠ h := fun e => by
  subst e
  have h2 := a.symm.trans b
  injection h2 with h3
  injection h3 with h4 h5
  exact hn h5
theorem own_slice {B n : Nat} {w : World} {v : Value} {l : List Value} {T : TypeId} {z : Nat} (h : w.ownsRow B T z v (n + 1) l) : ∃ a c, v = .slice (some ⟨a, 0, none⟩) (n + 1) c := by
  rcases h.2 with ⟨_, h0⟩ | ⟨g', cap, cur', hx, _⟩
  · omega
  · exact ⟨g', cap, hx⟩
theorem ring_keep {B : Nat} {w w2 : World} {r g a n c : Nat} {l : List Value} {v : Value} (h1 : Bk 107 w r #[v]) (h2 : w.ownsRow B 103 1 (.slice (some ⟨a, 0, none⟩) n c) n l) (hG : (w.alloc (.cells #[kpt g] 103)).grownBy w2 (some a)) : Bk 107 w2 r #[v] := by
  have ha : ∃ cur, Bk 103 w a cur := by
    rcases h2.2 with ⟨hx, _⟩ | ⟨g', cap, cur, hx, _, hh, _⟩
    · cases hx
    · cases hx
      exact ⟨cur, hh⟩
  obtain ⟨cur, ha⟩ := ha
  have hne := bk_ne h1 ha (by decide)
  have h' : Bk 107 (w.alloc (.cells #[kpt g] 103)) r #[v] := Bk.alloc h1
  exact (hG.block r (by have := (Array.getElem?_eq_some_iff.1 h1).1; simp; omega) (fun e => hne (by injection e))).trans h'
theorem Rg.push {B : Nat} {w w2 : World} {r g a c : Nat} {ks : List (Nat × List UInt8)} {s : List UInt8} {v' : Value} (h1 : Bk 107 w r #[.slice (some ⟨a, 0, none⟩) ks.length c]) (h2 : w.ownsRow B 103 1 (.slice (some ⟨a, 0, none⟩) ks.length c) ks.length (ks.map fun k => kpt k.1)) (h3 : ∀ k ∈ ks, Bk 121 w k.1 (keyC k.2)) (hg : Bk 121 w g (keyC s))
    (hv : w2.ownsRow B 103 1 v' (ks.length + 1) ((ks.map fun k => kpt k.1) ++ [kpt g])) (hG : (w.alloc (.cells #[kpt g] 103)).grownBy w2 (some a)) (hr : B ≤ r) :
    Rg B (w2.setCell ⟨r, 0, none⟩ v') r (ks ++ [(g, s)]) := by
  have ha : ∃ cur, Bk 103 w a cur := by
    rcases h2.2 with ⟨hx, _⟩ | ⟨g', cap, cur, hx, _, hh, _⟩
    · cases hx
    · cases hx
      exact ⟨cur, hh⟩
  obtain ⟨cur, ha⟩ := ha
  have hlt : ∀ {t : TypeId} {x : Nat} {cs : Array Value}, Bk t w x cs → x < (w.alloc (.cells #[kpt g] 103)).heap.size := fun h => by
    have := (Array.getElem?_eq_some_iff.1 h).1
    simp; omega
  have keep2 : ∀ {t : TypeId} {x : Nat} {cs : Array Value}, Bk t w x cs → x ≠ a → Bk t w2 x cs := fun {t x cs} h hne => by
    have h' : Bk t (w.alloc (.cells #[kpt g] 103)) x cs := Bk.alloc h
    exact (hG.block x (hlt h) (fun e => hne (by injection e))).trans h'
  have hR := keep2 h1 (bk_ne h1 ha (by decide))
  obtain ⟨a', c', rfl⟩ : ∃ a' c', v' = .slice (some ⟨a', 0, none⟩) (ks.length + 1) c' := by
    rcases hv.2 with ⟨_, h0⟩ | ⟨g', cap, cur', hx, _⟩
    · omega
    · exact ⟨g', cap, hx⟩
  have ha' : ∃ cur', Bk 103 w2 a' cur' := by
    rcases hv.2 with ⟨hx, _⟩ | ⟨g', cap, cur', hx, _, hh, _⟩
    · cases hx
    · cases hx
      exact ⟨cur', hh⟩
  obtain ⟨cur', ha'⟩ := ha'
  have hne : r ≠ a' := bk_ne hR ha' (by decide)
  refine ⟨a', c', ?_, ?_, fun k hk => ?_⟩
  · have := Bk.same (i := 0) (v := .slice (some ⟨a', 0, none⟩) (ks.length + 1) c') hR
    simpa using this
  · rw [List.length_append, List.map_append]
    refine ⟨hv.1, ?_⟩
    rcases hv.2 with ⟨hx, _⟩ | ⟨g', cap, cur2, hx, hb, hh, rest⟩
    · cases hx
    · cases hx
      exact .inr ⟨_, _, cur2, rfl, hb, (heap_setCell_other w2 _ a' _ (by simpa using Ne.symm hne)).trans hh, rest⟩
  · rw [List.mem_append, List.mem_singleton] at hk
    rcases hk with hk | rfl
    · exact Bk.oth (by simpa using bk_ne (h3 k hk) h1 (by decide)) (keep2 (h3 k hk) (bk_ne (h3 k hk) ha (by decide)))
    · exact Bk.oth (by simpa using bk_ne hg h1 (by decide)) (keep2 hg (bk_ne hg ha (by decide)))
set_option maxHeartbeats 8000000 in
theorem turn_there {B : Nat} {w : World} {r : Nat} {ks : List (Nat × List UInt8)} (h : Rg B w r ks) (hl : ks.length ≤ 1000000) (s : List UInt8) (hs : s.length ≤ 140737488351232) (x : Nat) (hf : findK ks (kidOf s) = some x) : Calls Tryz.prog 22 #[kpt r, .string ⟨s.toArray⟩] w fun e w' => e = .returned (.int .i64 80) ∧ Below w.heap.size w w' := by
  have HK := Lib.hid (newKey_any s hs w)
  have H := Lib.hid h
  have HF := Lib.hid hf
  clear h hf hs
  unfold kpt
  go_enter Tryz.func22, Tryz.ntmps22
  go_wp2_with fail
  refine HK.out.mono ?_
  rintro e w1 ⟨g, rfl, hg, hk, hb⟩
  have hfi := find_any (H.out.below hb) hl (kidOf s)
  rw [HF.out] at hfi
  unfold kpt fV at hfi
  have c1 := hk.cell 1
  unfold keyC at c1
  simp only [List.getElem?_toArray, List.getElem?_cons_succ, List.getElem?_cons_zero] at c1
  have HFI := Lib.hid hfi
  clear hfi hk HK
  go_wp2_with fail
  refine HFI.out.mono ?_
  rintro e w2 ⟨rfl, rfl⟩
  unfold kpt
  go_wp2_with fail
  go_returns
  exact ⟨rfl, hb⟩
set_option maxHeartbeats 8000000 in
theorem turn_new {B : Nat} {w : World} {r : Nat} {ks : List (Nat × List UInt8)} (h : Rg B w r ks) (hB : B ≤ w.heap.size) (hr : B ≤ r) (hl : ks.length < 8) (s : List UInt8) (hs : s.length ≤ 140737488351232) (hf : findK ks (kidOf s) = none) : Calls Tryz.prog 22 #[kpt r, .string ⟨s.toArray⟩] w fun e w' => e = .returned (.int .i64 0) ∧ ∃ g, Rg B w' r (ks ++ [(g, s)]) ∧ Below B w w' := by
  have HK := Lib.hid (newKey_any s hs w)
  have H := Lib.hid h
  have HF := Lib.hid hf
  have HBR := Lib.hid (And.intro hB hr)
  clear h hf hs hB hr
  unfold kpt
  go_enter Tryz.func22, Tryz.ntmps22
  go_wp2_with fail
  refine HK.out.mono ?_
  rintro e w1 ⟨g, rfl, hg, hk, hb⟩
  have H1 := H.out.below hb
  have hfi := find_any H1 (by omega) (kidOf s)
  rw [HF.out] at hfi
  unfold kpt fV at hfi
  have c1 := hk.cell 1
  unfold keyC at c1
  simp only [List.getElem?_toArray, List.getElem?_cons_succ, List.getElem?_cons_zero] at c1
  have HFI := Lib.hid hfi
  have HKK := Lib.hid hk
  obtain ⟨a, c, h1, h2, h3⟩ := H1
  have HH := Lib.hid (And.intro h1 (And.intro h2 h3))
  have c0 : w1.cell? ⟨r, 0, none⟩ = some (.slice (some ⟨a, 0, none⟩) ks.length c) := h1.cell 0
  have h8 : ((ks.length : Int) == 8) = false := by simp; omega
  clear hfi hk HK H h1 h2 h3
  go_wp2_with fail
  refine HFI.out.mono ?_
  rintro e w2 ⟨rfl, rfl⟩
  go_wp2_with (at_builtin; refine appk g _ _ rfl rfl rfl rfl HH.out.2.1 (Nat.le_trans HBR.out.1 hb.size) (by omega) ?_; intro v' w3 hv hG; obtain ⟨a2, c2, hv2⟩ := own_slice hv; subst hv2; have hr3 := ring_keep HH.out.1 HH.out.2.1 hG; have d0 := hr3.cell 0; have f0 := hr3.fro 0; have HV := Lib.hid hv; have HG := Lib.hid hG; clear hv hG hr3 c0 c1)
  go_returns
  refine ⟨rfl, g, Rg.push HH.out.1 HH.out.2.1 HH.out.2.2 HKK.out HV.out HG.out HBR.out.2, ?_⟩
  have hb3 : Below B w w3 := ((hb.mono HBR.out.1).alloc (Nat.le_trans HBR.out.1 hb.size) _).grown HG.out (by have := hb.size; have := HBR.out.1; simp; omega) (fun q hq => (World.ownsRow.lt HH.out.2.1 q hq).1)
  exact hb3.setCell (p := ⟨r, 0, none⟩) HBR.out.2 _
end Go.Proofs.YtpggkfdijmnmiaaGreat
