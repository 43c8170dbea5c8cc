/- A key as one block. Condition: at most 2^48 bytes. Macs. Condition: at most 2^47 bytes each. What sign's newKey lays: the key of a seed. Condition: at most 2^47 - 4096 bytes. A ring in memory; what find and newest answer. Condition: the ring's keys. What NewRing and Mac answer. Condition: at most 2^47 - 4096 bytes. What Turn answers and leaves. Condition: the ring; at most 2^47 - 4096 bytes. What  -/
import Derived.Lib.SlBuf
import Derived.Lib.BufferWrite
import Derived.Test.YtpggkfdijmnmiaaGreatZup15
import Derived.Test.YtpggkfdijmnmiaaGreatZup13
import Derived.Test.YtpggkfdijmnmiaaGreatZup04
import Derived.Deep.QuietTactic
import Derived.BigQuiet
import Derived.Test.YtpggkfdijmnmiaaGreatZup14
set_option linter.unusedVariables false
set_option linter.unusedSimpArgs false
set_option maxRecDepth 100000
namespace Go.Proofs.YtpggkfdijmnmiaaGreat.Hs
open Go.RowKit Go.Sort
theorem sum_length (s : List UInt8) : (sumL s).length = 32 := by
  unfold sumL
  rw [textL_length, thr_length _ _ _ rfl]
theorem fill_length (key : List UInt8) : (fillL key).length = 64 := by
  unfold fillL
  by_cases h : 64 < key.length
  · rw [if_pos h, List.length_append, sum_length, List.length_replicate]
  · rw [if_neg h, List.length_append, List.length_replicate]; omega
theorem s5 : (Tryz.prog.info? 5).map (·.size) = some 1 := by kernel_rfl
theorem copy_fill (K : List UInt8) (n : Nat) : ((bs (List.replicate n 0)).toList.take 0 ++ Lib.byteCells K ++ (bs (List.replicate n 0)).toList.drop (0 + K.length)).toArray = bs (K ++ List.replicate (n - K.length) 0) := by
  simp [bs, Lib.byteCells]
set_option maxHeartbeats 4000000 in
set_option maxRecDepth 100000 in
theorem fill_short (key : List UInt8) (h : key.length ≤ 64) (w : World) :
    Calls Tryz.prog 90 #[.string ⟨key.toArray⟩] w fun e w' => e = .returned (.agg (bs (key ++ List.replicate (64 - (key).length) 0))) ∧ Below w.heap.size w w' := by
  have hsz := size_ba key
  have hl : ¬ (64 < key.length) := by omega
  have HKL := Lib.hid h
  go_enter Tryz.func90, Tryz.ntmps90
  go_upto_region 4 with (fail)
  generalize hw2 : World.alloc _ _ = w2
  have HK2 : Hid (w2.heap[w.heap.size + 1]? = some (.cells (bs (List.replicate 64 0)) 129 (0, 0))) := Lib.hid (by rw [← hw2]; exact (alloc2b w _ _).trans (by kernel_rfl))
  have HR2 : Hid (∃ old : Array Value, w2.heap[w.heap.size]? = some (.cells old 129 (0, 0)) ∧ old.size = 64) := Lib.hid ⟨_, by rw [← hw2]; exact alloc2a w _ _, by rfl⟩
  have HB2 : Hid (Below w.heap.size w w2) := Lib.hid (by rw [← hw2]; exact ((Below.refl _ _).alloc (Nat.le_refl _) _).alloc (by simp) _)
  have HLT : Hid (w.heap.size < w.heap.size + 1) := Lib.hid (by omega)
  clear hw2
  have HC := Lib.hid (Lib.run_copy_row_string (P := Tryz.prog) w2 101 9 3 5 (w.heap.size + 1) 0 64 64 ⟨(key).toArray⟩ (bs (List.replicate 64 0)) 129 Tryz.underlying101 s5 HK2.out (by rw [size_ba]; exact HKL.out) (by rw [size_ba, bs_size, List.length_replicate]; have := HKL.out; omega))
  rw [show (⟨(key).toArray⟩ : ByteArray).data.toList = key from rfl, size_ba, copy_fill (key) 64] at HC
  have HF : Hid ((key ++ List.replicate (64 - (key).length) (0 : UInt8)).length = 64) := Lib.hid (by rw [List.length_append, List.length_replicate]; have := HKL.out; omega)
  generalize hf : key ++ List.replicate (64 - (key).length) (0 : UInt8) = f at HC HF
  have HFE := Lib.hid hf
  clear hf
  go_wp2_with fail
  rw [HC.out]
  simp only [Result.andThen]
  rw [Oper.upon_value]
  have HK3 : Hid ((w2.setRow (w.heap.size + 1) (bs f)).heap[w.heap.size + 1]? = some (.cells (bs f) 129 (0, 0))) := Lib.hid (setRow_put HK2.out)
  obtain ⟨old, ho1, ho2⟩ := HR2.out
  have HO1 : Hid ((w2.setRow (w.heap.size + 1) (bs f)).heap[w.heap.size]? = some (.cells old 129 (0, 0))) := Lib.hid ((setRow_other _ _ _ _ (by have := HLT.out; omega)).trans ho1)
  have HO2 := Lib.hid (show old.size = (bs f).size from by rw [bs_size, HF.out]; exact ho2)
  have HB3 := Lib.hid (setRow_below (cs := bs f) HB2.out (Nat.le_of_lt HLT.out))
  clear HC HR2 HK2 HB2 ho1 ho2
  generalize w2.setRow (w.heap.size + 1) (bs f) = w3 at HK3 HO1 HB3 ⊢
  go_wp2_with (first
    | (refine wpList_load_row rfl 129 (.tmp 3) rfl (w.heap.size + 1) rfl 129 (bs f) (0, 0) _ HK3.out u46 rfl (i46 _ HF.out) ?_)
    | (refine wpList_store_row rfl 129 (.tmp 2) (.tmp 12) rfl w.heap.size (bs f) rfl rfl 129 old HO1.out (i46 _ HF.out) HO2.out (bs_one _) ?_))
  exact bodyPost_ret (v := .agg (bs f)) (results_cell_row (p := 2) (ty := 129) rfl _ _ w.heap.size 129 (bs f) (0, 0) _ rfl (setRow_put HO1.out) u46 rfl (i46 _ HF.out)) rfl ⟨by rw [HFE.out], setRow_below HB3.out (Nat.le_refl _)⟩
set_option maxHeartbeats 4000000 in
set_option maxRecDepth 100000 in
theorem fill_long (key : List UInt8) (h : 64 < key.length) (hs : key.length ≤ 281474976710656) (w : World) :
    Calls Tryz.prog 90 #[.string ⟨key.toArray⟩] w fun e w' => e = .returned (.agg (bs (sumL key ++ List.replicate (64 - (sumL key).length) 0))) ∧ Below w.heap.size w w' := by
  have hsz := size_ba key
  have HS := Lib.hid (sum_any key hs)
  have HKL : Hid ((sumL key).length ≤ 64) := Lib.hid (by rw [sum_length]; omega)
  clear hs
  go_enter Tryz.func90, Tryz.ntmps90
  go_wp2_with fail
  generalize hw0 : World.alloc w _ = w0
  have HR0 : Hid (∃ old : Array Value, w0.heap[w.heap.size]? = some (.cells old 129 (0, 0)) ∧ old.size = 64) := Lib.hid ⟨_, by rw [← hw0]; exact Go.heap_alloc_new w _, by rfl⟩
  have HB0 : Hid (Below w.heap.size w w0) := Lib.hid (by rw [← hw0]; exact (Below.refl _ _).alloc (Nat.le_refl _) _)
  have HZ0 : Hid (w.heap.size < w0.heap.size) := Lib.hid (by rw [← hw0]; simp)
  clear hw0
  refine (HS.out _).mono ?_
  rintro e w1 ⟨rfl, b1⟩
  have HR1 : Hid (∃ old : Array Value, w1.heap[w.heap.size]? = some (.cells old 129 (0, 0)) ∧ old.size = 64) := Lib.hid (by
    obtain ⟨old, h1, h2⟩ := HR0.out
    exact ⟨old, (b1.block _ HZ0.out).trans h1, h2⟩)
  have HB1 := Lib.hid (HB0.out.trans (b1.mono HB0.out.size))
  have HZ1 := Lib.hid (Nat.lt_of_lt_of_le HZ0.out b1.size)
  clear b1 HS HR0 HB0 HZ0
  go_upto_region 4 with (fail)
  generalize hw2 : World.alloc _ _ = w2
  have HK2 : Hid (w2.heap[w1.heap.size]? = some (.cells (bs (List.replicate 64 0)) 129 (0, 0))) := Lib.hid (by rw [← hw2]; exact (Go.heap_alloc_new w1 _).trans (by kernel_rfl))
  have HR2 : Hid (∃ old : Array Value, w2.heap[w.heap.size]? = some (.cells old 129 (0, 0)) ∧ old.size = 64) := Lib.hid (by
    obtain ⟨old, h1, h2⟩ := HR1.out
    exact ⟨old, by rw [← hw2, Lib.alloc_old _ _ _ HZ1.out]; exact h1, h2⟩)
  have HB2 : Hid (Below w.heap.size w w2) := Lib.hid (by rw [← hw2]; exact HB1.out.alloc (Nat.le_of_lt HZ1.out) _)
  have HLT : Hid (w.heap.size < w1.heap.size) := Lib.hid HZ1.out
  clear hw2
  have HC := Lib.hid (Lib.run_copy_row_string (P := Tryz.prog) w2 101 9 3 5 (w1.heap.size) 0 64 64 ⟨(sumL key).toArray⟩ (bs (List.replicate 64 0)) 129 Tryz.underlying101 s5 HK2.out (by rw [size_ba]; exact HKL.out) (by rw [size_ba, bs_size, List.length_replicate]; have := HKL.out; omega))
  rw [show (⟨(sumL key).toArray⟩ : ByteArray).data.toList = sumL key from rfl, size_ba, copy_fill (sumL key) 64] at HC
  have HF : Hid ((sumL key ++ List.replicate (64 - (sumL key).length) (0 : UInt8)).length = 64) := Lib.hid (by rw [List.length_append, List.length_replicate]; have := HKL.out; omega)
  generalize hf : sumL key ++ List.replicate (64 - (sumL key).length) (0 : UInt8) = f at HC HF
  have HFE := Lib.hid hf
  clear hf
  go_wp2_with fail
  rw [HC.out]
  simp only [Result.andThen]
  rw [Oper.upon_value]
  have HK3 : Hid ((w2.setRow (w1.heap.size) (bs f)).heap[w1.heap.size]? = some (.cells (bs f) 129 (0, 0))) := Lib.hid (setRow_put HK2.out)
  obtain ⟨old, ho1, ho2⟩ := HR2.out
  have HO1 : Hid ((w2.setRow (w1.heap.size) (bs f)).heap[w.heap.size]? = some (.cells old 129 (0, 0))) := Lib.hid ((setRow_other _ _ _ _ (by have := HLT.out; omega)).trans ho1)
  have HO2 := Lib.hid (show old.size = (bs f).size from by rw [bs_size, HF.out]; exact ho2)
  have HB3 := Lib.hid (setRow_below (cs := bs f) HB2.out (Nat.le_of_lt HLT.out))
  clear HC HR2 HK2 HB2 ho1 ho2
  generalize w2.setRow (w1.heap.size) (bs f) = w3 at HK3 HO1 HB3 ⊢
  go_wp2_with (first
    | (refine wpList_load_row rfl 129 (.tmp 3) rfl (w1.heap.size) rfl 129 (bs f) (0, 0) _ HK3.out u46 rfl (i46 _ HF.out) ?_)
    | (refine wpList_store_row rfl 129 (.tmp 2) (.tmp 12) rfl w.heap.size (bs f) rfl rfl 129 old HO1.out (i46 _ HF.out) HO2.out (bs_one _) ?_))
  exact bodyPost_ret (v := .agg (bs f)) (results_cell_row (p := 2) (ty := 129) rfl _ _ w.heap.size 129 (bs f) (0, 0) _ rfl (setRow_put HO1.out) u46 rfl (i46 _ HF.out)) rfl ⟨by rw [HFE.out], setRow_below HB3.out (Nat.le_refl _)⟩
theorem fill_any (key : List UInt8) (hs : key.length ≤ 281474976710656) (w : World) :
    Calls Tryz.prog 90 #[.string ⟨key.toArray⟩] w fun e w' => e = .returned (.agg (bs (fillL key))) ∧ Below w.heap.size w w' := by
  unfold fillL
  by_cases h : 64 < key.length
  · rw [if_pos h]; exact fill_long key h hs w
  · rw [if_neg h]; exact fill_short key (by omega) w
theorem turned_length (k : List UInt8) (c : UInt8) : (turnedL k c).length = k.length := by simp [turnedL]
theorem mac_length (k s : List UInt8) : (macK k s).length = 32 := sum_length _
set_option maxHeartbeats 4000000 in
set_option maxRecDepth 100000 in
theorem macK_any (k : List UInt8) (hk : k.length = 64) (s : List UInt8) (hs : s.length ≤ 140737488355392) (w : World) :
    Calls Tryz.prog 89 #[.agg (bs k), .string ⟨s.toArray⟩] w fun e w' => e = .returned (.string ⟨(macK k s).toArray⟩) ∧ Below w.heap.size w w' := by
  have HK := Lib.hid (Go.heap_alloc_new w (.cells (bs k) 129))
  have HI := Lib.hid (i46 k hk)
  have HA := Lib.hid (rg (w := w.alloc (.cells (bs k) 129)) (turned_any k hk 92))
  have HB := Lib.hid (rg (w := w.alloc (.cells (bs k) 129)) (turned_any k hk 54))
  have HC := Lib.hid (rg (w := w.alloc (.cells (bs k) 129)) (sum_any (turnedL k 54 ++ s) (by rw [List.length_append, turned_length]; omega)))
  have HD := Lib.hid (rg (w := w.alloc (.cells (bs k) 129)) (sum_any (turnedL k 92 ++ sumL (turnedL k 54 ++ s)) (by rw [List.length_append, turned_length, sum_length]; omega)))
  have HM : Hid (macK k s = sumL (turnedL k 92 ++ sumL (turnedL k 54 ++ s))) := Lib.hid rfl
  have a1 := app_ba (turnedL k 54) s
  have a2 := app_ba (turnedL k 92) (sumL (turnedL k 54 ++ s))
  have l1 : (turnedL k 54).length ≤ 64 := by rw [turned_length]; omega
  have l2 : (turnedL k 92).length ≤ 64 := by rw [turned_length]; omega
  have l3 : (sumL (turnedL k 54 ++ s)).length ≤ 32 := by rw [sum_length]; omega
  rw [← HM.out] at HD
  clear HM
  have HBW : Hid (Below w.heap.size w (w.alloc (.cells (bs k) 129))) := Lib.hid ((Below.refl _ _).alloc (Nat.le_refl _) _)
  generalize turnedL k 92 ++ sumL (turnedL k 54 ++ s) = x2 at a2 HD
  generalize sumL (turnedL k 54 ++ s) = m1 at a2 HC l3
  generalize turnedL k 54 ++ s = x1 at a1 HC
  generalize turnedL k 54 = t1 at a1 HB l1
  generalize turnedL k 92 = t2 at a2 HA l2
  clear hk
  go_enter Tryz.func89, Tryz.ntmps89
  go_wp2_with fail
  generalize w.alloc (.cells (bs k) 129) = w0 at HK HA HB HC HD HBW ⊢
  refine wp_region_quiet_below mixed (by kernel_rfl) ?_
  refine wpQuiet_load_row rfl 129 (.tmp 2) rfl w.heap.size rfl 129 (bs k) (0, 0) _ (fun w' hw' => heap_regrown HK.out hw') u46 rfl HI.out ?_
  quiet_step (exact HA.out _ _)
  refine wpQuiet_load_row rfl 129 (.tmp 2) rfl w.heap.size rfl 129 (bs k) (0, 0) _ (fun w' hw' => heap_regrown HK.out hw') u46 rfl HI.out ?_
  quiet_step (exact HB.out _ _)
  iterate 2 go_big_quiet_step (exact HC.out _ _)
  go_big_quiet_step (exact HC.out _ _)
  iterate 2 go_big_quiet_step (exact HD.out _ _)
  go_big_quiet_step (exact HD.out _ _)
  refine wpQuiet_nil ?_
  intro _ hw'
  obtain ⟨⟨dq, osq⟩, hw''⟩ := hw'
  subst hw''
  have HQ := Lib.hid (HBW.out.trans ((below_regrown w0 dq osq).mono HBW.out.size))
  generalize grow (redrawn w0 dq) osq = wq at HQ ⊢
  clear HA HB HC HD HK HBW
  go_wp2_with fail
  go_ret
  exact ⟨rfl, HQ.out⟩
theorem Mac_any (key s : List UInt8) (hk : key.length ≤ 281474976710656) (hs : s.length ≤ 140737488355392) (w : World) :
    Calls Tryz.prog 39 #[.string ⟨key.toArray⟩, .string ⟨s.toArray⟩] w fun e w' => e = .returned (.string ⟨(macL key s).toArray⟩) ∧ Below w.heap.size w w' := by
  have HA := Lib.hid (fill_any key hk)
  have HB := Lib.hid (macK_any (fillL key) (fill_length key) s hs)
  have HM : Hid (macL key s = macK (fillL key) s) := Lib.hid rfl
  rw [← HM.out] at HB
  clear HM hk hs
  generalize fillL key = k at HA HB
  go_enter Tryz.func39, Tryz.ntmps39
  go_wp2_with fail
  refine (HA.out _).mono ?_
  rintro e w1 ⟨rfl, b1⟩
  go_wp2_with fail
  refine (HB.out _).mono ?_
  rintro e w2 ⟨rfl, b2⟩
  go_wp2_with fail
  go_ret
  exact ⟨rfl, b1.trans (b2.mono b1.size)⟩
end Go.Proofs.YtpggkfdijmnmiaaGreat.Hs
namespace Go.Proofs.YtpggkfdijmnmiaaGreat
open Go.RowKit Limbs
def kidOf (s : List UInt8) : List UInt8 := Hs.b64L ((Hs.macL [107, 105, 100] s).take 9)
def macOf (s : List UInt8) : List UInt8 := Hs.macL [109, 97, 99] s
def privAt (s : List UInt8) : Nat := if bv s % mN = 0 then 1 else bv s % mN
def privOf (s : List UInt8) : Nat := privAt (Hs.macL [107, 101, 121] s)
theorem macL_len (k s : List UInt8) : (Hs.macL k s).length = 32 := Hs.mac_length _ _
theorem sclone_any (l : List UInt8) (w : World) (h : l.length ≤ 281474976710656) :
    Calls Tryz.prog 79 #[.string ⟨l.toArray⟩] w fun e w' => e = .returned (.string ⟨l.toArray⟩) ∧ Below w.heap.size w w' := by
  go_enter Tryz.func79, Tryz.ntmps79
  go_wp2_with (fail)
  refine (Tryz.stringslite_Clone ⟨l.toArray⟩ w (by show l.toArray.size ≤ _; simpa using h)).mono ?_
  rintro e w1 ⟨rfl, b1⟩
  go_wp2
  go_ret
  exact ⟨rfl, b1⟩
set_option maxHeartbeats 8000000 in
theorem priv_any (s : List UInt8) (hs : s.length ≤ 140737488351232) (w : World) : Calls Tryz.prog 135 #[.string ⟨s.toArray⟩] w fun e w' => e = .returned (nv (privAt s)) ∧ Below w.heap.size w w' := by
  have hr := reduce_any 1 s hs
  rw [show md 1 = mN by unfold md; rw [if_neg (by decide)]] at hr
  have hlt : bv s % mN < W256 := Nat.lt_trans (Nat.mod_lt _ (by decide)) (show mN < W256 by decide)
  obtain ⟨r, hre⟩ : ∃ r, r = bv s % mN := ⟨_, rfl⟩
  have hpv : privAt s = if r = 0 then 1 else r := by rw [hre]; rfl
  rw [hpv]
  rw [← hre] at hr hlt
  have HR := Lib.hid hr
  have HZ : Hid (∀ w, (Op.equalIn 10000 24 (.agg #[.int .u64 (lb r 0 : Nat), .int .u64 (lb r 1 : Nat), .int .u64 (lb r 2 : Nat), .int .u64 (lb r 3 : Nat)]) (.agg #[.int .u64 0, .int .u64 0, .int .u64 0, .int .u64 0])).run Tryz.prog w = .ok (decide (r = 0)) w) := Lib.hid fun w => eqN r 0 hlt (by decide) w
  clear hr hre hlt hpv hs
  have h1 : nv 1 = .agg #[.int .u64 1, .int .u64 0, .int .u64 0, .int .u64 0] := rfl
  have hz := HZ.out
  by_cases h0 : r = 0
  · rw [decide_eq_true h0] at hz
    rw [if_pos h0, h1]
    clear h0
    simp only [nv, num] at HR
    go_enter Tryz.func135, Tryz.ntmps135
    go_wp2_with fail
    refine (keep w.heap.size w (HR.out _) (by go_grown) (Nat.le_refl _)).mono ?_
    rintro e w1 ⟨rfl, hb, hk⟩
    have KR : Bk 24 w1 w.heap.size cs0 := Bk.below (Bk.new rfl) hk
    obtain ⟨f0, f1, f2, f3⟩ := KR.frosA
    obtain ⟨j0, j1, j2, j3⟩ := KR.cellsA
    go_wp2_with fail
    refine ret_cell rfl w.heap.size 1 rfl (Bk.put KR.alloc) rfl ⟨by rw [h1], ?_⟩
    have hs := hb.size
    go_grown
  · rw [decide_eq_false h0] at hz
    rw [if_neg h0]
    clear h0
    simp only [nv, num] at HR ⊢
    go_enter Tryz.func135, Tryz.ntmps135
    go_wp2_with fail
    refine (keep w.heap.size w (HR.out _) (by go_grown) (Nat.le_refl _)).mono ?_
    rintro e w1 ⟨rfl, hb, hk⟩
    have KR : Bk 24 w1 w.heap.size cs0 := Bk.below (Bk.new rfl) hk
    obtain ⟨f0, f1, f2, f3⟩ := KR.frosA
    obtain ⟨j0, j1, j2, j3⟩ := KR.cellsA
    go_wp2_with fail
    refine ret_cell rfl w.heap.size r rfl (Bk.put KR.alloc) rfl ⟨rfl, ?_⟩
    have hs := hb.size
    go_grown
theorem bthen {w w1 w2 : World} (h : Below w.heap.size w w1) (h2 : Below w1.heap.size w1 w2) : Below w.heap.size w w2 := h.trans (h2.mono h.size)
theorem ba_take (l : List UInt8) (n : Nat) : (⟨l.toArray⟩ : ByteArray).extract 0 n = ⟨(l.take n).toArray⟩ := by
  apply ByteArray.ext
  simp [ByteArray.data_extract]
def keyC (s : List UInt8) : Array Value := #[.string ⟨s.toArray⟩, .string ⟨(kidOf s).toArray⟩, .string ⟨(macOf s).toArray⟩, .int .u64 (lb (privOf s) 0 : Nat), .int .u64 (lb (privOf s) 1 : Nat), .int .u64 (lb (privOf s) 2 : Nat), .int .u64 (lb (privOf s) 3 : Nat), .int .u32 0, .int .i32 0, .int .u32 0, .int .u64 0, .int .u64 0, .int .u64 0, .int .u64 0, .int .u64 0, .int .u64 0, .int .u64 0, .int .u64 0, .bool false]
set_option maxHeartbeats 8000000 in
theorem newKey_any (s : List UInt8) (hs : s.length ≤ 140737488351232) (w : World) : Calls Tryz.prog 74 #[.string ⟨s.toArray⟩] w fun e w' => ∃ g, e = .returned (.pointer (some ⟨g, 0, none⟩)) ∧ w.heap.size ≤ g ∧ Bk 121 w' g (keyC s) ∧ Below w.heap.size w w' := by
  have HC := Lib.hid (fun w => sclone_any s w (by omega))
  have HM1 := Lib.hid (fun w => Hs.Mac_any [107, 105, 100] s (by decide) (by omega) w)
  have HM2 := Lib.hid (fun w => Hs.Mac_any [109, 97, 99] s (by decide) (by omega) w)
  have HM3 := Lib.hid (fun w => Hs.Mac_any [107, 101, 121] s (by decide) (by omega) w)
  have HP := Lib.hid (priv_any (Hs.macL [107, 101, 121] s) (by rw [macL_len]; decide))
  have HB : Hid (∀ w, Calls Tryz.prog 134 #[.string ⟨((Hs.macL [107, 105, 100] s).take 9).toArray⟩] w fun e w' => e = .returned (.string ⟨(Hs.b64L ((Hs.macL [107, 105, 100] s).take 9)).toArray⟩) ∧ Below w.heap.size w w') := Lib.hid fun w => Hs.base64_any ⟨((Hs.macL [107, 105, 100] s).take 9).toArray⟩ w (by show ((Hs.macL [107, 105, 100] s).take 9).toArray.size ≤ _; simp [macL_len])
  have hl1 := macL_len [107, 105, 100] s
  obtain ⟨m1, hm1⟩ : ∃ m, m = Hs.macL [107, 105, 100] s := ⟨_, rfl⟩
  have hkid : kidOf s = Hs.b64L (m1.take 9) := by rw [hm1]; rfl
  have hmac : macOf s = Hs.macL [109, 97, 99] s := rfl
  have hprv : privOf s = privAt (Hs.macL [107, 101, 121] s) := rfl
  unfold keyC
  rw [hkid, hmac, hprv]
  rw [← hm1] at HM1 HB hl1
  generalize Hs.macL [109, 97, 99] s = m2 at *
  generalize Hs.macL [107, 101, 121] s = m3 at *
  generalize privAt m3 = pv at *
  clear hkid hmac hprv hm1 hs
  simp only [nv, num] at HP
  go_enter Tryz.func74, Tryz.ntmps74
  go_wp2_with fail
  refine (HC.out w).mono ?_
  rintro e w1 ⟨rfl, hb1⟩
  go_wp2_with fail
  refine (HM1.out w1).mono ?_
  rintro e w2 ⟨rfl, hb2⟩
  have hsz : (9 : Nat) ≤ m1.length := by rw [hl1]; decide
  go_wp2_with fail
  rw [ba_take]
  refine (HB.out w2).mono ?_
  rintro e w3 ⟨rfl, hb3⟩
  go_wp2_with fail
  refine (HM2.out w3).mono ?_
  rintro e w4 ⟨rfl, hb4⟩
  go_wp2_with fail
  refine (HM3.out w4).mono ?_
  rintro e w5 ⟨rfl, hb5⟩
  go_wp2_with fail
  refine (HP.out w5).mono ?_
  rintro e w6 ⟨rfl, hb6⟩
  have hb : Below w.heap.size w w6 := bthen (bthen (bthen (bthen (bthen hb1 hb2) hb3) hb4) hb5) hb6
  clear hb1 hb2 hb3 hb4 hb5 hb6
  go_wp2_with fail
  go_returns
  refine ⟨_, rfl, hb.size, Bk.new rfl, ?_⟩
  have hs := hb.size
  go_grown
def kpt (g : Nat) : Value := .pointer (some ⟨g, 0, none⟩)
def Rg (B : Nat) (w : World) (r : Nat) (ks : List (Nat × List UInt8)) : Prop :=
  ∃ a c, Bk 107 w r #[.slice (some ⟨a, 0, none⟩) ks.length c] ∧ w.ownsRow B 103 1 (.slice (some ⟨a, 0, none⟩) ks.length c) ks.length (ks.map fun k => kpt k.1) ∧ ∀ k ∈ ks, Bk 121 w k.1 (keyC k.2)
theorem own_below {B : Nat} {T : TypeId} {z n : Nat} {v : Value} {l : List Value} {w w' : World} (h : w.ownsRow B T z v n l) (hb : Below w.heap.size w w') : w'.ownsRow B T z v n l := by
  refine ⟨h.1, ?_⟩
  rcases h.2 with hn | ⟨g, cap, cur, hv, hg, hh, rest⟩
  · exact .inl hn
  · exact .inr ⟨g, cap, cur, hv, hg, (hb.block _ ((Array.getElem?_eq_some_iff.1 hh).1)).trans hh, rest⟩
theorem Rg.below {B : Nat} {w w' : World} {r : Nat} {ks : List (Nat × List UInt8)} (h : Rg B w r ks) (hb : Below w.heap.size w w') : Rg B w' r ks := by
  obtain ⟨a, c, h1, h2, h3⟩ := h
  exact ⟨a, c, h1.below hb, own_below h2 hb, fun k hk => (h3 k hk).below hb⟩
def findK : List (Nat × List UInt8) → List UInt8 → Option Nat
  | [], _ => none
  | k :: ks, n => if kidOf k.2 = n then some k.1 else findK ks n
def fV : Option Nat → Value
  | none => .pointer none
  | some g => kpt g
theorem findK_drop (n : List UInt8) : ∀ (ks : List (Nat × List UInt8)) (i : Nat), (∀ j (h : j < i) (h2 : j < ks.length), kidOf (ks[j]).2 ≠ n) → findK ks n = findK (ks.drop i) n
  | [], i, _ => by simp
  | k :: ks, 0, _ => rfl
  | k :: ks, i + 1, h => by
    have h0 := h 0 (by omega) (by simp)
    rw [findK, if_neg (show ¬ kidOf k.2 = n from h0), findK_drop n ks i (fun j hj h2 => h (j + 1) (by omega) (by simpa using h2))]
    rfl
set_option maxHeartbeats 8000000 in
theorem find_any {B : Nat} {w : World} {r : Nat} {ks : List (Nat × List UInt8)} (h : Rg B w r ks) (hl : ks.length ≤ 1000000) (n : List UInt8) : Calls Tryz.prog 75 #[kpt r, .string ⟨n.toArray⟩] w fun e w' => e = .returned (fV (findK ks n)) ∧ w = w' := by
  obtain ⟨a, c, h1, h2, h3⟩ := h
  have hc : w.cell? ⟨r, 0, none⟩ = some (.slice (some ⟨a, 0, none⟩) ks.length c) := h1.cell 0
  have HR := Lib.hid h2
  have HK := Lib.hid h3
  clear h1 h2 h3
  unfold kpt
  go_enter Tryz.func75, Tryz.ntmps75
  go_wp2_with fail
  go_loopw [12] (fun iv wr => ∃ i : Nat, i ≤ ks.length ∧ iv = .int .i64 (i : Int) ∧ wr = w ∧ ∀ j (h : j < i) (h2 : j < ks.length), kidOf (ks[j]).2 ≠ n) (fun iv _ => ks.length - (intOf iv).toNat)
  case atStart => exact ⟨0, Nat.zero_le _, rfl, rfl, fun j h => by omega⟩
  case round =>
    obtain ⟨i, hi, rfl, rfl, hne⟩ := hrel
    by_cases hlt : i < ks.length
    · obtain ⟨k, hk⟩ : ∃ k, ks[i]'hlt = k := ⟨_, rfl⟩
      have hkm : k ∈ ks := hk ▸ List.getElem_mem hlt
      have K1 := HK.out k hkm
      have c1 := K1.cell 1
      unfold keyC at c1
      simp only [List.getElem?_toArray, List.getElem?_cons_succ, List.getElem?_cons_zero] at c1
      have c0 : wr.cell? ⟨a, i, none⟩ = some (.pointer (some ⟨k.1, 0, none⟩)) := by
        have := HR.out.cells (g := a) rfl i (kpt k.1) (by rw [List.getElem?_map, List.getElem?_eq_getElem hlt, hk]; rfl)
        by_cases h0 : i = 0
        · subst h0; simpa [Addr.add, kpt] using this
        · simpa [Addr.add, h0, kpt] using this
      have hltI : (i : Int) < (ks.length : Int) := by omega
      have HNE := Lib.hid hne
      have HKI := Lib.hid hk
      clear hne hk K1
      by_cases hq : kidOf k.2 = n
      · have hb : (kidOf k.2 == n) = true := by simp [hq]
        have HF : Hid (findK ks n = some k.1) := Lib.hid (by rw [findK_drop n ks i HNE.out, List.drop_eq_getElem_cons hlt, HKI.out, findK, if_pos hq])
        clear hq
        go_wp2_with fail
        go_returns
        rw [HF.out]
        exact ⟨rfl, rfl⟩
      · have hb : (kidOf k.2 == n) = false := by simp [hq]
        have HQ := Lib.hid hq
        clear hq
        go_wp2_with fail
        go_roundw
        case rel => exact ⟨i + 1, by omega, by go_num, trivial, fun j hj h2 => by
          rcases Nat.lt_succ_iff_lt_or_eq.1 hj with h1 | rfl
          · exact HNE.out j h1 h2
          · rw [HKI.out]; exact HQ.out⟩
        case measure => simp [intOf]; omega
    · have hie : i = ks.length := by omega
      have hltI : decide ((i : Int) < (ks.length : Int)) = false := decide_eq_false (by omega)
      have HF : Hid (findK ks n = none) := Lib.hid (by rw [findK_drop n ks i hne, hie, List.drop_length]; rfl)
      clear hne
      go_wp2_with fail
      go_returns
      rw [HF.out]
      exact ⟨rfl, rfl⟩
theorem Rg.last {B : Nat} {w : World} {r : Nat} {ks : List (Nat × List UInt8)} {k : Nat × List UInt8} (h : Rg B w r (ks ++ [k])) : ∃ a c, w.cell? ⟨r, 0, none⟩ = some (.slice (some ⟨a, 0, none⟩) (ks.length + 1) c) ∧ w.cell? ⟨a, ks.length, none⟩ = some (.pointer (some ⟨k.1, 0, none⟩)) := by
  obtain ⟨a, c, h1, h2, h3⟩ := h
  rw [List.length_append] at h1 h2
  refine ⟨a, c, h1.cell 0, ?_⟩
  have := h2.cells (g := a) rfl ks.length (kpt k.1) (by simp)
  by_cases h0 : ks.length = 0
  · rw [h0] at this ⊢; simpa [Addr.add, kpt] using this
  · simpa [Addr.add, h0, kpt] using this
set_option maxHeartbeats 8000000 in
theorem newest_any {B : Nat} {w : World} {r : Nat} {ks : List (Nat × List UInt8)} {k : Nat × List UInt8} (h : Rg B w r (ks ++ [k])) (hl : ks.length ≤ 1000000) : Calls Tryz.prog 78 #[kpt r] w fun e w' => e = .returned (kpt k.1) ∧ Below w.heap.size w w' := by
  obtain ⟨a, c, c0, c1⟩ := h.last
  clear h
  generalize ks.length = m at *
  have hi1 : (m : Int) < ((m : Int) + 1) := by omega
  have hw : IntKind.i64.wrap ((m : Int) + 1 - 1) = (m : Int) := by rw [show (m : Int) + 1 - 1 = (m : Int) by omega]; exact IntWalk.i64_in _ (by omega)
  unfold kpt
  go_enter Tryz.func78, Tryz.ntmps78
  go_wp2_with fail
  go_quiet (fail)
  go_wp2_with fail
  go_returns
  exact ⟨rfl, rfl, rfl, rfl, Nat.le_refl _, fun _ _ => rfl⟩
set_option maxHeartbeats 8000000 in
theorem newRing_any (s : List UInt8) (hs : s.length ≤ 140737488351232) (w : World) : Calls Tryz.prog 21 #[.string ⟨s.toArray⟩] w fun e w' => ∃ r g, e = .returned (kpt r) ∧ Rg w.heap.size w' r [(g, s)] ∧ Below w.heap.size w w' ∧ w.heap.size ≤ r := by
  have HK := Lib.hid (newKey_any s hs w)
  clear hs
  go_enter Tryz.func21, Tryz.ntmps21
  go_wp2_with fail
  refine HK.out.mono ?_
  rintro e w1 ⟨g, rfl, hg, hk, hb⟩
  clear HK
  go_wp2_with fail
  go_returns
  have hbn : Below w1.heap.size w1 ((w1.alloc (.cells #[.pointer (some ⟨g, 0, none⟩)] 103)).alloc (.cells #[.slice (some ⟨w1.heap.size, 0, none⟩) 1 1] 107)) := by go_grown
  refine ⟨_, g, rfl, ⟨w1.heap.size, 1, Bk.new (by simp), ⟨rfl, .inr ⟨w1.heap.size, 1, #[.pointer (some ⟨g, 0, none⟩)], rfl, hb.size, Bk.alloc (Bk.new rfl), by simp, by unfold maxLen; omega, rfl, rfl⟩⟩, fun k hk2 => ?_⟩, hb.trans (hbn.mono hb.size), by have := hb.size; omega⟩
  rw [List.mem_singleton] at hk2
  subst hk2
  exact hk.below hbn
set_option maxHeartbeats 8000000 in
theorem rmac_any {B : Nat} {w : World} {r : Nat} {ks : List (Nat × List UInt8)} {k : Nat × List UInt8} (h : Rg B w r (ks ++ [k])) (hl : ks.length ≤ 1000000) (hk : k.2.length ≤ 140737488351232) (s : List UInt8) (hs : s.length ≤ 140737488351232) : Calls Tryz.prog 24 #[kpt r, .string ⟨s.toArray⟩] w fun e w' => e = .returned (.tuple #[.string ⟨(kidOf k.2).toArray⟩, .string ⟨(Hs.macL (macOf k.2) s).toArray⟩]) ∧ Below w.heap.size w w' := by
  have HN := Lib.hid (newest_any h hl)
  obtain ⟨a, c, h1, h2, h3⟩ := h
  have K1 := Lib.hid (h3 k (by simp))
  have hkl : (kidOf k.2).length ≤ 281474976710656 := by
    unfold kidOf
    have := Hs.enc_len ((Hs.macL [107, 105, 100] k.2).take 9) 0 0 (by decide)
    have h9 : ((Hs.macL [107, 105, 100] k.2).take 9).length ≤ 9 := by simp; omega
    unfold Hs.b64L
    omega
  have HC := Lib.hid (fun w => sclone_any (kidOf k.2) w hkl)
  have hml : (macOf k.2).length = 32 := macL_len _ _
  have HM := Lib.hid (fun w => Hs.Mac_any (macOf k.2) s (by omega) (by omega) w)
  clear h1 h2 h3 hkl hml hk hs
  unfold kpt at HN ⊢
  go_enter Tryz.func24, Tryz.ntmps24
  go_wp2_with fail
  refine HN.out.mono ?_
  rintro e w1 ⟨rfl, hb1⟩
  have K2 := K1.out.below hb1
  obtain ⟨g, sd⟩ := k
  have c1 := fun d os => (K2.regrown d os).cell 1
  have c2 := fun d os => (K2.regrown d os).cell 2
  unfold keyC at c1 c2
  simp only [List.getElem?_toArray, List.getElem?_cons_succ, List.getElem?_cons_zero] at c1 c2
  simp only at HC HM c1 c2 ⊢
  go_wp2_with fail
  refine wp_region_quiet_below mixed (by kernel_rfl) ?_
  repeat (first | go_big_quiet_step (first | exact qg HC.out | exact qg HM.out) | quiet_step (first | exact qg HC.out | exact qg HM.out))
  refine wpQuiet_nil ?_
  intro _ hw'
  obtain ⟨⟨dq, osq⟩, hw''⟩ := hw'
  subst hw''
  go_wp2_with fail
  go_returns
  exact ⟨rfl, hb1.trans ((below_regrown w1 dq osq).mono hb1.size)⟩
theorem infoKey : (Tryz.prog.info? 103).map (fun i => (i.zero, i.size, i.bytes)) = some (some (.pointer none), 1, 8) := by kernel_rfl
theorem appk {ops : Array Oper} {rest : List Oper} {o : Oper} {a : Act} {Q : Exit → Act → World → Prop} {w : World} {B : Nat} {v : Value} {n : Nat} {l : List Value} (g : Nat) (s x : Operand) (hgd : o.guard = none)
    (ho : o.op = .call { callee := .builtin .append, args := #[s, x], argTypes := #[105, 105] }) (hs : a.eval s = v) (hx : a.eval x = .slice (some ⟨w.heap.size, 0, none⟩) 1 1)
    (hI : w.ownsRow B 103 1 v n l) (hB : B ≤ w.heap.size) (hlen : n ≤ 1000000)
    (h : ∀ v' w', w'.ownsRow B 103 1 v' (n + 1) (l ++ [kpt g]) → (w.alloc (.cells #[kpt g] 103)).grownBy w' v.ownBlock → wpList Tryz.prog ops Q rest (a.put o.dst v') w') : wpList Tryz.prog ops Q (o :: rest) a (w.alloc (.cells #[kpt g] 103)) := by
  obtain ⟨i0, hi, hz0, hz1, hz2⟩ := info_parts infoKey
  refine wpList_append_own _ hgd s x 105 ho B 103 i0 (.pointer none) 1 8 Tryz.underlying105 hi hz0 hz1 hz2 rfl (by decide) v n _ hs (hI.alloc _) ⟨w.heap.size, 0, none⟩ 1 1 [kpt g] hx rfl (World.news_of_block (heap_alloc_new w _)) (by simp [Value.oneCell', kpt]) (by unfold maxLen; omega) (by omega) (by simp; omega) ?_
  intro v' w' h1 h2 _
  exact h v' w' h1 h2
theorem bk_ne {t u : TypeId} {w : World} {g h : Nat} {cs ds : Array Value} (a : Bk t w g cs) (b : Bk u w h ds) (hn : t ≠ u) : g ≠ h := fun e => by
  subst e
  have h2 := a.symm.trans b
  injection h2 with h3
  injection h3 with h4 h5
  exact hn h5
theorem own_slice {B n : Nat} {w : World} {v : Value} {l : List Value} {T : TypeId} {z : Nat} (h : w.ownsRow B T z v (n + 1) l) : ∃ a c, v = .slice (some ⟨a, 0, none⟩) (n + 1) c := by
  rcases h.2 with ⟨_, h0⟩ | ⟨g', cap, cur', hx, _⟩
  · omega
  · exact ⟨g', cap, hx⟩
theorem ring_keep {B : Nat} {w w2 : World} {r g a n c : Nat} {l : List Value} {v : Value} (h1 : Bk 107 w r #[v]) (h2 : w.ownsRow B 103 1 (.slice (some ⟨a, 0, none⟩) n c) n l) (hG : (w.alloc (.cells #[kpt g] 103)).grownBy w2 (some a)) : Bk 107 w2 r #[v] := by
  have ha : ∃ cur, Bk 103 w a cur := by
    rcases h2.2 with ⟨hx, _⟩ | ⟨g', cap, cur, hx, _, hh, _⟩
    · cases hx
    · cases hx
      exact ⟨cur, hh⟩
  obtain ⟨cur, ha⟩ := ha
  have hne := bk_ne h1 ha (by decide)
  have h' : Bk 107 (w.alloc (.cells #[kpt g] 103)) r #[v] := Bk.alloc h1
  exact (hG.block r (by have := (Array.getElem?_eq_some_iff.1 h1).1; simp; omega) (fun e => hne (by injection e))).trans h'
theorem Rg.push {B : Nat} {w w2 : World} {r g a c : Nat} {ks : List (Nat × List UInt8)} {s : List UInt8} {v' : Value} (h1 : Bk 107 w r #[.slice (some ⟨a, 0, none⟩) ks.length c]) (h2 : w.ownsRow B 103 1 (.slice (some ⟨a, 0, none⟩) ks.length c) ks.length (ks.map fun k => kpt k.1)) (h3 : ∀ k ∈ ks, Bk 121 w k.1 (keyC k.2)) (hg : Bk 121 w g (keyC s))
    (hv : w2.ownsRow B 103 1 v' (ks.length + 1) ((ks.map fun k => kpt k.1) ++ [kpt g])) (hG : (w.alloc (.cells #[kpt g] 103)).grownBy w2 (some a)) (hr : B ≤ r) :
    Rg B (w2.setCell ⟨r, 0, none⟩ v') r (ks ++ [(g, s)]) := by
  have ha : ∃ cur, Bk 103 w a cur := by
    rcases h2.2 with ⟨hx, _⟩ | ⟨g', cap, cur, hx, _, hh, _⟩
    · cases hx
    · cases hx
      exact ⟨cur, hh⟩
  obtain ⟨cur, ha⟩ := ha
  have hlt : ∀ {t : TypeId} {x : Nat} {cs : Array Value}, Bk t w x cs → x < (w.alloc (.cells #[kpt g] 103)).heap.size := fun h => by
    have := (Array.getElem?_eq_some_iff.1 h).1
    simp; omega
  have keep2 : ∀ {t : TypeId} {x : Nat} {cs : Array Value}, Bk t w x cs → x ≠ a → Bk t w2 x cs := fun {t x cs} h hne => by
    have h' : Bk t (w.alloc (.cells #[kpt g] 103)) x cs := Bk.alloc h
    exact (hG.block x (hlt h) (fun e => hne (by injection e))).trans h'
  have hR := keep2 h1 (bk_ne h1 ha (by decide))
  obtain ⟨a', c', rfl⟩ : ∃ a' c', v' = .slice (some ⟨a', 0, none⟩) (ks.length + 1) c' := by
    rcases hv.2 with ⟨_, h0⟩ | ⟨g', cap, cur', hx, _⟩
    · omega
    · exact ⟨g', cap, hx⟩
  have ha' : ∃ cur', Bk 103 w2 a' cur' := by
    rcases hv.2 with ⟨hx, _⟩ | ⟨g', cap, cur', hx, _, hh, _⟩
    · cases hx
    · cases hx
      exact ⟨cur', hh⟩
  obtain ⟨cur', ha'⟩ := ha'
  have hne : r ≠ a' := bk_ne hR ha' (by decide)
  refine ⟨a', c', ?_, ?_, fun k hk => ?_⟩
  · have := Bk.same (i := 0) (v := .slice (some ⟨a', 0, none⟩) (ks.length + 1) c') hR
    simpa using this
  · rw [List.length_append, List.map_append]
    refine ⟨hv.1, ?_⟩
    rcases hv.2 with ⟨hx, _⟩ | ⟨g', cap, cur2, hx, hb, hh, rest⟩
    · cases hx
    · cases hx
      exact .inr ⟨_, _, cur2, rfl, hb, (heap_setCell_other w2 _ a' _ (by simpa using Ne.symm hne)).trans hh, rest⟩
  · rw [List.mem_append, List.mem_singleton] at hk
    rcases hk with hk | rfl
    · exact Bk.oth (by simpa using bk_ne (h3 k hk) h1 (by decide)) (keep2 (h3 k hk) (bk_ne (h3 k hk) ha (by decide)))
    · exact Bk.oth (by simpa using bk_ne hg h1 (by decide)) (keep2 hg (bk_ne hg ha (by decide)))
set_option maxHeartbeats 8000000 in
theorem turn_there {B : Nat} {w : World} {r : Nat} {ks : List (Nat × List UInt8)} (h : Rg B w r ks) (hl : ks.length ≤ 1000000) (s : List UInt8) (hs : s.length ≤ 140737488351232) (x : Nat) (hf : findK ks (kidOf s) = some x) : Calls Tryz.prog 22 #[kpt r, .string ⟨s.toArray⟩] w fun e w' => e = .returned (.int .i64 80) ∧ Below w.heap.size w w' := by
  have HK := Lib.hid (newKey_any s hs w)
  have H := Lib.hid h
  have HF := Lib.hid hf
  clear h hf hs
  unfold kpt
  go_enter Tryz.func22, Tryz.ntmps22
  go_wp2_with fail
  refine HK.out.mono ?_
  rintro e w1 ⟨g, rfl, hg, hk, hb⟩
  have hfi := find_any (H.out.below hb) hl (kidOf s)
  rw [HF.out] at hfi
  unfold kpt fV at hfi
  have c1 := hk.cell 1
  unfold keyC at c1
  simp only [List.getElem?_toArray, List.getElem?_cons_succ, List.getElem?_cons_zero] at c1
  have HFI := Lib.hid hfi
  clear hfi hk HK
  go_wp2_with fail
  refine HFI.out.mono ?_
  rintro e w2 ⟨rfl, rfl⟩
  unfold kpt
  go_wp2_with fail
  go_returns
  exact ⟨rfl, hb⟩
set_option maxHeartbeats 8000000 in
theorem turn_new {B : Nat} {w : World} {r : Nat} {ks : List (Nat × List UInt8)} (h : Rg B w r ks) (hB : B ≤ w.heap.size) (hr : B ≤ r) (hl : ks.length < 8) (s : List UInt8) (hs : s.length ≤ 140737488351232) (hf : findK ks (kidOf s) = none) : Calls Tryz.prog 22 #[kpt r, .string ⟨s.toArray⟩] w fun e w' => e = .returned (.int .i64 0) ∧ ∃ g, Rg B w' r (ks ++ [(g, s)]) ∧ Below B w w' := by
  have HK := Lib.hid (newKey_any s hs w)
  have H := Lib.hid h
  have HF := Lib.hid hf
  have HBR := Lib.hid (And.intro hB hr)
  clear h hf hs hB hr
  unfold kpt
  go_enter Tryz.func22, Tryz.ntmps22
  go_wp2_with fail
  refine HK.out.mono ?_
  rintro e w1 ⟨g, rfl, hg, hk, hb⟩
  have H1 := H.out.below hb
  have hfi := find_any H1 (by omega) (kidOf s)
  rw [HF.out] at hfi
  unfold kpt fV at hfi
  have c1 := hk.cell 1
  unfold keyC at c1
  simp only [List.getElem?_toArray, List.getElem?_cons_succ, List.getElem?_cons_zero] at c1
  have HFI := Lib.hid hfi
  have HKK := Lib.hid hk
  obtain ⟨a, c, h1, h2, h3⟩ := H1
  have HH := Lib.hid (And.intro h1 (And.intro h2 h3))
  have c0 : w1.cell? ⟨r, 0, none⟩ = some (.slice (some ⟨a, 0, none⟩) ks.length c) := h1.cell 0
  have h8 : ((ks.length : Int) == 8) = false := by simp; omega
  clear hfi hk HK H h1 h2 h3
  go_wp2_with fail
  refine HFI.out.mono ?_
  rintro e w2 ⟨rfl, rfl⟩
  go_wp2_with (at_builtin; refine appk g _ _ rfl rfl rfl rfl HH.out.2.1 (Nat.le_trans HBR.out.1 hb.size) (by omega) ?_; intro v' w3 hv hG; obtain ⟨a2, c2, hv2⟩ := own_slice hv; subst hv2; have hr3 := ring_keep HH.out.1 HH.out.2.1 hG; have d0 := hr3.cell 0; have f0 := hr3.fro 0; have HV := Lib.hid hv; have HG := Lib.hid hG; clear hv hG hr3 c0 c1)
  go_returns
  refine ⟨rfl, g, Rg.push HH.out.1 HH.out.2.1 HH.out.2.2 HKK.out HV.out HG.out HBR.out.2, ?_⟩
  have hb3 : Below B w w3 := ((hb.mono HBR.out.1).alloc (Nat.le_trans HBR.out.1 hb.size) _).grown HG.out (by have := hb.size; have := HBR.out.1; simp; omega) (fun q hq => (World.ownsRow.lt HH.out.2.1 q hq).1)
  exact hb3.setCell (p := ⟨r, 0, none⟩) HBR.out.2 _
theorem infoStr : (Tryz.prog.info? 9).map (fun i => (i.zero, i.size, i.bytes)) = some (some (.string ⟨#[]⟩), 1, 16) := by kernel_rfl
theorem apps {ops : Array Oper} {rest : List Oper} {o : Oper} {a : Act} {Q : Exit → Act → World → Prop} {w : World} {B : Nat} {v : Value} {n : Nat} {l : List Value} (b : ByteArray) (s x : Operand) (hgd : o.guard = none)
    (ho : o.op = .call { callee := .builtin .append, args := #[s, x], argTypes := #[44, 44] }) (hs : a.eval s = v) (hx : a.eval x = .slice (some ⟨w.heap.size, 0, none⟩) 1 1)
    (hI : w.ownsRow B 9 1 v n l) (hB : B ≤ w.heap.size) (hlen : n ≤ 1000000)
    (h : ∀ v' w', w'.ownsRow B 9 1 v' (n + 1) (l ++ [.string b]) → (w.alloc (.cells #[.string b] 9)).grownBy w' v.ownBlock → wpList Tryz.prog ops Q rest (a.put o.dst v') w') : wpList Tryz.prog ops Q (o :: rest) a (w.alloc (.cells #[.string b] 9)) := by
  obtain ⟨i0, hi, hz0, hz1, hz2⟩ := info_parts infoStr
  refine wpList_append_own _ hgd s x 44 ho B 9 i0 (.string ⟨#[]⟩) 1 16 Tryz.underlying44 hi hz0 hz1 hz2 rfl (by decide) v n _ hs (hI.alloc _) ⟨w.heap.size, 0, none⟩ 1 1 [.string b] hx rfl (World.news_of_block (heap_alloc_new w _)) (by simp [Value.oneCell']) (by unfold maxLen; omega) (by omega) (by simp; omega) ?_
  intro v' w' h1 h2 _
  exact h v' w' h1 h2
set_option maxHeartbeats 8000000 in
theorem kid_any {w : World} {g : Nat} {s : List UInt8} (h : Bk 121 w g (keyC s)) : Calls Tryz.prog 85 #[kpt g] w fun e w' => e = .returned (.string ⟨(kidOf s).toArray⟩) ∧ w = w' := by
  have c1 := h.cell 1
  unfold keyC at c1
  simp only [List.getElem?_toArray, List.getElem?_cons_succ, List.getElem?_cons_zero] at c1
  unfold kpt
  go_enter Tryz.func85, Tryz.ntmps85
  go_wp2_with fail
  go_returns
  exact ⟨rfl, rfl⟩
def kidV (k : Nat × List UInt8) : Value := .string ⟨(kidOf k.2).toArray⟩
theorem kidOf_len (s : List UInt8) : (kidOf s).length ≤ 281474976710656 := by
  unfold kidOf
  have := Hs.enc_len ((Hs.macL [107, 105, 100] s).take 9) 0 0 (by decide)
  have h9 : ((Hs.macL [107, 105, 100] s).take 9).length ≤ 9 := by simp; omega
  unfold Hs.b64L
  omega
set_option maxHeartbeats 16000000 in
theorem each_any {B : Nat} {w : World} {r : Nat} {ks : List (Nat × List UInt8)} (h : Rg B w r ks) (hl : ks.length ≤ 8) (hn : ks ≠ []) : Calls Tryz.prog 84 #[kpt r, .func (.func 85) #[] #[]] w fun e w' => ∃ v, e = .returned v ∧ w'.ownsRow w.heap.size 9 1 v ks.length (ks.map kidV) ∧ Below w.heap.size w w' := by
  obtain ⟨a, c, h1, h2, h3⟩ := h
  have hc : w.cell? ⟨r, 0, none⟩ = some (.slice (some ⟨a, 0, none⟩) ks.length c) := h1.cell 0
  have HH := Lib.hid (And.intro h1 (And.intro h2 h3))
  clear h1 h2 h3
  have hpos : 0 < ks.length := List.length_pos_iff.2 hn
  obtain ⟨i0, hi, hz0, hz1, hz2⟩ := info_parts infoStr
  obtain ⟨wm, hmk, hown, hgr⟩ := run_makeSlice_owned (P := Tryz.prog) (w := w) w.heap.size 44 9 i0 (.string ⟨#[]⟩) 1 Tryz.underlying44 hi hz0 hz1 .i64 .i64 ks.length (by omega) (by rw [hz2]; omega) (by unfold maxLen; omega) (Nat.le_refl _)
  have hbm : Below w.heap.size w wm := ⟨hgr.os, hgr.tape, hgr.output, hgr.size, fun k hk => hgr.block k hk (fun e => by cases e)⟩
  have HM := Lib.hid (And.intro hown hbm)
  have hc2 : wm.cell? ⟨r, 0, none⟩ = some (.slice (some ⟨a, 0, none⟩) ks.length c) := (HH.out.1.below hbm).cell 0
  clear hi hz0 hz1 hz2 hown hgr hbm hpos
  unfold kpt
  go_enter Tryz.func84, Tryz.ntmps84
  go_wp2_with fail
  clear hmk hc
  go_loopw [5, 19] (fun sv iv wr => ∃ i : Nat, i ≤ ks.length ∧ iv = .int .i64 (i : Int) ∧ Hid (wr.ownsRow w.heap.size 9 1 sv i ((ks.take i).map kidV)) ∧ Hid (Below w.heap.size w wr)) (fun _ iv _ => ks.length - (intOf iv).toNat)
  case atStart => exact ⟨0, Nat.zero_le _, rfl, Lib.hid HM.out.1, Lib.hid HM.out.2⟩
  case round =>
    obtain ⟨i, hi, rfl, ho, hb⟩ := hrel
    clear hc2
    by_cases hlt : i < ks.length
    · obtain ⟨k, hk⟩ : ∃ k, ks[i]'hlt = k := ⟨_, rfl⟩
      have hkm : k ∈ ks := hk ▸ List.getElem_mem hlt
      have K1 := (HH.out.2.2 k hkm).below hb.out
      have c0 : wr.cell? ⟨a, i, none⟩ = some (.pointer (some ⟨k.1, 0, none⟩)) := by
        have := (own_below HH.out.2.1 hb.out).cells (g := a) rfl i (kpt k.1) (by rw [List.getElem?_map, List.getElem?_eq_getElem hlt, hk]; rfl)
        by_cases h0 : i = 0
        · subst h0; simpa [Addr.add, kpt] using this
        · simpa [Addr.add, h0, kpt] using this
      have hltI : (i : Int) < (ks.length : Int) := by omega
      have hkid := kid_any K1
      unfold kpt at hkid
      have HKD := Lib.hid hkid
      have HT : Hid ((ks.take (i + 1)).map kidV = (ks.take i).map kidV ++ [.string ⟨(kidOf k.2).toArray⟩]) := Lib.hid (by rw [List.take_add_one, List.getElem?_eq_getElem hlt, hk]; simp [kidV])
      clear hkid K1 hk hkm
      go_wp2_with fail
      refine HKD.out.mono ?_
      rintro e w1 ⟨rfl, rfl⟩
      go_wp2_with fail
      refine (sclone_any (kidOf k.2) _ (kidOf_len _)).mono ?_
      rintro e w2 ⟨rfl, hb2⟩
      have hb3 := hb.out.trans (hb2.mono hb.out.size)
      have ho2 := own_below ho.out hb2
      go_wp2_with (at_builtin; refine apps _ _ _ rfl rfl rfl rfl ho2 hb3.size (by omega) ?_; intro v' w3 hv hG; obtain ⟨a2, c2, hv2⟩ := own_slice hv; subst hv2; have HV := Lib.hid hv; have HG := Lib.hid hG; clear hv hG)
      go_roundw
      case rel => exact ⟨i + 1, by omega, by go_num, Lib.hid (by rw [HT.out]; exact HV.out), Lib.hid ((hb3.alloc hb3.size _).grown HG.out (by have := hb3.size; simp; omega) (fun q hq => (World.ownsRow.lt ho2 q hq).1))⟩
      case measure => simp [intOf]; omega
    · have hie : i = ks.length := by omega
      have hltI : decide ((i : Int) < (ks.length : Int)) = false := decide_eq_false (by omega)
      go_wp2_with fail
      go_returns
      refine ⟨_, rfl, ?_, hb.out⟩
      have := ho.out
      rw [hie, List.take_length] at this
      exact this
set_option maxHeartbeats 8000000 in
theorem kids_any {B : Nat} {w : World} {r : Nat} {ks : List (Nat × List UInt8)} (h : Rg B w r ks) (hl : ks.length ≤ 8) (hn : ks ≠ []) : Calls Tryz.prog 31 #[kpt r] w fun e w' => ∃ v, e = .returned v ∧ w'.ownsRow w.heap.size 9 1 v ks.length (ks.map kidV) ∧ Below w.heap.size w w' := by
  obtain ⟨a, c, h1, h2, h3⟩ := h
  have hc : w.cell? ⟨r, 0, none⟩ = some (.slice (some ⟨a, 0, none⟩) ks.length c) := h1.cell 0
  have HH := Lib.hid (And.intro h1 (And.intro h2 h3))
  clear h1 h2 h3
  have hpos : 0 < ks.length := List.length_pos_iff.2 hn
  have HE := Lib.hid (each_any ⟨a, c, HH.out.1, HH.out.2.1, HH.out.2.2⟩ hl hn)
  clear hpos hc HH
  unfold kpt at HE ⊢
  go_enter Tryz.func31, Tryz.ntmps31
  go_wp2_with fail
  refine HE.out.mono ?_
  rintro e w1 ⟨v, rfl, ho, hb⟩
  go_wp2_with fail
  go_returns
  exact ⟨_, rfl, ho, hb⟩
set_option maxHeartbeats 8000000 in
theorem vouch_none {B : Nat} {w : World} {r : Nat} {ks : List (Nat × List UInt8)} (h : Rg B w r ks) (hl : ks.length ≤ 1000000) (n : List UInt8) (s m : ByteArray) (hf : findK ks n = none) : Calls Tryz.prog 26 #[kpt r, .string ⟨n.toArray⟩, .string s, .string m] w fun e w' => e = .returned (.bool false) ∧ Below w.heap.size w w' := by
  have hfi := find_any h hl n
  rw [hf] at hfi
  unfold kpt fV at hfi
  have HF := Lib.hid hfi
  clear hfi h hf
  unfold kpt
  go_enter Tryz.func26, Tryz.ntmps26
  go_wp2_with fail
  refine HF.out.mono ?_
  rintro e w1 ⟨rfl, rfl⟩
  go_wp2_with fail
  go_returns
  exact ⟨rfl, Below.refl _ _⟩
set_option maxHeartbeats 8000000 in
theorem vouch_some {B : Nat} {w : World} {r : Nat} {ks : List (Nat × List UInt8)} (h : Rg B w r ks) (hl : ks.length ≤ 1000000) (n s m : List UInt8) (hs : s.length ≤ 140737488351232) (hm : m.length ≤ 140737488351232) (k : Nat × List UInt8) (hk : k ∈ ks) (hf : findK ks n = some k.1) : Calls Tryz.prog 26 #[kpt r, .string ⟨n.toArray⟩, .string ⟨s.toArray⟩, .string ⟨m.toArray⟩] w fun e w' => e = .returned (.bool (decide (Hs.macL (macOf k.2) s = m))) ∧ Below w.heap.size w w' := by
  have hfi := find_any h hl n
  rw [hf] at hfi
  unfold kpt fV kpt at hfi
  have HF := Lib.hid hfi
  obtain ⟨a, c, h1, h2, h3⟩ := h
  have c2 := (h3 k hk).cell 2
  unfold keyC at c2
  simp only [List.getElem?_toArray, List.getElem?_cons_succ, List.getElem?_cons_zero] at c2
  have hml : (macOf k.2).length = 32 := macL_len _ _
  have HM := Lib.hid (fun w => Hs.Mac_any (macOf k.2) s (by omega) (by omega) w)
  have HS := Lib.hid (fun w => Hs.same_any (Hs.macL (macOf k.2) s) m (by rw [macL_len]; decide) (by omega) w)
  clear hfi hf h1 h2 h3 hml hk hs hm
  unfold kpt
  go_enter Tryz.func26, Tryz.ntmps26
  go_wp2_with fail
  refine HF.out.mono ?_
  rintro e w1 ⟨rfl, rfl⟩
  go_wp2_with fail
  refine (HM.out _).mono ?_
  rintro e w2 ⟨rfl, hb2⟩
  go_wp2_with fail
  refine (HS.out _).mono ?_
  rintro e w3 ⟨rfl, rfl⟩
  go_wp2_with fail
  go_returns
  exact ⟨rfl, hb2⟩
set_option maxHeartbeats 8000000 in
theorem verify_empty (x y : Nat) (i : Bool) (s : ByteArray) (w : World) : Calls Tryz.prog 16 #[pn x y i, .string s, .string ⟨#[]⟩] w fun e w' => e = .returned (.bool false) ∧ Below w.heap.size w w' := by
  unfold pn
  go_enter Tryz.func16, Tryz.ntmps16
  go_wp2_with fail
  go_returns
  exact ⟨rfl, by go_grown⟩
end Go.Proofs.YtpggkfdijmnmiaaGreat
namespace Go.Proofs.YtpggkfdijmnmiaaGreat
open Go.RowKit Limbs Curve
theorem kid_ab : kidOf [97] ≠ kidOf [98] := by decide +kernel
theorem pub_one : pubOf 1 = G := by unfold pubOf; rw [mul_is (by decide) G_on, mul_one_p, (on_iff G_on).2.1]
theorem kid_b : kidOf [98] ≠ [] := by decide +kernel
theorem kid_a : kidOf [97] ≠ [] := by decide +kernel
end Go.Proofs.YtpggkfdijmnmiaaGreat
namespace Go.Proofs.YtpggkfdijmnmiaaGreat
open Go.RowKit Limbs
theorem nv1 : nv 1 = .agg #[.int .u64 1, .int .u64 0, .int .u64 0, .int .u64 0] := rfl
theorem nv0 : nv 0 = .agg #[.int .u64 0, .int .u64 0, .int .u64 0, .int .u64 0] := rfl
theorem hp1 : ∀ w, Calls Tryz.prog 11 #[.agg #[.int .u64 1, .int .u64 0, .int .u64 0, .int .u64 0]] w fun e w' => e = .returned (.tuple #[G.v, .int .i64 0]) ∧ Below w.heap.size w w' := fun w => by
  have h := public_yes 1 (by decide) w
  rw [pub_one, nv1] at h
  exact h
theorem hp0 : ∀ w, Calls Tryz.prog 11 #[.agg #[.int .u64 0, .int .u64 0, .int .u64 0, .int .u64 0]] w fun e w' => e = .returned (.tuple #[.agg #[.int .u64 0, .int .u64 0, .int .u64 0, .int .u64 0, .int .u64 0, .int .u64 0, .int .u64 0, .int .u64 0, .bool false], .int .i64 80]) ∧ Below w.heap.size w w' := fun w => by
  have h := public_no 0 (by decide) (by decide) w
  rw [nv0] at h
  exact h
theorem hsn : ∀ w, Calls Tryz.prog 14 #[nv mN, .string ⟨#[]⟩] w fun e w' => e = .returned (.tuple #[.string ⟨#[]⟩, .int .i64 80]) ∧ Below w.heap.size w w' := fun w => sign_no mN (by decide) (fun h => Nat.lt_irrefl _ h.2) _ w
theorem hmd : ∀ w, Calls Tryz.prog 47 #[.int .i64 1] w fun e w' => e = .returned (nv mN) ∧ Below w.heap.size w w' := fun w => by
  have h := mod_any 1 w
  rw [show md 1 = mN by unfold md; rw [if_neg (by decide)]] at h
  exact h
theorem find_a (g : Nat) : findK [(g, [97])] (kidOf [97]) = some g := by rw [findK, if_pos rfl]
theorem find_ab (g : Nat) : findK [(g, [97])] (kidOf [98]) = none := by rw [findK, if_neg kid_ab]; rfl
theorem find_b (g q : Nat) : findK [(g, [97]), (q, [98])] (kidOf [98]) = some q := by rw [findK, if_neg kid_ab, findK, if_pos rfl]
theorem find_no (g q : Nat) : findK [(g, [97]), (q, [98])] [] = none := by rw [findK, if_neg kid_a, findK, if_neg kid_b]; rfl
def g9 : Array Value := #[.int .u64 17627433388654248598, .int .u64 8575836109218198432, .int .u64 17923454489921339634, .int .u64 7716867327612699207, .int .u64 14678990851816772085, .int .u64 3156516839386865358, .int .u64 10297457778147434006, .int .u64 5756518291402817435, .bool false]
set_option maxHeartbeats 16000000 in
theorem fixed_any (w : World) : Calls Tryz.prog 13 #[] w fun e w' => e = .returned (.bool true) ∧ Below w.heap.size w w' := by
  have H1 := Lib.hid hp1
  have H0 := Lib.hid hp0
  have HS := Lib.hid hsn
  have HM := Lib.hid hmd
  rw [vG] at H1
  simp only [nv, num] at HS HM
  go_enter Tryz.func13, Tryz.ntmps13
  go_wp2_with fail
  refine (H1.out _).mono ?_
  rintro e w1 ⟨rfl, hb1⟩
  go_wp2_with fail
  have KG : Bk 26 (w1.alloc (.cells g9 26)) w1.heap.size g9 := Bk.new rfl
  have hbA : Below w.heap.size w (w1.alloc (.cells g9 26)) := by
    have hs := hb1.size
    go_grown
  unfold g9 at KG hbA
  generalize w1.heap.size = gp at KG ⊢
  generalize (w1.alloc (.cells #[.int .u64 17627433388654248598, .int .u64 8575836109218198432, .int .u64 17923454489921339634, .int .u64 7716867327612699207, .int .u64 14678990851816772085, .int .u64 3156516839386865358, .int .u64 10297457778147434006, .int .u64 5756518291402817435, .bool false] 26)) = wA at KG hbA ⊢
  clear hb1
  refine (H0.out wA).mono ?_
  rintro e w2 ⟨rfl, hb2⟩
  have KG2 := Lib.hid (KG.below hb2)
  have HB2 := Lib.hid (bthen hbA hb2)
  clear KG hbA hb2
  go_wp2_with fail
  refine (HM.out _).mono ?_
  rintro e w3 ⟨rfl, hb3⟩
  go_wp2_with fail
  refine (HS.out _).mono ?_
  rintro e w4 ⟨rfl, hb4⟩
  have hbz : Below w2.heap.size w2 w3 := Below.trans (show Below w2.heap.size w2 (w2.alloc _) by go_grown) (hb3.mono (by simp))
  have KG4 := Lib.hid ((KG2.out.below hbz).below hb4)
  have HB4 := Lib.hid (bthen (bthen HB2.out hbz) hb4)
  clear KG2 HB2 hbz hb3 hb4 H1 H0 HS HM
  have hnr := newRing_any [97] (by decide) w4
  have HNR := Lib.hid hnr
  clear hnr
  go_wp2_with fail
  refine HNR.out.mono ?_
  rintro e w5 ⟨r, g, rfl, hrg, hb5, hr5⟩
  have HG5 := Lib.hid hrg
  have HB5 := Lib.hid hb5
  have HR5 := Lib.hid hr5
  have htt : Calls Tryz.prog 22 #[.pointer (some ⟨r, 0, none⟩), .string ⟨#[97]⟩] w5 fun e w' => e = .returned (.int .i64 80) ∧ Below w5.heap.size w5 w' := turn_there hrg (by simp) [97] (by decide) g (find_a g)
  have HTT := Lib.hid htt
  clear htt hrg hb5 hr5 HNR
  unfold kpt
  go_wp2_with fail
  refine HTT.out.mono ?_
  rintro e w6 ⟨rfl, hb6⟩
  have HG6 := Lib.hid (HG5.out.below hb6)
  have HB6 := Lib.hid (bthen HB5.out hb6)
  have htn : Calls Tryz.prog 22 #[.pointer (some ⟨r, 0, none⟩), .string ⟨#[98]⟩] w6 fun e w' => e = .returned (.int .i64 0) ∧ ∃ q, Rg w4.heap.size w' r ([(g, [97])] ++ [(q, [98])]) ∧ Below w4.heap.size w6 w' := turn_new HG6.out HB6.out.size HR5.out (by simp) [98] (by decide) (find_ab g)
  have HTN := Lib.hid htn
  clear htn hb6 HTT HG5 HB5
  go_wp2_with fail
  refine HTN.out.mono ?_
  rintro e w7 ⟨rfl, q, hrg, hb7⟩
  have HG7 := Lib.hid hrg
  have HB7 := Lib.hid (HB6.out.trans hb7)
  have hki : Calls Tryz.prog 31 #[.pointer (some ⟨r, 0, none⟩)] w7 fun e w' => ∃ v, e = .returned v ∧ w'.ownsRow w7.heap.size 9 1 v 2 [kidV (g, [97]), kidV (q, [98])] ∧ Below w7.heap.size w7 w' := kids_any hrg (by simp) (by simp)
  have HKI := Lib.hid hki
  clear hki hrg hb7 HTN HG6 HB6
  go_wp2_with fail
  refine HKI.out.mono ?_
  rintro e w8 ⟨v, rfl, ho, hb8⟩
  obtain ⟨a8, c8, rfl⟩ := own_slice (n := 1) ho
  have HG8 := Lib.hid (HG7.out.below hb8)
  have HB8 := Lib.hid (bthen HB7.out hb8)
  have hmc : Calls Tryz.prog 24 #[.pointer (some ⟨r, 0, none⟩), .string ⟨#[115]⟩] w8 fun e w' => e = .returned (.tuple #[.string ⟨(kidOf [98]).toArray⟩, .string ⟨(Hs.macL (macOf [98]) [115]).toArray⟩]) ∧ Below w8.heap.size w8 w' := rmac_any (ks := [(g, [97])]) (k := (q, [98])) HG8.out (by simp) (show ([98] : List UInt8).length ≤ 140737488351232 by decide) [115] (by decide)
  have HMC := Lib.hid hmc
  clear hmc ho hb8 HKI HG7 HB7
  go_wp2_with fail
  refine HMC.out.mono ?_
  rintro e w9 ⟨rfl, hb9⟩
  have HG9 := Lib.hid (HG8.out.below hb9)
  have HB9 := Lib.hid (bthen HB8.out hb9)
  obtain ⟨mc, hmc⟩ : ∃ m, m = Hs.macL (macOf [98]) [115] := ⟨_, rfl⟩
  have HMC2 := Lib.hid hmc
  rw [← hmc]
  clear hmc hb9 HMC HG8 HB8
  obtain ⟨kd, hkd⟩ : ∃ m, m = kidOf [98] := ⟨_, rfl⟩
  have HKD := Lib.hid hkd
  rw [← hkd]
  clear hkd
  go_wp2_with fail
  refine Pl.tF (fun _ _ _ _ w' => Below w9.heap.size w9 w') gp r ⟨kd.toArray⟩ ⟨mc.toArray⟩ w9 ?c1 ?c19 ?c24 ?c29 ?lk ?hq ?w0 ?h
  case c1 =>
    intro w1 h
    refine (kBase w1).mono ?_
    rintro e w2 ⟨rfl, hb⟩
    exact ⟨rfl, bthen h hb⟩
  case c19 =>
    intro w1 h
    have := vouch_some (HG9.out.below h) (by simp) kd [115] mc (by decide) (by rw [HMC2.out, macL_len]; decide) (q, [98]) (by simp) (by rw [HKD.out]; exact find_b g q)
    refine this.mono ?_
    rintro e w2 ⟨rfl, hb⟩
    exact ⟨by rw [HMC2.out]; simp, bthen h hb⟩
  case c24 =>
    intro w1 h
    refine (vouch_none (HG9.out.below h) (by simp) [] ⟨#[115]⟩ ⟨mc.toArray⟩ (find_no g q)).mono ?_
    rintro e w2 ⟨rfl, hb⟩
    exact ⟨rfl, bthen h hb⟩
  case c29 =>
    intro w1 h
    have := verify_empty G.x G.y G.i ⟨#[]⟩ w1
    rw [show pn G.x G.y G.i = G.v from rfl, vG] at this
    refine this.mono ?_
    rintro e w2 ⟨rfl, hb⟩
    exact ⟨rfl, bthen h hb⟩
  case lk =>
    intro b1 b19 b24 b29 w1 h
    obtain ⟨⟨d0, d1, d2, d3⟩, ⟨d4, d5, d6, d7⟩, d8⟩ := (KG4.out.below (bthen HB9.out h)).cells9
    exact ⟨d0, d1, d2, d3, d4, d5, d6, d7, d8⟩
  case hq =>
    intro w1
    have := eqP G.x G.y G.x G.y G.i G.i G_ok.1 G_ok.2 G_ok.1 G_ok.2 w1
    rw [show pn G.x G.y G.i = G.v from rfl, vG] at this
    rw [this]
    simp
  case w0 => exact ⟨rfl, rfl, rfl, Nat.le_refl _, fun _ _ => rfl⟩
  case h =>
  intro w1 h
  go_wp2_with fail
  go_returns
  exact ⟨rfl, bthen (bthen HB4.out HB9.out) h⟩
end Go.Proofs.YtpggkfdijmnmiaaGreat
namespace Go.Proofs.YtpggkfdijmnmiaaGreat.Ref
open Go.RowKit Go.Proofs.YtpggkfdijmnmiaaGreat.Digits Limbs Curve
theorem cmp_pos (n : Nat) : decide (0 < cmpN n 0) = decide (0 < n) := by
  unfold cmpN
  by_cases h : 0 < n
  · rw [if_neg (by omega), if_pos h, decide_eq_true h]; rfl
  · rw [if_neg (by omega), if_neg h, decide_eq_false h]; rfl
theorem cmp_less (n m : Nat) : decide (cmpN n m < 0) = decide (n < m) := by
  unfold cmpN
  by_cases h : n < m
  · rw [if_pos h, decide_eq_true h]; rfl
  · rw [if_neg h, decide_eq_false h]
    split <;> rfl
set_option maxHeartbeats 16000000 in
theorem fine_nv (v : Value) (n : Nat) (w : World) (h : NV w v n) : Calls Tryz.prog 58 #[v] w fun e w' => e = .returned (.bool (decide (0 < n ∧ n < mN))) ∧ Below w.heap.size w w' := by
  have HV := Lib.hid h
  obtain ⟨a, l, c, rfl⟩ := h.shape
  have hres : decide (0 < n ∧ n < mN) = (decide (0 < n) && decide (n < mN)) := by simp
  rw [hres]
  clear hres h
  have hz := cmp_less n mN
  generalize decide (n < mN) = z at *
  have hm := modref_any 1
  rw [md1] at hm
  have HM := Lib.hid hm
  have HC1 := Lib.hid (cmp_nv _ _ _ _ _ (HV.out.below (al_below w (.cells #[] 111))) (nv_nil w))
  have HP := Lib.hid (cmp_pos n)
  clear hm
  by_cases hp : 0 < n
  · have e1 : decide (0 < n) = true := decide_eq_true hp
    have e2 : decide ((0 : Int) < cmpN n 0) = true := HP.out.trans e1
    rw [e1]
    have HL := Lib.hid hz
    clear hp HP e1 hz
    go_enter Tryz.func58, Tryz.ntmps58
    go_wp2_with fail
    refine HC1.out.mono ?_
    rintro e w1 ⟨rfl, hs⟩
    have HB1 : Hid (Below w.heap.size w w1) := Lib.hid (hs.below (al_below w (.cells #[] 111)))
    clear hs HC1
    generalize cmpN n 0 = c0 at *
    go_wp2_with fail
    refine (HM.out w1).mono ?_
    rintro e w2 ⟨u, rfl, hu⟩
    obtain ⟨a2, l2, c2, rfl⟩ := hu.nv.shape
    have HB2 := Lib.hid (HB1.out.trans (hu.below.mono HB1.out.size))
    have HC2 := Lib.hid (cmp_nv _ _ _ _ _ (HV.out.below HB2.out) hu.nv)
    clear hu HM HB1
    go_wp2_with fail
    refine HC2.out.mono ?_
    rintro e w3 ⟨rfl, hs⟩
    have HB3 := Lib.hid (hs.below HB2.out)
    clear hs HC2 HB2
    have hl := HL.out
    generalize cmpN n mN = c1 at *
    go_wp2_with fail
    all_goals
      go_returns
      exact ⟨by simp_all, HB3.out⟩
  · have e1 : decide (0 < n) = false := decide_eq_false hp
    have e2 : decide ((0 : Int) < cmpN n 0) = false := HP.out.trans e1
    rw [e1]
    clear hp HP e1
    go_enter Tryz.func58, Tryz.ntmps58
    go_wp2_with fail
    refine HC1.out.mono ?_
    rintro e w1 ⟨rfl, hs⟩
    have HB1 : Hid (Below w.heap.size w w1) := Lib.hid (hs.below (al_below w (.cells #[] 111)))
    clear hs HC1
    generalize cmpN n 0 = c0 at *
    go_wp2_with fail
    go_returns
    exact ⟨rfl, HB1.out⟩
set_option maxHeartbeats 16000000 in
theorem fineR (d : Nat) (hd : d < W256) (w : World) : Calls Tryz.prog 43 #[nv d] w fun e w' => e = .returned (.bool (decide (0 < d ∧ d < mN))) ∧ Below w.heap.size w w' := by
  have HI := Lib.hid (in_any d hd)
  have HN := Lib.hid (fun v w h => fine_nv v d w h)
  clear hd
  generalize decide (0 < d ∧ d < mN) = z at *
  simp only [nv, num] at HI ⊢
  go_enter Tryz.func43, Tryz.ntmps43
  go_wp2_with fail
  refine (HI.out _).mono ?_
  rintro e w1 ⟨u, rfl, hu⟩
  have HB1 : Hid (Below w.heap.size w w1) := Lib.hid ((al_below w (.cells #[.int .u64 (lb d 0 : Nat), .int .u64 (lb d 1 : Nat), .int .u64 (lb d 2 : Nat), .int .u64 (lb d 3 : Nat)] 24)).trans (hu.below.mono (by simp)))
  have HF := Lib.hid (HN.out u w1 hu.nv)
  obtain ⟨a, l, c, rfl⟩ := hu.nv.shape
  clear hu HI
  go_wp2_with fail
  refine HF.out.mono ?_
  rintro e w2 ⟨rfl, hb⟩
  have HB2 := Lib.hid (HB1.out.trans (hb.mono HB1.out.size))
  clear hb HB1 HF
  go_wp2_with fail
  go_returns
  exact ⟨rfl, HB2.out⟩
theorem mulB_G (k : Nat) (hk : k < W256) : mulB G k 0 = pubOf k := by
  rw [pub_is k hk, mulB, Nat.pow_zero, Nat.div_one]
  rfl
set_option maxHeartbeats 16000000 in
theorem pointR (v : Value) (k : Nat) (hk : k < W256) (w : World) (h : NV w v k) : Calls Tryz.prog 44 #[v] w fun e w' => ∃ v', e = .returned v' ∧ RP w' v' (pubOf k) ∧ Below w.heap.size w w' := by
  have HV := Lib.hid h
  obtain ⟨a, l, c, rfl⟩ := h.shape
  have HB := Lib.hid kRBase
  have hi := in7 G G_ok
  rw [vG] at hi
  have HI := Lib.hid hi
  have HK := Lib.hid hk
  have HG := Lib.hid (mulB_G k hk)
  clear h hi hk
  go_enter Tryz.func44, Tryz.ntmps44
  go_wp2_with fail
  refine (keep w.heap.size w (HB.out _) (by go_grown) (Nat.le_refl _)).mono ?_
  rintro e w1 ⟨rfl, hb1, hk1⟩
  have KR : Bk 72 w1 w.heap.size #[.bool false, .slice none 0 0, .slice none 0 0] := Bk.below (Bk.new rfl) hk1
  clear hk1
  go_wp2_with fail
  refine (HI.out w1).mono ?_
  rintro e w2 ⟨u, rfl, hu, hb2⟩
  have KR2 := Lib.hid (KR.below hb2)
  have HB2 := Lib.hid (hb1.trans (hb2.mono hb1.size))
  have HF := Lib.hid (fast7 u _ G k G_on (w_big HK.out) w2 hu (HV.out.below HB2.out))
  obtain ⟨ax, nx, cx, ay, ny, cy, rfl, _⟩ := hu
  clear hb1 hb2 KR HI HB
  go_wp2_with fail
  refine HF.out.mono ?_
  rintro e w3 ⟨u, rfl, hu, hb3⟩
  rw [HG.out] at hu
  have KR3 := KR2.out.below hb3
  have HB3 := Lib.hid (HB2.out.trans (hb3.mono HB2.out.size))
  have HU := Lib.hid hu
  obtain ⟨ax2, nx2, cx2, ay2, ny2, cy2, rfl, _⟩ := hu
  obtain ⟨c0, c1, c2⟩ := Bk.cells3 KR3
  obtain ⟨f0, f1, f2⟩ := Bk.fros3 KR3
  clear hb3 HF HB2 KR2
  go_wp2_with fail
  refine ret_cell64 rfl w.heap.size _ _ _ rfl (Bk.put3 KR3) rfl ⟨_, rfl, ?_, ?_⟩
  · obtain ⟨ax, nx, cx, ay, ny, cy, he, hn⟩ := HU.out
    exact ⟨ax, nx, cx, ay, ny, cy, he, fun hp => ⟨put3_ex (hn hp).1 KR3, put3_ex (hn hp).2 KR3⟩⟩
  · have hb := HB3.out
    go_grown
theorem fin_near {P : Curve.Pt (Fin Curve.PP)} (h : P ≠ .far) : (ofPt P).i = false := by
  cases P with
  | far => exact absurd rfl h
  | aff x y => rfl
theorem pub_near (k : Nat) (hk : 0 < k ∧ k < mN) : (pubOf k).i = false := by
  rw [pub_is k (Nat.lt_trans hk.2 mN_W)]
  exact fin_near (GP_order hk.1 hk.2)
set_option maxHeartbeats 16000000 in
theorem publicR_yes (k : Nat) (hk : 0 < k ∧ k < mN) (w : World) : Calls Tryz.prog 12 #[nv k] w fun e w' => e = .returned (.tuple #[(pubOf k).v, .int .i64 0]) ∧ Below w.heap.size w w' := by
  have hkW : k < W256 := Nat.lt_trans hk.2 (by decide)
  have HF := fineR k hkW
  rw [decide_eq_true hk] at HF
  have HF := Lib.hid HF
  have HI := Lib.hid (in_any k hkW)
  have HP := Lib.hid (fun v w h => pointR v k hkW w h)
  have hpi := pub_near k hk
  have HO := Lib.hid (fun v w h => out7 v (pubOf k) (pub_on k hkW).2.2 w h)
  clear hkW hk
  generalize pubOf k = q at *
  obtain ⟨x, y, i⟩ := q
  simp only [] at hpi
  subst hpi
  simp only [Bool.false_eq_true, if_false, reduceIte] at HO
  unfold Po.v
  unfold pn at HO ⊢
  simp only [nv, num] at HI HF HO ⊢
  go_enter Tryz.func12, Tryz.ntmps12
  go_wp2_with fail
  refine (keep w.heap.size w (HF.out _) (by go_grown) (Nat.le_refl _)).mono ?_
  rintro e w1 ⟨rfl, hb1, hk1⟩
  have K1 : Bk 24 w1 w.heap.size (cs4 k) := Bk.below (Bk.alloc (Bk.new rfl)) hk1
  have K2 : Bk 26 w1 (w.heap.size + 1) z9 := Bk.below (Bk.new (by simp)) hk1
  obtain ⟨a0, a1, a2, a3⟩ := K1.cells
  clear hk1
  go_wp2_with fail
  refine (HI.out _).mono ?_
  rintro e w2 ⟨u, rfl, hu⟩
  have K3 := K2.below hu.below
  have hb2 := hb1.trans (hu.below.mono hb1.size)
  have HP2 := Lib.hid (HP.out u w2 hu.nv)
  obtain ⟨a, l, c, rfl⟩ := hu.nv.shape
  clear a0 a1 a2 a3 K1 K2 HP hu HI HF
  go_wp2_with fail
  refine HP2.out.mono ?_
  rintro e w3 ⟨u, rfl, hu, hbu⟩
  have K4 := K3.below hbu
  have hb3 := hb2.trans (hbu.mono hb2.size)
  have HO2 := Lib.hid (HO.out u w3 hu)
  obtain ⟨ax, nx, cx, ay, ny, cy, rfl, _⟩ := hu
  clear K3 hb2 hbu HO HP2
  go_wp2_with fail
  refine (keep w.heap.size w HO2.out hb3 (Nat.le_refl _)).mono ?_
  rintro e w4 ⟨rfl, hb4, hk4⟩
  have K5 := K4.below hk4
  obtain ⟨⟨d0, d1, d2, d3⟩, ⟨d4, d5, d6, d7⟩, d8⟩ := K5.cells9
  obtain ⟨⟨f0, f1, f2, f3⟩, ⟨f4, f5, f6, f7⟩, f8⟩ := K5.fros9
  clear K4 hk4 hb3 HO2
  go_wp2_with fail
  refine ret_cell51e rfl (w.heap.size + 1) x y false (.int .i64 0) rfl rfl (Bk.put9 K5) rfl ⟨rfl, ?_⟩
  go_grown
set_option maxHeartbeats 16000000 in
theorem publicR_no (k : Nat) (hkW : k < W256) (hk : ¬ (0 < k ∧ k < mN)) (w : World) : Calls Tryz.prog 12 #[nv k] w fun e w' => e = .returned (.tuple #[pn 0 0 false, .int .i64 80]) ∧ Below w.heap.size w w' := by
  have HF := fineR k hkW
  rw [decide_eq_false hk] at HF
  have HF := Lib.hid HF
  clear hkW hk
  simp only [nv, num] at HF ⊢
  go_enter Tryz.func12, Tryz.ntmps12
  go_wp2_with fail
  refine (keep w.heap.size w (HF.out _) (by go_grown) (Nat.le_refl _)).mono ?_
  rintro e w1 ⟨rfl, hb1, hk1⟩
  have K3 : Bk 26 w1 (w.heap.size + 1) z9 := Bk.below (Bk.new (by simp)) hk1
  obtain ⟨⟨d0, d1, d2, d3⟩, ⟨d4, d5, d6, d7⟩, d8⟩ := K3.cells9
  obtain ⟨⟨f0, f1, f2, f3⟩, ⟨f4, f5, f6, f7⟩, f8⟩ := K3.fros9
  clear hk1
  go_wp2_with fail
  refine ret_cell51e rfl (w.heap.size + 1) 0 0 false (.int .i64 80) rfl rfl (Bk.put9 K3) rfl ⟨rfl, ?_⟩
  go_grown
set_option maxHeartbeats 16000000 in
theorem public_both (d x y : Nat) (i : Bool) (n : Int)
    (HS : ∀ w, Calls Tryz.prog 11 #[nv d] w fun e w' => e = .returned (.tuple #[pn x y i, .int .i64 n]) ∧ Below w.heap.size w w')
    (HR : ∀ w, Calls Tryz.prog 12 #[nv d] w fun e w' => e = .returned (.tuple #[pn x y i, .int .i64 n]) ∧ Below w.heap.size w w')
    (HE : ∀ w, (Op.equalIn 10000 26 (pn x y i) (pn x y i)).run Tryz.prog w = .ok true w)
    (w : World) : Calls Tryz.prog 3 #[nv d] w fun e w' => e = .returned (.bool true) ∧ Below w.heap.size w w' := by
  have HX := Lib.hid fixed_any
  have HS := Lib.hid HS
  have HR := Lib.hid HR
  have HE := Lib.hid HE
  unfold pn at HS HR HE
  simp only [nv, num] at HS HR HE ⊢
  generalize (((lb x 0 : Nat)) : Int) = x0 at *
  generalize (((lb x 1 : Nat)) : Int) = x1 at *
  generalize (((lb x 2 : Nat)) : Int) = x2 at *
  generalize (((lb x 3 : Nat)) : Int) = x3 at *
  generalize (((lb y 0 : Nat)) : Int) = y0 at *
  generalize (((lb y 1 : Nat)) : Int) = y1 at *
  generalize (((lb y 2 : Nat)) : Int) = y2 at *
  generalize (((lb y 3 : Nat)) : Int) = y3 at *
  go_enter Tryz.func3, Tryz.ntmps3
  go_wp2_with fail
  refine (keep w.heap.size w (HS.out _) (by go_grown) (Nat.le_refl _)).mono ?_
  rintro z w1 ⟨rfl, hb1, hk1⟩
  have KD : Bk 24 (w1.alloc (.cells #[.int .u64 x0, .int .u64 x1, .int .u64 x2, .int .u64 x3, .int .u64 y0, .int .u64 y1, .int .u64 y2, .int .u64 y3, .bool i] 26)) w.heap.size (cs4 d) := Bk.alloc (Bk.below (Bk.new rfl) hk1)
  have KP : Bk 26 (w1.alloc (.cells #[.int .u64 x0, .int .u64 x1, .int .u64 x2, .int .u64 x3, .int .u64 y0, .int .u64 y1, .int .u64 y2, .int .u64 y3, .bool i] 26)) w1.heap.size #[.int .u64 x0, .int .u64 x1, .int .u64 x2, .int .u64 x3, .int .u64 y0, .int .u64 y1, .int .u64 y2, .int .u64 y3, .bool i] := Bk.new rfl
  have HB : Below w.heap.size w (w1.alloc (.cells #[.int .u64 x0, .int .u64 x1, .int .u64 x2, .int .u64 x3, .int .u64 y0, .int .u64 y1, .int .u64 y2, .int .u64 y3, .bool i] 26)) := hb1.alloc hb1.size _
  obtain ⟨a0, a1, a2, a3⟩ := KD.cells
  clear hk1 hb1 HS
  go_wp2_with fail
  generalize w1.alloc (.cells #[.int .u64 x0, .int .u64 x1, .int .u64 x2, .int .u64 x3, .int .u64 y0, .int .u64 y1, .int .u64 y2, .int .u64 y3, .bool i] 26) = W1 at *
  generalize w1.heap.size = g1 at *
  refine (keep w.heap.size w (HR.out _) HB (Nat.le_refl _)).mono ?_
  rintro z w2 ⟨rfl, hb2, hk2⟩
  have KP2 : Bk 26 (w2.alloc (.cells #[.int .u64 x0, .int .u64 x1, .int .u64 x2, .int .u64 x3, .int .u64 y0, .int .u64 y1, .int .u64 y2, .int .u64 y3, .bool i] 26)) g1 #[.int .u64 x0, .int .u64 x1, .int .u64 x2, .int .u64 x3, .int .u64 y0, .int .u64 y1, .int .u64 y2, .int .u64 y3, .bool i] := Bk.alloc (Bk.below KP hk2)
  have KQ : Bk 26 (w2.alloc (.cells #[.int .u64 x0, .int .u64 x1, .int .u64 x2, .int .u64 x3, .int .u64 y0, .int .u64 y1, .int .u64 y2, .int .u64 y3, .bool i] 26)) w2.heap.size #[.int .u64 x0, .int .u64 x1, .int .u64 x2, .int .u64 x3, .int .u64 y0, .int .u64 y1, .int .u64 y2, .int .u64 y3, .bool i] := Bk.new rfl
  have HB2 : Below w.heap.size w (w2.alloc (.cells #[.int .u64 x0, .int .u64 x1, .int .u64 x2, .int .u64 x3, .int .u64 y0, .int .u64 y1, .int .u64 y2, .int .u64 y3, .bool i] 26)) := hb2.alloc hb2.size _
  clear hk2 hb2 HR KP KD HB a0 a1 a2 a3
  go_wp2_with fail
  generalize w2.alloc (.cells #[.int .u64 x0, .int .u64 x1, .int .u64 x2, .int .u64 x3, .int .u64 y0, .int .u64 y1, .int .u64 y2, .int .u64 y3, .bool i] 26) = W2 at *
  generalize w2.heap.size = g2 at *
  refine (keep w.heap.size w (HX.out _) HB2 (Nat.le_refl _)).mono ?_
  rintro z w3 ⟨rfl, hb3, hk3⟩
  obtain ⟨⟨c0, c1, c2, c3⟩, ⟨c4, c5, c6, c7⟩, c8⟩ := (KP2.below hk3).cells9
  obtain ⟨⟨d0, d1, d2, d3⟩, ⟨d4, d5, d6, d7⟩, d8⟩ := (KQ.below hk3).cells9
  clear hk3 HX KP2 KQ HB2
  have he := HE.out
  go_wp2_with fail
  all_goals go_returns
  all_goals exact ⟨by simp_all, hb3⟩
theorem public_walk (d : Nat) (hd : d < W256) (w : World) : Calls Tryz.prog 3 #[nv d] w fun e w' => e = .returned (.bool true) ∧ Below w.heap.size w w' := by
  by_cases hk : 0 < d ∧ d < mN
  · exact public_both d _ _ _ _ (fun w => public_yes d hk w) (fun w => publicR_yes d hk w) (eq_same (pub_on d hd).2.2) w
  · exact public_both d 0 0 false _ (fun w => public_no d hd hk w) (fun w => publicR_no d hd hk w) (eq_same (p := ⟨0, 0, false⟩) ⟨by decide, by decide⟩) w
end Go.Proofs.YtpggkfdijmnmiaaGreat.Ref
