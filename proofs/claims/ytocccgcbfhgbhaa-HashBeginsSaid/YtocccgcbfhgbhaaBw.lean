/- HashBegins: the walk. Condition: at most 2^47 bytes each. -/
import Derived.Test.YtocccgcbfhgbhaaS
set_option linter.unusedVariables false
set_option linter.unusedSimpArgs false
namespace Go.Proofs.Ytocccgcbfhgbhaa
open Go.RowKit Go.Sort
namespace hashBegins
theorem zip0 : ∀ (l : List UInt8), List.zipWith (· ^^^ ·) (List.replicate l.length (0 : UInt8)) l = l
  | [] => rfl
  | x :: l => by simp [List.replicate_succ, zip0 l]
theorem str1 (k s : List UInt8) : strL k s 1 = macK k s := by
  have := zip0 (macK k s)
  rw [mac_length] at this
  exact this
theorem str2 (k s : List UInt8) : strL k s 2 = List.zipWith (· ^^^ ·) (macK k s) (macK k (macK k s)) := by
  have e : strL k s 2 = List.zipWith (· ^^^ ·) (strL k s 1) (macK k (macK k s)) := rfl
  rw [e, str1]
theorem blk1 (k salt : List UInt8) (r : Nat) : (blocksL k salt r 3).take 32 = strL k (salt ++ [0, 0, 0, 1]) r := by
  have h := blocks_take k salt r 32 1 (by omega) 2
  have e : blocksL k salt r 1 = strL k (salt ++ [0, 0, 0, 1]) r := by
    have := blocks_succ k salt r 0
    rw [this]
    show [] ++ strL k (salt ++ fourL (UInt32.ofNat 1)) r = _
    rw [show fourL (UInt32.ofNat 1) = [0, 0, 0, 1] from by decide +kernel]
    rfl
  rw [show 1 + 2 = 3 from rfl] at h
  rw [h, e, List.take_of_length_le (by rw [strL_length]; omega)]
theorem stretch_ok (pass salt : List UInt8) (r n : Int) (h1 : 1 ≤ r) (h2 : r ≤ 64) (h3 : 1 ≤ n) (h4 : n ≤ 96) : stretchR pass salt r n = ((blocksL (fillL pass) salt r.toNat 3).take n.toNat, 0) := by
  unfold stretchR
  rw [if_neg (by omega), if_neg (by omega)]
set_option maxHeartbeats 4000000 in
set_option maxRecDepth 100000 in
theorem no1 (pass salt : List UInt8) (r n : Int) (w : World) (hp : pass.length ≤ 140737488355328) (hs : salt.length ≤ 140737488355328) (h : r < 1) :
    Calls Try.prog 8 #[.string ⟨pass.toArray⟩, .string ⟨salt.toArray⟩, .agg #[.int .i64 r, .int .i64 n]] w fun e w' => e = .returned (.bool true) ∧ Below w.heap.size w w' := by
  have H1 := Lib.hid (stretch_any pass salt hp hs r n)
  rw [show stretchR pass salt r n = ([], 40) from by unfold stretchR; rw [if_pos (.inl h)]] at H1
  have HB0 : Hid (Below w.heap.size w (w.alloc (.cells #[.int .i64 r, .int .i64 n] 28))) := Lib.hid ((Below.refl _ _).alloc (Nat.le_refl _) _)
  have HX := Lib.hid (Go.heap_alloc_new w (.cells #[.int .i64 r, .int .i64 n] 28))
  clear hp hs
  go_enter Try.func8, Try.ntmps8
  go_wp2_with fail
  refine (H1.out _).mono ?_
  rintro e w1 ⟨rfl, b1⟩
  have B1 := Lib.hid (HB0.out.trans (b1.mono HB0.out.size))
  have HX1 := Lib.hid ((b1.block _ (by simp)).trans HX.out)
  clear b1 H1 HB0 HX
  go_wp2_with fail
  refine (awake_any _).mono ?_
  rintro e w2 ⟨rfl, b2⟩
  have B2 := Lib.hid (B1.out.trans (b2.mono B1.out.size))
  have HX2 := Lib.hid ((b2.block _ (Array.getElem?_eq_some_iff.1 HX1.out).1).trans HX1.out)
  clear b2 B1 HX1
  have x0 : w2.cell? ⟨w.heap.size, 0, none⟩ = some (.int .i64 r) := blk_cell HX2.out 0
  have x1 : w2.cell? ⟨w.heap.size, 1, none⟩ = some (.int .i64 n) := blk_cell HX2.out 1
  go_wp2_with fail
  go_ret
  exact ⟨rfl, B2.out⟩
set_option maxHeartbeats 4000000 in
set_option maxRecDepth 100000 in
theorem no2 (pass salt : List UInt8) (r n : Int) (w : World) (hp : pass.length ≤ 140737488355328) (hs : salt.length ≤ 140737488355328) (h : 64 < r) (h0 : ¬ r < 1) :
    Calls Try.prog 8 #[.string ⟨pass.toArray⟩, .string ⟨salt.toArray⟩, .agg #[.int .i64 r, .int .i64 n]] w fun e w' => e = .returned (.bool true) ∧ Below w.heap.size w w' := by
  have H1 := Lib.hid (stretch_any pass salt hp hs r n)
  rw [show stretchR pass salt r n = ([], 40) from by unfold stretchR; rw [if_pos (.inr h)]] at H1
  have HB0 : Hid (Below w.heap.size w (w.alloc (.cells #[.int .i64 r, .int .i64 n] 28))) := Lib.hid ((Below.refl _ _).alloc (Nat.le_refl _) _)
  have HX := Lib.hid (Go.heap_alloc_new w (.cells #[.int .i64 r, .int .i64 n] 28))
  clear hp hs
  go_enter Try.func8, Try.ntmps8
  go_wp2_with fail
  refine (H1.out _).mono ?_
  rintro e w1 ⟨rfl, b1⟩
  have B1 := Lib.hid (HB0.out.trans (b1.mono HB0.out.size))
  have HX1 := Lib.hid ((b1.block _ (by simp)).trans HX.out)
  clear b1 H1 HB0 HX
  go_wp2_with fail
  refine (awake_any _).mono ?_
  rintro e w2 ⟨rfl, b2⟩
  have B2 := Lib.hid (B1.out.trans (b2.mono B1.out.size))
  have HX2 := Lib.hid ((b2.block _ (Array.getElem?_eq_some_iff.1 HX1.out).1).trans HX1.out)
  clear b2 B1 HX1
  have x0 : w2.cell? ⟨w.heap.size, 0, none⟩ = some (.int .i64 r) := blk_cell HX2.out 0
  have x1 : w2.cell? ⟨w.heap.size, 1, none⟩ = some (.int .i64 n) := blk_cell HX2.out 1
  go_wp2_with fail
  go_ret
  exact ⟨rfl, B2.out⟩
set_option maxHeartbeats 4000000 in
set_option maxRecDepth 100000 in
theorem no3 (pass salt : List UInt8) (r n : Int) (w : World) (hp : pass.length ≤ 140737488355328) (hs : salt.length ≤ 140737488355328) (h1 : ¬ r < 1) (h2 : ¬ 64 < r) (h : n < 1) :
    Calls Try.prog 8 #[.string ⟨pass.toArray⟩, .string ⟨salt.toArray⟩, .agg #[.int .i64 r, .int .i64 n]] w fun e w' => e = .returned (.bool true) ∧ Below w.heap.size w w' := by
  have H1 := Lib.hid (stretch_any pass salt hp hs r n)
  rw [show stretchR pass salt r n = ([], 41) from by unfold stretchR; rw [if_neg (by omega), if_pos (.inl h)]] at H1
  have HB0 : Hid (Below w.heap.size w (w.alloc (.cells #[.int .i64 r, .int .i64 n] 28))) := Lib.hid ((Below.refl _ _).alloc (Nat.le_refl _) _)
  have HX := Lib.hid (Go.heap_alloc_new w (.cells #[.int .i64 r, .int .i64 n] 28))
  clear hp hs
  go_enter Try.func8, Try.ntmps8
  go_wp2_with fail
  refine (H1.out _).mono ?_
  rintro e w1 ⟨rfl, b1⟩
  have B1 := Lib.hid (HB0.out.trans (b1.mono HB0.out.size))
  have HX1 := Lib.hid ((b1.block _ (by simp)).trans HX.out)
  clear b1 H1 HB0 HX
  go_wp2_with fail
  refine (awake_any _).mono ?_
  rintro e w2 ⟨rfl, b2⟩
  have B2 := Lib.hid (B1.out.trans (b2.mono B1.out.size))
  have HX2 := Lib.hid ((b2.block _ (Array.getElem?_eq_some_iff.1 HX1.out).1).trans HX1.out)
  clear b2 B1 HX1
  have x0 : w2.cell? ⟨w.heap.size, 0, none⟩ = some (.int .i64 r) := blk_cell HX2.out 0
  have x1 : w2.cell? ⟨w.heap.size, 1, none⟩ = some (.int .i64 n) := blk_cell HX2.out 1
  go_wp2_with fail
  go_ret
  exact ⟨rfl, B2.out⟩
set_option maxHeartbeats 4000000 in
set_option maxRecDepth 100000 in
theorem no4 (pass salt : List UInt8) (r n : Int) (w : World) (hp : pass.length ≤ 140737488355328) (hs : salt.length ≤ 140737488355328) (h1 : ¬ r < 1) (h2 : ¬ 64 < r) (h0 : ¬ n < 1) (h : 96 < n) :
    Calls Try.prog 8 #[.string ⟨pass.toArray⟩, .string ⟨salt.toArray⟩, .agg #[.int .i64 r, .int .i64 n]] w fun e w' => e = .returned (.bool true) ∧ Below w.heap.size w w' := by
  have H1 := Lib.hid (stretch_any pass salt hp hs r n)
  rw [show stretchR pass salt r n = ([], 41) from by unfold stretchR; rw [if_neg (by omega), if_pos (.inr h)]] at H1
  have HB0 : Hid (Below w.heap.size w (w.alloc (.cells #[.int .i64 r, .int .i64 n] 28))) := Lib.hid ((Below.refl _ _).alloc (Nat.le_refl _) _)
  have HX := Lib.hid (Go.heap_alloc_new w (.cells #[.int .i64 r, .int .i64 n] 28))
  clear hp hs
  go_enter Try.func8, Try.ntmps8
  go_wp2_with fail
  refine (H1.out _).mono ?_
  rintro e w1 ⟨rfl, b1⟩
  have B1 := Lib.hid (HB0.out.trans (b1.mono HB0.out.size))
  have HX1 := Lib.hid ((b1.block _ (by simp)).trans HX.out)
  clear b1 H1 HB0 HX
  go_wp2_with fail
  refine (awake_any _).mono ?_
  rintro e w2 ⟨rfl, b2⟩
  have B2 := Lib.hid (B1.out.trans (b2.mono B1.out.size))
  have HX2 := Lib.hid ((b2.block _ (Array.getElem?_eq_some_iff.1 HX1.out).1).trans HX1.out)
  clear b2 B1 HX1
  have x0 : w2.cell? ⟨w.heap.size, 0, none⟩ = some (.int .i64 r) := blk_cell HX2.out 0
  have x1 : w2.cell? ⟨w.heap.size, 1, none⟩ = some (.int .i64 n) := blk_cell HX2.out 1
  go_wp2_with fail
  go_ret
  exact ⟨rfl, B2.out⟩
set_option maxHeartbeats 8000000 in
set_option maxRecDepth 100000 in
theorem one (pass salt : List UInt8) (r n : Int) (w : World) (hp : pass.length ≤ 140737488355328) (hs : salt.length ≤ 140737488355328) (hr : r = 1) (h3 : 1 ≤ n) (h4 : n ≤ 96) :
    Calls Try.prog 8 #[.string ⟨pass.toArray⟩, .string ⟨salt.toArray⟩, .agg #[.int .i64 r, .int .i64 n]] w fun e w' => e = .returned (.bool true) ∧ Below w.heap.size w w' := by
  subst hr
  have H1 := Lib.hid (stretch_any pass salt hp hs 1 n)
  rw [stretch_ok pass salt 1 n (by omega) (by omega) h3 h4] at H1
  have H2 := Lib.hid (stretch_any pass salt hp hs 1 96)
  rw [stretch_ok pass salt 1 96 (by omega) (by omega) (by omega) (by omega)] at H2
  have HU := Lib.hid (Mac_any pass (salt ++ [0, 0, 0, 1]) (by omega) (by rw [List.length_append]; show _ + 4 ≤ _; omega))
  have HV := Lib.hid (Mac_any pass (macL pass (salt ++ [0, 0, 0, 1])) (by omega) (by rw [mac_len]; omega))
  have HBL := Lib.hid (blocks_length (fillL pass) salt (1 : Int).toNat 3)
  have HB1 := Lib.hid (blk1 (fillL pass) salt (1 : Int).toNat)
  have happ := app_ba salt [0, 0, 0, 1]
  have hssz := size_ba salt
  have hsl : (salt.length : Int) ≤ 140737488355328 := by omega
  have HUL := Lib.hid (mac_len pass (salt ++ [0, 0, 0, 1]))
  have HVL := Lib.hid (mac_len pass (macL pass (salt ++ [0, 0, 0, 1])))
  have HR : Hid (strL (fillL pass) (salt ++ [0, 0, 0, 1]) (1 : Int).toNat = macL pass (salt ++ [0, 0, 0, 1])) := Lib.hid (str1 _ _)
  rw [show (96 : Int).toNat = 96 from rfl, List.take_of_length_le (by rw [HBL.out]; omega)] at H2
  generalize blocksL (fillL pass) salt (1 : Int).toNat 3 = Y at H1 H2 HBL HB1 HR
  generalize macL pass (macL pass (salt ++ [0, 0, 0, 1])) = V at HV HVL
  generalize macL pass (salt ++ [0, 0, 0, 1]) = U at HU HV HUL HR
  generalize salt ++ [0, 0, 0, 1] = sl at happ HU
  have hYs := size_ba Y
  have hYl := HBL.out
  have hYl2 : n.toNat ≤ Y.length := by omega
  have hex : (⟨Y.toArray⟩ : ByteArray).extract 0 n.toNat = ⟨(Y.take n.toNat).toArray⟩ := by simpa using ext_ba Y 0 n.toNat
  have hex2 : (⟨Y.toArray⟩ : ByteArray).extract 0 32 = ⟨(Y.take 32).toArray⟩ := by simpa using ext_ba Y 0 32
  have hXl : ((Y.take n.toNat).length : Int) = n := by rw [List.length_take]; omega
  have hXs := size_ba (Y.take n.toNat)
  have hUs := size_ba U
  have hUl := HUL.out
  have hVs := size_ba V
  have hVl := HVL.out
  generalize Y.take n.toNat = X at H1 hex hXl hXs
  have HB0 : Hid (Below w.heap.size w (w.alloc (.cells #[.int .i64 1, .int .i64 n] 28))) := Lib.hid ((Below.refl _ _).alloc (Nat.le_refl _) _)
  have HX := Lib.hid (Go.heap_alloc_new w (.cells #[.int .i64 1, .int .i64 n] 28))
  have h30 : 0 ≤ n := by omega
  have h40 : n ≤ (Y.length : Int) := by omega
  clear hp hs HBL HUL HVL hYl2
  go_enter Try.func8, Try.ntmps8
  go_wp2_with fail
  refine (H1.out _).mono ?_
  rintro e w1 ⟨rfl, b1⟩
  have B1 := Lib.hid (HB0.out.trans (b1.mono HB0.out.size))
  have HX1 := Lib.hid ((b1.block _ (by simp)).trans HX.out)
  clear b1 H1 HB0 HX
  go_wp2_with fail
  refine (awake_any _).mono ?_
  rintro e w2 ⟨rfl, b2⟩
  have B2 := Lib.hid (B1.out.trans (b2.mono B1.out.size))
  have HX2 := Lib.hid ((b2.block _ (Array.getElem?_eq_some_iff.1 HX1.out).1).trans HX1.out)
  clear b2 B1 HX1
  have x0 : w2.cell? ⟨w.heap.size, 0, none⟩ = some (.int .i64 1) := blk_cell HX2.out 0
  have x1 : w2.cell? ⟨w.heap.size, 1, none⟩ = some (.int .i64 n) := blk_cell HX2.out 1
  go_wp2_with fail
  refine (H2.out _).mono ?_
  rintro e w3 ⟨rfl, b3⟩
  have B3 := Lib.hid (B2.out.trans (b3.mono B2.out.size))
  have HX3 := Lib.hid ((b3.block _ (Array.getElem?_eq_some_iff.1 HX2.out).1).trans HX2.out)
  clear b3 B2 HX2 x0 x1 H2
  have x0 : w3.cell? ⟨w.heap.size, 0, none⟩ = some (.int .i64 1) := blk_cell HX3.out 0
  have x1 : w3.cell? ⟨w.heap.size, 1, none⟩ = some (.int .i64 n) := blk_cell HX3.out 1
  go_wp2_with fail
  refine (HU.out _).mono ?_
  rintro e w4 ⟨rfl, b4⟩
  have B4 := Lib.hid (B3.out.trans (b4.mono B3.out.size))
  have HX4 := Lib.hid ((b4.block _ (Array.getElem?_eq_some_iff.1 HX3.out).1).trans HX3.out)
  clear b4 B3 HX3 x0 x1 HU
  go_wp2_with fail
  refine (HV.out _).mono ?_
  rintro e w5 ⟨rfl, b5⟩
  have B5 := Lib.hid (B4.out.trans (b5.mono B4.out.size))
  have HX5 := Lib.hid ((b5.block _ (Array.getElem?_eq_some_iff.1 HX4.out).1).trans HX4.out)
  clear b5 B4 HX4 HV
  have x0 : w5.cell? ⟨w.heap.size, 0, none⟩ = some (.int .i64 1) := blk_cell HX5.out 0
  have HY : Hid (Y.take 32 = U) := Lib.hid (HB1.out.trans HR.out)
  rw [HY.out] at hex2
  clear HB1 HR HY
  go_wp2_with fail
  go_ret
  exact ⟨rfl, B5.out⟩
set_option maxHeartbeats 8000000 in
set_option maxRecDepth 100000 in
theorem two (pass salt : List UInt8) (r n : Int) (w : World) (hp : pass.length ≤ 140737488355328) (hs : salt.length ≤ 140737488355328) (hr : r = 2) (h3 : 1 ≤ n) (h4 : n ≤ 96) :
    Calls Try.prog 8 #[.string ⟨pass.toArray⟩, .string ⟨salt.toArray⟩, .agg #[.int .i64 r, .int .i64 n]] w fun e w' => e = .returned (.bool true) ∧ Below w.heap.size w w' := by
  subst hr
  have H1 := Lib.hid (stretch_any pass salt hp hs 2 n)
  rw [stretch_ok pass salt 2 n (by omega) (by omega) h3 h4] at H1
  have H2 := Lib.hid (stretch_any pass salt hp hs 2 96)
  rw [stretch_ok pass salt 2 96 (by omega) (by omega) (by omega) (by omega)] at H2
  have HU := Lib.hid (Mac_any pass (salt ++ [0, 0, 0, 1]) (by omega) (by rw [List.length_append]; show _ + 4 ≤ _; omega))
  have HV := Lib.hid (Mac_any pass (macL pass (salt ++ [0, 0, 0, 1])) (by omega) (by rw [mac_len]; omega))
  have HBL := Lib.hid (blocks_length (fillL pass) salt (2 : Int).toNat 3)
  have HB1 := Lib.hid (blk1 (fillL pass) salt (2 : Int).toNat)
  have happ := app_ba salt [0, 0, 0, 1]
  have hssz := size_ba salt
  have hsl : (salt.length : Int) ≤ 140737488355328 := by omega
  have HUL := Lib.hid (mac_len pass (salt ++ [0, 0, 0, 1]))
  have HVL := Lib.hid (mac_len pass (macL pass (salt ++ [0, 0, 0, 1])))
  have HR : Hid (strL (fillL pass) (salt ++ [0, 0, 0, 1]) (2 : Int).toNat = List.zipWith (· ^^^ ·) (macL pass (salt ++ [0, 0, 0, 1])) (macL pass (macL pass (salt ++ [0, 0, 0, 1])))) := Lib.hid (str2 _ _)
  rw [show (96 : Int).toNat = 96 from rfl, List.take_of_length_le (by rw [HBL.out]; omega)] at H2
  generalize blocksL (fillL pass) salt (2 : Int).toNat 3 = Y at H1 H2 HBL HB1 HR
  generalize macL pass (macL pass (salt ++ [0, 0, 0, 1])) = V at HV HVL HR
  generalize macL pass (salt ++ [0, 0, 0, 1]) = U at HU HV HUL HR
  generalize salt ++ [0, 0, 0, 1] = sl at happ HU
  have hYs := size_ba Y
  have hYl := HBL.out
  have hYl2 : n.toNat ≤ Y.length := by omega
  have hex : (⟨Y.toArray⟩ : ByteArray).extract 0 n.toNat = ⟨(Y.take n.toNat).toArray⟩ := by simpa using ext_ba Y 0 n.toNat
  have hex2 : (⟨Y.toArray⟩ : ByteArray).extract 0 32 = ⟨(Y.take 32).toArray⟩ := by simpa using ext_ba Y 0 32
  have hXl : ((Y.take n.toNat).length : Int) = n := by rw [List.length_take]; omega
  have hXs := size_ba (Y.take n.toNat)
  have hUs := size_ba U
  have hUl := HUL.out
  have hVs := size_ba V
  have hVl := HVL.out
  generalize Y.take n.toNat = X at H1 hex hXl hXs
  have HB0 : Hid (Below w.heap.size w (w.alloc (.cells #[.int .i64 2, .int .i64 n] 28))) := Lib.hid ((Below.refl _ _).alloc (Nat.le_refl _) _)
  have HX := Lib.hid (Go.heap_alloc_new w (.cells #[.int .i64 2, .int .i64 n] 28))
  have h30 : 0 ≤ n := by omega
  have h40 : n ≤ (Y.length : Int) := by omega
  clear hp hs HBL HUL HVL hYl2
  go_enter Try.func8, Try.ntmps8
  go_wp2_with fail
  refine (H1.out _).mono ?_
  rintro e w1 ⟨rfl, b1⟩
  have B1 := Lib.hid (HB0.out.trans (b1.mono HB0.out.size))
  have HX1 := Lib.hid ((b1.block _ (by simp)).trans HX.out)
  clear b1 H1 HB0 HX
  go_wp2_with fail
  refine (awake_any _).mono ?_
  rintro e w2 ⟨rfl, b2⟩
  have B2 := Lib.hid (B1.out.trans (b2.mono B1.out.size))
  have HX2 := Lib.hid ((b2.block _ (Array.getElem?_eq_some_iff.1 HX1.out).1).trans HX1.out)
  clear b2 B1 HX1
  have x0 : w2.cell? ⟨w.heap.size, 0, none⟩ = some (.int .i64 2) := blk_cell HX2.out 0
  have x1 : w2.cell? ⟨w.heap.size, 1, none⟩ = some (.int .i64 n) := blk_cell HX2.out 1
  go_wp2_with fail
  refine (H2.out _).mono ?_
  rintro e w3 ⟨rfl, b3⟩
  have B3 := Lib.hid (B2.out.trans (b3.mono B2.out.size))
  have HX3 := Lib.hid ((b3.block _ (Array.getElem?_eq_some_iff.1 HX2.out).1).trans HX2.out)
  clear b3 B2 HX2 x0 x1 H2
  have x0 : w3.cell? ⟨w.heap.size, 0, none⟩ = some (.int .i64 2) := blk_cell HX3.out 0
  have x1 : w3.cell? ⟨w.heap.size, 1, none⟩ = some (.int .i64 n) := blk_cell HX3.out 1
  go_wp2_with fail
  refine (HU.out _).mono ?_
  rintro e w4 ⟨rfl, b4⟩
  have B4 := Lib.hid (B3.out.trans (b4.mono B3.out.size))
  have HX4 := Lib.hid ((b4.block _ (Array.getElem?_eq_some_iff.1 HX3.out).1).trans HX3.out)
  clear b4 B3 HX3 x0 x1 HU
  go_wp2_with fail
  refine (HV.out _).mono ?_
  rintro e w5 ⟨rfl, b5⟩
  have B5 := Lib.hid (B4.out.trans (b5.mono B4.out.size))
  have HX5 := Lib.hid ((b5.block _ (Array.getElem?_eq_some_iff.1 HX4.out).1).trans HX4.out)
  clear b5 B4 HX4 HV
  have x0 : w5.cell? ⟨w.heap.size, 0, none⟩ = some (.int .i64 2) := blk_cell HX5.out 0
  have HY : Hid (Y.take 32 = List.zipWith (· ^^^ ·) U V) := Lib.hid (HB1.out.trans HR.out)
  clear HB1 HR
  go_wp2_with fail
  go_loopw [13] (fun i wr => ∃ k : Nat, k ≤ 32 ∧ i = .int .i64 k ∧ wr.heap[w.heap.size]? = some (.cells #[.int .i64 2, .int .i64 n] 28 (0, 0)) ∧ Below w.heap.size w wr) (fun i _ => 32 - (intOf i).toNat)
  case atStart => exact ⟨0, by omega, rfl, HX5.out, B5.out⟩
  case round =>
    obtain ⟨k, hk, rfl, hx, hb⟩ := hrel
    have HX := Lib.hid hx
    have HB := Lib.hid hb
    clear hx hb HX5 B5 x0
    have x0 : wr.cell? ⟨w.heap.size, 0, none⟩ = some (.int .i64 2) := blk_cell HX.out 0
    by_cases hlt : k < 32
    · have hY : Y[k]'(by omega) = U[k]'(by omega) ^^^ V[k]'(by omega) := by
        have h1 : (Y.take 32)[k]'(by rw [List.length_take]; omega) = Y[k]'(by omega) := by simp
        rw [← h1]
        simp only [HY.out]
        simp
      have hb := xorB (U[k]'(by omega)) (V[k]'(by omega))
      rw [← hY] at hb
      have i1 : k < Y.length := by omega
      have i2 : k < U.length := by omega
      have i3 : k < V.length := by omega
      have HV2 : Hid (bits BinOp.xor IntKind.u8 ((((⟨U.toArray⟩ : ByteArray)[k]'(by rw [hUs]; exact i2)).toNat : Nat) : Int) ((((⟨V.toArray⟩ : ByteArray)[k]'(by rw [hVs]; exact i3)).toNat : Nat) : Int) = ((((⟨Y.toArray⟩ : ByteArray)[k]'(by rw [hYs]; exact i1)).toNat : Nat) : Int)) := Lib.hid hb
      have j1 : (k : Int) < 96 := by omega
      have j2 : (k : Int) < 32 := by omega
      have hv2 := HV2.out
      clear hY hb HV2
      go_wp2_with fail
      go_quiet (fail)
      have HB2 : Hid (Below w.heap.size w (wr.drewN nq)) := Lib.hid ⟨HB.out.os, HB.out.tape, HB.out.output, HB.out.size, HB.out.block⟩
      have HX2 : Hid ((wr.drewN nq).heap[w.heap.size]? = some (.cells #[.int .i64 2, .int .i64 n] 28 (0, 0))) := Lib.hid HX.out
      clear x0 HX HB hv2
      generalize wr.drewN nq = w6 at HB2 HX2 ⊢
      go_wp2_with fail
      go_roundw
      case rel => exact ⟨k + 1, by omega, by go_num, HX2.out, HB2.out⟩
      case measure => simp [intOf]; omega
    · go_wp2_with fail
      go_ret
      exact ⟨rfl, HB.out⟩
set_option maxHeartbeats 8000000 in
set_option maxRecDepth 100000 in
theorem more (pass salt : List UInt8) (r n : Int) (w : World) (hp : pass.length ≤ 140737488355328) (hs : salt.length ≤ 140737488355328) (hr : 3 ≤ r) (hr2 : r ≤ 64) (h3 : 1 ≤ n) (h4 : n ≤ 96) :
    Calls Try.prog 8 #[.string ⟨pass.toArray⟩, .string ⟨salt.toArray⟩, .agg #[.int .i64 r, .int .i64 n]] w fun e w' => e = .returned (.bool true) ∧ Below w.heap.size w w' := by
  have H1 := Lib.hid (stretch_any pass salt hp hs r n)
  rw [stretch_ok pass salt r n (by omega) (by omega) h3 h4] at H1
  have H2 := Lib.hid (stretch_any pass salt hp hs r 96)
  rw [stretch_ok pass salt r 96 (by omega) (by omega) (by omega) (by omega)] at H2
  have HU := Lib.hid (Mac_any pass (salt ++ [0, 0, 0, 1]) (by omega) (by rw [List.length_append]; show _ + 4 ≤ _; omega))
  have HV := Lib.hid (Mac_any pass (macL pass (salt ++ [0, 0, 0, 1])) (by omega) (by rw [mac_len]; omega))
  have HBL := Lib.hid (blocks_length (fillL pass) salt (r : Int).toNat 3)
  have HB1 := Lib.hid (blk1 (fillL pass) salt (r : Int).toNat)
  have happ := app_ba salt [0, 0, 0, 1]
  have hssz := size_ba salt
  have hsl : (salt.length : Int) ≤ 140737488355328 := by omega
  have HUL := Lib.hid (mac_len pass (salt ++ [0, 0, 0, 1]))
  have HVL := Lib.hid (mac_len pass (macL pass (salt ++ [0, 0, 0, 1])))
  rw [show (96 : Int).toNat = 96 from rfl, List.take_of_length_le (by rw [HBL.out]; omega)] at H2
  generalize blocksL (fillL pass) salt (r : Int).toNat 3 = Y at H1 H2 HBL HB1
  generalize macL pass (macL pass (salt ++ [0, 0, 0, 1])) = V at HV HVL
  generalize macL pass (salt ++ [0, 0, 0, 1]) = U at HU HV HUL
  generalize salt ++ [0, 0, 0, 1] = sl at happ HU
  have hYs := size_ba Y
  have hYl := HBL.out
  have hYl2 : n.toNat ≤ Y.length := by omega
  have hex : (⟨Y.toArray⟩ : ByteArray).extract 0 n.toNat = ⟨(Y.take n.toNat).toArray⟩ := by simpa using ext_ba Y 0 n.toNat
  have hex2 : (⟨Y.toArray⟩ : ByteArray).extract 0 32 = ⟨(Y.take 32).toArray⟩ := by simpa using ext_ba Y 0 32
  have hXl : ((Y.take n.toNat).length : Int) = n := by rw [List.length_take]; omega
  have hXs := size_ba (Y.take n.toNat)
  have hUs := size_ba U
  have hUl := HUL.out
  have hVs := size_ba V
  have hVl := HVL.out
  generalize Y.take n.toNat = X at H1 hex hXl hXs
  have HB0 : Hid (Below w.heap.size w (w.alloc (.cells #[.int .i64 r, .int .i64 n] 28))) := Lib.hid ((Below.refl _ _).alloc (Nat.le_refl _) _)
  have HX := Lib.hid (Go.heap_alloc_new w (.cells #[.int .i64 r, .int .i64 n] 28))
  have h30 : 0 ≤ n := by omega
  have h40 : n ≤ (Y.length : Int) := by omega
  clear hp hs HBL HUL HVL hYl2
  go_enter Try.func8, Try.ntmps8
  go_wp2_with fail
  refine (H1.out _).mono ?_
  rintro e w1 ⟨rfl, b1⟩
  have B1 := Lib.hid (HB0.out.trans (b1.mono HB0.out.size))
  have HX1 := Lib.hid ((b1.block _ (by simp)).trans HX.out)
  clear b1 H1 HB0 HX
  go_wp2_with fail
  refine (awake_any _).mono ?_
  rintro e w2 ⟨rfl, b2⟩
  have B2 := Lib.hid (B1.out.trans (b2.mono B1.out.size))
  have HX2 := Lib.hid ((b2.block _ (Array.getElem?_eq_some_iff.1 HX1.out).1).trans HX1.out)
  clear b2 B1 HX1
  have x0 : w2.cell? ⟨w.heap.size, 0, none⟩ = some (.int .i64 r) := blk_cell HX2.out 0
  have x1 : w2.cell? ⟨w.heap.size, 1, none⟩ = some (.int .i64 n) := blk_cell HX2.out 1
  go_wp2_with fail
  refine (H2.out _).mono ?_
  rintro e w3 ⟨rfl, b3⟩
  have B3 := Lib.hid (B2.out.trans (b3.mono B2.out.size))
  have HX3 := Lib.hid ((b3.block _ (Array.getElem?_eq_some_iff.1 HX2.out).1).trans HX2.out)
  clear b3 B2 HX2 x0 x1 H2
  have x0 : w3.cell? ⟨w.heap.size, 0, none⟩ = some (.int .i64 r) := blk_cell HX3.out 0
  have x1 : w3.cell? ⟨w.heap.size, 1, none⟩ = some (.int .i64 n) := blk_cell HX3.out 1
  go_wp2_with fail
  refine (HU.out _).mono ?_
  rintro e w4 ⟨rfl, b4⟩
  have B4 := Lib.hid (B3.out.trans (b4.mono B3.out.size))
  have HX4 := Lib.hid ((b4.block _ (Array.getElem?_eq_some_iff.1 HX3.out).1).trans HX3.out)
  clear b4 B3 HX3 x0 x1 HU
  go_wp2_with fail
  refine (HV.out _).mono ?_
  rintro e w5 ⟨rfl, b5⟩
  have B5 := Lib.hid (B4.out.trans (b5.mono B4.out.size))
  have HX5 := Lib.hid ((b5.block _ (Array.getElem?_eq_some_iff.1 HX4.out).1).trans HX4.out)
  clear b5 B4 HX4 HV
  have x0 : w5.cell? ⟨w.heap.size, 0, none⟩ = some (.int .i64 r) := blk_cell HX5.out 0
  have hn1 : (r == 1) = false := by simp; omega
  have hn2 : (r == 2) = false := by simp; omega
  have hn3 : ¬ r = 1 := by omega
  have hn4 : ¬ r = 2 := by omega
  go_wp2_with fail
  go_loop [13] (fun i => i = .int .i64 0) (fun _ => 0)
  case atStart => exact rfl
  case round =>
    obtain rfl := hrel
    go_wp2_with fail
    go_ret
    exact ⟨rfl, B5.out⟩
theorem walk (pass salt : List UInt8) (r n : Int) (w : World) (hp : pass.length ≤ 140737488355328) (hs : salt.length ≤ 140737488355328) :
    Calls Try.prog 8 #[.string ⟨pass.toArray⟩, .string ⟨salt.toArray⟩, .agg #[.int .i64 r, .int .i64 n]] w fun e w' => e = .returned (.bool true) ∧ Below w.heap.size w w' := by
  by_cases h1 : r < 1
  · exact no1 pass salt r n w hp hs h1
  by_cases h2 : 64 < r
  · exact no2 pass salt r n w hp hs h2 h1
  by_cases h3 : n < 1
  · exact no3 pass salt r n w hp hs h1 h2 h3
  by_cases h4 : 96 < n
  · exact no4 pass salt r n w hp hs h1 h2 h3 h4
  by_cases h5 : r = 1
  · exact one pass salt r n w hp hs h5 (by omega) (by omega)
  by_cases h6 : r = 2
  · exact two pass salt r n w hp hs h6 (by omega) (by omega)
  · exact more pass salt r n w hp hs (by omega) (by omega) (by omega) (by omega)
end hashBegins
end Go.Proofs.Ytocccgcbfhgbhaa
