/- The whole frame with which bytes begin: the program's way. Condition: the program's table. The whole frame at a place, and a file's beginning: the document's way. Condition: none. A file's beginning: the document's way. Condition: none. -/
import Derived.Lib.QuietBelow
import Derived.StillTailTactics
import Derived.BigQuiet
import Derived.Deep.QuietTactic
import Derived.Test.YtmoihgniglomiaaDoorZd09
set_option linter.unusedVariables false
set_option linter.unusedSimpArgs false
set_option maxRecDepth 100000
namespace Go.Proofs.YtmoihgniglomiaaDoor
open Go.RowKit Go.Sort
theorem ba_extract (l : Bs) (a b : Nat) : (⟨l.toArray⟩ : ByteArray).extract a b = ⟨((l.drop a).take (b - a)).toArray⟩ := by
  apply ByteArray.ext
  simp [ByteArray.data_extract, List.take_drop]
set_option maxHeartbeats 4000000 in
theorem sclone_any (l : Bs) (hl : l.length ≤ 140737488355328) (w : World) :
    Calls Tryd.prog 107 #[.string ⟨l.toArray⟩] w fun e w' => e = .returned (.string ⟨l.toArray⟩) ∧ Below w.heap.size w w' := by
  have HC := Lib.hid (Tryd.stringslite_Clone ⟨l.toArray⟩ w (by rw [size_ba]; omega))
  go_enter Tryd.func107, Tryd.ntmps107
  go_wp2_with fail
  refine HC.out.mono ?_
  rintro e w1 ⟨rfl, hb⟩
  have HB := Lib.hid hb; clear hb
  go_wp2_with fail
  go_ret
  exact ⟨rfl, HB.out⟩
set_option maxHeartbeats 4000000 in
theorem unframed_short (l : Bs) (most : Nat) (h : l.length < 8) (w : World) :
    Calls Tryd.prog 95 #[.string ⟨l.toArray⟩, .int .i64 (most : Int)] w fun e w' => e = .returned (.tuple #[.string ⟨#[]⟩, .string ⟨#[]⟩, .bool false]) ∧ Below w.heap.size w w' := by
  obtain ⟨n, hn⟩ : ∃ n, n = l.length := ⟨_, rfl⟩
  have hsz : (⟨l.toArray⟩ : ByteArray).size = n := by rw [size_ba, hn]
  have h8 : (n : Int) < 8 := by omega
  clear h hn
  go_enter Tryd.func95, Tryd.ntmps95
  go_wp2_with fail
  go_returns
  exact ⟨rfl, Below.refl _ _⟩
set_option maxHeartbeats 16000000 in
theorem unframed_most (l : Bs) (most : Nat) (h : ¬ l.length < 8) (hl : l.length ≤ 1048576) (hm : valN (l.take 4) > most) (w : World) (hT : Tb w) :
    Calls Tryd.prog 95 #[.string ⟨l.toArray⟩, .int .i64 (most : Int)] w fun e w' => e = .returned (.tuple #[.string ⟨#[]⟩, .string ⟨#[]⟩, .bool false]) ∧ Below w.heap.size w w' := by
  obtain ⟨n, hn⟩ : ∃ n, n = l.length := ⟨_, rfl⟩
  have hsz : (⟨l.toArray⟩ : ByteArray).size = n := by rw [size_ba, hn]
  have h8 : ¬ (n : Int) < 8 := by omega
  have h8' : decide ((n : Int) < 8) = false := by simpa using h8
  have HT := Lib.hid hT
  have hn1 : (n : Int) ≤ 1048576 := by omega
  have x4 : (⟨l.toArray⟩ : ByteArray).extract 0 4 = ⟨(l.take 4).toArray⟩ := by rw [ba_extract]; simp
  have x8 : (⟨l.toArray⟩ : ByteArray).extract 8 n = ⟨(l.drop 8).toArray⟩ := by rw [ba_extract, List.take_of_length_le (by rw [List.length_drop]; omega)]
  have x48 : (⟨l.toArray⟩ : ByteArray).extract 4 8 = ⟨((l.drop 4).take 4).toArray⟩ := ba_extract _ _ _
  have HS : Hid (∀ d os, Calls Tryd.prog 106 #[.string ⟨(l.take 4).toArray⟩] (grow (redrawn w d) os) fun e w'' => e = .returned (.int .u32 (valN (l.take 4) : Int)) ∧ ∃ p : Regrown, w'' = grow (redrawn w p.d) p.os) := Lib.hid fun d os => Calls.grown (number_any _ (by rw [List.length_take]; omega) _)
  have HS2 : Hid (∀ (w1 : World) d os, Calls Tryd.prog 106 #[.string ⟨((l.drop 4).take 4).toArray⟩] (grow (redrawn w1 d) os) fun e w'' => e = .returned (.int .u32 (valN ((l.drop 4).take 4) : Int)) ∧ ∃ p : Regrown, w'' = grow (redrawn w1 p.d) p.os) := Lib.hid fun w1 d os => Calls.grown (number_any _ (by rw [List.length_take]; omega) _)
  have hv : valN (l.take 4) < 4294967296 := valN4 _ (by rw [List.length_take]; omega)
  have hlb : (⟨(l.drop 8).toArray⟩ : ByteArray).size = n - 8 := by rw [size_ba, List.length_drop, hn]
  have hlb2 : (l.drop 8).length = n - 8 := by rw [List.length_drop, hn]
  have hlc : ((l.drop 8).take (valN (l.take 4))).length ≤ 1048576 := by rw [List.length_take, List.length_drop]; omega
  have HS3 : Hid (∀ w1 : World, Below w.heap.size w w1 → ∀ d os, Calls Tryd.prog 8 #[.string ⟨((l.drop 8).take (valN (l.take 4))).toArray⟩] (grow (redrawn w1 d) os) fun e w'' => e = .returned (.int .u32 (Crc.sum ((l.drop 8).take (valN (l.take 4))) : Int)) ∧ ∃ p : Regrown, w'' = grow (redrawn w1 p.d) p.os) := Lib.hid fun w1 hb d os => Calls.grown (sum_any _ (by omega) _ (HT.out.below (hb.trans ((below_regrown w1 d os).mono hb.size))))
  have HS4 : Hid (∀ w1 : World, ∀ d os, Calls Tryd.prog 107 #[.string ⟨((l.drop 8).take (valN (l.take 4))).toArray⟩] (grow (redrawn w1 d) os) fun e w'' => e = .returned (.string ⟨((l.drop 8).take (valN (l.take 4))).toArray⟩) ∧ ∃ p : Regrown, w'' = grow (redrawn w1 p.d) p.os) := Lib.hid fun w1 d os => Calls.regrown_of (sclone_any _ (by omega) _)
  have x0v : (⟨(l.drop 8).toArray⟩ : ByteArray).extract 0 (valN (l.take 4)) = ⟨((l.drop 8).take (valN (l.take 4))).toArray⟩ := by rw [ba_extract]; simp
  have xvn : (⟨(l.drop 8).toArray⟩ : ByteArray).extract (valN (l.take 4)) (n - 8) = ⟨((l.drop 8).drop (valN (l.take 4))).toArray⟩ := by rw [ba_extract, List.take_of_length_le (by rw [List.length_drop, List.length_drop]; omega)]
  generalize Crc.sum ((l.drop 8).take (valN (l.take 4))) = cs at *
  generalize valN ((l.drop 4).take 4) = vs at *
  generalize (l.drop 4).take 4 = lc at *
  generalize valN (l.take 4) = v at *
  generalize (l.drop 8).take v = fb at *
  generalize (l.drop 8).drop v = fr at *
  generalize l.take 4 = a at *
  generalize l.drop 8 = b at *
  have hv1 : (v : Int) < 4294967296 := by omega
  have hv0 : (0 : Int) ≤ v := by omega
  have hd1 : decide ((most : Int) < (v : Int)) = true := by simp; omega
  clear h hn hT hl HT hlc
  generalize hk : n - 8 = k at *
  go_enter Tryd.func95, Tryd.ntmps95
  go_wp2_with fail
  refine wp_region_quiet_below mixed (by kernel_rfl) ?_
  repeat (first | go_big_quiet_step (with_reducible exact HS.out _ _) | quiet_step (with_reducible exact HS.out _ _))
  refine wpQuiet_nil ?_
  intro _ hw'
  obtain ⟨⟨dq, osq⟩, hw''⟩ := hw'
  subst hw''
  have HB := Lib.hid (below_regrown w dq osq)
  generalize grow (redrawn w dq) osq = w1 at HB ⊢
  replace HS3 := Lib.hid (HS3.out w1 HB.out)
  replace HS2 := Lib.hid (HS2.out w1)
  clear HS
  go_wp2_with fail
  refine wp_region_quiet_below mixed (by kernel_rfl) ?_
  repeat (first | go_big_quiet_step (first | (with_reducible exact HS2.out _ _) | (with_reducible exact HS3.out _ _)) | quiet_step (first | (with_reducible exact HS2.out _ _) | (with_reducible exact HS3.out _ _)))
  refine wpQuiet_nil ?_
  intro _ hw'
  obtain ⟨⟨dq2, osq2⟩, hw''⟩ := hw'
  subst hw''
  have HB2 := Lib.hid (HB.out.trans ((below_regrown w1 dq2 osq2).mono HB.out.size))
  generalize grow (redrawn w1 dq2) osq2 = w2 at HB2 ⊢
  clear HB HS2 HS3
  go_wp2_with fail
  go_returns
  exact ⟨rfl, HB2.out⟩
set_option maxHeartbeats 16000000 in
theorem unframed_long (l : Bs) (most : Nat) (h : ¬ l.length < 8) (hl : l.length ≤ 1048576) (hm : ¬ valN (l.take 4) > most) (hg : valN (l.take 4) > l.length - 8) (w : World) (hT : Tb w) :
    Calls Tryd.prog 95 #[.string ⟨l.toArray⟩, .int .i64 (most : Int)] w fun e w' => e = .returned (.tuple #[.string ⟨#[]⟩, .string ⟨#[]⟩, .bool false]) ∧ Below w.heap.size w w' := by
  obtain ⟨n, hn⟩ : ∃ n, n = l.length := ⟨_, rfl⟩
  have hsz : (⟨l.toArray⟩ : ByteArray).size = n := by rw [size_ba, hn]
  have h8 : ¬ (n : Int) < 8 := by omega
  have h8' : decide ((n : Int) < 8) = false := by simpa using h8
  have HT := Lib.hid hT
  have hn1 : (n : Int) ≤ 1048576 := by omega
  have x4 : (⟨l.toArray⟩ : ByteArray).extract 0 4 = ⟨(l.take 4).toArray⟩ := by rw [ba_extract]; simp
  have x8 : (⟨l.toArray⟩ : ByteArray).extract 8 n = ⟨(l.drop 8).toArray⟩ := by rw [ba_extract, List.take_of_length_le (by rw [List.length_drop]; omega)]
  have x48 : (⟨l.toArray⟩ : ByteArray).extract 4 8 = ⟨((l.drop 4).take 4).toArray⟩ := ba_extract _ _ _
  have HS : Hid (∀ d os, Calls Tryd.prog 106 #[.string ⟨(l.take 4).toArray⟩] (grow (redrawn w d) os) fun e w'' => e = .returned (.int .u32 (valN (l.take 4) : Int)) ∧ ∃ p : Regrown, w'' = grow (redrawn w p.d) p.os) := Lib.hid fun d os => Calls.grown (number_any _ (by rw [List.length_take]; omega) _)
  have HS2 : Hid (∀ (w1 : World) d os, Calls Tryd.prog 106 #[.string ⟨((l.drop 4).take 4).toArray⟩] (grow (redrawn w1 d) os) fun e w'' => e = .returned (.int .u32 (valN ((l.drop 4).take 4) : Int)) ∧ ∃ p : Regrown, w'' = grow (redrawn w1 p.d) p.os) := Lib.hid fun w1 d os => Calls.grown (number_any _ (by rw [List.length_take]; omega) _)
  have hv : valN (l.take 4) < 4294967296 := valN4 _ (by rw [List.length_take]; omega)
  have hlb : (⟨(l.drop 8).toArray⟩ : ByteArray).size = n - 8 := by rw [size_ba, List.length_drop, hn]
  have hlb2 : (l.drop 8).length = n - 8 := by rw [List.length_drop, hn]
  have hlc : ((l.drop 8).take (valN (l.take 4))).length ≤ 1048576 := by rw [List.length_take, List.length_drop]; omega
  have HS3 : Hid (∀ w1 : World, Below w.heap.size w w1 → ∀ d os, Calls Tryd.prog 8 #[.string ⟨((l.drop 8).take (valN (l.take 4))).toArray⟩] (grow (redrawn w1 d) os) fun e w'' => e = .returned (.int .u32 (Crc.sum ((l.drop 8).take (valN (l.take 4))) : Int)) ∧ ∃ p : Regrown, w'' = grow (redrawn w1 p.d) p.os) := Lib.hid fun w1 hb d os => Calls.grown (sum_any _ (by omega) _ (HT.out.below (hb.trans ((below_regrown w1 d os).mono hb.size))))
  have HS4 : Hid (∀ w1 : World, ∀ d os, Calls Tryd.prog 107 #[.string ⟨((l.drop 8).take (valN (l.take 4))).toArray⟩] (grow (redrawn w1 d) os) fun e w'' => e = .returned (.string ⟨((l.drop 8).take (valN (l.take 4))).toArray⟩) ∧ ∃ p : Regrown, w'' = grow (redrawn w1 p.d) p.os) := Lib.hid fun w1 d os => Calls.regrown_of (sclone_any _ (by omega) _)
  have x0v : (⟨(l.drop 8).toArray⟩ : ByteArray).extract 0 (valN (l.take 4)) = ⟨((l.drop 8).take (valN (l.take 4))).toArray⟩ := by rw [ba_extract]; simp
  have xvn : (⟨(l.drop 8).toArray⟩ : ByteArray).extract (valN (l.take 4)) (n - 8) = ⟨((l.drop 8).drop (valN (l.take 4))).toArray⟩ := by rw [ba_extract, List.take_of_length_le (by rw [List.length_drop, List.length_drop]; omega)]
  generalize Crc.sum ((l.drop 8).take (valN (l.take 4))) = cs at *
  generalize valN ((l.drop 4).take 4) = vs at *
  generalize (l.drop 4).take 4 = lc at *
  generalize valN (l.take 4) = v at *
  generalize (l.drop 8).take v = fb at *
  generalize (l.drop 8).drop v = fr at *
  generalize l.take 4 = a at *
  generalize l.drop 8 = b at *
  have hv1 : (v : Int) < 4294967296 := by omega
  have hv0 : (0 : Int) ≤ v := by omega
  have hd1 : decide ((most : Int) < (v : Int)) = false := by simp; omega
  have hd2 : decide (((n - 8 : Nat) : Int) < (v : Int)) = true := by simp; omega
  have hd2n : decide (n - 8 < v) = true := by simp; omega
  clear h hn hT hl HT hlc
  generalize hk : n - 8 = k at *
  go_enter Tryd.func95, Tryd.ntmps95
  go_wp2_with fail
  refine wp_region_quiet_below mixed (by kernel_rfl) ?_
  repeat (first | go_big_quiet_step (with_reducible exact HS.out _ _) | quiet_step (with_reducible exact HS.out _ _))
  refine wpQuiet_nil ?_
  intro _ hw'
  obtain ⟨⟨dq, osq⟩, hw''⟩ := hw'
  subst hw''
  have HB := Lib.hid (below_regrown w dq osq)
  generalize grow (redrawn w dq) osq = w1 at HB ⊢
  replace HS3 := Lib.hid (HS3.out w1 HB.out)
  replace HS2 := Lib.hid (HS2.out w1)
  clear HS
  go_wp2_with fail
  refine wp_region_quiet_below mixed (by kernel_rfl) ?_
  repeat (first | go_big_quiet_step (first | (with_reducible exact HS2.out _ _) | (with_reducible exact HS3.out _ _)) | quiet_step (first | (with_reducible exact HS2.out _ _) | (with_reducible exact HS3.out _ _)))
  refine wpQuiet_nil ?_
  intro _ hw'
  obtain ⟨⟨dq2, osq2⟩, hw''⟩ := hw'
  subst hw''
  have HB2 := Lib.hid (HB.out.trans ((below_regrown w1 dq2 osq2).mono HB.out.size))
  generalize grow (redrawn w1 dq2) osq2 = w2 at HB2 ⊢
  clear HB HS2 HS3
  go_wp2_with fail
  go_returns
  exact ⟨rfl, HB2.out⟩
set_option maxHeartbeats 16000000 in
theorem unframed_sum (l : Bs) (most : Nat) (h : ¬ l.length < 8) (hl : l.length ≤ 1048576) (hm : ¬ valN (l.take 4) > most) (hg : ¬ valN (l.take 4) > l.length - 8) (hq : ¬ valN ((l.drop 4).take 4) = Crc.sum ((l.drop 8).take (valN (l.take 4)))) (w : World) (hT : Tb w) :
    Calls Tryd.prog 95 #[.string ⟨l.toArray⟩, .int .i64 (most : Int)] w fun e w' => e = .returned (.tuple #[.string ⟨#[]⟩, .string ⟨#[]⟩, .bool false]) ∧ Below w.heap.size w w' := by
  obtain ⟨n, hn⟩ : ∃ n, n = l.length := ⟨_, rfl⟩
  have hsz : (⟨l.toArray⟩ : ByteArray).size = n := by rw [size_ba, hn]
  have h8 : ¬ (n : Int) < 8 := by omega
  have h8' : decide ((n : Int) < 8) = false := by simpa using h8
  have HT := Lib.hid hT
  have hn1 : (n : Int) ≤ 1048576 := by omega
  have x4 : (⟨l.toArray⟩ : ByteArray).extract 0 4 = ⟨(l.take 4).toArray⟩ := by rw [ba_extract]; simp
  have x8 : (⟨l.toArray⟩ : ByteArray).extract 8 n = ⟨(l.drop 8).toArray⟩ := by rw [ba_extract, List.take_of_length_le (by rw [List.length_drop]; omega)]
  have x48 : (⟨l.toArray⟩ : ByteArray).extract 4 8 = ⟨((l.drop 4).take 4).toArray⟩ := ba_extract _ _ _
  have HS : Hid (∀ d os, Calls Tryd.prog 106 #[.string ⟨(l.take 4).toArray⟩] (grow (redrawn w d) os) fun e w'' => e = .returned (.int .u32 (valN (l.take 4) : Int)) ∧ ∃ p : Regrown, w'' = grow (redrawn w p.d) p.os) := Lib.hid fun d os => Calls.grown (number_any _ (by rw [List.length_take]; omega) _)
  have HS2 : Hid (∀ (w1 : World) d os, Calls Tryd.prog 106 #[.string ⟨((l.drop 4).take 4).toArray⟩] (grow (redrawn w1 d) os) fun e w'' => e = .returned (.int .u32 (valN ((l.drop 4).take 4) : Int)) ∧ ∃ p : Regrown, w'' = grow (redrawn w1 p.d) p.os) := Lib.hid fun w1 d os => Calls.grown (number_any _ (by rw [List.length_take]; omega) _)
  have hv : valN (l.take 4) < 4294967296 := valN4 _ (by rw [List.length_take]; omega)
  have hlb : (⟨(l.drop 8).toArray⟩ : ByteArray).size = n - 8 := by rw [size_ba, List.length_drop, hn]
  have hlb2 : (l.drop 8).length = n - 8 := by rw [List.length_drop, hn]
  have hlc : ((l.drop 8).take (valN (l.take 4))).length ≤ 1048576 := by rw [List.length_take, List.length_drop]; omega
  have HS3 : Hid (∀ w1 : World, Below w.heap.size w w1 → ∀ d os, Calls Tryd.prog 8 #[.string ⟨((l.drop 8).take (valN (l.take 4))).toArray⟩] (grow (redrawn w1 d) os) fun e w'' => e = .returned (.int .u32 (Crc.sum ((l.drop 8).take (valN (l.take 4))) : Int)) ∧ ∃ p : Regrown, w'' = grow (redrawn w1 p.d) p.os) := Lib.hid fun w1 hb d os => Calls.grown (sum_any _ (by omega) _ (HT.out.below (hb.trans ((below_regrown w1 d os).mono hb.size))))
  have HS4 : Hid (∀ w1 : World, ∀ d os, Calls Tryd.prog 107 #[.string ⟨((l.drop 8).take (valN (l.take 4))).toArray⟩] (grow (redrawn w1 d) os) fun e w'' => e = .returned (.string ⟨((l.drop 8).take (valN (l.take 4))).toArray⟩) ∧ ∃ p : Regrown, w'' = grow (redrawn w1 p.d) p.os) := Lib.hid fun w1 d os => Calls.regrown_of (sclone_any _ (by omega) _)
  have x0v : (⟨(l.drop 8).toArray⟩ : ByteArray).extract 0 (valN (l.take 4)) = ⟨((l.drop 8).take (valN (l.take 4))).toArray⟩ := by rw [ba_extract]; simp
  have xvn : (⟨(l.drop 8).toArray⟩ : ByteArray).extract (valN (l.take 4)) (n - 8) = ⟨((l.drop 8).drop (valN (l.take 4))).toArray⟩ := by rw [ba_extract, List.take_of_length_le (by rw [List.length_drop, List.length_drop]; omega)]
  have hsl : Crc.sum ((l.drop 8).take (valN (l.take 4))) < 4294967296 := Crc.sum_lt _
  have hd3 : ((valN ((l.drop 4).take 4) : Int) != (Crc.sum ((l.drop 8).take (valN (l.take 4))) : Int)) = true := by simp; omega
  generalize Crc.sum ((l.drop 8).take (valN (l.take 4))) = cs at *
  generalize valN ((l.drop 4).take 4) = vs at *
  generalize (l.drop 4).take 4 = lc at *
  generalize valN (l.take 4) = v at *
  generalize (l.drop 8).take v = fb at *
  generalize (l.drop 8).drop v = fr at *
  generalize l.take 4 = a at *
  generalize l.drop 8 = b at *
  have hv1 : (v : Int) < 4294967296 := by omega
  have hv0 : (0 : Int) ≤ v := by omega
  have hd1 : decide ((most : Int) < (v : Int)) = false := by simp; omega
  have hd2 : decide (((n - 8 : Nat) : Int) < (v : Int)) = false := by simp; omega
  have hd2n : decide (n - 8 < v) = false := by simp; omega
  have hvn : (v : Int) ≤ ((n - 8 : Nat) : Int) := by omega
  clear h hn hT hl HT hlc
  generalize hk : n - 8 = k at *
  go_enter Tryd.func95, Tryd.ntmps95
  go_wp2_with fail
  refine wp_region_quiet_below mixed (by kernel_rfl) ?_
  repeat (first | go_big_quiet_step (with_reducible exact HS.out _ _) | quiet_step (with_reducible exact HS.out _ _))
  refine wpQuiet_nil ?_
  intro _ hw'
  obtain ⟨⟨dq, osq⟩, hw''⟩ := hw'
  subst hw''
  have HB := Lib.hid (below_regrown w dq osq)
  generalize grow (redrawn w dq) osq = w1 at HB ⊢
  replace HS3 := Lib.hid (HS3.out w1 HB.out)
  replace HS2 := Lib.hid (HS2.out w1)
  clear HS
  go_wp2_with fail
  refine wp_region_quiet_below mixed (by kernel_rfl) ?_
  repeat (first | go_big_quiet_step (first | (with_reducible exact HS2.out _ _) | (with_reducible exact HS3.out _ _)) | quiet_step (first | (with_reducible exact HS2.out _ _) | (with_reducible exact HS3.out _ _)))
  refine wpQuiet_nil ?_
  intro _ hw'
  obtain ⟨⟨dq2, osq2⟩, hw''⟩ := hw'
  subst hw''
  have HB2 := Lib.hid (HB.out.trans ((below_regrown w1 dq2 osq2).mono HB.out.size))
  generalize grow (redrawn w1 dq2) osq2 = w2 at HB2 ⊢
  clear HB HS2 HS3
  go_wp2_with fail
  go_returns
  exact ⟨rfl, HB2.out⟩
set_option maxHeartbeats 16000000 in
theorem unframed_ok (l : Bs) (most : Nat) (h : ¬ l.length < 8) (hl : l.length ≤ 1048576) (hm : ¬ valN (l.take 4) > most) (hg : ¬ valN (l.take 4) > l.length - 8) (hq : valN ((l.drop 4).take 4) = Crc.sum ((l.drop 8).take (valN (l.take 4)))) (w : World) (hT : Tb w) :
    Calls Tryd.prog 95 #[.string ⟨l.toArray⟩, .int .i64 (most : Int)] w fun e w' => e = .returned (.tuple #[.string ⟨((l.drop 8).take (valN (l.take 4))).toArray⟩, .string ⟨((l.drop 8).drop (valN (l.take 4))).toArray⟩, .bool true]) ∧ Below w.heap.size w w' := by
  obtain ⟨n, hn⟩ : ∃ n, n = l.length := ⟨_, rfl⟩
  have hsz : (⟨l.toArray⟩ : ByteArray).size = n := by rw [size_ba, hn]
  have h8 : ¬ (n : Int) < 8 := by omega
  have h8' : decide ((n : Int) < 8) = false := by simpa using h8
  have HT := Lib.hid hT
  have hn1 : (n : Int) ≤ 1048576 := by omega
  have x4 : (⟨l.toArray⟩ : ByteArray).extract 0 4 = ⟨(l.take 4).toArray⟩ := by rw [ba_extract]; simp
  have x8 : (⟨l.toArray⟩ : ByteArray).extract 8 n = ⟨(l.drop 8).toArray⟩ := by rw [ba_extract, List.take_of_length_le (by rw [List.length_drop]; omega)]
  have x48 : (⟨l.toArray⟩ : ByteArray).extract 4 8 = ⟨((l.drop 4).take 4).toArray⟩ := ba_extract _ _ _
  have HS : Hid (∀ d os, Calls Tryd.prog 106 #[.string ⟨(l.take 4).toArray⟩] (grow (redrawn w d) os) fun e w'' => e = .returned (.int .u32 (valN (l.take 4) : Int)) ∧ ∃ p : Regrown, w'' = grow (redrawn w p.d) p.os) := Lib.hid fun d os => Calls.grown (number_any _ (by rw [List.length_take]; omega) _)
  have HS2 : Hid (∀ (w1 : World) d os, Calls Tryd.prog 106 #[.string ⟨((l.drop 4).take 4).toArray⟩] (grow (redrawn w1 d) os) fun e w'' => e = .returned (.int .u32 (valN ((l.drop 4).take 4) : Int)) ∧ ∃ p : Regrown, w'' = grow (redrawn w1 p.d) p.os) := Lib.hid fun w1 d os => Calls.grown (number_any _ (by rw [List.length_take]; omega) _)
  have hv : valN (l.take 4) < 4294967296 := valN4 _ (by rw [List.length_take]; omega)
  have hlb : (⟨(l.drop 8).toArray⟩ : ByteArray).size = n - 8 := by rw [size_ba, List.length_drop, hn]
  have hlb2 : (l.drop 8).length = n - 8 := by rw [List.length_drop, hn]
  have hlc : ((l.drop 8).take (valN (l.take 4))).length ≤ 1048576 := by rw [List.length_take, List.length_drop]; omega
  have HS3 : Hid (∀ w1 : World, Below w.heap.size w w1 → ∀ d os, Calls Tryd.prog 8 #[.string ⟨((l.drop 8).take (valN (l.take 4))).toArray⟩] (grow (redrawn w1 d) os) fun e w'' => e = .returned (.int .u32 (Crc.sum ((l.drop 8).take (valN (l.take 4))) : Int)) ∧ ∃ p : Regrown, w'' = grow (redrawn w1 p.d) p.os) := Lib.hid fun w1 hb d os => Calls.grown (sum_any _ (by omega) _ (HT.out.below (hb.trans ((below_regrown w1 d os).mono hb.size))))
  have HS4 : Hid (∀ w1 : World, ∀ d os, Calls Tryd.prog 107 #[.string ⟨((l.drop 8).take (valN (l.take 4))).toArray⟩] (grow (redrawn w1 d) os) fun e w'' => e = .returned (.string ⟨((l.drop 8).take (valN (l.take 4))).toArray⟩) ∧ ∃ p : Regrown, w'' = grow (redrawn w1 p.d) p.os) := Lib.hid fun w1 d os => Calls.regrown_of (sclone_any _ (by omega) _)
  have x0v : (⟨(l.drop 8).toArray⟩ : ByteArray).extract 0 (valN (l.take 4)) = ⟨((l.drop 8).take (valN (l.take 4))).toArray⟩ := by rw [ba_extract]; simp
  have xvn : (⟨(l.drop 8).toArray⟩ : ByteArray).extract (valN (l.take 4)) (n - 8) = ⟨((l.drop 8).drop (valN (l.take 4))).toArray⟩ := by rw [ba_extract, List.take_of_length_le (by rw [List.length_drop, List.length_drop]; omega)]
  have hsl : Crc.sum ((l.drop 8).take (valN (l.take 4))) < 4294967296 := Crc.sum_lt _
  have hd3 : ((valN ((l.drop 4).take 4) : Int) != (Crc.sum ((l.drop 8).take (valN (l.take 4))) : Int)) = false := by simp; omega
  generalize Crc.sum ((l.drop 8).take (valN (l.take 4))) = cs at *
  generalize valN ((l.drop 4).take 4) = vs at *
  generalize (l.drop 4).take 4 = lc at *
  generalize valN (l.take 4) = v at *
  generalize (l.drop 8).take v = fb at *
  generalize (l.drop 8).drop v = fr at *
  generalize l.take 4 = a at *
  generalize l.drop 8 = b at *
  have hv1 : (v : Int) < 4294967296 := by omega
  have hv0 : (0 : Int) ≤ v := by omega
  have hd1 : decide ((most : Int) < (v : Int)) = false := by simp; omega
  have hd2 : decide (((n - 8 : Nat) : Int) < (v : Int)) = false := by simp; omega
  have hd2n : decide (n - 8 < v) = false := by simp; omega
  have hvn : (v : Int) ≤ ((n - 8 : Nat) : Int) := by omega
  clear h hn hT hl HT hlc
  generalize hk : n - 8 = k at *
  go_enter Tryd.func95, Tryd.ntmps95
  go_wp2_with fail
  refine wp_region_quiet_below mixed (by kernel_rfl) ?_
  repeat (first | go_big_quiet_step (with_reducible exact HS.out _ _) | quiet_step (with_reducible exact HS.out _ _))
  refine wpQuiet_nil ?_
  intro _ hw'
  obtain ⟨⟨dq, osq⟩, hw''⟩ := hw'
  subst hw''
  have HB := Lib.hid (below_regrown w dq osq)
  generalize grow (redrawn w dq) osq = w1 at HB ⊢
  replace HS3 := Lib.hid (HS3.out w1 HB.out)
  replace HS2 := Lib.hid (HS2.out w1)
  clear HS
  go_wp2_with fail
  refine wp_region_quiet_below mixed (by kernel_rfl) ?_
  repeat (first | go_big_quiet_step (first | (with_reducible exact HS2.out _ _) | (with_reducible exact HS3.out _ _)) | quiet_step (first | (with_reducible exact HS2.out _ _) | (with_reducible exact HS3.out _ _)))
  refine wpQuiet_nil ?_
  intro _ hw'
  obtain ⟨⟨dq2, osq2⟩, hw''⟩ := hw'
  subst hw''
  have HB2 := Lib.hid (HB.out.trans ((below_regrown w1 dq2 osq2).mono HB.out.size))
  generalize grow (redrawn w1 dq2) osq2 = w2 at HB2 ⊢
  clear HB HS2 HS3
  go_wp2_with fail
  replace HS4 := Lib.hid (HS4.out w2)
  refine wp_region_quiet_below mixed (by kernel_rfl) ?_
  repeat (first | go_big_quiet_step (with_reducible exact HS4.out _ _) | quiet_step (with_reducible exact HS4.out _ _))
  refine wpQuiet_nil ?_
  intro _ hw'
  obtain ⟨⟨dq3, osq3⟩, hw''⟩ := hw'
  subst hw''
  have HB3 := Lib.hid (HB2.out.trans ((below_regrown w2 dq3 osq3).mono HB2.out.size))
  generalize grow (redrawn w2 dq3) osq3 = w3 at HB3 ⊢
  go_wp2_with fail
  go_returns
  exact ⟨rfl, HB3.out⟩
def ufV (x : Option (Bs × Bs)) : Value := match x with
  | none => .tuple #[.string ⟨#[]⟩, .string ⟨#[]⟩, .bool false]
  | some (r, b) => .tuple #[.string ⟨r.toArray⟩, .string ⟨b.toArray⟩, .bool true]
theorem unframed_any (l : Bs) (most : Nat) (hl : l.length ≤ 1048576) (w : World) (hT : Tb w) :
    Calls Tryd.prog 95 #[.string ⟨l.toArray⟩, .int .i64 (most : Int)] w fun e w' => e = .returned (ufV (unframed l most)) ∧ Below w.heap.size w w' := by
  unfold unframed whole
  by_cases h : l.length < 8
  · rw [if_neg (by simp; omega)]; exact unframed_short l most h w
  · by_cases hm : valN (l.take 4) > most
    · rw [if_neg (by simp; omega)]; exact unframed_most l most h hl hm w hT
    · by_cases hg : valN (l.take 4) > l.length - 8
      · rw [if_neg (by simp; omega)]; exact unframed_long l most h hl hm hg w hT
      · by_cases hq : valN ((l.drop 4).take 4) = Crc.sum ((l.drop 8).take (valN (l.take 4)))
        · rw [if_pos (by simp only [Bool.and_eq_true, decide_eq_true_eq]; exact ⟨⟨⟨by omega, by omega⟩, by omega⟩, hq⟩)]; exact unframed_ok l most h hl hm hg hq w hT
        · rw [if_neg (by simp only [Bool.and_eq_true, decide_eq_true_eq]; exact fun h => hq h.2)]; exact unframed_sum l most h hl hm hg hq w hT
def wfV (x : Option (Bs × Bs)) (e : Ending) : Prop := match x with
  | none => ∃ s : Bs, e = .returned (.tuple #[.string ⟨s.toArray⟩, .bool false])
  | some (r, _) => e = .returned (.tuple #[.string ⟨r.toArray⟩, .bool true])
set_option maxHeartbeats 16000000 in
theorem whole_short (l : Bs) (p most : Nat) (hp : p ≤ l.length) (hl : l.length ≤ 1048576) (hmo : most ≤ 1048576) (h : (l.drop p).length < 8) (w : World) :
    Calls Tryd.prog 90 #[.string ⟨l.toArray⟩, .int .i64 (p : Int), .int .i64 (most : Int)] w fun e w' => (∃ s : Bs, e = .returned (.tuple #[.string ⟨s.toArray⟩, .bool false])) ∧ w = w' := by
  obtain ⟨n, hn⟩ : ∃ n, n = l.length := ⟨_, rfl⟩
  have hsz : (⟨l.toArray⟩ : ByteArray).size = n := by rw [size_ba, hn]
  have hn1 : (n : Int) ≤ 1048576 := by omega
  have hp1 : (p : Int) ≤ (n : Int) := by omega
  have hp0 : (0 : Int) ≤ p := by omega
  have hmo1 : (most : Int) ≤ 1048576 := by omega
  have hmo0 : (0 : Int) ≤ most := by omega
  have hdl : (l.drop p).length = n - p := by rw [List.length_drop, hn]
  have hd0 : decide ((n : Int) < (p : Int) + 8) = true := by simp; omega
  clear h hn hl hp hmo hdl
  go_enter Tryd.func90, Tryd.ntmps90
  go_wp2_with fail
  go_returns
  exact ⟨⟨[], rfl⟩, rfl⟩
set_option maxHeartbeats 16000000 in
theorem whole_most (l : Bs) (p most : Nat) (hp : p ≤ l.length) (hl : l.length ≤ 1048576) (hmo : most ≤ 1048576) (h : ¬ (l.drop p).length < 8) (hm : valN ((l.drop p).take 4) > most) (w : World) :
    Calls Tryd.prog 90 #[.string ⟨l.toArray⟩, .int .i64 (p : Int), .int .i64 (most : Int)] w fun e w' => (∃ s : Bs, e = .returned (.tuple #[.string ⟨s.toArray⟩, .bool false])) ∧ w = w' := by
  obtain ⟨n, hn⟩ : ∃ n, n = l.length := ⟨_, rfl⟩
  have hsz : (⟨l.toArray⟩ : ByteArray).size = n := by rw [size_ba, hn]
  have hn1 : (n : Int) ≤ 1048576 := by omega
  have hp1 : (p : Int) ≤ (n : Int) := by omega
  have hp0 : (0 : Int) ≤ p := by omega
  have hmo1 : (most : Int) ≤ 1048576 := by omega
  have hmo0 : (0 : Int) ≤ most := by omega
  have hdl : (l.drop p).length = n - p := by rw [List.length_drop, hn]
  have hd0 : decide ((n : Int) < (p : Int) + 8) = false := by simp; omega
  have hp8 : (p : Int) + 8 ≤ (n : Int) := by omega
  have x4 : (⟨l.toArray⟩ : ByteArray).extract p (p + 4) = ⟨((l.drop p).take 4).toArray⟩ := by rw [ba_extract]; simp
  have x48 : (⟨l.toArray⟩ : ByteArray).extract (p + 4) (p + 8) = ⟨(((l.drop p).drop 4).take 4).toArray⟩ := by rw [ba_extract, List.drop_drop, show p + 8 - (p + 4) = 4 by omega]
  have xs : (⟨l.toArray⟩ : ByteArray).extract (p + 8) (p + 8 + valN ((l.drop p).take 4)) = ⟨(((l.drop p).drop 8).take (valN ((l.drop p).take 4))).toArray⟩ := by rw [ba_extract, List.drop_drop, show p + 8 + valN ((l.drop p).take 4) - (p + 8) = valN ((l.drop p).take 4) by omega]
  have HV := Lib.hid (value_any ((l.drop p).take 4) (by rw [List.length_take]; omega))
  have HV2 := Lib.hid (value_any (((l.drop p).drop 4).take 4) (by rw [List.length_take]; omega))
  have hlc : (((l.drop p).drop 8).take (valN ((l.drop p).take 4))).length ≤ 1048576 := by rw [List.length_take, List.length_drop, List.length_drop]; omega
  have HC := Lib.hid (rsum_any (((l.drop p).drop 8).take (valN ((l.drop p).take 4))) (by omega))
  have hv : valN ((l.drop p).take 4) < 4294967296 := valN4 _ (by rw [List.length_take]; omega)
  generalize Crc.sum (((l.drop p).drop 8).take (valN ((l.drop p).take 4))) = cs at *
  generalize valN (((l.drop p).drop 4).take 4) = vs at *
  generalize ((l.drop p).drop 4).take 4 = lc at *
  generalize valN ((l.drop p).take 4) = v at *
  generalize ((l.drop p).drop 8).take v = fb at *
  generalize (l.drop p).take 4 = a at *
  have hv1 : (v : Int) < 4294967296 := by omega
  have hv0 : (0 : Int) ≤ v := by omega
  have hd1 : decide ((most : Int) < (v : Int)) = true := by simp; omega
  have hd1n : decide (most < v) = true := by simp; omega
  clear h hn hl hp hmo hdl hlc
  go_enter Tryd.func90, Tryd.ntmps90
  go_wp2_with fail
  refine (HV.out _).mono ?_
  rintro e w1 ⟨rfl, rfl⟩
  go_wp2_with fail
  go_returns
  exact ⟨⟨[], rfl⟩, rfl⟩
set_option maxHeartbeats 16000000 in
theorem whole_long (l : Bs) (p most : Nat) (hp : p ≤ l.length) (hl : l.length ≤ 1048576) (hmo : most ≤ 1048576) (h : ¬ (l.drop p).length < 8) (hm : ¬ valN ((l.drop p).take 4) > most) (hg : valN ((l.drop p).take 4) > (l.drop p).length - 8) (w : World) :
    Calls Tryd.prog 90 #[.string ⟨l.toArray⟩, .int .i64 (p : Int), .int .i64 (most : Int)] w fun e w' => (∃ s : Bs, e = .returned (.tuple #[.string ⟨s.toArray⟩, .bool false])) ∧ w = w' := by
  obtain ⟨n, hn⟩ : ∃ n, n = l.length := ⟨_, rfl⟩
  have hsz : (⟨l.toArray⟩ : ByteArray).size = n := by rw [size_ba, hn]
  have hn1 : (n : Int) ≤ 1048576 := by omega
  have hp1 : (p : Int) ≤ (n : Int) := by omega
  have hp0 : (0 : Int) ≤ p := by omega
  have hmo1 : (most : Int) ≤ 1048576 := by omega
  have hmo0 : (0 : Int) ≤ most := by omega
  have hdl : (l.drop p).length = n - p := by rw [List.length_drop, hn]
  have hd0 : decide ((n : Int) < (p : Int) + 8) = false := by simp; omega
  have hp8 : (p : Int) + 8 ≤ (n : Int) := by omega
  have x4 : (⟨l.toArray⟩ : ByteArray).extract p (p + 4) = ⟨((l.drop p).take 4).toArray⟩ := by rw [ba_extract]; simp
  have x48 : (⟨l.toArray⟩ : ByteArray).extract (p + 4) (p + 8) = ⟨(((l.drop p).drop 4).take 4).toArray⟩ := by rw [ba_extract, List.drop_drop, show p + 8 - (p + 4) = 4 by omega]
  have xs : (⟨l.toArray⟩ : ByteArray).extract (p + 8) (p + 8 + valN ((l.drop p).take 4)) = ⟨(((l.drop p).drop 8).take (valN ((l.drop p).take 4))).toArray⟩ := by rw [ba_extract, List.drop_drop, show p + 8 + valN ((l.drop p).take 4) - (p + 8) = valN ((l.drop p).take 4) by omega]
  have HV := Lib.hid (value_any ((l.drop p).take 4) (by rw [List.length_take]; omega))
  have HV2 := Lib.hid (value_any (((l.drop p).drop 4).take 4) (by rw [List.length_take]; omega))
  have hlc : (((l.drop p).drop 8).take (valN ((l.drop p).take 4))).length ≤ 1048576 := by rw [List.length_take, List.length_drop, List.length_drop]; omega
  have HC := Lib.hid (rsum_any (((l.drop p).drop 8).take (valN ((l.drop p).take 4))) (by omega))
  have hv : valN ((l.drop p).take 4) < 4294967296 := valN4 _ (by rw [List.length_take]; omega)
  generalize Crc.sum (((l.drop p).drop 8).take (valN ((l.drop p).take 4))) = cs at *
  generalize valN (((l.drop p).drop 4).take 4) = vs at *
  generalize ((l.drop p).drop 4).take 4 = lc at *
  generalize valN ((l.drop p).take 4) = v at *
  generalize ((l.drop p).drop 8).take v = fb at *
  generalize (l.drop p).take 4 = a at *
  have hv1 : (v : Int) < 4294967296 := by omega
  have hv0 : (0 : Int) ≤ v := by omega
  have hd1 : decide ((most : Int) < (v : Int)) = false := by simp; omega
  have hd1n : decide (most < v) = false := by simp; omega
  have hd2 : decide ((n : Int) - (p : Int) - 8 < (v : Int)) = true := by simp; omega
  clear h hn hl hp hmo hdl hlc
  go_enter Tryd.func90, Tryd.ntmps90
  go_wp2_with fail
  refine (HV.out _).mono ?_
  rintro e w1 ⟨rfl, rfl⟩
  go_wp2_with fail
  go_returns
  exact ⟨⟨[], rfl⟩, rfl⟩
set_option maxHeartbeats 16000000 in
theorem whole_sum (l : Bs) (p most : Nat) (hp : p ≤ l.length) (hl : l.length ≤ 1048576) (hmo : most ≤ 1048576) (h : ¬ (l.drop p).length < 8) (hm : ¬ valN ((l.drop p).take 4) > most) (hg : ¬ valN ((l.drop p).take 4) > (l.drop p).length - 8) (hq : ¬ valN (((l.drop p).drop 4).take 4) = Crc.sum (((l.drop p).drop 8).take (valN ((l.drop p).take 4)))) (w : World) :
    Calls Tryd.prog 90 #[.string ⟨l.toArray⟩, .int .i64 (p : Int), .int .i64 (most : Int)] w fun e w' => (∃ s : Bs, e = .returned (.tuple #[.string ⟨s.toArray⟩, .bool false])) ∧ w = w' := by
  obtain ⟨n, hn⟩ : ∃ n, n = l.length := ⟨_, rfl⟩
  have hsz : (⟨l.toArray⟩ : ByteArray).size = n := by rw [size_ba, hn]
  have hn1 : (n : Int) ≤ 1048576 := by omega
  have hp1 : (p : Int) ≤ (n : Int) := by omega
  have hp0 : (0 : Int) ≤ p := by omega
  have hmo1 : (most : Int) ≤ 1048576 := by omega
  have hmo0 : (0 : Int) ≤ most := by omega
  have hdl : (l.drop p).length = n - p := by rw [List.length_drop, hn]
  have hd0 : decide ((n : Int) < (p : Int) + 8) = false := by simp; omega
  have hp8 : (p : Int) + 8 ≤ (n : Int) := by omega
  have x4 : (⟨l.toArray⟩ : ByteArray).extract p (p + 4) = ⟨((l.drop p).take 4).toArray⟩ := by rw [ba_extract]; simp
  have x48 : (⟨l.toArray⟩ : ByteArray).extract (p + 4) (p + 8) = ⟨(((l.drop p).drop 4).take 4).toArray⟩ := by rw [ba_extract, List.drop_drop, show p + 8 - (p + 4) = 4 by omega]
  have xs : (⟨l.toArray⟩ : ByteArray).extract (p + 8) (p + 8 + valN ((l.drop p).take 4)) = ⟨(((l.drop p).drop 8).take (valN ((l.drop p).take 4))).toArray⟩ := by rw [ba_extract, List.drop_drop, show p + 8 + valN ((l.drop p).take 4) - (p + 8) = valN ((l.drop p).take 4) by omega]
  have HV := Lib.hid (value_any ((l.drop p).take 4) (by rw [List.length_take]; omega))
  have HV2 := Lib.hid (value_any (((l.drop p).drop 4).take 4) (by rw [List.length_take]; omega))
  have hlc : (((l.drop p).drop 8).take (valN ((l.drop p).take 4))).length ≤ 1048576 := by rw [List.length_take, List.length_drop, List.length_drop]; omega
  have HC := Lib.hid (rsum_any (((l.drop p).drop 8).take (valN ((l.drop p).take 4))) (by omega))
  have hv : valN ((l.drop p).take 4) < 4294967296 := valN4 _ (by rw [List.length_take]; omega)
  have hsl : Crc.sum (((l.drop p).drop 8).take (valN ((l.drop p).take 4))) < 4294967296 := Crc.sum_lt _
  have hsl1 : (Crc.sum (((l.drop p).drop 8).take (valN ((l.drop p).take 4))) : Int) < 4294967296 := by omega
  generalize Crc.sum (((l.drop p).drop 8).take (valN ((l.drop p).take 4))) = cs at *
  generalize valN (((l.drop p).drop 4).take 4) = vs at *
  generalize ((l.drop p).drop 4).take 4 = lc at *
  generalize valN ((l.drop p).take 4) = v at *
  generalize ((l.drop p).drop 8).take v = fb at *
  generalize (l.drop p).take 4 = a at *
  have hv1 : (v : Int) < 4294967296 := by omega
  have hv0 : (0 : Int) ≤ v := by omega
  have hd3 : ((vs : Int) == (cs : Int)) = false := by simp; omega
  have hd1 : decide ((most : Int) < (v : Int)) = false := by simp; omega
  have hd1n : decide (most < v) = false := by simp; omega
  have hd2 : decide ((n : Int) - (p : Int) - 8 < (v : Int)) = false := by simp; omega
  have hvn : (v : Int) ≤ (n : Int) - (p : Int) - 8 := by omega
  clear h hn hl hp hmo hdl hlc
  go_enter Tryd.func90, Tryd.ntmps90
  go_wp2_with fail
  refine (HV.out _).mono ?_
  rintro e w1 ⟨rfl, rfl⟩
  go_wp2_with fail
  refine (HV2.out _).mono ?_
  rintro e w1 ⟨rfl, rfl⟩
  go_wp2_with fail
  refine (HC.out _).mono ?_
  rintro e w1 ⟨rfl, rfl⟩
  go_wp2_with fail
  go_returns
  exact ⟨⟨fb, rfl⟩, rfl⟩
set_option maxHeartbeats 16000000 in
theorem whole_ok (l : Bs) (p most : Nat) (hp : p ≤ l.length) (hl : l.length ≤ 1048576) (hmo : most ≤ 1048576) (h : ¬ (l.drop p).length < 8) (hm : ¬ valN ((l.drop p).take 4) > most) (hg : ¬ valN ((l.drop p).take 4) > (l.drop p).length - 8) (hq : valN (((l.drop p).drop 4).take 4) = Crc.sum (((l.drop p).drop 8).take (valN ((l.drop p).take 4)))) (w : World) :
    Calls Tryd.prog 90 #[.string ⟨l.toArray⟩, .int .i64 (p : Int), .int .i64 (most : Int)] w fun e w' => e = .returned (.tuple #[.string ⟨(((l.drop p).drop 8).take (valN ((l.drop p).take 4))).toArray⟩, .bool true]) ∧ w = w' := by
  obtain ⟨n, hn⟩ : ∃ n, n = l.length := ⟨_, rfl⟩
  have hsz : (⟨l.toArray⟩ : ByteArray).size = n := by rw [size_ba, hn]
  have hn1 : (n : Int) ≤ 1048576 := by omega
  have hp1 : (p : Int) ≤ (n : Int) := by omega
  have hp0 : (0 : Int) ≤ p := by omega
  have hmo1 : (most : Int) ≤ 1048576 := by omega
  have hmo0 : (0 : Int) ≤ most := by omega
  have hdl : (l.drop p).length = n - p := by rw [List.length_drop, hn]
  have hd0 : decide ((n : Int) < (p : Int) + 8) = false := by simp; omega
  have hp8 : (p : Int) + 8 ≤ (n : Int) := by omega
  have x4 : (⟨l.toArray⟩ : ByteArray).extract p (p + 4) = ⟨((l.drop p).take 4).toArray⟩ := by rw [ba_extract]; simp
  have x48 : (⟨l.toArray⟩ : ByteArray).extract (p + 4) (p + 8) = ⟨(((l.drop p).drop 4).take 4).toArray⟩ := by rw [ba_extract, List.drop_drop, show p + 8 - (p + 4) = 4 by omega]
  have xs : (⟨l.toArray⟩ : ByteArray).extract (p + 8) (p + 8 + valN ((l.drop p).take 4)) = ⟨(((l.drop p).drop 8).take (valN ((l.drop p).take 4))).toArray⟩ := by rw [ba_extract, List.drop_drop, show p + 8 + valN ((l.drop p).take 4) - (p + 8) = valN ((l.drop p).take 4) by omega]
  have HV := Lib.hid (value_any ((l.drop p).take 4) (by rw [List.length_take]; omega))
  have HV2 := Lib.hid (value_any (((l.drop p).drop 4).take 4) (by rw [List.length_take]; omega))
  have hlc : (((l.drop p).drop 8).take (valN ((l.drop p).take 4))).length ≤ 1048576 := by rw [List.length_take, List.length_drop, List.length_drop]; omega
  have HC := Lib.hid (rsum_any (((l.drop p).drop 8).take (valN ((l.drop p).take 4))) (by omega))
  have hv : valN ((l.drop p).take 4) < 4294967296 := valN4 _ (by rw [List.length_take]; omega)
  have hsl : Crc.sum (((l.drop p).drop 8).take (valN ((l.drop p).take 4))) < 4294967296 := Crc.sum_lt _
  have hsl1 : (Crc.sum (((l.drop p).drop 8).take (valN ((l.drop p).take 4))) : Int) < 4294967296 := by omega
  generalize Crc.sum (((l.drop p).drop 8).take (valN ((l.drop p).take 4))) = cs at *
  generalize valN (((l.drop p).drop 4).take 4) = vs at *
  generalize ((l.drop p).drop 4).take 4 = lc at *
  generalize valN ((l.drop p).take 4) = v at *
  generalize ((l.drop p).drop 8).take v = fb at *
  generalize (l.drop p).take 4 = a at *
  have hv1 : (v : Int) < 4294967296 := by omega
  have hv0 : (0 : Int) ≤ v := by omega
  have hd3 : ((vs : Int) == (cs : Int)) = true := by simp; omega
  have hd1 : decide ((most : Int) < (v : Int)) = false := by simp; omega
  have hd1n : decide (most < v) = false := by simp; omega
  have hd2 : decide ((n : Int) - (p : Int) - 8 < (v : Int)) = false := by simp; omega
  have hvn : (v : Int) ≤ (n : Int) - (p : Int) - 8 := by omega
  clear h hn hl hp hmo hdl hlc
  go_enter Tryd.func90, Tryd.ntmps90
  go_wp2_with fail
  refine (HV.out _).mono ?_
  rintro e w1 ⟨rfl, rfl⟩
  go_wp2_with fail
  refine (HV2.out _).mono ?_
  rintro e w1 ⟨rfl, rfl⟩
  go_wp2_with fail
  refine (HC.out _).mono ?_
  rintro e w1 ⟨rfl, rfl⟩
  go_wp2_with fail
  go_returns
  exact ⟨rfl, rfl⟩
theorem whole_any (l : Bs) (p most : Nat) (hp : p ≤ l.length) (hl : l.length ≤ 1048576) (hmo : most ≤ 1048576) (w : World) :
    Calls Tryd.prog 90 #[.string ⟨l.toArray⟩, .int .i64 (p : Int), .int .i64 (most : Int)] w fun e w' => wfV (unframed (l.drop p) most) e ∧ w = w' := by
  unfold unframed whole
  by_cases h : (l.drop p).length < 8
  · rw [if_neg (by simp only [Bool.and_eq_true, decide_eq_true_eq]; omega)]; exact whole_short l p most hp hl hmo h w
  · by_cases hm : valN ((l.drop p).take 4) > most
    · rw [if_neg (by simp only [Bool.and_eq_true, decide_eq_true_eq]; omega)]; exact whole_most l p most hp hl hmo h hm w
    · by_cases hg : valN ((l.drop p).take 4) > (l.drop p).length - 8
      · rw [if_neg (by simp only [Bool.and_eq_true, decide_eq_true_eq]; omega)]; exact whole_long l p most hp hl hmo h hm hg w
      · by_cases hq : valN (((l.drop p).drop 4).take 4) = Crc.sum (((l.drop p).drop 8).take (valN ((l.drop p).take 4)))
        · rw [if_pos (by simp only [Bool.and_eq_true, decide_eq_true_eq]; exact ⟨⟨⟨by omega, by omega⟩, by omega⟩, hq⟩)]; exact whole_ok l p most hp hl hmo h hm hg hq w
        · rw [if_neg (by simp only [Bool.and_eq_true, decide_eq_true_eq]; exact fun h => hq h.2)]; exact whole_sum l p most hp hl hmo h hm hg hq w
theorem unframed_drop {s : Bs} {most : Nat} {r b : Bs} (h : unframed s most = some (r, b)) : b = s.drop (8 + r.length) := by
  have := unframed_len h
  unfold unframed at h
  split at h
  · rename_i hw
    simp only [Option.some.injEq, Prod.mk.injEq] at h
    obtain ⟨rfl, rfl⟩ := h
    simp only [whole, Bool.and_eq_true, decide_eq_true_eq] at hw
    rw [List.drop_drop, List.length_take, List.length_drop, Nat.min_eq_left hw.1.2]
  · cases h
set_option maxHeartbeats 16000000 in
theorem counts_short (l : Bs) (h : l.length < 12) (w : World) :
    Calls Tryd.prog 89 #[.string ⟨l.toArray⟩] w fun e w' => e = .returned (.tuple #[.int .u64 0, .string ⟨#[]⟩, .int .i64 0]) ∧ w = w' := by
  obtain ⟨n, hn⟩ : ∃ n, n = l.length := ⟨_, rfl⟩
  have hsz : (⟨l.toArray⟩ : ByteArray).size = n := by rw [size_ba, hn]
  have hn1 : decide ((n : Int) < 12) = true := by simp; omega
  clear h hn
  go_enter Tryd.func89, Tryd.ntmps89
  go_wp2_with fail
  go_returns
  exact ⟨rfl, rfl⟩
set_option maxHeartbeats 16000000 in
theorem counts_mark (l : Bs) (h : ¬ l.length < 12) (hm : l.take 4 ≠ mark) (w : World) :
    Calls Tryd.prog 89 #[.string ⟨l.toArray⟩] w fun e w' => e = .returned (.tuple #[.int .u64 0, .string ⟨#[]⟩, .int .i64 0]) ∧ w = w' := by
  obtain ⟨n, hn⟩ : ∃ n, n = l.length := ⟨_, rfl⟩
  have hsz : (⟨l.toArray⟩ : ByteArray).size = n := by rw [size_ba, hn]
  have hn1 : decide ((n : Int) < 12) = false := by simp; omega
  have hn2 : (12 : Int) ≤ (n : Int) := by omega
  have x4 : (⟨l.toArray⟩ : ByteArray).extract 0 4 = ⟨(l.take 4).toArray⟩ := by rw [ba_extract]; simp
  generalize l.take 4 = a at x4 hm
  have hm2 : (a == [83, 78, 76, 49]) = false := by simpa [mark] using hm
  clear h hn hm
  go_enter Tryd.func89, Tryd.ntmps89
  go_wp2_with fail
  go_returns
  exact ⟨rfl, rfl⟩
set_option maxHeartbeats 16000000 in
theorem counts_none (l : Bs) (h : ¬ l.length < 12) (hl : l.length ≤ 1048576) (hm : l.take 4 = mark) (hu : unframed (l.drop 12) 524288 = none) (w : World) :
    Calls Tryd.prog 89 #[.string ⟨l.toArray⟩] w fun e w' => (∃ (s : Bs) (a : Int), e = .returned (.tuple #[.int .u64 0, .string ⟨s.toArray⟩, .int .i64 a])) ∧ w = w' := by
  obtain ⟨n, hn⟩ : ∃ n, n = l.length := ⟨_, rfl⟩
  have hsz : (⟨l.toArray⟩ : ByteArray).size = n := by rw [size_ba, hn]
  have hn1 : decide ((n : Int) < 12) = false := by simp; omega
  have hn2 : (12 : Int) ≤ (n : Int) := by omega
  have x4 : (⟨l.toArray⟩ : ByteArray).extract 0 4 = ⟨(l.take 4).toArray⟩ := by rw [ba_extract]; simp
  have xg : (⟨l.toArray⟩ : ByteArray).extract 4 12 = ⟨((l.drop 4).take 8).toArray⟩ := ba_extract _ _ _
  have hm2 : (l.take 4 == [83, 78, 76, 49]) = true := by rw [hm]; rfl
  have HV := Lib.hid (value_any ((l.drop 4).take 8) (by rw [List.length_take]; omega))
  have HW := Lib.hid (whole_any l 12 524288 (by omega) hl (by omega))
  have hvl : valN ((l.drop 4).take 8) < 18446744073709551616 := Nat.lt_of_lt_of_le (valN_lt _) (Nat.le_trans (Nat.pow_le_pow_right (by decide) (show ((l.drop 4).take 8).length ≤ 8 by rw [List.length_take]; omega)) (by decide))
  rw [hu] at HW
  generalize valN ((l.drop 4).take 8) = v at *
  generalize (l.drop 4).take 8 = c at *
  generalize l.take 4 = a at *
  have hv0 : (0 : Int) ≤ v := by omega
  have hv1 : (v : Int) < 18446744073709551616 := by omega
  clear h hn hl hm hu
  go_enter Tryd.func89, Tryd.ntmps89
  go_wp2_with fail
  refine (HV.out _).mono ?_
  rintro e w1 ⟨rfl, rfl⟩
  go_wp2_with fail
  refine (HW.out _).mono ?_
  rintro e w1 ⟨⟨s, rfl⟩, rfl⟩
  go_wp2_with fail
  go_returns
  exact ⟨⟨[], 0, rfl⟩, rfl⟩
set_option maxHeartbeats 16000000 in
theorem counts_gen (l : Bs) (h : ¬ l.length < 12) (hl : l.length ≤ 1048576) (hm : l.take 4 = mark) (snap b : Bs) (hu : unframed (l.drop 12) 524288 = some (snap, b)) (hg : ¬ valN ((l.drop 4).take 8) ≤ 4611686018427387904) (w : World) :
    Calls Tryd.prog 89 #[.string ⟨l.toArray⟩] w fun e w' => (∃ (s : Bs) (a : Int), e = .returned (.tuple #[.int .u64 0, .string ⟨s.toArray⟩, .int .i64 a])) ∧ w = w' := by
  obtain ⟨n, hn⟩ : ∃ n, n = l.length := ⟨_, rfl⟩
  have hsz : (⟨l.toArray⟩ : ByteArray).size = n := by rw [size_ba, hn]
  have hn1 : decide ((n : Int) < 12) = false := by simp; omega
  have hn2 : (12 : Int) ≤ (n : Int) := by omega
  have x4 : (⟨l.toArray⟩ : ByteArray).extract 0 4 = ⟨(l.take 4).toArray⟩ := by rw [ba_extract]; simp
  have xg : (⟨l.toArray⟩ : ByteArray).extract 4 12 = ⟨((l.drop 4).take 8).toArray⟩ := ba_extract _ _ _
  have hm2 : (l.take 4 == [83, 78, 76, 49]) = true := by rw [hm]; rfl
  have HV := Lib.hid (value_any ((l.drop 4).take 8) (by rw [List.length_take]; omega))
  have HW := Lib.hid (whole_any l 12 524288 (by omega) hl (by omega))
  have hvl : valN ((l.drop 4).take 8) < 18446744073709551616 := Nat.lt_of_lt_of_le (valN_lt _) (Nat.le_trans (Nat.pow_le_pow_right (by decide) (show ((l.drop 4).take 8).length ≤ 8 by rw [List.length_take]; omega)) (by decide))
  have hul := unframed_len hu
  rw [hu] at HW
  generalize valN ((l.drop 4).take 8) = v at *
  generalize (l.drop 4).take 8 = c at *
  generalize l.take 4 = a at *
  have hv0 : (0 : Int) ≤ v := by omega
  have hv1 : (v : Int) < 18446744073709551616 := by omega
  have hd2 : decide ((4611686018427387904 : Int) < (v : Int)) = true := by simp; omega
  have hd2n : decide (4611686018427387904 < v) = true := by simp; omega
  have hsn1 : (snap.length : Int) ≤ 524288 := by omega
  clear h hn hl hm hu
  go_enter Tryd.func89, Tryd.ntmps89
  go_wp2_with fail
  refine (HV.out _).mono ?_
  rintro e w1 ⟨rfl, rfl⟩
  go_wp2_with fail
  refine (HW.out _).mono ?_
  rintro e w1 ⟨rfl, rfl⟩
  go_wp2_with fail
  go_returns
  exact ⟨⟨[], 0, rfl⟩, rfl⟩
set_option maxHeartbeats 16000000 in
theorem counts_ok (l : Bs) (h : ¬ l.length < 12) (hl : l.length ≤ 1048576) (hm : l.take 4 = mark) (snap b : Bs) (hu : unframed (l.drop 12) 524288 = some (snap, b)) (hg : valN ((l.drop 4).take 8) ≤ 4611686018427387904) (w : World) :
    Calls Tryd.prog 89 #[.string ⟨l.toArray⟩] w fun e w' => e = .returned (.tuple #[.int .u64 (valN ((l.drop 4).take 8) : Int), .string ⟨snap.toArray⟩, .int .i64 (20 + (snap.length : Int))]) ∧ w = w' := by
  obtain ⟨n, hn⟩ : ∃ n, n = l.length := ⟨_, rfl⟩
  have hsz : (⟨l.toArray⟩ : ByteArray).size = n := by rw [size_ba, hn]
  have hn1 : decide ((n : Int) < 12) = false := by simp; omega
  have hn2 : (12 : Int) ≤ (n : Int) := by omega
  have x4 : (⟨l.toArray⟩ : ByteArray).extract 0 4 = ⟨(l.take 4).toArray⟩ := by rw [ba_extract]; simp
  have xg : (⟨l.toArray⟩ : ByteArray).extract 4 12 = ⟨((l.drop 4).take 8).toArray⟩ := ba_extract _ _ _
  have hm2 : (l.take 4 == [83, 78, 76, 49]) = true := by rw [hm]; rfl
  have HV := Lib.hid (value_any ((l.drop 4).take 8) (by rw [List.length_take]; omega))
  have HW := Lib.hid (whole_any l 12 524288 (by omega) hl (by omega))
  have hvl : valN ((l.drop 4).take 8) < 18446744073709551616 := Nat.lt_of_lt_of_le (valN_lt _) (Nat.le_trans (Nat.pow_le_pow_right (by decide) (show ((l.drop 4).take 8).length ≤ 8 by rw [List.length_take]; omega)) (by decide))
  have hul := unframed_len hu
  rw [hu] at HW
  generalize valN ((l.drop 4).take 8) = v at *
  generalize (l.drop 4).take 8 = c at *
  generalize l.take 4 = a at *
  have hv0 : (0 : Int) ≤ v := by omega
  have hv1 : (v : Int) < 18446744073709551616 := by omega
  have hd2 : decide ((4611686018427387904 : Int) < (v : Int)) = false := by simp; omega
  have hd2n : decide (4611686018427387904 < v) = false := by simp; omega
  have hsn1 : (snap.length : Int) ≤ 524288 := by omega
  clear h hn hl hm hu
  go_enter Tryd.func89, Tryd.ntmps89
  go_wp2_with fail
  refine (HV.out _).mono ?_
  rintro e w1 ⟨rfl, rfl⟩
  go_wp2_with fail
  refine (HW.out _).mono ?_
  rintro e w1 ⟨rfl, rfl⟩
  go_wp2_with fail
  go_returns
  exact ⟨rfl, rfl⟩
def cntV (x : Nat × Bs × Bs) (e : Ending) : Prop := ∃ (s : Bs) (a : Int), e = .returned (.tuple #[.int .u64 (x.1 : Int), .string ⟨s.toArray⟩, .int .i64 a]) ∧ (x.1 ≠ 0 → s = x.2.1 ∧ a = 20 + (x.2.1.length : Int))
theorem counts_any (l : Bs) (hl : l.length ≤ 1048576) (w : World) :
    Calls Tryd.prog 89 #[.string ⟨l.toArray⟩] w fun e w' => cntV (begins l) e ∧ w = w' := by
  unfold begins
  by_cases h : l.length < 12
  · rw [if_neg (by omega)]
    refine (counts_short l h w).mono ?_
    rintro e w' ⟨rfl, rfl⟩
    exact ⟨⟨[], 0, rfl, fun h => absurd rfl h⟩, rfl⟩
  · by_cases hm : l.take 4 = mark
    · cases hu : unframed (l.drop 12) 524288 with
      | none =>
        refine (counts_none l h hl hm hu w).mono ?_
        rintro e w' ⟨⟨s, a, rfl⟩, rfl⟩
        by_cases hg : valN ((l.drop 4).take 8) ≤ 4611686018427387904
        · rw [if_pos ⟨hm, by omega, hg⟩]; exact ⟨⟨s, a, rfl, fun h => absurd rfl h⟩, rfl⟩
        · rw [if_neg (fun h => hg h.2.2)]; exact ⟨⟨s, a, rfl, fun h => absurd rfl h⟩, rfl⟩
      | some x =>
        obtain ⟨snap, b⟩ := x
        by_cases hg : valN ((l.drop 4).take 8) ≤ 4611686018427387904
        · rw [if_pos ⟨hm, by omega, hg⟩]
          refine (counts_ok l h hl hm snap b hu hg w).mono ?_
          rintro e w' ⟨rfl, rfl⟩
          exact ⟨⟨snap, _, rfl, fun _ => ⟨rfl, rfl⟩⟩, rfl⟩
        · rw [if_neg (fun h => hg h.2.2)]
          refine (counts_gen l h hl hm snap b hu hg w).mono ?_
          rintro e w' ⟨⟨s, a, rfl⟩, rfl⟩
          exact ⟨⟨s, a, rfl, fun h => absurd rfl h⟩, rfl⟩
    · rw [if_neg (fun h => hm h.1)]
      refine (counts_mark l h hm w).mono ?_
      rintro e w' ⟨rfl, rfl⟩
      exact ⟨⟨[], 0, rfl, fun h => absurd rfl h⟩, rfl⟩
end Go.Proofs.YtmoihgniglomiaaDoor
