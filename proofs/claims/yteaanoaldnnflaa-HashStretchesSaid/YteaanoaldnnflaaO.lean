/- Macs. Condition: at most 2^47 bytes each. -/
import Derived.Test.YteaanoaldnnflaaN
set_option linter.unusedVariables false
set_option linter.unusedSimpArgs false
namespace Go.Proofs.Yteaanoaldnnflaa
open Go.RowKit Go.Sort

theorem turned_length (k : List UInt8) (c : UInt8) : (turnedL k c).length = k.length := by simp [turnedL]
theorem mac_length (k s : List UInt8) : (macK k s).length = 32 := sum_length _

set_option maxHeartbeats 4000000 in
set_option maxRecDepth 100000 in
theorem macK_any (k : List UInt8) (hk : k.length = 64) (s : List UInt8) (hs : s.length ≤ 140737488355392) (w : World) :
    Calls Try.prog 23 #[.agg (bs k), .string ⟨s.toArray⟩] w fun e w' => e = .returned (.string ⟨(macK k s).toArray⟩) ∧ Below w.heap.size w w' := by
  have HK := Lib.hid (Go.heap_alloc_new w (.cells (bs k) 46))
  have HI := Lib.hid (i46 k hk)
  have HA := Lib.hid (rg (w := w.alloc (.cells (bs k) 46)) (turned_any k hk 92))
  have HB := Lib.hid (rg (w := w.alloc (.cells (bs k) 46)) (turned_any k hk 54))
  have HC := Lib.hid (rg (w := w.alloc (.cells (bs k) 46)) (sum_any (turnedL k 54 ++ s) (by rw [List.length_append, turned_length]; omega)))
  have HD := Lib.hid (rg (w := w.alloc (.cells (bs k) 46)) (sum_any (turnedL k 92 ++ sumL (turnedL k 54 ++ s)) (by rw [List.length_append, turned_length, sum_length]; omega)))
  have HM : Hid (macK k s = sumL (turnedL k 92 ++ sumL (turnedL k 54 ++ s))) := Lib.hid rfl
  have a1 := app_ba (turnedL k 54) s
  have a2 := app_ba (turnedL k 92) (sumL (turnedL k 54 ++ s))
  have l1 : (turnedL k 54).length ≤ 64 := by rw [turned_length]; omega
  have l2 : (turnedL k 92).length ≤ 64 := by rw [turned_length]; omega
  have l3 : (sumL (turnedL k 54 ++ s)).length ≤ 32 := by rw [sum_length]; omega
  rw [← HM.out] at HD
  clear HM
  have HBW : Hid (Below w.heap.size w (w.alloc (.cells (bs k) 46))) := Lib.hid ((Below.refl _ _).alloc (Nat.le_refl _) _)
  generalize turnedL k 92 ++ sumL (turnedL k 54 ++ s) = x2 at a2 HD
  generalize sumL (turnedL k 54 ++ s) = m1 at a2 HC l3
  generalize turnedL k 54 ++ s = x1 at a1 HC
  generalize turnedL k 54 = t1 at a1 HB l1
  generalize turnedL k 92 = t2 at a2 HA l2
  clear hk
  go_enter Try.func23, Try.ntmps23
  go_wp2_with fail
  generalize w.alloc (.cells (bs k) 46) = w0 at HK HA HB HC HD HBW ⊢
  refine wp_region_quiet_below mixed (by kernel_rfl) ?_
  refine wpQuiet_load_row rfl 46 (.tmp 2) rfl w.heap.size rfl 46 (bs k) (0, 0) _ (fun w' hw' => heap_regrown HK.out hw') u46 rfl HI.out ?_
  quiet_step (exact HA.out _ _)
  refine wpQuiet_load_row rfl 46 (.tmp 2) rfl w.heap.size rfl 46 (bs k) (0, 0) _ (fun w' hw' => heap_regrown HK.out hw') u46 rfl HI.out ?_
  quiet_step (exact HB.out _ _)
  iterate 2 go_big_quiet_step (exact HC.out _ _)
  go_big_quiet_step (exact HC.out _ _)
  iterate 2 go_big_quiet_step (exact HD.out _ _)
  go_big_quiet_step (exact HD.out _ _)
  refine wpQuiet_nil ?_
  intro _ hw'
  obtain ⟨⟨dq, osq⟩, hw''⟩ := hw'
  subst hw''
  have HQ := Lib.hid (HBW.out.trans ((below_regrown w0 dq osq).mono HBW.out.size))
  generalize grow (redrawn w0 dq) osq = wq at HQ ⊢
  clear HA HB HC HD HK HBW
  go_wp2_with fail
  go_ret
  exact ⟨rfl, HQ.out⟩
theorem Mac_any (key s : List UInt8) (hk : key.length ≤ 281474976710656) (hs : s.length ≤ 140737488355392) (w : World) :
    Calls Try.prog 12 #[.string ⟨key.toArray⟩, .string ⟨s.toArray⟩] w fun e w' => e = .returned (.string ⟨(macL key s).toArray⟩) ∧ Below w.heap.size w w' := by
  have HA := Lib.hid (fill_any key hk)
  have HB := Lib.hid (macK_any (fillL key) (fill_length key) s hs)
  have HM : Hid (macL key s = macK (fillL key) s) := Lib.hid rfl
  rw [← HM.out] at HB
  clear HM hk hs
  generalize fillL key = k at HA HB
  go_enter Try.func12, Try.ntmps12
  go_wp2_with fail
  refine (HA.out _).mono ?_
  rintro e w1 ⟨rfl, b1⟩
  go_wp2_with fail
  refine (HB.out _).mono ?_
  rintro e w2 ⟨rfl, b2⟩
  go_wp2_with fail
  go_ret
  exact ⟨rfl, b1.trans (b2.mono b1.size)⟩
end Go.Proofs.Yteaanoaldnnflaa
