/- Cut of a disk. No condition but the disk's own. -/
import Derived.Lib.QuietBelow
import Derived.BigQuiet
import Derived.Test.YtmoihgniglomiaaDoorZG
set_option linter.unusedVariables false
set_option linter.unusedSimpArgs false
set_option maxRecDepth 100000
namespace Go.Proofs.YtmoihgniglomiaaDoor
open Go.RowKit Go.Sort

theorem mixed : Tryd.prog.follows .mixedOrders = true := by kernel_rfl
theorem Calls.grown {f : FuncId} {args : Array Value} {w : World} {d : Nat} {os : Array Obj} {v : Value} (h : Calls Tryd.prog f args (grow (redrawn w d) os) fun e w' => e = .returned v ∧ (grow (redrawn w d) os) = w') :
    Calls Tryd.prog f args (grow (redrawn w d) os) fun e w'' => e = .returned v ∧ ∃ p : Regrown, w'' = grow (redrawn w p.d) p.os :=
  Calls.regrown_of (h.mono fun _ _ ⟨he, hw⟩ => ⟨he, hw ▸ Below.refl _ _⟩)
set_option maxHeartbeats 8000000 in
theorem clo49_not (a c d : Nat) (f : Int) (w : World) (hf : St.there f = false) (h : w.cell? ⟨a, 0, none⟩ = some (.int .i64 f)) :
    Calls Tryd.prog 100 #[.pointer (some ⟨a, 0, none⟩), .pointer (some ⟨c, 0, none⟩), .pointer (some ⟨d, 0, none⟩)] w fun e w' => e = .returned (.int .i64 90) ∧ Below w.heap.size w w' := by
  have HK := Lib.hid hf
  clear hf
  go_enter Tryd.func100, Tryd.ntmps100
  go_wp2_with fail
  refine (there_any _ _).mono ?_
  rintro e w' ⟨rfl, rfl⟩
  rw [HK.out]
  go_wp2_with fail
  go_ret
  exact ⟨rfl, Below.refl _ _⟩
set_option maxHeartbeats 16000000 in
theorem clo49_0neg (a c d : Nat) (n : Int) (p : Fp) (S : St) (w : World) (h : w.cell? ⟨a, 0, none⟩ = some (.int .i64 0)) (h' : w.cell? ⟨c, 0, none⟩ = some (.int .i64 n)) (h'' : w.cell? ⟨d, 0, none⟩ = some p.v) (D : Hid (Dk w p S)) (hn : n < 0) :
    Calls Tryd.prog 100 #[.pointer (some ⟨a, 0, none⟩), .pointer (some ⟨c, 0, none⟩), .pointer (some ⟨d, 0, none⟩)] w fun e w' => e = .returned (.int .i64 92) ∧ Below w.heap.size w w' := by
  have hd : decide (n < 0) = true := by simpa using hn
  have HD : Hid (S.s0 ≤ S.f0.length ∧ S.f0.length ≤ 1048576) := Lib.hid ⟨by have := D.out.wf.t0; omega, D.out.wf.l0⟩
  unfold Fp.v at h''
  have HS : Hid (∀ d os, Calls Tryd.prog 41 #[.pointer (some ⟨p.b, 0, none⟩), .int .i64 0] (grow (redrawn w d) os) fun e w'' => e = .returned (.int .i64 (S.f0.length : Int)) ∧ ∃ p : Regrown, w'' = grow (redrawn w p.d) p.os) := Lib.hid fun d os => Calls.grown (size_any p S 0 _ (D.out.below (below_regrown w d os)))
  have HT : Hid (∀ d os, Calls Tryd.prog 88 #[.agg #[.slice (some ⟨p.g0, 0, none⟩) S.f0.length p.c0, .int .i64 (S.s0 : Int)]] (grow (redrawn w d) os) fun e w'' => e = .returned (.int .i64 ((S.f0.length - S.s0 : Nat) : Int)) ∧ ∃ p : Regrown, w'' = grow (redrawn w p.d) p.os) := Lib.hid fun d os => Calls.regrown_of (waiting45 _ _ _ _ HD.out.1 HD.out.2 _)
  have k0 := cell_regrown h
  have k1 := cell_regrown h'
  have k2 := cell_regrown h''
  have k3 := cell_regrown (D.out.blk.cell 0)
  have k4 := cell_regrown (D.out.blk.cell 1)
  clear hn
  go_enter Tryd.func100, Tryd.ntmps100
  go_wp2_with fail
  refine (there_any _ _).mono ?_
  rintro e w' ⟨rfl, rfl⟩
  rw [show St.there 0 = true from rfl]
  go_wp2_with fail
  clear h' h''
  refine wp_region_quiet_below mixed (by kernel_rfl) ?_
  repeat (first | go_big_quiet_step (first | (with_reducible exact HS.out _ _) | (with_reducible exact HT.out _ _)) | quiet_step (first | (with_reducible exact HS.out _ _) | (with_reducible exact HT.out _ _)))
  refine wpQuiet_nil ?_
  intro _ hw'
  obtain ⟨⟨dq, osq⟩, hw''⟩ := hw'
  subst hw''
  have hbq := Lib.hid (below_regrown w dq osq)
  go_wp2_with fail
  go_ret
  exact ⟨rfl, hbq.out⟩
set_option maxHeartbeats 16000000 in
theorem clo49_0big (a c d : Nat) (n : Int) (p : Fp) (S : St) (w : World) (h : w.cell? ⟨a, 0, none⟩ = some (.int .i64 0)) (h' : w.cell? ⟨c, 0, none⟩ = some (.int .i64 n)) (h'' : w.cell? ⟨d, 0, none⟩ = some p.v) (D : Hid (Dk w p S)) (hn : ¬ n < 0) (hb : n > (S.f0.length : Int)) :
    Calls Tryd.prog 100 #[.pointer (some ⟨a, 0, none⟩), .pointer (some ⟨c, 0, none⟩), .pointer (some ⟨d, 0, none⟩)] w fun e w' => e = .returned (.int .i64 92) ∧ Below w.heap.size w w' := by
  have hd : decide (n < 0) = false := by simpa using hn
  have hd2 : decide ((S.f0.length : Int) < n) = true := by simpa using hb
  have HD : Hid (S.s0 ≤ S.f0.length ∧ S.f0.length ≤ 1048576) := Lib.hid ⟨by have := D.out.wf.t0; omega, D.out.wf.l0⟩
  unfold Fp.v at h''
  have HS : Hid (∀ d os, Calls Tryd.prog 41 #[.pointer (some ⟨p.b, 0, none⟩), .int .i64 0] (grow (redrawn w d) os) fun e w'' => e = .returned (.int .i64 (S.f0.length : Int)) ∧ ∃ p : Regrown, w'' = grow (redrawn w p.d) p.os) := Lib.hid fun d os => Calls.grown (size_any p S 0 _ (D.out.below (below_regrown w d os)))
  have HT : Hid (∀ d os, Calls Tryd.prog 88 #[.agg #[.slice (some ⟨p.g0, 0, none⟩) S.f0.length p.c0, .int .i64 (S.s0 : Int)]] (grow (redrawn w d) os) fun e w'' => e = .returned (.int .i64 ((S.f0.length - S.s0 : Nat) : Int)) ∧ ∃ p : Regrown, w'' = grow (redrawn w p.d) p.os) := Lib.hid fun d os => Calls.regrown_of (waiting45 _ _ _ _ HD.out.1 HD.out.2 _)
  have k0 := cell_regrown h
  have k1 := cell_regrown h'
  have k2 := cell_regrown h''
  have k3 := cell_regrown (D.out.blk.cell 0)
  have k4 := cell_regrown (D.out.blk.cell 1)
  clear hn hb
  go_enter Tryd.func100, Tryd.ntmps100
  go_wp2_with fail
  refine (there_any _ _).mono ?_
  rintro e w' ⟨rfl, rfl⟩
  rw [show St.there 0 = true from rfl]
  go_wp2_with fail
  clear h' h''
  refine wp_region_quiet_below mixed (by kernel_rfl) ?_
  repeat (first | go_big_quiet_step (first | (with_reducible exact HS.out _ _) | (with_reducible exact HT.out _ _)) | quiet_step (first | (with_reducible exact HS.out _ _) | (with_reducible exact HT.out _ _)))
  refine wpQuiet_nil ?_
  intro _ hw'
  obtain ⟨⟨dq, osq⟩, hw''⟩ := hw'
  subst hw''
  have hbq := Lib.hid (below_regrown w dq osq)
  go_wp2_with fail
  go_ret
  exact ⟨rfl, hbq.out⟩
set_option maxHeartbeats 16000000 in
theorem clo49_0wait (a c d : Nat) (n : Int) (p : Fp) (S : St) (w : World) (h : w.cell? ⟨a, 0, none⟩ = some (.int .i64 0)) (h' : w.cell? ⟨c, 0, none⟩ = some (.int .i64 n)) (h'' : w.cell? ⟨d, 0, none⟩ = some p.v) (D : Hid (Dk w p S)) (hn : ¬ n < 0) (hb : ¬ n > (S.f0.length : Int)) (hs : S.s0 < S.f0.length) :
    Calls Tryd.prog 100 #[.pointer (some ⟨a, 0, none⟩), .pointer (some ⟨c, 0, none⟩), .pointer (some ⟨d, 0, none⟩)] w fun e w' => e = .returned (.int .i64 92) ∧ Below w.heap.size w w' := by
  have hd : decide (n < 0) = false := by simpa using hn
  have hd2 : decide ((S.f0.length : Int) < n) = false := by simpa using hb
  have hd3 : decide (0 < S.f0.length - S.s0) = true := by simp; omega
  have HD : Hid (S.s0 ≤ S.f0.length ∧ S.f0.length ≤ 1048576) := Lib.hid ⟨by have := D.out.wf.t0; omega, D.out.wf.l0⟩
  unfold Fp.v at h''
  have HS : Hid (∀ d os, Calls Tryd.prog 41 #[.pointer (some ⟨p.b, 0, none⟩), .int .i64 0] (grow (redrawn w d) os) fun e w'' => e = .returned (.int .i64 (S.f0.length : Int)) ∧ ∃ p : Regrown, w'' = grow (redrawn w p.d) p.os) := Lib.hid fun d os => Calls.grown (size_any p S 0 _ (D.out.below (below_regrown w d os)))
  have HT : Hid (∀ d os, Calls Tryd.prog 88 #[.agg #[.slice (some ⟨p.g0, 0, none⟩) S.f0.length p.c0, .int .i64 (S.s0 : Int)]] (grow (redrawn w d) os) fun e w'' => e = .returned (.int .i64 ((S.f0.length - S.s0 : Nat) : Int)) ∧ ∃ p : Regrown, w'' = grow (redrawn w p.d) p.os) := Lib.hid fun d os => Calls.regrown_of (waiting45 _ _ _ _ HD.out.1 HD.out.2 _)
  have k0 := cell_regrown h
  have k1 := cell_regrown h'
  have k2 := cell_regrown h''
  have k3 := cell_regrown (D.out.blk.cell 0)
  have k4 := cell_regrown (D.out.blk.cell 1)
  clear hn hb hs
  go_enter Tryd.func100, Tryd.ntmps100
  go_wp2_with fail
  refine (there_any _ _).mono ?_
  rintro e w' ⟨rfl, rfl⟩
  rw [show St.there 0 = true from rfl]
  go_wp2_with fail
  clear h' h''
  refine wp_region_quiet_below mixed (by kernel_rfl) ?_
  repeat (first | go_big_quiet_step (first | (with_reducible exact HS.out _ _) | (with_reducible exact HT.out _ _)) | quiet_step (first | (with_reducible exact HS.out _ _) | (with_reducible exact HT.out _ _)))
  refine wpQuiet_nil ?_
  intro _ hw'
  obtain ⟨⟨dq, osq⟩, hw''⟩ := hw'
  subst hw''
  have hbq := Lib.hid (below_regrown w dq osq)
  go_wp2_with fail
  go_ret
  exact ⟨rfl, hbq.out⟩
set_option maxHeartbeats 16000000 in
theorem clo49_0ok (a c d : Nat) (n : Int) (p : Fp) (S : St) (w : World) (h : w.cell? ⟨a, 0, none⟩ = some (.int .i64 0)) (h' : w.cell? ⟨c, 0, none⟩ = some (.int .i64 n)) (h'' : w.cell? ⟨d, 0, none⟩ = some p.v) (D : Hid (Dk w p S)) (hn : ¬ n < 0) (hb : ¬ n > (S.f0.length : Int)) (hs : ¬ S.s0 < S.f0.length) :
    Calls Tryd.prog 100 #[.pointer (some ⟨a, 0, none⟩), .pointer (some ⟨c, 0, none⟩), .pointer (some ⟨d, 0, none⟩)] w fun e w' => e = .returned (.int .i64 0) ∧ Below w.heap.size w w' := by
  have hd : decide (n < 0) = false := by simpa using hn
  have hd2 : decide ((S.f0.length : Int) < n) = false := by simpa using hb
  have hd3 : decide (0 < S.f0.length - S.s0) = false := by simp; omega
  have HD : Hid (S.s0 ≤ S.f0.length ∧ S.f0.length ≤ 1048576) := Lib.hid ⟨by have := D.out.wf.t0; omega, D.out.wf.l0⟩
  unfold Fp.v at h''
  have HS : Hid (∀ d os, Calls Tryd.prog 41 #[.pointer (some ⟨p.b, 0, none⟩), .int .i64 0] (grow (redrawn w d) os) fun e w'' => e = .returned (.int .i64 (S.f0.length : Int)) ∧ ∃ p : Regrown, w'' = grow (redrawn w p.d) p.os) := Lib.hid fun d os => Calls.grown (size_any p S 0 _ (D.out.below (below_regrown w d os)))
  have HT : Hid (∀ d os, Calls Tryd.prog 88 #[.agg #[.slice (some ⟨p.g0, 0, none⟩) S.f0.length p.c0, .int .i64 (S.s0 : Int)]] (grow (redrawn w d) os) fun e w'' => e = .returned (.int .i64 ((S.f0.length - S.s0 : Nat) : Int)) ∧ ∃ p : Regrown, w'' = grow (redrawn w p.d) p.os) := Lib.hid fun d os => Calls.regrown_of (waiting45 _ _ _ _ HD.out.1 HD.out.2 _)
  have k0 := cell_regrown h
  have k1 := cell_regrown h'
  have k2 := cell_regrown h''
  have k3 := cell_regrown (D.out.blk.cell 0)
  have k4 := cell_regrown (D.out.blk.cell 1)
  clear hn hb hs
  go_enter Tryd.func100, Tryd.ntmps100
  go_wp2_with fail
  refine (there_any _ _).mono ?_
  rintro e w' ⟨rfl, rfl⟩
  rw [show St.there 0 = true from rfl]
  go_wp2_with fail
  clear h' h''
  refine wp_region_quiet_below mixed (by kernel_rfl) ?_
  repeat (first | go_big_quiet_step (first | (with_reducible exact HS.out _ _) | (with_reducible exact HT.out _ _)) | quiet_step (first | (with_reducible exact HS.out _ _) | (with_reducible exact HT.out _ _)))
  refine wpQuiet_nil ?_
  intro _ hw'
  obtain ⟨⟨dq, osq⟩, hw''⟩ := hw'
  subst hw''
  have hbq := Lib.hid (below_regrown w dq osq)
  go_wp2_with fail
  go_ret
  exact ⟨rfl, hbq.out⟩
set_option maxHeartbeats 16000000 in
theorem clo49_1neg (a c d : Nat) (n : Int) (p : Fp) (S : St) (w : World) (h : w.cell? ⟨a, 0, none⟩ = some (.int .i64 1)) (h' : w.cell? ⟨c, 0, none⟩ = some (.int .i64 n)) (h'' : w.cell? ⟨d, 0, none⟩ = some p.v) (D : Hid (Dk w p S)) (hn : n < 0) :
    Calls Tryd.prog 100 #[.pointer (some ⟨a, 0, none⟩), .pointer (some ⟨c, 0, none⟩), .pointer (some ⟨d, 0, none⟩)] w fun e w' => e = .returned (.int .i64 92) ∧ Below w.heap.size w w' := by
  have hd : decide (n < 0) = true := by simpa using hn
  have HD : Hid (S.s1 ≤ S.f1.length ∧ S.f1.length ≤ 1048576) := Lib.hid ⟨by have := D.out.wf.t1; omega, D.out.wf.l1⟩
  unfold Fp.v at h''
  have HS : Hid (∀ d os, Calls Tryd.prog 41 #[.pointer (some ⟨p.b, 0, none⟩), .int .i64 1] (grow (redrawn w d) os) fun e w'' => e = .returned (.int .i64 (S.f1.length : Int)) ∧ ∃ p : Regrown, w'' = grow (redrawn w p.d) p.os) := Lib.hid fun d os => Calls.grown (size_any p S 1 _ (D.out.below (below_regrown w d os)))
  have HT : Hid (∀ d os, Calls Tryd.prog 88 #[.agg #[.slice (some ⟨p.g1, 0, none⟩) S.f1.length p.c1, .int .i64 (S.s1 : Int)]] (grow (redrawn w d) os) fun e w'' => e = .returned (.int .i64 ((S.f1.length - S.s1 : Nat) : Int)) ∧ ∃ p : Regrown, w'' = grow (redrawn w p.d) p.os) := Lib.hid fun d os => Calls.regrown_of (waiting45 _ _ _ _ HD.out.1 HD.out.2 _)
  have k0 := cell_regrown h
  have k1 := cell_regrown h'
  have k2 := cell_regrown h''
  have k3 := cell_regrown (D.out.blk.cell 2)
  have k4 := cell_regrown (D.out.blk.cell 3)
  clear hn
  go_enter Tryd.func100, Tryd.ntmps100
  go_wp2_with fail
  refine (there_any _ _).mono ?_
  rintro e w' ⟨rfl, rfl⟩
  rw [show St.there 1 = true from rfl]
  go_wp2_with fail
  clear h' h''
  refine wp_region_quiet_below mixed (by kernel_rfl) ?_
  repeat (first | go_big_quiet_step (first | (with_reducible exact HS.out _ _) | (with_reducible exact HT.out _ _)) | quiet_step (first | (with_reducible exact HS.out _ _) | (with_reducible exact HT.out _ _)))
  refine wpQuiet_nil ?_
  intro _ hw'
  obtain ⟨⟨dq, osq⟩, hw''⟩ := hw'
  subst hw''
  have hbq := Lib.hid (below_regrown w dq osq)
  go_wp2_with fail
  go_ret
  exact ⟨rfl, hbq.out⟩
set_option maxHeartbeats 16000000 in
theorem clo49_1big (a c d : Nat) (n : Int) (p : Fp) (S : St) (w : World) (h : w.cell? ⟨a, 0, none⟩ = some (.int .i64 1)) (h' : w.cell? ⟨c, 0, none⟩ = some (.int .i64 n)) (h'' : w.cell? ⟨d, 0, none⟩ = some p.v) (D : Hid (Dk w p S)) (hn : ¬ n < 0) (hb : n > (S.f1.length : Int)) :
    Calls Tryd.prog 100 #[.pointer (some ⟨a, 0, none⟩), .pointer (some ⟨c, 0, none⟩), .pointer (some ⟨d, 0, none⟩)] w fun e w' => e = .returned (.int .i64 92) ∧ Below w.heap.size w w' := by
  have hd : decide (n < 0) = false := by simpa using hn
  have hd2 : decide ((S.f1.length : Int) < n) = true := by simpa using hb
  have HD : Hid (S.s1 ≤ S.f1.length ∧ S.f1.length ≤ 1048576) := Lib.hid ⟨by have := D.out.wf.t1; omega, D.out.wf.l1⟩
  unfold Fp.v at h''
  have HS : Hid (∀ d os, Calls Tryd.prog 41 #[.pointer (some ⟨p.b, 0, none⟩), .int .i64 1] (grow (redrawn w d) os) fun e w'' => e = .returned (.int .i64 (S.f1.length : Int)) ∧ ∃ p : Regrown, w'' = grow (redrawn w p.d) p.os) := Lib.hid fun d os => Calls.grown (size_any p S 1 _ (D.out.below (below_regrown w d os)))
  have HT : Hid (∀ d os, Calls Tryd.prog 88 #[.agg #[.slice (some ⟨p.g1, 0, none⟩) S.f1.length p.c1, .int .i64 (S.s1 : Int)]] (grow (redrawn w d) os) fun e w'' => e = .returned (.int .i64 ((S.f1.length - S.s1 : Nat) : Int)) ∧ ∃ p : Regrown, w'' = grow (redrawn w p.d) p.os) := Lib.hid fun d os => Calls.regrown_of (waiting45 _ _ _ _ HD.out.1 HD.out.2 _)
  have k0 := cell_regrown h
  have k1 := cell_regrown h'
  have k2 := cell_regrown h''
  have k3 := cell_regrown (D.out.blk.cell 2)
  have k4 := cell_regrown (D.out.blk.cell 3)
  clear hn hb
  go_enter Tryd.func100, Tryd.ntmps100
  go_wp2_with fail
  refine (there_any _ _).mono ?_
  rintro e w' ⟨rfl, rfl⟩
  rw [show St.there 1 = true from rfl]
  go_wp2_with fail
  clear h' h''
  refine wp_region_quiet_below mixed (by kernel_rfl) ?_
  repeat (first | go_big_quiet_step (first | (with_reducible exact HS.out _ _) | (with_reducible exact HT.out _ _)) | quiet_step (first | (with_reducible exact HS.out _ _) | (with_reducible exact HT.out _ _)))
  refine wpQuiet_nil ?_
  intro _ hw'
  obtain ⟨⟨dq, osq⟩, hw''⟩ := hw'
  subst hw''
  have hbq := Lib.hid (below_regrown w dq osq)
  go_wp2_with fail
  go_ret
  exact ⟨rfl, hbq.out⟩
set_option maxHeartbeats 16000000 in
theorem clo49_1wait (a c d : Nat) (n : Int) (p : Fp) (S : St) (w : World) (h : w.cell? ⟨a, 0, none⟩ = some (.int .i64 1)) (h' : w.cell? ⟨c, 0, none⟩ = some (.int .i64 n)) (h'' : w.cell? ⟨d, 0, none⟩ = some p.v) (D : Hid (Dk w p S)) (hn : ¬ n < 0) (hb : ¬ n > (S.f1.length : Int)) (hs : S.s1 < S.f1.length) :
    Calls Tryd.prog 100 #[.pointer (some ⟨a, 0, none⟩), .pointer (some ⟨c, 0, none⟩), .pointer (some ⟨d, 0, none⟩)] w fun e w' => e = .returned (.int .i64 92) ∧ Below w.heap.size w w' := by
  have hd : decide (n < 0) = false := by simpa using hn
  have hd2 : decide ((S.f1.length : Int) < n) = false := by simpa using hb
  have hd3 : decide (0 < S.f1.length - S.s1) = true := by simp; omega
  have HD : Hid (S.s1 ≤ S.f1.length ∧ S.f1.length ≤ 1048576) := Lib.hid ⟨by have := D.out.wf.t1; omega, D.out.wf.l1⟩
  unfold Fp.v at h''
  have HS : Hid (∀ d os, Calls Tryd.prog 41 #[.pointer (some ⟨p.b, 0, none⟩), .int .i64 1] (grow (redrawn w d) os) fun e w'' => e = .returned (.int .i64 (S.f1.length : Int)) ∧ ∃ p : Regrown, w'' = grow (redrawn w p.d) p.os) := Lib.hid fun d os => Calls.grown (size_any p S 1 _ (D.out.below (below_regrown w d os)))
  have HT : Hid (∀ d os, Calls Tryd.prog 88 #[.agg #[.slice (some ⟨p.g1, 0, none⟩) S.f1.length p.c1, .int .i64 (S.s1 : Int)]] (grow (redrawn w d) os) fun e w'' => e = .returned (.int .i64 ((S.f1.length - S.s1 : Nat) : Int)) ∧ ∃ p : Regrown, w'' = grow (redrawn w p.d) p.os) := Lib.hid fun d os => Calls.regrown_of (waiting45 _ _ _ _ HD.out.1 HD.out.2 _)
  have k0 := cell_regrown h
  have k1 := cell_regrown h'
  have k2 := cell_regrown h''
  have k3 := cell_regrown (D.out.blk.cell 2)
  have k4 := cell_regrown (D.out.blk.cell 3)
  clear hn hb hs
  go_enter Tryd.func100, Tryd.ntmps100
  go_wp2_with fail
  refine (there_any _ _).mono ?_
  rintro e w' ⟨rfl, rfl⟩
  rw [show St.there 1 = true from rfl]
  go_wp2_with fail
  clear h' h''
  refine wp_region_quiet_below mixed (by kernel_rfl) ?_
  repeat (first | go_big_quiet_step (first | (with_reducible exact HS.out _ _) | (with_reducible exact HT.out _ _)) | quiet_step (first | (with_reducible exact HS.out _ _) | (with_reducible exact HT.out _ _)))
  refine wpQuiet_nil ?_
  intro _ hw'
  obtain ⟨⟨dq, osq⟩, hw''⟩ := hw'
  subst hw''
  have hbq := Lib.hid (below_regrown w dq osq)
  go_wp2_with fail
  go_ret
  exact ⟨rfl, hbq.out⟩
set_option maxHeartbeats 16000000 in
theorem clo49_1ok (a c d : Nat) (n : Int) (p : Fp) (S : St) (w : World) (h : w.cell? ⟨a, 0, none⟩ = some (.int .i64 1)) (h' : w.cell? ⟨c, 0, none⟩ = some (.int .i64 n)) (h'' : w.cell? ⟨d, 0, none⟩ = some p.v) (D : Hid (Dk w p S)) (hn : ¬ n < 0) (hb : ¬ n > (S.f1.length : Int)) (hs : ¬ S.s1 < S.f1.length) :
    Calls Tryd.prog 100 #[.pointer (some ⟨a, 0, none⟩), .pointer (some ⟨c, 0, none⟩), .pointer (some ⟨d, 0, none⟩)] w fun e w' => e = .returned (.int .i64 0) ∧ Below w.heap.size w w' := by
  have hd : decide (n < 0) = false := by simpa using hn
  have hd2 : decide ((S.f1.length : Int) < n) = false := by simpa using hb
  have hd3 : decide (0 < S.f1.length - S.s1) = false := by simp; omega
  have HD : Hid (S.s1 ≤ S.f1.length ∧ S.f1.length ≤ 1048576) := Lib.hid ⟨by have := D.out.wf.t1; omega, D.out.wf.l1⟩
  unfold Fp.v at h''
  have HS : Hid (∀ d os, Calls Tryd.prog 41 #[.pointer (some ⟨p.b, 0, none⟩), .int .i64 1] (grow (redrawn w d) os) fun e w'' => e = .returned (.int .i64 (S.f1.length : Int)) ∧ ∃ p : Regrown, w'' = grow (redrawn w p.d) p.os) := Lib.hid fun d os => Calls.grown (size_any p S 1 _ (D.out.below (below_regrown w d os)))
  have HT : Hid (∀ d os, Calls Tryd.prog 88 #[.agg #[.slice (some ⟨p.g1, 0, none⟩) S.f1.length p.c1, .int .i64 (S.s1 : Int)]] (grow (redrawn w d) os) fun e w'' => e = .returned (.int .i64 ((S.f1.length - S.s1 : Nat) : Int)) ∧ ∃ p : Regrown, w'' = grow (redrawn w p.d) p.os) := Lib.hid fun d os => Calls.regrown_of (waiting45 _ _ _ _ HD.out.1 HD.out.2 _)
  have k0 := cell_regrown h
  have k1 := cell_regrown h'
  have k2 := cell_regrown h''
  have k3 := cell_regrown (D.out.blk.cell 2)
  have k4 := cell_regrown (D.out.blk.cell 3)
  clear hn hb hs
  go_enter Tryd.func100, Tryd.ntmps100
  go_wp2_with fail
  refine (there_any _ _).mono ?_
  rintro e w' ⟨rfl, rfl⟩
  rw [show St.there 1 = true from rfl]
  go_wp2_with fail
  clear h' h''
  refine wp_region_quiet_below mixed (by kernel_rfl) ?_
  repeat (first | go_big_quiet_step (first | (with_reducible exact HS.out _ _) | (with_reducible exact HT.out _ _)) | quiet_step (first | (with_reducible exact HS.out _ _) | (with_reducible exact HT.out _ _)))
  refine wpQuiet_nil ?_
  intro _ hw'
  obtain ⟨⟨dq, osq⟩, hw''⟩ := hw'
  subst hw''
  have hbq := Lib.hid (below_regrown w dq osq)
  go_wp2_with fail
  go_ret
  exact ⟨rfl, hbq.out⟩
end Go.Proofs.YtmoihgniglomiaaDoor
