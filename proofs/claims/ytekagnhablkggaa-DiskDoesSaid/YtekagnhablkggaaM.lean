/- Append to a disk's file. No condition but the disk's own. -/
import Derived.Test.YtekagnhablkggaaL
set_option linter.unusedVariables false
set_option linter.unusedSimpArgs false
set_option maxRecDepth 100000
namespace Go.Proofs.Ytekagnhablkggaa
open Go.RowKit Go.Sort

def appCode (S : St) (f : Int) (n : Nat) : Nat := if ¬ St.there f then 90 else if (S.file f.toNat).length + n > 1048576 then 91 else 0
set_option maxHeartbeats 8000000 in
theorem clo54_not (a c d : Nat) (f : Int) (w : World) (hf : St.there f = false) (h : w.cell? ⟨a, 0, none⟩ = some (.int .i64 f)) :
    Calls Try.prog 54 #[.pointer (some ⟨a, 0, none⟩), .pointer (some ⟨c, 0, none⟩), .pointer (some ⟨d, 0, none⟩)] w fun e w' => e = .returned (.int .i64 90) ∧ Below w.heap.size w w' := by
  have HK := Lib.hid hf
  clear hf
  go_enter Try.func54, Try.ntmps54
  go_wp2_with fail
  refine (there_any _ _).mono ?_
  rintro e w' ⟨rfl, rfl⟩
  rw [HK.out]
  go_wp2_with fail
  go_ret
  exact ⟨rfl, Below.refl _ _⟩
set_option maxHeartbeats 8000000 in
theorem clo54_0ok (a c d : Nat) (s : ByteArray) (p : Fp) (S : St) (w : World) (h : w.cell? ⟨a, 0, none⟩ = some (.int .i64 0)) (h' : w.cell? ⟨c, 0, none⟩ = some p.v) (h'' : w.cell? ⟨d, 0, none⟩ = some (.string s)) (D : Hid (Dk w p S)) (hsz : s.size ≤ 140737488355328) (hl : ¬ S.f0.length + s.size > 1048576) :
    Calls Try.prog 54 #[.pointer (some ⟨a, 0, none⟩), .pointer (some ⟨c, 0, none⟩), .pointer (some ⟨d, 0, none⟩)] w fun e w' => e = .returned (.int .i64 0) ∧ Below w.heap.size w w' := by
  have hlf := D.out.wf.l0
  have ht : decide ((1048576 : Int) < (S.f0.length : Int) + (s.size : Int)) = false := by simp; omega
  have ht2 : decide (1048576 < S.f0.length + s.size) = false := by simp; omega
  have k0 := D.out.blk.cell 0
  unfold Fp.v at h'
  clear hl
  go_enter Try.func54, Try.ntmps54
  go_wp2_with fail
  refine (there_any _ _).mono ?_
  rintro e w' ⟨rfl, rfl⟩
  rw [show St.there 0 = true from rfl]
  go_wp2_with fail
  go_quiet (fail)
  go_wp2_with fail
  go_ret
  exact ⟨rfl, below_drewN (Below.refl _ _) _⟩
set_option maxHeartbeats 8000000 in
theorem clo54_0long (a c d : Nat) (s : ByteArray) (p : Fp) (S : St) (w : World) (h : w.cell? ⟨a, 0, none⟩ = some (.int .i64 0)) (h' : w.cell? ⟨c, 0, none⟩ = some p.v) (h'' : w.cell? ⟨d, 0, none⟩ = some (.string s)) (D : Hid (Dk w p S)) (hsz : s.size ≤ 140737488355328) (hl : S.f0.length + s.size > 1048576) :
    Calls Try.prog 54 #[.pointer (some ⟨a, 0, none⟩), .pointer (some ⟨c, 0, none⟩), .pointer (some ⟨d, 0, none⟩)] w fun e w' => e = .returned (.int .i64 91) ∧ Below w.heap.size w w' := by
  have hlf := D.out.wf.l0
  have ht : decide ((1048576 : Int) < (S.f0.length : Int) + (s.size : Int)) = true := by simp; omega
  have ht2 : decide (1048576 < S.f0.length + s.size) = true := by simp; omega
  have k0 := D.out.blk.cell 0
  unfold Fp.v at h'
  clear hl
  go_enter Try.func54, Try.ntmps54
  go_wp2_with fail
  refine (there_any _ _).mono ?_
  rintro e w' ⟨rfl, rfl⟩
  rw [show St.there 0 = true from rfl]
  go_wp2_with fail
  go_quiet (fail)
  go_wp2_with fail
  go_ret
  exact ⟨rfl, below_drewN (Below.refl _ _) _⟩
set_option maxHeartbeats 8000000 in
theorem clo54_1ok (a c d : Nat) (s : ByteArray) (p : Fp) (S : St) (w : World) (h : w.cell? ⟨a, 0, none⟩ = some (.int .i64 1)) (h' : w.cell? ⟨c, 0, none⟩ = some p.v) (h'' : w.cell? ⟨d, 0, none⟩ = some (.string s)) (D : Hid (Dk w p S)) (hsz : s.size ≤ 140737488355328) (hl : ¬ S.f1.length + s.size > 1048576) :
    Calls Try.prog 54 #[.pointer (some ⟨a, 0, none⟩), .pointer (some ⟨c, 0, none⟩), .pointer (some ⟨d, 0, none⟩)] w fun e w' => e = .returned (.int .i64 0) ∧ Below w.heap.size w w' := by
  have hlf := D.out.wf.l1
  have ht : decide ((1048576 : Int) < (S.f1.length : Int) + (s.size : Int)) = false := by simp; omega
  have ht2 : decide (1048576 < S.f1.length + s.size) = false := by simp; omega
  have k0 := D.out.blk.cell 2
  unfold Fp.v at h'
  clear hl
  go_enter Try.func54, Try.ntmps54
  go_wp2_with fail
  refine (there_any _ _).mono ?_
  rintro e w' ⟨rfl, rfl⟩
  rw [show St.there 1 = true from rfl]
  go_wp2_with fail
  go_quiet (fail)
  go_wp2_with fail
  go_ret
  exact ⟨rfl, below_drewN (Below.refl _ _) _⟩
set_option maxHeartbeats 8000000 in
theorem clo54_1long (a c d : Nat) (s : ByteArray) (p : Fp) (S : St) (w : World) (h : w.cell? ⟨a, 0, none⟩ = some (.int .i64 1)) (h' : w.cell? ⟨c, 0, none⟩ = some p.v) (h'' : w.cell? ⟨d, 0, none⟩ = some (.string s)) (D : Hid (Dk w p S)) (hsz : s.size ≤ 140737488355328) (hl : S.f1.length + s.size > 1048576) :
    Calls Try.prog 54 #[.pointer (some ⟨a, 0, none⟩), .pointer (some ⟨c, 0, none⟩), .pointer (some ⟨d, 0, none⟩)] w fun e w' => e = .returned (.int .i64 91) ∧ Below w.heap.size w w' := by
  have hlf := D.out.wf.l1
  have ht : decide ((1048576 : Int) < (S.f1.length : Int) + (s.size : Int)) = true := by simp; omega
  have ht2 : decide (1048576 < S.f1.length + s.size) = true := by simp; omega
  have k0 := D.out.blk.cell 2
  unfold Fp.v at h'
  clear hl
  go_enter Try.func54, Try.ntmps54
  go_wp2_with fail
  refine (there_any _ _).mono ?_
  rintro e w' ⟨rfl, rfl⟩
  rw [show St.there 1 = true from rfl]
  go_wp2_with fail
  go_quiet (fail)
  go_wp2_with fail
  go_ret
  exact ⟨rfl, below_drewN (Below.refl _ _) _⟩
theorem clo54 (a c d : Nat) (f : Int) (s : ByteArray) (p : Fp) (S : St) (w : World) (h : w.cell? ⟨a, 0, none⟩ = some (.int .i64 f)) (h' : w.cell? ⟨c, 0, none⟩ = some p.v) (h'' : w.cell? ⟨d, 0, none⟩ = some (.string s)) (D : Hid (Dk w p S)) (hsz : s.size ≤ 140737488355328) :
    Calls Try.prog 54 #[.pointer (some ⟨a, 0, none⟩), .pointer (some ⟨c, 0, none⟩), .pointer (some ⟨d, 0, none⟩)] w fun e w' => e = .returned (.int .i64 (appCode S f s.size : Int)) ∧ Below w.heap.size w w' := by
  rcases (by omega : f = 0 ∨ f = 1 ∨ ¬ (0 ≤ f ∧ f < 2)) with rfl | rfl | hf
  · have e0 : S.file ((0 : Int).toNat) = S.f0 := rfl
    have e2 : St.there 0 = true := rfl
    unfold appCode
    rw [e0, e2]
    by_cases hl : S.f0.length + s.size > 1048576
    · rw [if_neg (by simp), if_pos hl]
      exact clo54_0long a c d s p S w h h' h'' D hsz hl
    · rw [if_neg (by simp), if_neg hl]
      exact clo54_0ok a c d s p S w h h' h'' D hsz hl
  · have e0 : S.file ((1 : Int).toNat) = S.f1 := rfl
    have e2 : St.there 1 = true := rfl
    unfold appCode
    rw [e0, e2]
    by_cases hl : S.f1.length + s.size > 1048576
    · rw [if_neg (by simp), if_pos hl]
      exact clo54_1long a c d s p S w h h' h'' D hsz hl
    · rw [if_neg (by simp), if_neg hl]
      exact clo54_1ok a c d s p S w h h' h'' D hsz hl
  · have hth : St.there f = false := by simpa [St.there] using hf
    have e : appCode S f s.size = 90 := by simp [appCode, hth]
    rw [e]
    exact clo54_not a c d f w hth h
theorem append_eq (S : St) (f : Int) (s : List UInt8) : S.append f s = if S.gone then (2, S) else if appCode S f s.length ≠ 0 then (appCode S f s.length, S) else (S.lay f.toNat s).count := by
  unfold St.append appCode
  cases S.gone
  · simp only [Bool.false_eq_true, if_false]
    by_cases h : St.there f = true
    · simp only [h, not_true_eq_false, if_false]
      split <;> simp
    · simp [h]
  · simp
end Go.Proofs.Ytekagnhablkggaa
