/- DiskSafe's walk: behind a sync a crash takes nothing. Conditions: that the numbers are int64, and the texts' lengths. -/
import Derived.Test.YtmoihgniglomiaaDoorZV
set_option linter.unusedVariables false
set_option linter.unusedSimpArgs false
set_option maxRecDepth 100000
namespace Go.Proofs.YtmoihgniglomiaaDoor
open Go.RowKit Go.Sort

/-- no power is at stake -/
def Calm (S : St) : Prop := S.gone = false ∧ S.inn = 0
theorem Calm.count {S : St} (h : Calm S) : S.count = (0, S) := by simp [St.count, h.2]
theorem Calm.lay {S : St} (h : Calm S) (f : Nat) (s : List UInt8) : Calm (S.lay f s) := by unfold St.lay; split <;> exact h
theorem Calm.append {S : St} (h : Calm S) (f : Int) (s : List UInt8) : Calm (S.append f s).2 := by
  unfold St.append
  rw [h.1]
  simp only [Bool.false_eq_true, if_false]
  split
  · exact h
  · split
    · exact h
    · rw [(h.lay _ _).count]; exact h.lay _ _
theorem Calm.sync_eq {S : St} (h : Calm S) : S.sync = (0, S.keep S.waiting) := by
  unfold St.sync
  rw [h.1, h.count]
  simp
theorem Calm.cut {S : St} (h : Calm S) (f n : Int) : Calm (S.cut f n).2 := by
  unfold St.cut
  rw [h.1, h.count]
  simp only [Bool.false_eq_true, if_false, if_true]
  split
  · exact h
  · split
    · exact h
    · unfold St.cutF; split <;> exact h
theorem Calm.step {S : St} (h : Calm S) (o : Op) : Calm (stepM S o) := by
  unfold stepM
  split
  · exact h.append _ _
  · split
    · rw [h.sync_eq]; exact h
    · split
      · exact h.cut _ _
      · exact h
theorem Calm.steps {S : St} (h : Calm S) (l : List Op) : Calm (l.foldl stepM S) := by
  induction l generalizing S with
  | nil => exact h
  | cons o l ih => exact ih (h.step o)
theorem Calm.new (a b : List UInt8) : Calm (St.new a b) := ⟨rfl, rfl⟩
/-- all is safe -/
def AllSafe (S : St) : Prop := S.s0 = S.f0.length ∧ S.s1 = S.f1.length ∧ S.row = []
theorem keep_all {S : St} (h : S.Wf) : (S.keep S.waiting).f0 = S.f0 ∧ (S.keep S.waiting).f1 = S.f1 ∧ AllSafe (S.keep S.waiting) := by
  have e := h.left_all S.waiting (Nat.le_refl _)
  refine ⟨?_, ?_, ?_, ?_, rfl⟩ <;> simp [St.keep, e]
theorem AllSafe.waiting {S : St} (h : AllSafe S) : S.waiting = 0 := by unfold St.waiting; rw [h.1, h.2.1]; simp
theorem AllSafe.after {S : St} (h : AllSafe S) (k : Int) : S.after k = (S.f0, S.f1) := by
  unfold St.after St.left
  rw [h.2.2]
  simp [leftL, h.1, h.2.1]
theorem safe_cut0 {S : St} (hc : Calm S) (h : AllSafe S) (k : Nat) (hk : k ≤ S.f0.length) : S.cut 0 k = (0, S.cut0 k) := by
  unfold St.cut
  rw [hc.1, hc.count]
  have e : S.file ((0 : Int).toNat) = S.f0 := rfl
  have e2 : S.safe ((0 : Int).toNat) = S.s0 := rfl
  rw [e, e2, h.1]
  simp only [Bool.false_eq_true, if_false, if_true]
  rw [if_neg (by decide), if_neg (by omega)]
  simp [St.cutF]
theorem safe_cut1 {S : St} (hc : Calm S) (h : AllSafe S) (k : Nat) (hk : k ≤ S.f1.length) : S.cut 1 k = (0, S.cut1 k) := by
  unfold St.cut
  rw [hc.1, hc.count]
  have e : S.file ((1 : Int).toNat) = S.f1 := rfl
  have e2 : S.safe ((1 : Int).toNat) = S.s1 := rfl
  rw [e, e2, h.2.1]
  simp only [Bool.false_eq_true, if_false, if_true]
  rw [if_neg (by decide), if_neg (by omega)]
  simp [St.cutF]
theorem AllSafe.cut0 {S : St} (h : AllSafe S) (k : Nat) (hk : k ≤ S.f0.length) : AllSafe (S.cut0 k) := ⟨by simp [St.cut0]; omega, h.2.1, h.2.2⟩
theorem cut0_size {S : St} (k : Nat) (hk : k ≤ S.f0.length) : (S.cut0 k).size 0 = (k : Int) := by
  show (if St.there 0 then (((S.cut0 k).file 0).length : Int) else -1) = _
  rw [if_pos (show St.there 0 = true from rfl)]
  simp [St.file, St.cut0]; omega
theorem cut1_size {S : St} (k : Nat) (hk : k ≤ S.f1.length) : (S.cut1 k).size 1 = (k : Int) := by
  show (if St.there 1 then (((S.cut1 k).file 1).length : Int) else -1) = _
  rw [if_pos (show St.there 1 = true from rfl)]
  simp [St.file, St.cut1]; omega
theorem cut0_read {S : St} (hc : Calm S) (k : Nat) : (S.cut0 k).read 0 = (S.f0.take k, 0) := by
  have h : (S.cut0 k).gone = false := hc.1
  unfold St.read
  rw [h]
  rfl
theorem cut1_read {S : St} (hc : Calm S) (k : Nat) : (S.cut1 k).read 1 = (S.f1.take k, 0) := by
  have h : (S.cut1 k).gone = false := hc.1
  unfold St.read
  rw [h]
  rfl
theorem ext_ba (l : List UInt8) (k : Nat) : (⟨l.toArray⟩ : ByteArray).extract 0 k = ⟨(l.take k).toArray⟩ := by
  apply ByteArray.ext
  simp [ByteArray.data_extract, List.extract_eq_take_drop]
end Go.Proofs.YtmoihgniglomiaaDoor
