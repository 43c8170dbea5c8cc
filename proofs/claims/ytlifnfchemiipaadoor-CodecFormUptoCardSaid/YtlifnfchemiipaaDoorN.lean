/- What codec.toField and codec.fromField answer: a name or a value as it stands in a form, and back, or the error 12. Conditions: at most 67108864 bytes; the library's variable holds a number. -/
import Derived.Test.YtlifnfchemiipaaDoorM
namespace Go.Proofs.YtlifnfchemiipaaDoor
open Go.RowKit

/-- the library's own variable holds a number -/
def Hm (w : World) : Prop := ∃ m : Int, w.cell? ⟨0, 0, none⟩ = some (.int .i64 m)
theorem Hm.lt {w : World} (h : Hm w) : 0 < w.heap.size := by
  obtain ⟨m, h⟩ := h
  exact World.block_lt_of_cell? w _ h
theorem Hm.below {w w' : World} {B : Nat} (h : Hm w) (hB : 0 < B) (hb : Below B w w') : Hm w' := by
  obtain ⟨m, h⟩ := h
  exact ⟨m, (hb.cell (p := ⟨0, 0, none⟩) hB).trans h⟩

theorem size_of (l : List UInt8) : (⟨l.toArray⟩ : ByteArray).size = l.length := by
  show l.toArray.size = _
  simp
theorem replace_bound (s old : ByteArray) (h1 : 1 ≤ old.size) (hs : s.size ≤ 1073741824) : s.size + Lib.countB s old * 1 ≤ 140737488355328 := by
  have := Lib.countB_le old h1 s.size s (Nat.le_refl _)
  omega

set_option maxHeartbeats 1000000 in
set_option maxRecDepth 100000 in
theorem toField_any (s : ByteArray) (w : World) (hm : Hm w) (hs : s.size ≤ 67108864) :
    Calls Tryd.prog 39 #[.string s] w fun e w' => e = .returned (.string ⟨(wordL s.data.toList).toArray⟩) ∧ Below w.heap.size w w' := by
  have hl : (pctL s.data.toList).length ≤ 201326592 := by
    have := pctL_length s.data.toList
    have e : s.data.toList.length = s.size := by simp
    omega
  have hz1 : (⟨(pctL s.data.toList).toArray⟩ : ByteArray).size ≤ 201326592 := by rw [size_of]; exact hl
  have hW := Lib.hid (word_rep s.data.toList)
  go_enter Tryd.func39, Tryd.ntmps39
  go_wp2_with (fail)
  refine (percent_any s _ hs).mono ?_
  rintro e w1 ⟨rfl, b1⟩
  obtain ⟨m, hm1⟩ := hm.below hm.lt b1
  go_wp2_with (fail)
  refine (Tryd.strings_ReplaceAll _ _ _ m _ (by omega) hm1 (by decide) (replace_bound _ _ (by decide) (by omega))).mono ?_
  rintro e w2 ⟨rfl, b2⟩
  go_wp2
  go_ret
  refine ⟨?_, b1.trans (b2.mono b1.size)⟩
  show Ending.returned (Value.string ⟨(Lib.replaceAll (pctL s.data.toList) [37, 50, 48] [43]).toArray⟩) = _
  rw [repR_all _ _ _ (by decide), hW.out]

def unplus (l : List UInt8) : List UInt8 := l.map fun x => if x = 43 then 32 else x
def unwordL (l : List UInt8) : Option (List UInt8) := unpctL (unplus l)

set_option maxHeartbeats 1000000 in
set_option maxRecDepth 100000 in
theorem fromField_any (s : ByteArray) (w : World) (hm : Hm w) (hs : s.size ≤ 67108864) :
    Calls Tryd.prog 50 #[.string s] w fun e w' => e = Two (unwordL s.data.toList) 12 ∧ Below w.heap.size w w' := by
  have hR : Lib.replaceAll s.data.toList [43] [32] = unplus s.data.toList := by rw [repR_all _ _ _ (by decide), repR_one]; rfl
  have HR := Lib.hid hR
  clear hR
  obtain ⟨m, hm1⟩ := hm
  go_enter Tryd.func50, Tryd.ntmps50
  go_wp2_with (fail)
  refine (Tryd.strings_ReplaceAll _ _ _ m _ (by omega) hm1 (by decide) (replace_bound _ _ (by decide) (by omega))).mono ?_
  rintro e w1 ⟨rfl, b1⟩
  go_wp2_with (fail)
  refine (fromPercent_any _ _ ?_).mono ?_
  · have e : (⟨(Lib.replaceAll s.data.toList [43] [32]).toArray⟩ : ByteArray).size = s.size := by rw [size_of, HR.out]; simp [unplus]
    exact Nat.le_trans (Nat.le_of_eq e) hs
  rintro e w2 ⟨he, b2⟩
  unfold Two at he
  subst he
  go_wp2
  go_ret2
  refine ⟨?_, b1.trans (b2.mono b1.size)⟩
  show Two (unpctL (Lib.replaceAll s.data.toList [43] [32])) 12 = _
  rw [HR.out]; rfl
end Go.Proofs.YtlifnfchemiipaaDoor
