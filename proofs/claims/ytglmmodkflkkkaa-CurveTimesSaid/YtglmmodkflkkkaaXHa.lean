import Derived.Test.YtglmmodkflkkkaaXFk
import Derived.Test.YtglmmodkflkkkaaXJb
import Derived.Test.YtglmmodkflkkkaaXFo
import Derived.Test.YtglmmodkflkkkaaXShelf
import Derived.Test.YtglmmodkflkkkaaXNj
set_option linter.unusedVariables false
set_option linter.unusedSimpArgs false
set_option maxRecDepth 100000
namespace Go.Proofs.Ytglmmodkflkkkaa.Ref
open Go.RowKit Go.Proofs.Ytglmmodkflkkkaa.Digits Limbs
def bl (l : List UInt8) : List Value := l.map fun x => Value.int .u8 (x.toNat : Int)
def Rb (B : Nat) (v : Value) (l : List UInt8) (w : World) : Prop := w.ownsRow B 5 1 v l.length (bl l)
theorem Rb.snoc {B : Nat} {v : Value} {l : List UInt8} {w : World} {x : UInt8} (h : w.ownsRow B 5 1 v (l.length + 1) (bl l ++ [.int .u8 (x.toNat : Int)])) : Rb B v (l ++ [x]) w := by
  have e : bl (l ++ [x]) = bl l ++ [.int .u8 (x.toNat : Int)] := by simp [bl]
  unfold Rb
  rw [e]
  simpa using h
theorem Rb.below {B : Nat} {v : Value} {l : List UInt8} {w w' : World} (h : Rb B v l w) (hb : Below w.heap.size w w') : Rb B v l w' := by
  refine ⟨h.1, ?_⟩
  rcases h.2 with hn | ⟨g, cap, cur, hv, hg, hh, rest⟩
  · exact .inl hn
  · exact .inr ⟨g, cap, cur, hv, hg, (hb.block _ (Array.getElem?_eq_some_iff.1 hh).1).trans hh, rest⟩
theorem Rb.nil (w : World) : Rb w.heap.size (.slice (some ⟨w.heap.size, 0, none⟩) 0 0) [] (w.alloc (.cells #[] 5)) :=
  ⟨rfl, .inr ⟨w.heap.size, 0, #[], rfl, Nat.le_refl _, Go.heap_alloc_new w _, Nat.le_refl _, Nat.zero_le _, rfl, rfl⟩⟩
end Go.Proofs.Ytglmmodkflkkkaa.Ref
set_option linter.unusedVariables false
set_option linter.unusedSimpArgs false
set_option maxRecDepth 100000
namespace Go.Proofs.Ytglmmodkflkkkaa.Ref
open Go.RowKit Go.Proofs.Ytglmmodkflkkkaa.Digits Limbs
theorem Rd.set {B : Nat} {g n cap : Nat} {l : List Nat} {w : World} (h : Rd B (.slice (some ⟨g, 0, none⟩) n cap) l w) (j x : Nat) (hj : j < l.length) : Rd B (.slice (some ⟨g, 0, none⟩) n cap) (l.set j x) (w.setCell ⟨g, j, none⟩ (.int .u32 ((x : Nat) : Int))) := by
  have H := h
  have hl := h.1
  rcases h.2 with ⟨hv, _⟩ | ⟨g', cap', cur, hv, hg, hh, h1, h2, h3, h4⟩
  · cases hv
  · injection hv with e1 e2 e3
    injection e1 with e1
    injection e1 with e1
    subst e1
    subst e3
    have e5 : cd (l.set j x) = (cd l).set j (.int .u32 ((x : Nat) : Int)) := by simp [cd, List.map_set]
    refine ⟨by rw [List.length_set, e5, List.length_set]; exact hl, .inr ⟨g, cap, cur.setIfInBounds j (.int .u32 ((x : Nat) : Int)), by rw [List.length_set]; rw [← e2], hg, heap_setCell_same w g j cur 75 _ hh, by rw [List.length_set]; exact h1, h2, by simpa using h3, ?_⟩⟩
    rw [List.length_set, e5, ← h4, Array.toList_setIfInBounds, List.take_set]
theorem Rd.open {B : Nat} {v : Value} {l : List Nat} {w : World} (h : Rd B v l w) (hl : l ≠ []) (hm : l.length ≤ 10000000000001) :
    ∃ g cap, v = .slice (some ⟨g, 0, none⟩) l.length cap ∧ l.length ≤ cap ∧ cap ≤ 9223372036854775807 ∧ B ≤ g ∧ (∀ i (hi : i < l.length), w.cell? ⟨g, i, none⟩ = some (.int .u32 ((l[i] : Nat) : Int))) ∧ (∀ i, w.frozen? ⟨g, i, none⟩ = false) := by
  have H := h
  rcases h.2 with ⟨rfl, h0⟩ | ⟨g, cap, cur, rfl, hg, hh, h1, h2, h3, _⟩
  · exact absurd (List.eq_nil_of_length_eq_zero h0) hl
  · refine ⟨g, cap, rfl, h1, by unfold maxLen at h2; omega, hg, fun i hi => ?_, fun i => Lib.frozen_of_heap hh i⟩
    have := World.ownsRow.cells H (g := g) rfl i (.int .u32 ((l[i] : Nat) : Int)) (by simp [cd, hi])
    rwa [at0] at this
end Go.Proofs.Ytglmmodkflkkkaa.Ref
