/- A region that draws its order, shown by what holds whichever operations have come up: each operation is run once, from any state of that kind. General, of any program. No condition. -/
import Derived.Test.YtglmmodkflkkkaaNm
set_option linter.unusedVariables false
set_option linter.unusedSimpArgs false
set_option maxRecDepth 100000
namespace Go.Proofs.Ytglmmodkflkkkaa
open Go.RowKit

section
variable {P : Program} {ops : Array Oper} {md : Region.Mode} {Q : Exit → Act → World → Prop}
/-- how many have not come up -/
def left (l : Array Bool) : Nat := (l.toList.filter (fun x => !x)).length
theorem left_set_list : ∀ (l : List Bool) (i : Nat) (h : i < l.length), l[i] = false → ((l.set i true).filter (fun x => !x)).length + 1 = (l.filter (fun x => !x)).length
  | x :: l, 0, h, hx => by
    have : x = false := hx
    subst this
    simp
  | x :: l, i + 1, h, hx => by
    have ih := left_set_list l i (by simpa using h) (by simpa using hx)
    cases x <;> simp [List.filter_cons] <;> omega
theorem left_set {l : Array Bool} {i : Nat} (h : l.getD i true = false) : left (l.setIfInBounds i true) + 1 = left l := by
  have hi : i < l.size := by
    rcases Nat.lt_or_ge i l.size with h' | h'
    · exact h'
    · simp [Array.getElem?_eq_none h'] at h
  have hx : l[i] = false := by simpa [hi] using h
  unfold left
  have := left_set_list l.toList i (by simpa using hi) (by simpa using hx)
  simpa [Array.toList_setIfInBounds, hi] using this
theorem ready_left {l : Array Bool} {i : Nat} (h : i ∈ Region.ready md ops l) : 0 < left l := by
  have := left_set (mem_ready.1 h).1
  omega
theorem wpAny_inv {I : Array Bool → Act → World → Prop} (step : ∀ l a w, I l a w → ∀ i ∈ Region.ready md ops l, wpOp P ops Q i (fun a' w' => I (l.setIfInBounds i true) a' w') a w)
    (fin : ∀ l a w, I l a w → Region.ready md ops l = [] → Q .normal a w) : ∀ (fuel : Nat) (l : Array Bool) (a : Act) (w : World), left l ≤ fuel → I l a w → wpAny P md ops Q fuel l a w
  | 0, l, a, w, hf, h => by
    have h0 : Region.ready md ops l = [] := by
      rw [List.eq_nil_iff_forall_not_mem]
      intro i hi
      have := ready_left hi
      omega
    exact ⟨h0, fin l a w h h0⟩
  | fuel + 1, l, a, w, hf, h => by
    refine ⟨fin l a w h, fun i hi => ?_⟩
    have hl := left_set (mem_ready.1 hi).1
    exact wpOp_mono (fun a' w' h' => wpAny_inv step fin fuel _ a' w' (by omega) h') (step l a w h i hi)
theorem wpOp_of {i : Nat} {o : Oper} {K : Act → World → Prop} {a : Act} {w : World} (hi : ops[i]? = some o) (hg : o.guard = none) (h : o.wp P a w K Q) : wpOp P ops Q i K a w := by
  unfold wpOp
  simp only [hi]
  rw [if_pos (by simp [Region.wanted, hg])]
  exact .inl h
end
end Go.Proofs.Ytglmmodkflkkkaa
