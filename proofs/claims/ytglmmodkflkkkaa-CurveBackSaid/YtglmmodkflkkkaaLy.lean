/- A point as an argument. No condition. -/
import Derived.Test.YtglmmodkflkkkaaLx
import Derived.Deep.Strs
import Derived.Test.YtglmmodkflkkkaaCa
set_option linter.unusedVariables false
set_option linter.unusedSimpArgs false
set_option maxRecDepth 100000
namespace Go.Proofs.Ytglmmodkflkkkaa
open Go.ChangeShapes Go.WideShapes Go.ChangeAt Go.RowKit Limbs Go.Joins

theorem array9 {cs : Array Value} (h : cs.size = 9) : ∃ c0 c1 c2 c3 c4 c5 c6 c7 c8, cs = #[c0, c1, c2, c3, c4, c5, c6, c7, c8] := by
  obtain ⟨l⟩ := cs
  simp at h
  match l, h with
  | [c0, c1, c2, c3, c4, c5, c6, c7, c8], _ => exact ⟨c0, c1, c2, c3, c4, c5, c6, c7, c8, rfl⟩
section
variable {H : Type} {enc : TypeId × Value → H}
/-- a point as a datum -/
def pd (x y : Nat) (i : Bool) : DataW H := .agg [nd x, nd y, .lit (.bool i)]
theorem open_point {W : World} {r : Reach} {b0 base : Nat} {spare : Nat → Bool} {held : Bool} {v : Value} {d : DataW H} {p : List MemPlace} (hv : Value.okWide Try.prog W r b0 51 v) (h : DataW.Trod enc Try.prog W base spare held 51 v d p) :
    ∃ (x y : Nat) (i : Bool), x < W256 ∧ y < W256 ∧ v = pn x y i ∧ d = pd x y i ∧ p = [] := by
  obtain ⟨cs, rfl, hsz, _⟩ : ∃ cs, v = .agg cs ∧ cs.size = Try.prog.cellsOf 51 ∧ Row.okWide Try.prog W r b0 51 cs := by
    simpa [Value.okWide, Try.underlying51] using hv
  rw [show Try.prog.cellsOf 51 = 9 by kernel_rfl] at hsz
  obtain ⟨c0, c1, c2, c3, c4, c5, c6, c7, c8, rfl⟩ := array9 hsz
  obtain ⟨fuel, hf⟩ := h
  have c24 : Try.prog.cellsOf 24 = 4 := by kernel_rfl
  have c4 : Try.prog.cellsOf 4 = 1 := by kernel_rfl
  simp only [Value.cells] at hf
  obtain ⟨y0, y1, y2, n, hx, _, h0, h1, h2⟩ := Go.Deep.trod_struct3 Try.underlying51 hf
  simp [c24, c4] at h0 h1 h2
  obtain ⟨x, hx', ⟨rfl, rfl, rfl, rfl⟩, rfl⟩ := open_four h0
  obtain ⟨y, hy', ⟨rfl, rfl, rfl, rfl⟩, rfl⟩ := open_four h1
  obtain ⟨i, e, rfl⟩ := DataW.trod_bool Try.underlying4 h2
  simp at e
  subst e
  simp at hx
  obtain ⟨rfl, rfl⟩ := hx
  exact ⟨x, y, i, hx', hy', rfl, rfl, rfl⟩
theorem shut_point {W : World} {base : Nat} {spare : Nat → Bool} {held : Bool} (x y : Nat) (i : Bool) :
    DataW.Trod enc Try.prog W base spare held 51 (pn x y i) (pd x y i) [] := by
  have c22 : Try.prog.cellsOf 22 = 1 := by kernel_rfl
  have c24 : Try.prog.cellsOf 24 = 4 := by kernel_rfl
  have c51 : Try.prog.cellsOf 51 = 9 := by kernel_rfl
  have c4 : Try.prog.cellsOf 4 = 1 := by kernel_rfl
  have r4 : List.range 4 = [0, 1, 2, 3] := rfl
  exact ⟨3, by simp [DataW.trod, pn, pd, nd, Value.cells, Try.underlying51, Try.underlying24, Try.underlying22, Try.underlying4, c22, c24, c51, c4, r4, u64_wf (lb_lt x 0), u64_wf (lb_lt x 1), u64_wf (lb_lt x 2), u64_wf (lb_lt x 3), u64_wf (lb_lt y 0), u64_wf (lb_lt y 1), u64_wf (lb_lt y 2), u64_wf (lb_lt y 3)]⟩
end
end Go.Proofs.Ytglmmodkflkkkaa
