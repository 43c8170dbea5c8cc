/- An argument that is a call by value, read as such within the form's reach. No condition. -/
import Derived.Test.YtmoihgniglomiaaDoorZY
set_option linter.unusedVariables false
set_option linter.unusedSimpArgs false
set_option maxRecDepth 100000
namespace Go.Proofs.YtmoihgniglomiaaDoor
open Go.ChangeShapes Go.WideShapes Go.ChangeAt Go.ChangeMaps Go.RowKit Go.Deep
section
variable {H : Type} {enc : TypeId × Value → H}
theorem open_op35 {W : World} {b0 : Nat} {v : Value} {d : DataW H} {ps : List MemPlace} (hv : Value.okWide Tryd.prog W .any b0 46 v) (h : DataW.Trod enc Tryd.prog W 0 (fun _ => true) true 46 v d ps)
    (hw : ∀ n ∈ d.weights Tryd.prog 46, n ≤ 140737488351232) : ∃ o : Op, v = .agg #[.int .i64 o.on, .int .i64 o.kind, .int .i64 o.a, .int .i64 o.b, .string o.s] ∧ OpOk o := by
  obtain ⟨cs, rfl, hsz, _⟩ : ∃ cs, v = .agg cs ∧ cs.size = Tryd.prog.cellsOf 46 ∧ Row.okWide Tryd.prog W .any b0 46 cs := by
    simpa [Value.okWide, Tryd.underlying46] using hv
  obtain ⟨fuel, hf⟩ := h
  obtain ⟨o, hcs, hok, _⟩ := open_op hf hw
  refine ⟨o, ?_, hok⟩
  have : cs.toList = o.cells := hcs
  congr 1
  rw [← Array.toArray_toList (xs := cs), this]
  rfl
end
end Go.Proofs.YtmoihgniglomiaaDoor
