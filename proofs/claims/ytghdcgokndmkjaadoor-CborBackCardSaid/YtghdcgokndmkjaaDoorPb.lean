/- The items that the program holds are of sizes that fit. -/
import Derived.Test.YtghdcgokndmkjaaDoorPa
import Derived.Test.YtghdcgokndmkjaaDoorB
set_option linter.unusedVariables false
namespace Go.Proofs.YtghdcgokndmkjaaDoor
theorem num_ok {t : It} {d : Nat} {B : Nat → Prop} {w : World} {A : Option Addr} (hz : Sz t) (hr : RdL d B w A t.list) : NumOk t :=
  ⟨hz.1, hz.2.1, by have := hz.2.2; omega, by have := hr.length; omega⟩
theorem deep_ok : ∀ {d : Nat} {B : Nat → Prop} {w : World} {A : Option Addr} {t : It}, Sz t → RdL d B w A t.list → DeepOk d t
  | 0, _, _, _, _, hz, hr => num_ok hz hr
  | d + 1, B, w, A, t, hz, hr => by
    refine ⟨num_ok hz hr, fun x hx => ?_⟩
    have hne : t.list ≠ [] := by intro e; rw [e] at hx; cases hx
    obtain ⟨b, off, _, _, _, hi⟩ := hr.2 hne
    obtain ⟨i, hi', rfl⟩ := List.mem_iff_getElem.1 hx
    obtain ⟨h1, A', c', _, _, _, _, _, h2⟩ := hi i hi'
    exact deep_ok h1 h2
end Go.Proofs.YtghdcgokndmkjaaDoor
