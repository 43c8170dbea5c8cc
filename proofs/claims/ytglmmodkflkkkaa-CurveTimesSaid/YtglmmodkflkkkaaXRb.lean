import Derived.Test.YtglmmodkflkkkaaXJk
set_option linter.unusedVariables false
set_option linter.unusedSimpArgs false
set_option maxRecDepth 100000
namespace Go.Proofs.Ytglmmodkflkkkaa
open Go.RowKit Go.Sort Limbs
theorem md_prime {M : Nat} (h : M = mP ∨ M = mN) : Primes.Prm M := by
  rcases h with rfl | rfl
  · exact Primes.P256
  · exact Primes.N256
theorem Bk.reg {w : World} {g : Nat} {x0 x1 x2 x3 : Value} (h : Bk 24 w g #[x0, x1, x2, x3]) : (∀ d os, (grow (redrawn w d) os).cell? ⟨g, 0, none⟩ = some x0) ∧ (∀ d os, (grow (redrawn w d) os).cell? ⟨g, 1, none⟩ = some x1) ∧ (∀ d os, (grow (redrawn w d) os).cell? ⟨g, 2, none⟩ = some x2) ∧ (∀ d os, (grow (redrawn w d) os).cell? ⟨g, 3, none⟩ = some x3) :=
  ⟨fun d os => (h.regrown d os).cell 0, fun d os => (h.regrown d os).cell 1, fun d os => (h.regrown d os).cell 2, fun d os => (h.regrown d os).cell 3⟩
end Go.Proofs.Ytglmmodkflkkkaa
