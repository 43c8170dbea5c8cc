import Derived.Test.YtglmmodkflkkkaaXKo
import Derived.Test.YtglmmodkflkkkaaXKq
set_option linter.unusedVariables false
set_option linter.unusedSimpArgs false
set_option maxRecDepth 100000
namespace Go.Proofs.Ytglmmodkflkkkaa.Ref
open Go.RowKit Go.Proofs.Ytglmmodkflkkkaa.Digits Limbs Curve
theorem sum7 (v u : Value) (p q : Po) (hp : p.on = true) (hq : q.on = true) (w : World) (h : RP w v p) (k : RP w u q) : Calls Try.prog 49 #[v, u] w fun e w' => ∃ v', e = .returned v' ∧ RP w' v' (p.add q) ∧ Below w.heap.size w w' := by
  obtain ⟨xa, ya, pi⟩ := p
  obtain ⟨xb, yb, qi⟩ := q
  obtain ⟨ax, nx, cx, ay, ny, cy, rfl, hn⟩ := h
  obtain ⟨bx, mx, dx, bb, my, dy, rfl, hm⟩ := k
  cases pi
  · cases qi
    · cases hs : Po.same (Po.mk xa ya false) (Po.mk xb yb false).neg
      · obtain ⟨hd, hX⟩ := sum_ref hp hq hs
        rw [hX]
        cases hs2 : Po.same (Po.mk xa ya false) (Po.mk xb yb false)
        · simp only [downR, hs2, Bool.false_eq_true, if_false] at hd
          simp only [xR, yR, slR, upR, downR, hs2, Bool.false_eq_true, if_false]
          exact sum7_two xa ya xb yb _ _ _ nx cx ny cy mx dx my dy ax ay bx bb hp hq w (hn rfl).1 (hn rfl).2 (hm rfl).1 (hm rfl).2 hs hs2 rfl rfl hd rfl
        · simp only [downR, hs2, if_true] at hd
          simp only [xR, yR, slR, upR, downR, hs2, if_true]
          exact sum7_dbl xa ya xb yb _ _ _ nx cx ny cy mx dx my dy ax ay bx bb hp hq w (hn rfl).1 (hn rfl).2 (hm rfl).1 (hm rfl).2 hs hs2 rfl rfl hd rfl
      · rw [sum_opp hp hq hs]
        exact sum7_far xa ya xb yb nx cx ny cy mx dx my dy ax ay bx bb hp hq w (hn rfl).1 (hn rfl).2 (hm rfl).1 (hm rfl).2 hs
    · rw [(add_far hp hq).2 rfl]
      exact sum7_q xa ya xb yb nx cx ny cy mx dx my dy ax ay bx bb w (hn rfl)
  · rw [(add_far hp hq).1 rfl]
    exact sum7_p xa ya xb yb qi nx cx ny cy mx dx my dy ax ay bx bb w hm
end Go.Proofs.Ytglmmodkflkkkaa.Ref
