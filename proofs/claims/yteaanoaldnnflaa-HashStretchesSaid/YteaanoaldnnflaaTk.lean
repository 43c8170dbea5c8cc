/- A row of words laid behind another. No condition but the length. -/
import Derived.Test.YteaanoaldnnflaaTn
set_option linter.unusedVariables false
set_option linter.unusedSimpArgs false
namespace Go.Proofs.Yteaanoaldnnflaa
open Go.RowKit Go.Sort

theorem cw_wl (l : List UInt32) : cw l = wl l := rfl
/-- 'l = append(l, nl...)' -/
theorem app_kl {ops : Array Oper} {rest : List Oper} {o : Oper} {a : Act} {Q : Exit → Act → World → Prop} {w : World} {B : Nat} {v : Value} {l : List UInt32} (nl : List UInt32) (bx c : Nat) (s x : Operand) (hgd : o.guard = none)
    (ho : o.op = .call { callee := .builtin .append, args := #[s, x], argTypes := #[43, 43] }) (hs : a.eval s = v) (hx : a.eval x = .slice (some ⟨bx, 0, none⟩) nl.length c) (hbx : w.heap[bx]? = some (.cells (ws nl) 35 (0, 0)))
    (hI : Rk B v l w) (hB : B ≤ w.heap.size) (hlen : l.length + nl.length ≤ 1000)
    (h : ∀ v' w', Rk B v' (l ++ nl) w' → Below B w w' → wpList Try.prog ops Q rest (a.put o.dst v') w') : wpList Try.prog ops Q (o :: rest) a w := by
  obtain ⟨i0, hi, hz0, hz1, hz2⟩ := info_parts info35
  refine wpList_append_own _ hgd s x 43 ho B 35 i0 (.int .u32 0) 1 4 Try.underlying43 hi hz0 hz1 hz2 rfl (by decide) v l.length _ hs hI ⟨bx, 0, none⟩ nl.length c (wl nl) hx (by rw [wl_length, Nat.mul_one]) (World.news_of_block hbx) (wl_one nl) (by unfold maxLen; omega) (by omega) hB ?_
  intro v' w' h1 h2 _
  refine h v' w' ?_ ((Below.refl _ _).grown h2 hB (fun g hk => (World.ownsRow.lt hI g hk).1))
  unfold Rk
  rw [List.length_append]
  have e : cw (l ++ nl) = cw l ++ wl nl := by simp [cw, wl]
  rw [e]
  exact h1
/-- eight words' cells -/
def C8 (w : World) (g : Nat) (l : List UInt32) : Prop := ∀ i, i < 8 → w.cell? ⟨g, i, none⟩ = some (.int .u32 ((l.getD i 0).toNat : Int))
theorem Rk.c8 {B : Nat} {v : Value} {l : List UInt32} {w : World} (h : Rk B v l w) (hl : l.length = 8) : ∃ g cap, v = .slice (some ⟨g, 0, none⟩) 8 cap ∧ B ≤ g ∧ g < w.heap.size ∧ C8 w g l := by
  obtain ⟨g, cap, hv, hg, hc⟩ := h.un (by intro e; rw [e] at hl; simp at hl)
  refine ⟨g, cap, by rw [hv, hl], hg, ?_, fun i hi => ?_⟩
  · rcases h.2 with ⟨rfl, h0⟩ | ⟨g', cap', cur, e, hg', hh, _⟩
    · cases hv
    · rw [hv] at e
      cases e
      exact blk_lt hh
  · rw [hc i (by omega)]
    simp [List.getD, show i < l.length by omega]
theorem C8.block {w : World} {g : Nat} {l : List UInt32} (h : w.heap[g]? = some (.cells (ws l) 35 (0, 0))) (hl : l.length = 8) : C8 w g l := fun i hi => by
  rw [blk_cell h, ws_get _ _ (by omega)]
  simp [List.getD, show i < l.length by omega]
theorem C8.below {w w' : World} {g : Nat} {l : List UInt32} (h : C8 w g l) (hb : Below w.heap.size w w') (hg : g < w.heap.size) : C8 w' g l := fun i hi => by
  rw [hb.cell (p := ⟨g, i, none⟩) hg]; exact h i hi
end Go.Proofs.Yteaanoaldnnflaa
