/- The document's disk: Append, New. No condition but the disk's own, and the text's length. -/
import Derived.Test.YtekagnhablkggaaBe
set_option linter.unusedVariables false
set_option linter.unusedSimpArgs false
set_option maxRecDepth 100000
namespace Go.Proofs.Ytekagnhablkggaa
open Go.RowKit Go.Sort

/-- a new row of unsafe bytes -/
def Ur (w0 w' : World) (v' : Value) (l : List (Nat × UInt8)) : Prop :=
  w'.ownsRow 0 79 2 v' l.length (ucells l) ∧ Below w0.heap.size w0 w' ∧ ∀ k, v'.ownBlock = some k → w0.heap.size ≤ k
theorem Ur.down {w0 w w' : World} {v : Value} {l : List (Nat × UInt8)} (h : Ur w0 w v l) (hb : Below w.heap.size w w') : Ur w0 w' v l :=
  ⟨ownsU_of h.1 fun g _ hg => hb.block g hg, h.2.1.trans (hb.mono h.2.1.size), h.2.2⟩
theorem Ur.shape {w0 w : World} {v : Value} {l : List (Nat × UInt8)} (h : Ur w0 w v l) : ∃ a c, v = .slice a l.length c := by
  obtain ⟨a, c, rfl, _⟩ := owns_len rfl h.1
  exact ⟨a, c, rfl⟩
theorem ur_more {w0 W : World} {v : Value} {l m : List (Nat × UInt8)} (ty : TypeId) (h : Ur w0 W v l) (a : Addr) (n c : Nat) (hn : n = m.length) (hm : ∀ j u, (ucells m)[j]? = some u → W.cell? (a.add j) = some u) (hl : l.length + m.length ≤ 4194304) :
    ∃ v' w', (Builtin.append_ #[65, 65] ty #[v, .slice (some a) n c]).run Try.prog W = .ok v' w' ∧ Ur w0 w' v' (l ++ m) := by
  subst hn
  obtain ⟨i0, hi, hz0, hz1, hz2⟩ := info_parts infoU
  obtain ⟨v', w', hrun, ho, hgr, hv, _⟩ := app_own W 65 ty 79 i0 (.agg #[.int .i64 0, .int .u8 0]) 2 16 u65 hi hz0 hz1 hz2 rfl (by decide) v l.length (ucells l) h.1 a m.length c (ucells m) (ucells_len m) hm (ucells_one m) (by unfold maxLen; omega) (by omega)
  refine ⟨v', w', hrun, ⟨by rw [List.length_append, ucells_app]; exact ho, h.2.1.grown hgr h.2.1.size h.2.2, fun k hk => ?_⟩⟩
  rcases hv with e | e
  · exact h.2.2 k (e ▸ hk)
  · exact Nat.le_trans h.2.1.size (e k hk)
theorem wp_ubyte {ops : Array Oper} {rest : List Oper} {o : Oper} {a : Act} {Q : Exit → Act → World → Prop} {w0 W : World} (hgd : o.guard = none) (s x : Operand) (ho : o.op = .call { callee := .builtin .append, args := #[s, x], argTypes := #[65, 65] })
    (v : Value) (l : List (Nat × UInt8)) (q c f : Nat) (b : UInt8) (hs : a.eval s = v) (hx : a.eval x = .slice (some ⟨q, 0, none⟩) 1 c) (hI : Ur w0 W v l) (hq : Bk 79 W q #[.int .i64 (f : Int), .int .u8 (b.toNat : Int)]) (hl : l.length + 1 ≤ 4194304)
    (h : ∀ v' w', Ur w0 w' v' (l ++ [(f, b)]) → wpList Try.prog ops Q rest (a.put o.dst v') w') : wpList Try.prog ops Q (o :: rest) a W := by
  obtain ⟨v', w', hrun, hu⟩ := ur_more (m := [(f, b)]) o.type hI ⟨q, 0, none⟩ 1 c rfl (by
    intro j u hu
    rw [at0, hq.cell]
    match j with
    | 0 => simpa [ucells] using hu
    | 1 => simpa [ucells] using hu
    | j + 2 => simp [ucells] at hu) hl
  exact Lib.wpList_append_run W hgd s x 65 65 ho _ _ hs hx v' w' hrun (h v' w' hu)
/-- 'append([]Byte{}, d.U...)' -/
theorem copyU {w : World} {uv : Value} {l : List (Nat × UInt8)} (ty : TypeId) (h : w.ownsRow 0 79 2 uv l.length (ucells l)) (hl : l.length ≤ 2097152) :
    ∃ v' w', (Builtin.append_ #[65, 65] ty #[.slice (some ⟨w.heap.size, 0, none⟩) 0 0, uv]).run Try.prog (w.alloc (.cells #[] 79)) = .ok v' w' ∧ Ur w w' v' l := by
  have h0 : Ur w (w.alloc (.cells #[] 79)) (.slice (some ⟨w.heap.size, 0, none⟩) 0 0) [] := ⟨⟨rfl, .inr ⟨w.heap.size, 0, #[], rfl, Nat.zero_le _, Go.heap_alloc_new w _, Nat.le_refl _, by unfold maxLen; omega, rfl, rfl⟩⟩, by go_grown, fun k hk => by cases hk; exact Nat.le_refl _⟩
  have h' := h
  obtain ⟨_, ⟨rfl, hn⟩ | ⟨q, cap, cur, rfl, _⟩⟩ := h'
  · obtain ⟨i0, hi, hz0, hz1, hz2⟩ := info_parts infoU
    have hl0 : l = [] := List.eq_nil_of_length_eq_zero hn
    subst hl0
    refine ⟨_, _, ?_, h0⟩
    simp [Builtin.append_, run_underlying u65, sizeOf, typeInfo, hi, Builtin.lenOf, run_firstCells_none, storeCells]
  · have hcells := h.cells (g := q) rfl
    have hlt := h.lt q rfl
    obtain ⟨v', w', hrun, hu⟩ := ur_more (m := l) ty h0 ⟨q, 0, none⟩ l.length cap rfl (by
      intro j u hu
      have := hcells j u hu
      rw [at0] at this ⊢
      exact ((show Below w.heap.size w (w.alloc (.cells #[] 79)) by go_grown).cell (p := ⟨q, j, none⟩) hlt.2).trans this) (by simp; omega)
    exact ⟨v', w', hrun, hu⟩
end Go.Proofs.Ytekagnhablkggaa
