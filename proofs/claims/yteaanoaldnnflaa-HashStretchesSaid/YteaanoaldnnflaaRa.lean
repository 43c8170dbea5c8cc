/- A whole array read within a region that draws its order: general laws, of any program; and all blocks behind one another. No condition. -/
import Derived.Test.YteaanoaldnnflaaI
import Derived.StillTailTactics
import Derived.Lib.QuietBelow
import Derived.BigQuiet
set_option linter.unusedVariables false
namespace Go.Proofs.Yteaanoaldnnflaa
open Go.RowKit Go.Sort

section
variable {P : Program}
theorem exec_load_row {o : Oper} {a : Act} {w : World} (ty : TypeId) (x : Operand) (ho : o.op = .load ty x)
    (g : Nat) (hx : a.eval x = .pointer (some ⟨g, 0, none⟩)) (t : TypeId) (cs : Array Value) (fr : Nat × Nat) (d : TypeDesc) (hg : w.heap[g]? = some (.cells cs t fr))
    (hu : P.underlying ty = some d) (hd : (match d with | .struct _ | .array _ _ => true | _ => false) = true) (hi : (P.info? ty).map (·.size) = some cs.size) :
    (execOp a.eval o).run P w = .ok (.value (.agg cs)) w := by
  unfold execOp
  simp only [ho, hx, Instr.loadAt, Instr.sureAddr, Sem.run_bind, Sem.run_pure, Result.andThen_ok, run_loadVar_row w g t ty cs fr d hg hu hd hi]
theorem wpStill_load_row {ops : Array Oper} {w : World} {Q : Act → Prop} {a : Act} {o : Oper} {rest : List Oper} (hgd : o.guard = none) (ty : TypeId) (x : Operand) (ho : o.op = .load ty x)
    (g : Nat) (hx : a.eval x = .pointer (some ⟨g, 0, none⟩)) (t : TypeId) (cs : Array Value) (fr : Nat × Nat) (d : TypeDesc) (hg : w.heap[g]? = some (.cells cs t fr))
    (hu : P.underlying ty = some d) (hd : (match d with | .struct _ | .array _ _ => true | _ => false) = true) (hi : (P.info? ty).map (·.size) = some cs.size)
    (h : wpStill P ops w Q rest (a.put o.dst (.agg cs))) : wpStill P ops w Q (o :: rest) a :=
  wpStill_step fun K hK => by
    rw [if_pos (by simp [Region.wanted, hgd])]
    unfold Oper.still
    rw [exec_load_row ty x ho g hx t cs fr d hg hu hd hi, Oper.stillUpon_value]
    exact hK _ h
theorem wpQuiet_load_row {ops : Array Oper} {C : World → Prop} {Q : Act → Prop} {a : Act} {o : Oper} {rest : List Oper} (hgd : o.guard = none) (ty : TypeId) (x : Operand) (ho : o.op = .load ty x)
    (g : Nat) (hx : a.eval x = .pointer (some ⟨g, 0, none⟩)) (t : TypeId) (cs : Array Value) (fr : Nat × Nat) (d : TypeDesc) (hg : ∀ w, C w → w.heap[g]? = some (.cells cs t fr))
    (hu : P.underlying ty = some d) (hd : (match d with | .struct _ | .array _ _ => true | _ => false) = true) (hi : (P.info? ty).map (·.size) = some cs.size)
    (h : wpQuiet P ops C Q rest (a.put o.dst (.agg cs))) : wpQuiet P ops C Q (o :: rest) a :=
  wpQuiet_step fun K hK => by
    rw [if_pos (by simp [Region.wanted, hgd])]
    refine ⟨.agg cs, fun w hw => ?_, hK _ h⟩
    unfold Oper.quietAt
    rw [exec_load_row ty x ho g hx t cs fr d (hg w hw) hu hd hi]
    exact ⟨rfl, rfl⟩
theorem heap_regrown {w w' : World} {b : Nat} {o : Obj} (h : w.heap[b]? = some o) (hw : ∃ p : Regrown, w' = grow (redrawn w p.d) p.os) : w'.heap[b]? = some o := by
  obtain ⟨p, rfl⟩ := hw
  exact ((below_regrown w p.d p.os).block _ (Array.getElem?_eq_some_iff.1 h).1).trans h
end
theorem mixed : Try.prog.follows .mixedOrders = true := by kernel_rfl

theorem thr_succ : ∀ (k : Nat) (h : List UInt32) (s : List UInt8), thrL (k + 1) h s = nextL (thrL k h s) ((s.drop (64 * k)).take 64)
  | 0, h, s => by simp [thrL]
  | k + 1, h, s => by
    rw [thrL, thr_succ k, thrL, List.drop_drop, show 64 + 64 * k = 64 * (k + 1) from by omega]
theorem thr_append : ∀ (k m : Nat) (h : List UInt32) (s t : List UInt8), s.length = 64 * k → thrL m (thrL k h s) t = thrL (k + m) h (s ++ t)
  | 0, m, h, s, t, hs => by
    obtain rfl : s = [] := List.eq_nil_of_length_eq_zero (by omega)
    simp [thrL]
  | k + 1, m, h, s, t, hs => by
    rw [thrL, thr_append k m _ _ _ (by rw [List.length_drop]; omega), show k + 1 + m = (k + m) + 1 from by omega, thrL, List.take_append_of_le_length (by omega), List.drop_append_of_le_length (by omega)]
theorem ext_ba (l : List UInt8) (a n : Nat) : (⟨l.toArray⟩ : ByteArray).extract a (a + n) = ⟨((l.drop a).take n).toArray⟩ := by
  apply ByteArray.ext
  rw [ByteArray.data_extract]
  simp [List.extract_eq_take_drop]
end Go.Proofs.Yteaanoaldnnflaa
