/- A disk behind calls that a log may make (made). Conditions: the texts' lengths. -/
import Derived.Test.YtmoihgniglomiaaDoorZR
set_option linter.unusedVariables false
set_option linter.unusedSimpArgs false
set_option maxRecDepth 100000
namespace Go.Proofs.YtmoihgniglomiaaDoor
open Go.RowKit Go.Sort

structure Op where
  on : Int
  kind : Int
  a : Int
  b : Int
  s : ByteArray
def Op.cells (o : Op) : List Value := [.int .i64 o.on, .int .i64 o.kind, .int .i64 o.a, .int .i64 o.b, .string o.s]
/-- v reads as these calls -/
def OpsIn (w : World) (v : Value) (l : List Op) : Prop :=
  ∃ a c, v = .slice a l.length c ∧ (l ≠ [] → ∃ b o, a = some ⟨b, o, none⟩ ∧ b < w.heap.size ∧ ∀ i (hi : i < l.length), w.cell? ⟨b, o + i * 5, none⟩ = some (.int .i64 l[i].on) ∧ w.cell? ⟨b, o + i * 5 + 1, none⟩ = some (.int .i64 l[i].kind) ∧ w.cell? ⟨b, o + i * 5 + 2, none⟩ = some (.int .i64 l[i].a) ∧ w.cell? ⟨b, o + i * 5 + 3, none⟩ = some (.int .i64 l[i].b) ∧ w.cell? ⟨b, o + i * 5 + 4, none⟩ = some (.string l[i].s))
theorem OpsIn.below {w w' : World} {v : Value} {l : List Op} (h : OpsIn w v l) (hb : Below w.heap.size w w') : OpsIn w' v l := by
  obtain ⟨a, c, hv, hl⟩ := h
  refine ⟨a, c, hv, fun hne => ?_⟩
  obtain ⟨b, o, ha, hlt, hc⟩ := hl hne
  have e : ∀ k, w'.cell? ⟨b, k, none⟩ = w.cell? ⟨b, k, none⟩ := fun k => hb.cell (p := ⟨b, k, none⟩) hlt
  refine ⟨b, o, ha, Nat.lt_of_lt_of_le hlt hb.size, fun i hi => ?_⟩
  simp only [e]
  exact hc i hi
def OpOk (o : Op) : Prop := -9223372036854775808 ≤ o.on ∧ o.on ≤ 9223372036854775807 ∧ -9223372036854775808 ≤ o.kind ∧ o.kind ≤ 9223372036854775807 ∧ -9223372036854775808 ≤ o.a ∧ o.a ≤ 9223372036854775807 ∧ -9223372036854775808 ≤ o.b ∧ o.b ≤ 9223372036854775807 ∧ o.s.size ≤ 140737488355232
def stepM (S : St) (o : Op) : St := if o.kind = 1 then (S.append o.a o.s.data.toList).2 else if o.kind = 2 then S.sync.2 else if o.kind = 3 then (S.cut o.a o.b).2 else S
theorem index23 (b o c n i : Nat) (h : i < n) (w : World) : (Instr.indexAt 26 (.slice (some ⟨b, o, none⟩) n c) (.int .i64 (i : Int))).run Tryd.prog w = .ok (.pointer (some ⟨b, o + i * 5, none⟩)) w := by
  go_simp
theorem Mut.b {w w' : World} {p p' : Fp} {S : St} (h : Mut w p w' p' S) : p'.v = p.v := by unfold Fp.v; rw [h.2.1]
/-- a disk of the call's own -/
def Own (B : Nat) (w0 w : World) (p : Fp) (S : St) : Prop := Dk w p S ∧ Below B w0 w ∧ ∀ k ∈ p.own, B ≤ k
theorem Own.mut {B : Nat} {w0 w w' : World} {p p' : Fp} {S S' : St} (h : Own B w0 w p S) (hB : B ≤ w0.heap.size) (hm : Mut w p w' p' S') : Own B w0 w' p' S' :=
  ⟨hm.1, h.2.1.trans (hm.2.2.1.below (Nat.le_trans hB h.2.1.size) h.2.2), fun k hk => (hm.2.2.2 k hk).elim (h.2.2 k) (fun e => Nat.le_trans (Nat.le_trans hB h.2.1.size) e)⟩
theorem Own.below {B : Nat} {w0 w w' : World} {p : Fp} {S : St} (h : Own B w0 w p S) (hB : B ≤ w0.heap.size) (hb : Below w.heap.size w w') : Own B w0 w' p S :=
  ⟨h.1.below hb, h.2.1.trans (hb.mono (Nat.le_trans hB h.2.1.size)), h.2.2⟩
theorem Mut.undrewN {w w' : World} {d : Nat} {p p' : Fp} {S : St} (h : Mut (w.drewN d) p w' p' S) : Mut w p w' p' S := ⟨h.1, h.2.1, only_undrawN h.2.2.1, h.2.2.2⟩
end Go.Proofs.YtmoihgniglomiaaDoor
