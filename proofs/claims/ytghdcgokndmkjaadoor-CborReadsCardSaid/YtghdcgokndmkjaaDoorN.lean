/- What put does: more of the bytes, or it gives up where they are too many. Condition: at most 2^47 bytes. -/
import Derived.Test.YtghdcgokndmkjaaDoorM
set_option linter.unusedVariables false
set_option linter.unusedSimpArgs false
namespace Go.Proofs.YtghdcgokndmkjaaDoor
open Go.RowKit Go.Sort

/-- what a writer in block wb leaves as it was -/
def Kw (wb : Nat) (w w' : World) : Prop := Below wb w w' ∧ Lib.OthersKept 5 (some wb) w w'
theorem Kw.refl (wb : Nat) (w : World) : Kw wb w w := ⟨Below.refl _ _, Lib.OthersKept.refl _ _ _⟩
theorem Kw.trans {wb : Nat} {a b c : World} (h : Kw wb a b) (k : Kw wb b c) : Kw wb a c := ⟨h.1.trans k.1, h.2.trans k.2⟩
theorem Kw.of {wb : Nat} {a b : World} (h : Below a.heap.size a b) (hw : wb ≤ a.heap.size) : Kw wb a b := ⟨h.mono hw, fun k o hk _ _ => (h.block k (blk_lt hk)).trans hk⟩
theorem Kw.alloc {wb : Nat} {a b : World} (h : Kw wb a b) (hw : wb ≤ b.heap.size) (o : Obj) : Kw wb a (b.alloc o) := h.trans (.of ((Below.refl _ _).alloc (Nat.le_refl _) o) hw)
/-- an item's box stands -/
theorem Kw.box {wb k : Nat} {a b : World} {cs : Array Value} {z : Nat × Nat} (h : Kw wb a b) (hk : a.heap[k]? = some (.cells cs 24 z)) (hn : k ≠ wb) : b.heap[k]? = some (.cells cs 24 z) :=
  h.2 k _ hk (by simpa using hn) (by intro c fz e; simp at e)
/-- more bytes, or too many -/
def ItR (wb : Nat) (l bs : List UInt8) (w w' : World) (e : Ending) : Prop :=
  if (l ++ bs).length ≤ 4096 then e = .returned (.tuple #[]) ∧ Wr wb (l ++ bs) w' ∧ Kw wb w w' else e = .panicked [{ v := .iface 25 (.int .i64 32), recovered := false }] ∧ Kw wb w w'

theorem ItR.yes {wb : Nat} {l bs : List UInt8} {w w' : World} (h : (l ++ bs).length ≤ 4096) (h1 : Wr wb (l ++ bs) w') (h2 : Kw wb w w') : ItR wb l bs w w' (.returned (.tuple #[])) := by
  unfold ItR; rw [if_pos h]; exact ⟨rfl, h1, h2⟩
theorem ItR.no {wb : Nat} {l bs : List UInt8} {w w' : World} (h : ¬ (l ++ bs).length ≤ 4096) (h2 : Kw wb w w') : ItR wb l bs w w' (.panicked [{ v := .iface 25 (.int .i64 32), recovered := false }]) := by
  unfold ItR; rw [if_neg h]; exact ⟨rfl, h2⟩
theorem ItR.cases {wb : Nat} {l bs : List UInt8} {w w' : World} {e : Ending} (h : ItR wb l bs w w' e) :
    ((l ++ bs).length ≤ 4096 ∧ e = .returned (.tuple #[]) ∧ Wr wb (l ++ bs) w' ∧ Kw wb w w') ∨ (¬ (l ++ bs).length ≤ 4096 ∧ e = .panicked [{ v := .iface 25 (.int .i64 32), recovered := false }] ∧ Kw wb w w') := by
  unfold ItR at h
  split at h
  · exact .inl ⟨‹_›, h⟩
  · exact .inr ⟨‹_›, h⟩

set_option maxHeartbeats 1000000 in
set_option maxRecDepth 100000 in
theorem put_any (wb : Nat) (l bs : List UInt8) (w : World) (h : Wr wb l w) (hl : l.length ≤ 4096) (hs : bs.length ≤ 140737488355328) :
    Calls Tryd.prog 34 #[.pointer (some ⟨wb, 0, none⟩), .string ⟨bs.toArray⟩] w fun e w' => ItR wb l bs w w' e := by
  have HL := Lib.hid (len_b wb l w h)
  have HW := Lib.hid h
  clear h
  by_cases hf : l.length + bs.length ≤ 4096
  · have HF : Hid ((l ++ bs).length ≤ 4096) := Lib.hid (by rw [List.length_append]; exact hf)
    go_enter Tryd.func34, Tryd.ntmps34
    go_wp2_with fail
    refine HL.out.mono ?_
    rintro e w' ⟨rfl, rfl⟩
    go_wp2_with fail
    refine (write_s wb l ⟨bs.toArray⟩ w HW.out (by show _ + bs.toArray.size ≤ _; simp; omega)).mono ?_
    rintro e w' ⟨rfl, h1, h2, h3⟩
    have H1 := Lib.hid h1
    clear h1
    go_wp2_with fail
    go_end0
    exact ItR.yes HF.out H1.out ⟨h2, h3⟩
  · have HF : Hid (¬ (l ++ bs).length ≤ 4096) := Lib.hid (by rw [List.length_append]; exact hf)
    go_enter Tryd.func34, Tryd.ntmps34
    go_wp2_with fail
    refine HL.out.mono ?_
    rintro e w' ⟨rfl, rfl⟩
    go_wp2_with fail
    exact ⟨rfl, ItR.no HF.out (Kw.refl _ _)⟩
end Go.Proofs.YtghdcgokndmkjaaDoor
