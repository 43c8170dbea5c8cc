/- How an item lies in memory: a list of items behind an address, at most d deep, in blocks from B on. Conditions: the sizes that Sz names. -/
import Derived.Test.YtghdcgokndmkjaaDoorA
import Derived.WalkKit
import Derived.WalkSpells
import Derived.WalkLawsBesides
import Derived.BigCall
import Derived.Outline
import Derived.Lib.OthersKept
import Derived.Lib.QuietBelow
import Derived.Lib.Walk
namespace Go.Proofs.YtghdcgokndmkjaaDoor
open Go.RowKit Go.Sort

def strV (l : List UInt8) : Value := .string ⟨l.toArray⟩
/-- an item's value: its list lies at A -/
def itV (t : It) (A : Option Addr) (c : Nat) : Value := .agg #[.int .i64 t.kind, .int .i64 t.num, .string ⟨t.text.toArray⟩, .slice A t.list.length c]
/-- numbers and texts as the program may have them -/
def Sz (t : It) : Prop := -9223372036854775808 ≤ t.num ∧ t.num ≤ 9223372036854775807 ∧ t.text.length ≤ 140737488355328
def RdL : Nat → (Nat → Prop) → World → Option Addr → List It → Prop
  | 0, _, _, _, l => l = []
  | d + 1, B, w, A, l => l.length ≤ 140737488355328 ∧ (l ≠ [] → ∃ b off, A = some ⟨b, off, none⟩ ∧ B b ∧ b < w.heap.size ∧ ∀ i, (h : i < l.length) → Sz l[i] ∧ ∃ A' c', c' ≤ 9223372036854775807 ∧
      w.cell? ⟨b, off + i * 4, none⟩ = some (.int .i64 l[i].kind) ∧ w.cell? ⟨b, off + i * 4 + 1, none⟩ = some (.int .i64 l[i].num) ∧
      w.cell? ⟨b, off + i * 4 + 2, none⟩ = some (.string ⟨l[i].text.toArray⟩) ∧ w.cell? ⟨b, off + i * 4 + 3, none⟩ = some (.slice A' l[i].list.length c') ∧ RdL d B w A' l[i].list)

theorem RdL.length {d : Nat} {B : Nat → Prop} {w : World} {A : Option Addr} {l : List It} (h : RdL d B w A l) : l.length ≤ 140737488355328 := by
  cases d with
  | zero => rw [show l = [] from h]; simp
  | succ d => exact h.1
theorem RdL.nil (d : Nat) (B : Nat → Prop) (w : World) (A : Option Addr) : RdL d B w A [] := by
  cases d with
  | zero => exact rfl
  | succ d => exact ⟨by simp, fun h => absurd rfl h⟩
/-- what stands in old blocks that have not turned reads as it did -/
theorem RdL.keep {d : Nat} {B : Nat → Prop} : ∀ {w w' : World} {A : Option Addr} {l : List It}, RdL d B w A l → w.heap.size ≤ w'.heap.size → (∀ b, B b → b < w.heap.size → w'.heap[b]? = w.heap[b]?) → RdL d B w' A l := by
  induction d with
  | zero => intro w w' A l h _ _; exact h
  | succ d ih =>
    intro w w' A l h hs hk
    refine ⟨h.1, fun hl => ?_⟩
    obtain ⟨b, off, hA, hB, hlt, hc⟩ := h.2 hl
    refine ⟨b, off, hA, hB, Nat.lt_of_lt_of_le hlt hs, fun i hi => ?_⟩
    obtain ⟨hz, A', c', hc', h0, h1, h2, h3, hr⟩ := hc i hi
    have e := fun o => World.cell?_of_block (w := w) (w' := w') (a := ⟨b, o, none⟩) (hk b hB hlt)
    exact ⟨hz, A', c', hc', by rw [e]; exact h0, by rw [e]; exact h1, by rw [e]; exact h2, by rw [e]; exact h3, ih hr hs hk⟩
theorem RdL.below {d : Nat} {B : Nat → Prop} {w w' : World} {A : Option Addr} {l : List It} (h : RdL d B w A l) (hb : Below w.heap.size w w') : RdL d B w' A l := h.keep hb.size (fun b _ hlt => hb.block b hlt)
theorem RdL.mono {d : Nat} {B B' : Nat → Prop} (hB : ∀ b, B b → B' b) : ∀ {w : World} {A : Option Addr} {l : List It}, RdL d B w A l → RdL d B' w A l := by
  induction d with
  | zero => intro w A l h; exact h
  | succ d ih =>
    intro w A l h
    refine ⟨h.1, fun hl => ?_⟩
    obtain ⟨b, off, hA, hB1, hlt, hc⟩ := h.2 hl
    refine ⟨b, off, hA, hB b hB1, hlt, fun i hi => ?_⟩
    obtain ⟨hz, A', c', hc', h0, h1, h2, h3, hr⟩ := hc i hi
    exact ⟨hz, A', c', hc', h0, h1, h2, h3, ih hr⟩
/-- it lies in blocks that are there -/
theorem RdL.lt {d : Nat} {B : Nat → Prop} : ∀ {w : World} {A : Option Addr} {l : List It}, RdL d B w A l → RdL d (fun b => B b ∧ b < w.heap.size) w A l := by
  induction d with
  | zero => intro w A l h; exact h
  | succ d ih =>
    intro w A l h
    refine ⟨h.1, fun hl => ?_⟩
    obtain ⟨b, off, hA, hB1, hlt, hc⟩ := h.2 hl
    refine ⟨b, off, hA, ⟨hB1, hlt⟩, hlt, fun i hi => ?_⟩
    obtain ⟨hz, A', c', hc', h0, h1, h2, h3, hr⟩ := hc i hi
    exact ⟨hz, A', c', hc', h0, h1, h2, h3, ih hr⟩
theorem RdL.deeper {d : Nat} {B : Nat → Prop} : ∀ {w : World} {A : Option Addr} {l : List It}, RdL d B w A l → RdL (d + 1) B w A l := by
  induction d with
  | zero => intro w A l h; rw [show l = [] from h]; exact RdL.nil _ _ _ _
  | succ d ih =>
    intro w A l h
    refine ⟨h.1, fun hl => ?_⟩
    obtain ⟨b, off, hA, hB1, hlt, hc⟩ := h.2 hl
    refine ⟨b, off, hA, hB1, hlt, fun i hi => ?_⟩
    obtain ⟨hz, A', c', hc', h0, h1, h2, h3, hr⟩ := hc i hi
    exact ⟨hz, A', c', hc', h0, h1, h2, h3, ih hr⟩
theorem RdL.deep {d d' : Nat} {B : Nat → Prop} (hd : d ≤ d') {w : World} {A : Option Addr} {l : List It} (h : RdL d B w A l) : RdL d' B w A l := by
  induction hd with
  | refl => exact h
  | step _ ih => exact ih.deeper

/-- what two boxes hold behind whatever lays new memory alone -/
theorem box2 {w wr : World} {a0 a1 : Array Value} {T T' : TypeId} (hb : Below (w.heap.size + 2) ((w.alloc (.cells a0 T)).alloc (.cells a1 T')) wr) :
    wr.heap[w.heap.size]? = some (.cells a0 T (0, 0)) ∧ wr.heap[w.heap.size + 1]? = some (.cells a1 T' (0, 0)) ∧ Below w.heap.size w wr ∧ w.heap.size + 2 ≤ wr.heap.size := by
  refine ⟨?_, ?_, (((Below.refl _ _).alloc (Nat.le_refl _) _).alloc (by simp) _).trans (hb.mono (by omega)), by have := hb.size; simpa using this⟩
  · rw [hb.block _ (by omega), Below.heap_alloc _ _ _ (by simp)]
    exact Go.heap_alloc_new w _
  · rw [hb.block _ (by omega)]
    have := Go.heap_alloc_new (w.alloc (.cells a0 T)) (.cells a1 T')
    simpa using this
/-- what one box holds behind whatever lays new memory alone -/
theorem box1 {w wr : World} {a0 : Array Value} {T : TypeId} (hb : Below (w.heap.size + 1) (w.alloc (.cells a0 T)) wr) :
    wr.heap[w.heap.size]? = some (.cells a0 T (0, 0)) ∧ Below w.heap.size w wr ∧ w.heap.size + 1 ≤ wr.heap.size := by
  refine ⟨?_, ((Below.refl _ _).alloc (Nat.le_refl _) _).trans (hb.mono (by omega)), by have := hb.size; simpa using this⟩
  rw [hb.block _ (by omega)]
  exact Go.heap_alloc_new w _
theorem cellOf {w : World} {b : Nat} {cs : Array Value} {T : TypeId} {z : Nat × Nat} (h : w.heap[b]? = some (.cells cs T z)) (o : Nat) : w.cell? ⟨b, o, none⟩ = cs[o]? := by
  rw [Lib.cell_of_heap h]
theorem regrown_len (w : World) (d : Nat) (os : Array Obj) : Below w.heap.size w (grow (redrawn w d) os) := below_regrown w d os

theorem mixed : Tryd.prog.follows .mixedOrders = true := by kernel_rfl
end Go.Proofs.YtghdcgokndmkjaaDoor
