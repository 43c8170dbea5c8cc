/- An argument that is a slice of pairs, of bulk at most 1048576, reads as a list of pairs of texts; and each argument reads behind a call that lays new memory alone as it read before. The condition is that bulk. -/
import Derived.Test.YtlifnfchemiipaaDoorU
import Derived.ChangeMaps5
import Derived.ShutString
import Derived.Deep.SlicePairs
import Derived.Carry
set_option linter.unusedVariables false
set_option linter.unusedSimpArgs false
namespace Go.Proofs.YtlifnfchemiipaaDoor
open Go.ChangeShapes Go.WideShapes Go.ChangeAt Go.ChangeMaps Go.RowKit Go.Deep

theorem read28 : Tryd.prog.readableRec 28 = true := by kernel_rfl
theorem row28 : 28 < Tryd.prog.types.size := of_decide_eq_true (by kernel_rfl)
theorem laidOut : laidOutB Tryd.prog = true := by kernel_rfl
section
variable {H : Type} {enc : TypeId × Value → H}
theorem bulk_one (d : DataW H) : 1 ≤ Rows.uptoBulk d := by
  cases d with
  | lit l => cases l <;> simp [Rows.uptoBulk]
  | nil => simp [Rows.uptoBulk]
  | ptr d => simp [Rows.uptoBulk]
  | slice elems spare => simp [Rows.uptoBulk]
  | agg parts => simp [Rows.uptoBulk]
  | iface t d => simp [Rows.uptoBulk]
  | map entries => simp [Rows.uptoBulk]
  | held h => simp [Rows.uptoBulk]
theorem bulk_part {d : DataW H} {l : List (DataW H)} (h : d ∈ l) : Rows.uptoBulk d ≤ Rows.uptoBulkAll l := by
  induction l with
  | nil => cases h
  | cons x r ih =>
    simp only [Rows.uptoBulkAll]
    cases List.mem_cons.1 h with
    | inl e => subst e; omega
    | inr e => have := ih e; omega
theorem bulk_len (l : List (DataW H)) : l.length ≤ Rows.uptoBulkAll l := by
  induction l with
  | nil => simp [Rows.uptoBulkAll]
  | cons x r ih => have := bulk_one x; simp only [Rows.uptoBulkAll, List.length_cons]; omega
theorem bulk_string (l : List UInt8) : Rows.uptoBulk (DataW.lit (H := H) (.string l)) = l.length + 1 := by simp [Rows.uptoBulk]

/-- an argument reads, behind a call that leaves all that was there as it was, as it read ahead of it -/
theorem trod_keep {t : TypeId} (hr : Tryd.prog.readableRec t = true) (hrow : t < Tryd.prog.types.size) {W W' : World} {v : Value} {d : DataW H} {ps : List MemPlace}
    (h : DataW.Trod enc Tryd.prog W 0 (fun _ => true) true t v d ps) (hb : Below W.heap.size W W') (hlt : ∀ x ∈ ps, x.block < W.heap.size) (sp : Nat → Bool) (hsp : ∀ x ∈ ps, sp x.block = true) :
    DataW.Trod enc Tryd.prog W' 0 sp true t v d ps :=
  WideElems.Trod_stays laidOut hr hrow h (fun x hx => hb.same (hlt x hx)) hsp

def bytesOf : Value → List UInt8
  | .string s => s.data.toList
  | _ => []
theorem string_of (s : ByteArray) : strV s.data.toList = .string s := rfl
theorem open_parts {W : World} {b0 : Nat} {v : Value} {d : DataW H} {ps : List MemPlace} (hv : Value.okWide Tryd.prog W .any b0 28 v) (h : DataW.Trod enc Tryd.prog W 0 (fun _ => true) true 28 v d ps)
    (hbulk : Rows.uptoBulk d ≤ 1048576) : ∃ l : Parts, PartsIn W v l ∧ l.length ≤ 1048576 ∧ ∀ p, p ∈ l → p.1.length ≤ 1048576 ∧ p.2.length ≤ 1048576 := by
  obtain ⟨A, n, c, rfl⟩ := okWide_slice Tryd.underlying28 hv
  obtain ⟨fuel, hf⟩ := h
  rcases open_slice_pairs Tryd.underlying28 Tryd.underlying34 (by kernel_rfl) rfl rfl (by kernel_rfl) (by kernel_rfl) hf with ⟨hc, hx⟩ | ⟨a, len, cap, m, n', V0, V1, D0, D1, P0, P1, hc, _, hl, hm, hmm, hx, hi⟩
  · have e : Value.slice A n c = .slice none 0 0 := by simpa [Value.cells] using hc
    rw [e]
    exact ⟨[], ⟨none, 0, rfl, fun h => absurd rfl h⟩, by simp, by intro p hp; cases hp⟩
  · have e : Value.slice A n c = .slice (some a) len cap := by simpa [Value.cells] using hc
    rw [e]
    obtain ⟨hd, _⟩ := Prod.mk.inj hx
    have hlm : len ≤ m := by rw [hmm]; simp; exact hl
    have each : ∀ i, i < m → ∃ s0 s1 : ByteArray, V0 i = .string s0 ∧ V1 i = .string s1 ∧ D0 i = .lit (.string s0.data.toList) ∧ D1 i = .lit (.string s1.data.toList) := by
      intro i him
      obtain ⟨_, _, h0, h1⟩ := hi i him
      obtain ⟨s0, e0, x0, _⟩ := DataW.trod_string Tryd.underlying9 h0
      obtain ⟨s1, e1, x1, _⟩ := DataW.trod_string Tryd.underlying9 h1
      simp only [List.cons.injEq, and_true] at e0 e1
      simp only [Prod.mk.injEq] at x0 x1
      exact ⟨s0, s1, e0, e1, x0.1, x1.1⟩
    have hlen : ((List.range len).map fun i => (bytesOf (V0 i), bytesOf (V1 i))).length = len := by simp
    subst hd
    have hb : Rows.uptoBulkAll ((List.range len).map fun i => DataW.agg [D0 i, D1 i]) + 1 ≤ 1048576 := by
      simp only [Rows.uptoBulk] at hbulk; omega
    have hb1 := bulk_len ((List.range len).map fun i => DataW.agg [D0 i, D1 i])
    simp only [List.length_map, List.length_range] at hb1
    refine ⟨(List.range len).map fun i => (bytesOf (V0 i), bytesOf (V1 i)), ⟨some a, cap, by rw [hlen], fun hne => ?_⟩, by omega, fun p hp => ?_⟩
    · have h0 : 0 < len := by
        rcases Nat.eq_zero_or_pos len with h | h
        · subst h; exact absurd rfl hne
        · exact h
      obtain ⟨c0, _⟩ := hi 0 (by omega)
      have hspot : a = ⟨a.block, a.off, none⟩ := by
        have e0 : a.add (0 * 2) = a := by simp [Addr.add]
        rw [e0] at c0
        obtain ⟨ab, ao, asp⟩ := a
        cases asp with
        | none => rfl
        | some x =>
          exfalso
          unfold World.cell? at c0
          split at c0 <;> simp at c0
      have hadd : ∀ j, a.add j = ⟨a.block, a.off + j, none⟩ := by
        intro j
        rw [hspot]
        unfold Addr.add
        split
        · rename_i h; subst h; rfl
        · rfl
      refine ⟨a.block, a.off, hspot ▸ rfl, World.block_lt_of_cell? W _ c0, fun i hi' => ?_⟩
      have hil : i < len := by simpa using hi'
      obtain ⟨d0, d1, _, _⟩ := hi i (by omega)
      obtain ⟨s0, s1, e0, e1, _, _⟩ := each i (by omega)
      rw [hadd, e0] at d0
      rw [hadd, e1] at d1
      simp only [List.getElem_map, List.getElem_range, e0, e1, bytesOf, string_of]
      exact ⟨d0, d1⟩
    · obtain ⟨i, hir, rfl⟩ := List.mem_map.1 hp
      have hil : i < len := by simpa using hir
      obtain ⟨s0, s1, e0, e1, x0, x1⟩ := each i (by omega)
      have hmem : DataW.agg [D0 i, D1 i] ∈ (List.range len).map fun i => DataW.agg [D0 i, D1 i] := List.mem_map.2 ⟨i, hir, rfl⟩
      have hp := bulk_part hmem
      simp only [Rows.uptoBulk, Rows.uptoBulkAll, x0, x1] at hp
      simp only [e0, e1, bytesOf]
      omega
end
end Go.Proofs.YtlifnfchemiipaaDoor
