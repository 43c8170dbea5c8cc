/- An argument that is an item, within the form's reach, reads as an item; and each argument reads behind a call that lays new memory alone as it read before. -/
import Derived.Test.YtghdcgokndmkjaaDoorZ
import Derived.SizedLaws
import Derived.ChangeMaps5
import Derived.ShutString
import Derived.Deep.SlicePairs
import Derived.Carry
import Derived.ProofKit
import Derived.OpenShut
set_option linter.unusedVariables false
set_option linter.unusedSimpArgs false
namespace Go.Proofs.YtghdcgokndmkjaaDoor
open Go.ChangeShapes Go.WideShapes Go.ChangeAt Go.ChangeMaps Go.RowKit Go.Deep

section
variable {H : Type} {enc : TypeId × Value → H}
theorem kind_lo : IntKind.min .i64 = -9223372036854775808 := by decide
theorem kind_hi : IntKind.max .i64 = 9223372036854775807 := by decide
theorem wf_int {n : Int} (h : (Lit.int .i64 n).wf = true) : -9223372036854775808 ≤ n ∧ n ≤ 9223372036854775807 := by
  simp only [Lit.wf, Bool.and_eq_true, decide_eq_true_eq, kind_lo, kind_hi] at h
  exact h
theorem reach_le : reachBytes ≤ 140737488355328 := by decide
theorem cells24 : Tryd.prog.cellsOf 24 = 4 := by kernel_rfl
theorem bytes24 : Tryd.prog.bytesOf 24 = 56 := by kernel_rfl
theorem cells3 : Tryd.prog.cellsOf 3 = 1 := by kernel_rfl
theorem cells9 : Tryd.prog.cellsOf 9 = 1 := by kernel_rfl
theorem cells22 : Tryd.prog.cellsOf 22 = 1 := by kernel_rfl
theorem add_off {a : Addr} {W : World} {v : Value} (h : W.cell? a = some v) (j : Nat) : a.add j = ⟨a.block, a.off + j, none⟩ := by
  have hspot : a = ⟨a.block, a.off, none⟩ := by
    obtain ⟨ab, ao, asp⟩ := a
    cases asp with
    | none => rfl
    | some x =>
      exfalso
      unfold World.cell? at h
      split at h <;> simp at h
  rw [hspot]
  unfold Addr.add
  split
  · rename_i h; subst h; rfl
  · rfl
theorem weights_all {t : TypeId} {n : Nat} {d : DataW H} : ∀ {l : List (DataW H)}, d ∈ l → n ∈ d.weights Tryd.prog t → n ∈ DataW.weightsAll Tryd.prog t l
  | x :: r, hd, hn => by
    simp only [DataW.weightsAll, List.mem_append]
    cases List.mem_cons.1 hd with
    | inl e => subst e; exact .inl hn
    | inr e => exact .inr (weights_all e hn)

theorem open_item {W : World} {sp : Nat → Bool} {held : Bool} : ∀ (fuel : Nat) (cs : List Value) (x : DataW H × List MemPlace), DataW.trod enc Tryd.prog W 0 sp held fuel 24 cs = some x → (∀ n ∈ x.1.weights Tryd.prog 24, n ≤ 140737488355328) →
    ∃ t A c, cs = [.int .i64 t.kind, .int .i64 t.num, .string ⟨t.text.toArray⟩, .slice A t.list.length c] ∧ c ≤ 9223372036854775807 ∧ Sz t ∧ RdL fuel (fun _ => True) W A t.list := by
  intro fuel
  induction fuel using Nat.strongRecOn with
  | _ fuel ih =>
  intro cs x h hw
  obtain ⟨xs, n, rfl, rfl, hlen, hxl, hf⟩ := DataW.trod_struct Tryd.underlying24 h
  rw [cells24] at hlen
  match xs, hxl, cs, hlen with
  | [y0, y1, y2, y3], _, [v0, v1, v2, v3], _ =>
    have g0 := hf 0 _ rfl
    have g1 := hf 1 _ rfl
    have g2 := hf 2 _ rfl
    have g3 := hf 3 _ rfl
    simp [cells3, cells9, cells22] at g0 g1 g2 g3
    obtain ⟨k, e0, x0, w0⟩ := DataW.trod_int Tryd.underlying3 g0
    obtain ⟨num, e1, x1, w1⟩ := DataW.trod_int Tryd.underlying3 g1
    obtain ⟨str, e2, x2, w2⟩ := DataW.trod_string Tryd.underlying9 g2
    simp only [List.cons.injEq, and_true] at e0 e1 e2
    subst e0 e1 e2 x0 x1 x2
    have hwt : str.data.toList.length ≤ 140737488355328 := hw _ (by simp [DataW.weights, Tryd.underlying24, DataW.weightsEach])
    have hw3 : ∀ n ∈ y3.1.weights Tryd.prog 22, n ≤ 140737488355328 := fun m hm => hw m (by simp [DataW.weights, Tryd.underlying24, DataW.weightsEach, hm])
    have hb := wf_int w1
    rcases DataW.trod_slice Tryd.underlying22 g3 with ⟨e3, rfl⟩ | ⟨a, len, cap, elems, rest, m, rfl, e3, rfl, _, hl, hm, hel, hx, _⟩
    · simp only [List.cons.injEq, and_true] at e3
      subst e3
      exact ⟨.mk k num str.data.toList [], none, 0, rfl, by omega, ⟨hb.1, hb.2, hwt⟩, RdL.nil _ _ _ _⟩
    · simp only [List.cons.injEq, and_true] at e3
      subst e3
      have hlw : (elems.length + rest.length) * 56 ≤ 140737488355328 := hw3 _ (by simp [DataW.weights, Tryd.underlying22, bytes24])
      have each : ∀ i, ∃ r : It × Option Addr × Nat, i < len → r.2.2 ≤ 9223372036854775807 ∧ Sz r.1 ∧ W.cell? (a.add (i * 4)) = some (.int .i64 r.1.kind) ∧ W.cell? ((a.add (i * 4)).add 1) = some (.int .i64 r.1.num) ∧
          W.cell? ((a.add (i * 4)).add 2) = some (.string ⟨r.1.text.toArray⟩) ∧ W.cell? ((a.add (i * 4)).add 3) = some (.slice r.2.1 r.1.list.length r.2.2) ∧ RdL m (fun _ => True) W r.2.1 r.1.list := by
        intro i
        by_cases hi : i < len
        · have h1 := hx i hi
          rw [cells24] at h1
          have hie : elems[i]? = some elems[i] := List.getElem?_eq_getElem (by omega)
          rw [hie] at h1
          obtain ⟨cs', h2, h3⟩ := Option.bind_eq_some_iff.1 h1
          obtain ⟨t, A, c, rfl, hc, hz, hr⟩ := ih m (by omega) cs' _ h3 (fun n' hn' => hw3 n' (by
            simp only [DataW.weights, Tryd.underlying22, List.mem_cons, List.mem_append]
            exact .inr (.inl (weights_all (List.mem_map.2 ⟨_, List.getElem_mem _, rfl⟩) hn'))))
          obtain ⟨_, _, hcell⟩ := World.cells?_some h2
          refine ⟨(t, A, c), fun _ => ⟨hc, hz, ?_, hcell 1 (by omega), hcell 2 (by omega), hcell 3 (by omega), hr⟩⟩
          have := hcell 0 (by omega)
          have e0 : (a.add (i * 4)).add 0 = a.add (i * 4) := by simp [Addr.add]
          rw [e0] at this
          exact this
        · exact ⟨(It.none, none, 0), fun h => absurd h hi⟩
      obtain ⟨F, hF⟩ := Classical.skolem.1 each
      have hlist : ((List.range len).map fun i => (F i).1).length = len := by simp
      refine ⟨.mk k num str.data.toList ((List.range len).map fun i => (F i).1), some a, cap, by simp [It.kind, It.num, It.text, It.list], hm, ⟨hb.1, hb.2, hwt⟩, ?_⟩
      refine RdL.deep (d := m + 1) (by omega) ⟨?_, fun hne => ?_⟩
      · show ((List.range len).map fun i => (F i).1).length ≤ _
        rw [hlist]; omega
      · have h0 : 0 < len := by
          rcases Nat.eq_zero_or_pos len with h | h
          · subst h; exact absurd rfl hne
          · exact h
        have c0 := (hF 0 h0).2.2.1
        have e0 : a.add (0 * 4) = a := by simp [Addr.add]
        rw [e0] at c0
        have hadd := add_off c0
        refine ⟨a.block, a.off, by have := hadd 0; simpa [Addr.add] using this, trivial, World.block_lt_of_cell? W _ c0, fun i hi' => ?_⟩
        have hil : i < len := by
          have h : i < ((List.range len).map fun i => (F i).1).length := hi'
          rwa [hlist] at h
        obtain ⟨f1, f2, f3, f4, f5, f6, f7⟩ := hF i hil
        have hadd2 := add_off f3
        rw [hadd2] at f4 f5 f6
        rw [hadd] at f3 f4 f5 f6
        have hg : (It.mk k num str.data.toList ((List.range len).map fun i => (F i).1)).list[i] = (F i).1 := by simp [It.list]
        rw [hg]
        exact ⟨f2, (F i).2.1, (F i).2.2, f1, f3, f4, f5, f6, f7⟩

/-- an argument reads, behind a call that leaves all that was there as it was, as it read ahead of it -/
theorem laidOut : laidOutB Tryd.prog = true := by kernel_rfl
theorem read24 : Tryd.prog.readableRec 24 = true := by kernel_rfl
theorem row24 : 24 < Tryd.prog.types.size := of_decide_eq_true (by kernel_rfl)
theorem trod_keep {t : TypeId} (hr : Tryd.prog.readableRec t = true) (hrow : t < Tryd.prog.types.size) {W W' : World} {v : Value} {d : DataW H} {ps : List MemPlace}
    (h : DataW.Trod enc Tryd.prog W 0 (fun _ => true) true t v d ps) (hb : Below W.heap.size W W') (hlt : ∀ x ∈ ps, x.block < W.heap.size) (sp : Nat → Bool) (hsp : ∀ x ∈ ps, sp x.block = true) :
    DataW.Trod enc Tryd.prog W' 0 sp true t v d ps :=
  WideElems.Trod_stays laidOut hr hrow h (fun x hx => hb.same (hlt x hx)) hsp
theorem open_arg {W : World} {b0 : Nat} {v : Value} {d : DataW H} {ps : List MemPlace} (hv : Value.okWide Tryd.prog W .any b0 24 v) (h : DataW.Trod enc Tryd.prog W 0 (fun _ => true) true 24 v d ps)
    (hw : ∀ n ∈ d.weights Tryd.prog 24, n ≤ 140737488355328) : ∃ t A c D, v = itV t A c ∧ c ≤ 9223372036854775807 ∧ Sz t ∧ RdL (D + 1) (fun _ => True) W A t.list := by
  obtain ⟨fuel, hf⟩ := h
  obtain ⟨t, A, c, hcs, hc, hz, hr⟩ := open_item fuel _ _ hf hw
  unfold Value.okWide at hv
  rw [Tryd.underlying24] at hv
  obtain ⟨cs, rfl, _, _⟩ := hv
  refine ⟨t, A, c, fuel, ?_, hc, hz, hr.deeper⟩
  have : cs.toList = _ := hcs
  unfold itV
  rw [← this]
end
end Go.Proofs.YtghdcgokndmkjaaDoor
