/- An argument that is a slice of lives, each with a slice of calls, read as such within the form's reach. No condition. -/
import Derived.Test.YtmoihgniglomiaaDoorZY
set_option linter.unusedVariables false
set_option linter.unusedSimpArgs false
set_option maxRecDepth 100000
namespace Go.Proofs.YtmoihgniglomiaaDoor
open Go.ChangeShapes Go.WideShapes Go.ChangeAt Go.ChangeMaps Go.RowKit Go.Deep

structure Lif where
  script : List Op
  n : Int
  k : Int
  again : Int
def LifOk (x : Lif) : Prop := (∀ o ∈ x.script, OpOk o) ∧ x.script.length ≤ 2932031007402 ∧ -9223372036854775808 ≤ x.n ∧ x.n ≤ 9223372036854775807 ∧ -9223372036854775808 ≤ x.k ∧ x.k ≤ 9223372036854775807 ∧ -9223372036854775808 ≤ x.again ∧ x.again ≤ 9223372036854775807
def LivesIn (w : World) (v : Value) (l : List Lif) : Prop := ∃ a c, v = .slice a l.length c ∧ (l ≠ [] → ∃ b o, a = some ⟨b, o, none⟩ ∧ b < w.heap.size ∧ ∀ i (hi : i < l.length), ∃ sv, w.cell? ⟨b, o + i * 4, none⟩ = some sv ∧ OpsIn w sv l[i].script ∧ w.cell? ⟨b, o + i * 4 + 1, none⟩ = some (.int .i64 l[i].n) ∧ w.cell? ⟨b, o + i * 4 + 2, none⟩ = some (.int .i64 l[i].k) ∧ w.cell? ⟨b, o + i * 4 + 3, none⟩ = some (.int .i64 l[i].again))
section
variable {H : Type} {enc : TypeId × Value → H}
theorem cells69 : Tryd.prog.cellsOf 69 = 4 := by kernel_rfl
theorem cells26 : Tryd.prog.cellsOf 26 = 1 := by kernel_rfl
theorem bytes69 : Tryd.prog.bytesOf 69 = 48 := by kernel_rfl
theorem read63 : Tryd.prog.readableRec 63 = true := by kernel_rfl
theorem row63 : 63 < Tryd.prog.types.size := of_decide_eq_true (by kernel_rfl)
theorem open_ops_in {W : World} {sp : Nat → Bool} {held : Bool} {fuel : Nat} {v : Value} {x : DataW H × List MemPlace} (hf : DataW.trod enc Tryd.prog W 0 sp held fuel 26 [v] = some x)
    (hw : ∀ n ∈ x.1.weights Tryd.prog 26, n ≤ 140737488351232) : ∃ l : List Op, OpsIn W v l ∧ (∀ x ∈ l, OpOk x) ∧ l.length ≤ 2932031007402 := by
  rcases open_slice Tryd.underlying26 hf with ⟨hc, hx⟩ | ⟨a, len, cap, m, n', D, Pl, hc, _, hl, hm, hmm, hx, hi⟩
  · have e : v = .slice none 0 0 := by simpa using hc
    rw [e]
    exact ⟨[], ⟨none, 0, rfl, fun h => absurd rfl h⟩, by simp, by simp⟩
  · have e : v = .slice (some a) len cap := by simpa using hc
    rw [e]
    obtain ⟨d, ps⟩ := x
    obtain ⟨hd, _⟩ := Prod.mk.inj hx
    subst hd
    have hlm : len ≤ m := by rw [hmm]; split <;> omega
    have hlw : (len + (m - len)) * 48 ≤ 140737488351232 := hw _ (by simp [DataW.weights, Tryd.underlying26, bytes35])
    have each : ∀ i, ∃ o : Op, i < len → OpOk o ∧ W.cell? (a.add (i * 5)) = some (.int .i64 o.on) ∧ W.cell? ((a.add (i * 5)).add 1) = some (.int .i64 o.kind) ∧ W.cell? ((a.add (i * 5)).add 2) = some (.int .i64 o.a) ∧ W.cell? ((a.add (i * 5)).add 3) = some (.int .i64 o.b) ∧ W.cell? ((a.add (i * 5)).add 4) = some (.string o.s) := by
      intro i
      by_cases hil : i < len
      · obtain ⟨cs', h2, h3⟩ := hi i (by omega)
        rw [cells35] at h2
        obtain ⟨o, rfl, hok, _⟩ := open_op h3 (fun n hn => hw n (by
          simp only [DataW.weights, Tryd.underlying26, List.mem_cons, List.mem_append]
          exact .inr (.inl (weights_all (List.mem_map.2 ⟨i, List.mem_range.2 hil, rfl⟩) hn))))
        obtain ⟨_, _, hcell⟩ := World.cells?_some h2
        refine ⟨o, fun _ => ⟨hok, ?_, hcell 1 (by simp [Op.cells]), hcell 2 (by simp [Op.cells]), hcell 3 (by simp [Op.cells]), hcell 4 (by simp [Op.cells])⟩⟩
        have := hcell 0 (by simp [Op.cells])
        have e0 : (a.add (i * 5)).add 0 = a.add (i * 5) := by simp [Addr.add]
        rw [e0] at this
        exact this
      · exact ⟨⟨0, 0, 0, 0, ⟨#[]⟩⟩, fun h => absurd h hil⟩
    obtain ⟨F, hF⟩ := Classical.skolem.1 each
    have hlen : ((List.range len).map F).length = len := by simp
    refine ⟨(List.range len).map F, ⟨some a, cap, by rw [hlen], fun hne => ?_⟩, ?_, by rw [hlen]; omega⟩
    · have h0 : 0 < len := by
        rcases Nat.eq_zero_or_pos len with h | h
        · subst h; exact absurd rfl hne
        · exact h
      have c0 := (hF 0 h0).2.1
      have e0 : a.add (0 * 5) = a := by simp [Addr.add]
      rw [e0] at c0
      have hadd := add_off c0
      refine ⟨a.block, a.off, by have := hadd 0; simpa [Addr.add] using this, World.block_lt_of_cell? W _ c0, fun i hi' => ?_⟩
      have hil : i < len := by rwa [hlen] at hi'
      obtain ⟨f1, f2, f3, f4, f5, f6⟩ := hF i hil
      have hadd2 := add_off f2
      rw [hadd2] at f3 f4 f5 f6
      rw [hadd] at f2 f3 f4 f5 f6
      have hg : ((List.range len).map F)[i] = F i := by simp
      rw [hg]
      exact ⟨f2, f3, f4, f5, f6⟩
    · intro o ho
      obtain ⟨i, hir, rfl⟩ := List.mem_map.1 ho
      exact (hF i (List.mem_range.1 hir)).1
/-- a life, out of its four cells -/
theorem open_life {W : World} {sp : Nat → Bool} {held : Bool} {fuel : Nat} {cs : List Value} {x : DataW H × List MemPlace} (h : DataW.trod enc Tryd.prog W 0 sp held fuel 69 cs = some x) (hw : ∀ n ∈ x.1.weights Tryd.prog 69, n ≤ 140737488351232) :
    ∃ (sv : Value) (l : Lif), cs = [sv, .int .i64 l.n, .int .i64 l.k, .int .i64 l.again] ∧ OpsIn W sv l.script ∧ LifOk l := by
  obtain ⟨xs, n, rfl, rfl, hlen, hxl, hf⟩ := DataW.trod_struct Tryd.underlying69 h
  rw [cells69] at hlen
  match xs, hxl, cs, hlen with
  | [y0, y1, y2, y3], _, [v0, v1, v2, v3], _ =>
    have g0 := hf 0 _ rfl
    have g1 := hf 1 _ rfl
    have g2 := hf 2 _ rfl
    have g3 := hf 3 _ rfl
    simp [cells3, cells26] at g0 g1 g2 g3
    obtain ⟨n1, e1, x1, w1⟩ := DataW.trod_int Tryd.underlying3 g1
    obtain ⟨n2, e2, x2, w2⟩ := DataW.trod_int Tryd.underlying3 g2
    obtain ⟨n3, e3, x3, w3⟩ := DataW.trod_int Tryd.underlying3 g3
    simp only [List.cons.injEq, and_true] at e1 e2 e3
    subst e1 e2 e3 x1 x2 x3
    obtain ⟨l, hl, hok, hln⟩ := open_ops_in g0 (fun n hn => hw n (by
      simp only [DataW.weights, Tryd.underlying69, List.map_cons, DataW.weightsEach, List.mem_append]
      exact .inl hn))
    have b1 := wf_int w1
    have b2 := wf_int w2
    have b3 := wf_int w3
    exact ⟨v0, ⟨l, n1, n2, n3⟩, rfl, hl, hok, hln, b1.1, b1.2, b2.1, b2.2, b3.1, b3.2⟩
theorem open_lives {W : World} {b0 : Nat} {v : Value} {d : DataW H} {ps : List MemPlace} (hv : Value.okWide Tryd.prog W .any b0 63 v) (h : DataW.Trod enc Tryd.prog W 0 (fun _ => true) true 63 v d ps)
    (hw : ∀ n ∈ d.weights Tryd.prog 63, n ≤ 140737488351232) : ∃ l : List Lif, LivesIn W v l ∧ (∀ x ∈ l, LifOk x) ∧ l.length ≤ 2932031007402 := by
  obtain ⟨A, n, c, rfl⟩ := okWide_slice Tryd.underlying63 hv
  obtain ⟨fuel, hf⟩ := h
  rcases open_slice Tryd.underlying63 hf with ⟨hc, hx⟩ | ⟨a, len, cap, m, n', D, Pl, hc, _, hl, hm, hmm, hx, hi⟩
  · have e : Value.slice A n c = .slice none 0 0 := by simpa [Value.cells] using hc
    rw [e]
    exact ⟨[], ⟨none, 0, rfl, fun h => absurd rfl h⟩, by simp, by simp⟩
  · have e : Value.slice A n c = .slice (some a) len cap := by simpa [Value.cells] using hc
    rw [e]
    obtain ⟨hd, _⟩ := Prod.mk.inj hx
    subst hd
    have hlm : len ≤ m := by rw [hmm]; simp; exact hl
    have hlw : (len + (m - len)) * 48 ≤ 140737488351232 := hw _ (by simp [DataW.weights, Tryd.underlying63, bytes69])
    have each : ∀ i, ∃ (sl : Value × Lif), i < len → LifOk sl.2 ∧ OpsIn W sl.1 sl.2.script ∧ W.cell? (a.add (i * 4)) = some sl.1 ∧ W.cell? ((a.add (i * 4)).add 1) = some (.int .i64 sl.2.n) ∧ W.cell? ((a.add (i * 4)).add 2) = some (.int .i64 sl.2.k) ∧ W.cell? ((a.add (i * 4)).add 3) = some (.int .i64 sl.2.again) := by
      intro i
      by_cases hil : i < len
      · obtain ⟨cs', h2, h3⟩ := hi i (by omega)
        rw [cells69] at h2
        obtain ⟨sv, o, rfl, hin, hok⟩ := open_life h3 (fun n hn => hw n (by
          simp only [DataW.weights, Tryd.underlying63, List.mem_cons, List.mem_append]
          exact .inr (.inl (weights_all (List.mem_map.2 ⟨i, List.mem_range.2 hil, rfl⟩) hn))))
        obtain ⟨_, _, hcell⟩ := World.cells?_some h2
        refine ⟨(sv, o), fun _ => ⟨hok, hin, ?_, hcell 1 (by simp), hcell 2 (by simp), hcell 3 (by simp)⟩⟩
        have := hcell 0 (by simp)
        have e0 : (a.add (i * 4)).add 0 = a.add (i * 4) := by simp [Addr.add]
        rw [e0] at this
        exact this
      · exact ⟨(.slice none 0 0, ⟨[], 0, 0, 0⟩), fun h => absurd h hil⟩
    obtain ⟨F, hF⟩ := Classical.skolem.1 each
    have hlen : ((List.range len).map fun i => (F i).2).length = len := by simp
    refine ⟨(List.range len).map fun i => (F i).2, ⟨some a, cap, by rw [hlen], fun hne => ?_⟩, ?_, by rw [hlen]; omega⟩
    · have h0 : 0 < len := by
        rcases Nat.eq_zero_or_pos len with h | h
        · subst h; exact absurd rfl hne
        · exact h
      have c0 := (hF 0 h0).2.2.1
      have e0 : a.add (0 * 4) = a := by simp [Addr.add]
      rw [e0] at c0
      have hadd := add_off c0
      refine ⟨a.block, a.off, by have := hadd 0; simpa [Addr.add] using this, World.block_lt_of_cell? W _ c0, fun i hi' => ?_⟩
      have hil : i < len := by rwa [hlen] at hi'
      obtain ⟨f1, f0, f2, f3, f4, f5⟩ := hF i hil
      have hadd2 := add_off f2
      rw [hadd2] at f3 f4 f5
      rw [hadd] at f2 f3 f4 f5
      have hg : ((List.range len).map fun i => (F i).2)[i] = (F i).2 := by simp
      rw [hg]
      exact ⟨_, f2, f0, f3, f4, f5⟩
    · intro o ho
      obtain ⟨i, hir, rfl⟩ := List.mem_map.1 ho
      exact (hF i (List.mem_range.1 hir)).1
end
end Go.Proofs.YtmoihgniglomiaaDoor
