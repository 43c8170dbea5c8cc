/- A list that is being read: a row of items of the call's own; what 'append' makes of it. Conditions: at most 2^30 items. -/
import Derived.Test.YtghdcgokndmkjaaDoorR
import Derived.Deep.RegionLaw
import Derived.Deep.AppendLies
set_option linter.unusedVariables false
set_option linter.unusedSimpArgs false
namespace Go.Proofs.YtghdcgokndmkjaaDoor
open Go.RowKit Go.Sort

theorem infoCbor : (Tryd.prog.info? 24).map (fun i => (i.zero, i.size, i.bytes)) = some (some (.agg #[.int .i64 0, .int .i64 0, .string ⟨#[]⟩, .slice none 0 0]), 4, 56) := by kernel_rfl
/-- an item's four cells -/
def itC (p : It × Option Addr × Nat) : List Value := [.int .i64 p.1.kind, .int .i64 p.1.num, .string ⟨p.1.text.toArray⟩, .slice p.2.1 p.1.list.length p.2.2]
theorem itC_length (ps : List (It × Option Addr × Nat)) : (ps.flatMap itC).length = ps.length * 4 := by
  induction ps with
  | nil => rfl
  | cons p ps ih => rw [List.flatMap_cons, List.length_append, ih, List.length_cons]; simp [itC]; omega
/-- vv is a row of the call's own, from block W on, and holds the items acc; vb: the block that vv lies in -/
def Row (d W vb : Nat) (w : World) (vv : Value) (acc : List It) : Prop :=
  ∃ ps : List (It × Option Addr × Nat), ps.map (·.1) = acc ∧ w.ownsRow W 24 4 vv acc.length (ps.flatMap itC) ∧ vv.ownBlock ≠ some vb ∧
    ∀ p, p ∈ ps → Sz p.1 ∧ p.2.2 ≤ 9223372036854775807 ∧ RdL d (fun b => W ≤ b ∧ b ≠ vb ∧ some b ≠ vv.ownBlock) w p.2.1 p.1.list
theorem Row.nil (d W vb : Nat) (w : World) : Row d W vb w (.slice none 0 0) [] :=
  ⟨[], rfl, World.ownsRow_nil w W 24 4, by simp [Value.ownBlock], by intro p hp; cases hp⟩
theorem Row.keeps {d W vb br : Nat} {w w' : World} {vv : Value} {acc : List It} (h : Row d W vb w vv acc) (hb : br < W) (k : Keeps br w w') : Row d W vb w' vv acc := by
  obtain ⟨ps, h1, h2, h3, h4⟩ := h
  refine ⟨ps, h1, h2.kept k ?_, h3, fun p hp => ?_⟩
  · cases ho : vv.ownBlock with
    | none => exact .inl rfl
    | some g => exact .inr (by have := (h2.lt g ho).1; simp; omega)
  · obtain ⟨a, b, c⟩ := h4 p hp
    exact ⟨a, b, c.keep k.size (fun j hj hl => k.block j hl (by simp; omega))⟩
theorem Row.below {d W vb : Nat} {w w' : World} {vv : Value} {acc : List It} (h : Row d W vb w vv acc) (k : Below w.heap.size w w') : Row d W vb w' vv acc := by
  obtain ⟨ps, h1, h2, h3, h4⟩ := h
  refine ⟨ps, h1, h2.kept (row := Option.none) ⟨k.os, k.tape, k.output, k.size, fun j hj _ => k.block j hj⟩ ?_, h3, fun p hp => ?_⟩
  · cases ho : vv.ownBlock <;> simp
  · obtain ⟨a, b, c⟩ := h4 p hp
    exact ⟨a, b, c.below k⟩
theorem Row.setv {d W vb : Nat} {w : World} {vv : Value} {acc : List It} (h : Row d W vb w vv acc) (o : Nat) (u : Value) : Row d W vb (w.setCell ⟨vb, o, none⟩ u) vv acc := by
  obtain ⟨ps, h1, h2, h3, h4⟩ := h
  have hbl : ∀ j, j ≠ vb → (w.setCell ⟨vb, o, none⟩ u).heap[j]? = w.heap[j]? := fun j hj => Below.heap_setCell _ _ _ _ hj
  refine ⟨ps, h1, h2.kept (row := some vb) ⟨rfl, rfl, rfl, by simp [World.setCell], fun j _ hj => hbl j (by simpa using hj)⟩ (.inr h3), h3, fun p hp => ?_⟩
  obtain ⟨a, b, c⟩ := h4 p hp
  exact ⟨a, b, c.keep (by simp [World.setCell]) (fun j hj _ => hbl j hj.2.1)⟩
theorem vset {w : World} {vb : Nat} {p q r v u : Value} {T : TypeId} (h : w.heap[vb]? = some (.cells #[p, q, r, v] T (0, 0))) : (w.setCell ⟨vb, 3, none⟩ u).heap[vb]? = some (.cells #[p, q, r, u] T (0, 0)) := by
  simp [World.setCell, Array.getElem?_modify, h]

/-- 'v.List = append(v.List, x)', as a step of a region that draws -/
theorem stepRow {ops : Array Oper} {o : Oper} {a : Act} {K : Act → World → Prop} {Q : Exit → Act → World → Prop} {E : Prop} {d W vb : Nat} {w : World} {vv : Value} {acc : List It} (x : It) (A : Option Addr) (c : Nat)
    (hgd : o.guard = Option.none) (s y : Operand) (ho : o.op = .call { callee := .builtin .append, args := #[s, y], argTypes := #[22, 22] }) (hs : a.eval s = vv) (hx : a.eval y = .slice (some ⟨w.heap.size, 0, none⟩) 1 1)
    (hr : Row d W vb w vv acc) (hW : W ≤ w.heap.size) (hvb : vb < w.heap.size) (hlen : acc.length ≤ 1073741824) (hz : Sz x) (hc : c ≤ 9223372036854775807) (hx2 : RdL d (fun b => W ≤ b ∧ b ≠ vb ∧ some b ≠ vv.ownBlock) w A x.list)
    (h : ∀ g cap w', Row d W vb w' (.slice (some ⟨g, 0, none⟩) (acc.length + 1) cap) (acc ++ [x]) → (∀ j, j < w.heap.size → some j ≠ vv.ownBlock → w'.heap[j]? = w.heap[j]?) → w.heap.size ≤ w'.heap.size → w'.os = w.os → w'.tape = w.tape → w'.output = w.output → w'.cell? ⟨vb, 3, none⟩ = w.cell? ⟨vb, 3, none⟩ → w'.frozen? ⟨vb, 3, none⟩ = w.frozen? ⟨vb, 3, none⟩ →
      K (a.put o.dst (.slice (some ⟨g, 0, none⟩) (acc.length + 1) cap)) w') :
    if Region.wanted o (yielded ops a.tmps) = true then Oper.wp Tryd.prog o a (w.alloc (.cells #[.int .i64 x.kind, .int .i64 x.num, .string ⟨x.text.toArray⟩, .slice A x.list.length c] 24)) K Q else E := by
  obtain ⟨i0, hi, hz0, hz1, hz2⟩ := info_parts infoCbor
  obtain ⟨ps, h1, h2, h3, h4⟩ := hr
  have hlt0 : ∀ g, vv.ownBlock = some g → g < w.heap.size := fun g hg => (h2.lt g hg).2
  refine step_append_lies _ hgd s y 22 ho W 24 i0 _ 4 56 Tryd.underlying22 hi hz0 hz1 hz2 rfl (by decide) vv acc.length _ hs (h2.alloc _) ⟨w.heap.size, 0, none⟩ 1 1 (itC (x, A, c)) hx rfl (World.news_of_block (heap_alloc_new w _)) (by simp [itC, Value.oneCell']) (by decide) (by unfold maxLen; omega) (by omega) (by simp; omega) (w.heap.size + 1) (by simp) ?_
  intro g cap w' hown hgrow hat hlt
  have hblk : ∀ j, j < w.heap.size → some j ≠ vv.ownBlock → w'.heap[j]? = w.heap[j]? := fun j hj hn => by
    rw [hgrow.block j (by simp; omega) hn]; exact Below.heap_alloc _ _ _ hj
  have hg : some vb ≠ (Value.slice (some ⟨g, 0, none⟩) (acc.length + 1) cap).ownBlock := by
    intro e
    have e : vb = g := by simpa [Value.ownBlock] using e
    rcases hat with h | h
    · rw [e] at h3; exact h3 h
    · omega
  refine h g cap w' ⟨ps ++ [(x, A, c)], by simp [h1], by simpa using hown, fun e => hg e.symm, fun p hp => ?_⟩ hblk (by have := hgrow.size; simp at this; omega) hgrow.os hgrow.tape hgrow.output (World.cell?_of_block (w := w) (hblk vb hvb (fun e => h3 e.symm))) (World.frozen?_of_block (w := w) (hblk vb hvb (fun e => h3 e.symm)))
  have key : ∀ {A' : Option Addr} {l : List It}, RdL d (fun b => W ≤ b ∧ b ≠ vb ∧ some b ≠ vv.ownBlock) w A' l → RdL d (fun b => W ≤ b ∧ b ≠ vb ∧ some b ≠ (Value.slice (some ⟨g, 0, none⟩) (acc.length + 1) cap).ownBlock) w' A' l := fun hh =>
    ((hh.lt.keep (by have := hgrow.size; simp at this; omega) (fun j hj _ => hblk j hj.2 hj.1.2.2)).mono fun j hj => ⟨hj.1.1, hj.1.2.1, fun e => by
      have e : j = g := by simpa [Value.ownBlock] using e
      rcases hat with h | h
      · exact hj.1.2.2 (by rw [e, h])
      · have := hj.2; omega⟩)
  rcases List.mem_append.1 hp with hp | hp
  · obtain ⟨p1, p2, p3⟩ := h4 p hp
    exact ⟨p1, p2, key p3⟩
  · have e : p = (x, A, c) := by simpa using hp
    subst e
    exact ⟨hz, hc, key hx2⟩

/-- a row reads as its items -/
theorem Row.reads {d W vb : Nat} {w : World} {vv : Value} {acc : List It} (h : Row d W vb w vv acc) (hlen : acc.length ≤ 1073741824) :
    ∃ A cap, vv = .slice A acc.length cap ∧ cap ≤ 9223372036854775807 ∧ RdL (d + 1) (fun b => W ≤ b) w A acc ∧ Top W w A acc.length := by
  obtain ⟨ps, h1, h2, h3, h4⟩ := h
  have hl : ps.length = acc.length := by rw [← h1]; simp
  rcases h2.2 with ⟨rfl, h0⟩ | ⟨g, cap, cur, rfl, hg, hh, hn, hm, hcs, htake⟩
  · have e : acc = [] := List.eq_nil_of_length_eq_zero h0
    subst e
    exact ⟨none, 0, rfl, by omega, RdL.nil _ _ _ _, .inl rfl⟩
  · refine ⟨some ⟨g, 0, none⟩, cap, rfl, by unfold maxLen at hm; omega, ⟨by omega, fun hne => ⟨g, 0, rfl, hg, (Array.getElem?_eq_some_iff.1 hh).1, fun i hi => ?_⟩⟩, .inr ⟨g, cur, rfl, hg, hh, by rw [hcs]; omega⟩⟩
    have key : ∀ (ps : List (It × Option Addr × Nat)) i, (hi : i < ps.length) → ∀ j, j < 4 → (ps.flatMap itC)[i * 4 + j]? = (itC ps[i])[j]? := by
      intro ps
      induction ps with
      | nil => intro i hi; simp at hi
      | cons p ps ih =>
        intro i hi j hj
        rw [List.flatMap_cons]
        cases i with
        | zero => rw [List.getElem?_append_left (by simp [itC]; omega)]; simp
        | succ i =>
          rw [List.getElem?_append_right (by simp [itC]; omega)]
          have e : (i + 1) * 4 + j - (itC p).length = i * 4 + j := by simp [itC]; omega
          rw [e]
          exact ih i (by simpa using hi) j hj
    have hip : i < ps.length := by omega
    have c := fun j u hj => World.ownsRow.cells h2 (g := g) rfl j u hj
    have ea : ∀ j, (⟨g, 0, none⟩ : Addr).add j = ⟨g, 0 + j, none⟩ := by intro j; unfold Addr.add; split <;> simp_all
    have k0 := c _ _ (key ps i hip 0 (by decide))
    have k1 := c _ _ (key ps i hip 1 (by decide))
    have k2 := c _ _ (key ps i hip 2 (by decide))
    have k3 := c _ _ (key ps i hip 3 (by decide))
    rw [ea] at k0 k1 k2 k3
    obtain ⟨p1, p2, p3⟩ := h4 ps[i] (List.getElem_mem hip)
    have hx : ps[i].1 = acc[i] := by subst h1; simp
    rw [hx] at p1 p3
    have e0 : ∀ o, (0 : Nat) + (i * 4 + o) = 0 + i * 4 + o := fun o => by omega
    rw [e0] at k0 k1 k2 k3
    refine ⟨p1, ps[i].2.1, ps[i].2.2, p2, ?_, ?_, ?_, ?_, p3.mono fun b hb => hb.1⟩
    · rw [show 0 + i * 4 = 0 + i * 4 + 0 from rfl, k0, ← hx]
    · rw [k1, ← hx]
    · rw [k2, ← hx]
    · rw [k3, ← hx]
end Go.Proofs.YtghdcgokndmkjaaDoor
