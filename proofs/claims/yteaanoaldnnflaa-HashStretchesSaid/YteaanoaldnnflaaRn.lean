/- A row of bytes of the call's own, out of a text's conversion or not: its frozen mark, if any, lies behind its last place. Condition: at most 2^47 bytes. -/
import Derived.Test.YteaanoaldnnflaaRr
import Derived.Test.YteaanoaldnnflaaRw
import Derived.Laws.IdiomStrings
import Derived.Lib.AppendZeros
set_option linter.unusedVariables false
set_option linter.unusedSimpArgs false
namespace Go.Proofs.Yteaanoaldnnflaa
open Go.RowKit Go.Sort

def bl (l : List UInt8) : List Value := l.map fun x => Value.int .u8 (x.toNat : Int)
theorem bl_bs (l : List UInt8) : (bl l).toArray = bs l := rfl
theorem bl_len (l : List UInt8) : (bl l).length = l.length := by simp [bl]
theorem bl_one (l : List UInt8) : ∀ v ∈ bl l, v.oneCell' = true := by
  intro v hv
  simp [bl] at hv
  obtain ⟨a, _, rfl⟩ := hv
  rfl
theorem bl_app (a b : List UInt8) : bl (a ++ b) = bl a ++ bl b := by simp [bl]
def Off (fz : Nat × Nat) (n : Nat) : Prop := fz.2 = 0 ∨ n ≤ fz.1

theorem run_storeM (P : Program) (g o : Nat) (t : TypeId) (fz : Nat × Nat) : ∀ (vs : List Value) (i : Nat) (cur : Array Value) (w : World), w.heap[g]? = some (.cells cur t fz) → Off fz cur.size → o + i + vs.length ≤ cur.size → (∀ v ∈ vs, v.oneCell' = true) →
    (storeCells ⟨g, o, none⟩ vs i).run P w = .ok () (w.setRow g (cur.toList.take (o + i) ++ vs ++ cur.toList.drop (o + i + vs.length)).toArray)
  | [], i, cur, w, hg, _, _, _ => by
    simp only [storeCells, List.append_nil, List.length_nil, Nat.add_zero, List.take_append_drop, Array.toArray_toList]
    rw [setRow_self w g cur t fz hg]
    rfl
  | v :: rest, i, cur, w, hg, hfz, hl, h1 => by
    have hi : o + i < cur.size := by simp at hl; omega
    have hadd : (⟨g, o, none⟩ : Addr).add i = ⟨g, o + i, none⟩ := by unfold Addr.add; split <;> simp_all
    have hcell : w.cell? ⟨g, o + i, none⟩ = some cur[o + i] := by simp [World.cell?, hg, hi]
    have hfro : w.frozen? ⟨g, o + i, none⟩ = false := by
      obtain ⟨lo, hi'⟩ := fz
      simp only [World.frozen?, hg, Bool.and_eq_false_iff, decide_eq_false_iff_not]
      rcases hfz with h | h
      · right; simp only at h; omega
      · left; simp only at h; omega
    have hst : (store ((⟨g, o, none⟩ : Addr).add i) v).run P w = .ok () (w.setRow g (cur.setIfInBounds (o + i) v)) := by
      rw [hadd, run_store P w _ v _ (h1 v (by simp)), hcell]
      simp [hfro, setCell_eq_setRow w g (o + i) cur t fz v hg]
    have ih := run_storeM P g o t fz rest (i + 1) (cur.setIfInBounds (o + i) v) (w.setRow g (cur.setIfInBounds (o + i) v)) (setRow_heap w g cur _ t _ hg) (by simpa using hfz) (by simp at hl ⊢; omega) (fun x hx => h1 x (by simp [hx]))
    simp only [storeCells, Sem.run_bind, hst, Result.andThen_ok, ih, setRow_setRow]
    congr 3
    have e := list_seg_step cur.toList (o + i) v rest (by simp at hl ⊢; omega)
    simpa [Array.toList_setIfInBounds, Nat.add_assoc] using e

/-- v is a row of bytes in a block from B on -/
def Rm (B : Nat) (v : Value) (l : List UInt8) (w : World) : Prop :=
  ∃ g cap cur fz, v = .slice (some ⟨g, 0, none⟩) l.length cap ∧ B ≤ g ∧ w.heap[g]? = some (.cells cur 5 fz) ∧ Off fz cur.size ∧ l.length ≤ cap ∧ cap ≤ maxLen ∧ cur.size = cap ∧ cur.toList.take l.length = bl l
theorem Rm.below {B : Nat} {v : Value} {l : List UInt8} {w w' : World} (h : Rm B v l w) (hb : Below w.heap.size w w') : Rm B v l w' := by
  obtain ⟨g, cap, cur, fz, hv, hg, hh, rest⟩ := h
  exact ⟨g, cap, cur, fz, hv, hg, (hb.block _ (blk_lt hh)).trans hh, rest⟩
theorem Rm.un {B : Nat} {v : Value} {l : List UInt8} {w : World} (h : Rm B v l w) : ∃ g cap, v = .slice (some ⟨g, 0, none⟩) l.length cap ∧ B ≤ g ∧ g < w.heap.size ∧ (∃ cur fz, w.heap[g]? = some (.cells cur 5 fz)) ∧ ∀ i (hi : i < l.length), w.cell? ⟨g, i, none⟩ = some (.int .u8 (l[i].toNat : Int)) := by
  obtain ⟨g, cap, cur, fz, rfl, hg, hh, _, hlc, _, hcs, htk⟩ := h
  refine ⟨g, cap, rfl, hg, blk_lt hh, ⟨_, _, hh⟩, fun i hi => ?_⟩
  rw [blk_cell hh i]
  have h1 : (bl l)[i]? = some (.int .u8 (l[i].toNat : Int)) := by simp [bl, hi]
  rw [← htk, List.getElem?_take, if_pos hi] at h1
  simpa using h1
theorem Rm.conv {B : Nat} {v : Value} {l : List UInt8} {w : World} (h : Rm B v l w) : (convert 33 9 v).run Try.prog w = .ok (.string ⟨l.toArray⟩) w := by
  obtain ⟨g, cap, rfl, _, _, _, hc⟩ := h.un
  exact run_convert_bytes_back w 33 9 5 _ cap l Try.underlying33 Try.underlying5 Try.underlying9 (fun j hj => by rw [at0]; exact hc j hj)
/-- a text's bytes -/
theorem conv_m (s : List UInt8) (hs : s.length ≤ maxLen) (w : World) : ∃ v w', (convert 9 33 (.string ⟨s.toArray⟩)).run Try.prog w = .ok v w' ∧ Rm w.heap.size v s w' ∧ Below w.heap.size w w' := by
  refine ⟨_, _, run_bytes_of_string w 9 33 5 _ Try.underlying9 Try.underlying33 Try.underlying5, ⟨w.heap.size, _, _, _, by rw [size_ba], Nat.le_refl _, Go.heap_alloc_new w.drew _, .inr (Nat.le_refl _), ?_, ?_, ?_, ?_⟩, (Below.refl _ _).drew.alloc (Nat.le_refl _) _⟩
  · have := grownCap_ge w (⟨s.toArray⟩ : ByteArray).size 0 5; rwa [size_ba] at this
  · exact grownCap_le_maxLen _ _ _ _ hs
  · have := grownCap_ge w (⟨s.toArray⟩ : ByteArray).size 0 5
    rw [size_ba] at this
    simp [bytesRow, size_ba]; omega
  · simp [bytesRow, bl]

/-- 'b = append(b, nl...)' -/
theorem app_m {ops : Array Oper} {rest : List Oper} {o : Oper} {a : Act} {Q : Exit → Act → World → Prop} {w : World} {B : Nat} {v : Value} {l : List UInt8} (nl : List UInt8) (bx c : Nat) (s x : Operand) (hgd : o.guard = none)
    (ho : o.op = .call { callee := .builtin .append, args := #[s, x], argTypes := #[33, 33] }) (hs : a.eval s = v) (hx : a.eval x = .slice (some ⟨bx, 0, none⟩) nl.length c) (hbx : w.heap[bx]? = some (.cells (bs nl) 5 (0, 0)))
    (hI : Rm B v l w) (hB : B ≤ w.heap.size) (hlen : l.length + nl.length ≤ 140737488355328)
    (h : ∀ v' w', Rm B v' (l ++ nl) w' → Below B w w' → (∀ k, k < w.heap.size → v.ownBlock ≠ some k → w'.heap[k]? = w.heap[k]?) → wpList Try.prog ops Q rest (a.put o.dst v') w') : wpList Try.prog ops Q (o :: rest) a w := by
  obtain ⟨i0, hi, hz0, hz1, hz2⟩ := info_parts infoByte
  have HI := hI
  obtain ⟨g, cap, cur, fz, rfl, hbg, hg, hoff, hlc, hcm, hcs, htk⟩ := hI
  have hnews : ∀ j u, (bl nl)[j]? = some u → w.cell? ((⟨bx, 0, none⟩ : Addr).add j) = some u := fun j u hu => by
    rw [at0, blk_cell hbx, ← bl_bs]; simpa using hu
  have hgw := blk_lt hg
  by_cases hroom : l.length + nl.length ≤ cap
  · have hf := run_firstCells_some (P := Try.prog) w 1 nl.length ⟨bx, 0, none⟩ nl.length c (bl nl) (by rw [bl_len, Nat.mul_one]) hnews
    have hst := run_storeM Try.prog g l.length 5 fz (bl nl) 0 cur w hg hoff (by rw [bl_len]; omega) (bl_one nl)
    simp only [Nat.add_zero] at hst
    have hr : (Builtin.append_ #[33, 33] o.type #[.slice (some ⟨g, 0, none⟩) l.length cap, .slice (some ⟨bx, 0, none⟩) nl.length c]).run Try.prog w = .ok (.slice (some ⟨g, 0, none⟩) (l.length + nl.length) cap) (w.setRow g (cur.toList.take l.length ++ bl nl ++ cur.toList.drop (l.length + (bl nl).length)).toArray) := by
      simp [Builtin.append_, run_underlying Try.underlying33, sizeOf, typeInfo, hi, hz1, Builtin.lenOf, hroom, hf, Addr.add_lit, hst]
    refine Lib.wpList_append_run w hgd s x 33 33 ho _ _ hs hx _ _ hr (h _ _ ?_ ?_ ?_)
    · refine ⟨g, cap, _, fz, by rw [List.length_append], hbg, setRow_heap w g cur _ 5 _ hg, ?_, by rw [List.length_append]; exact hroom, hcm, ?_, ?_⟩
      · have e : (cur.toList.take l.length ++ bl nl ++ cur.toList.drop (l.length + (bl nl).length)).toArray.size = cur.size := by simp [bl_len]; omega
        rw [e]; exact hoff
      · simp [bl_len]; omega
      · rw [htk, ← bl_app, ← bl_len (l ++ nl)]; simp only []; exact List.take_left
    · exact ⟨rfl, rfl, rfl, by rw [setRow_size]; exact Nat.le_refl _, fun k hk => setRow_other w g k _ (by omega)⟩
    · exact fun k _ hk => setRow_other w g k _ (fun e => hk (by simp [Value.ownBlock, e]))
  · obtain ⟨_, _, _, _, _, _, hc⟩ := HI.un
    have holds : ∀ j u, (bl l)[j]? = some u → w.cell? ((⟨g, 0, none⟩ : Addr).add j) = some u := fun j u hu => by
      rw [at0, blk_cell hg j]
      rw [← htk, List.getElem?_take] at hu
      split at hu
      · simpa using hu
      · cases hu
    have hr := run_append_grow (P := Try.prog) w 33 o.type 5 i0 (.int .u8 0) Try.underlying33 hi hz0 ⟨g, 0, none⟩ l.length cap (bl l) (by rw [bl_len, hz1, Nat.mul_one]) holds ⟨bx, 0, none⟩ nl.length c (bl nl) (by rw [bl_len, hz1, Nat.mul_one]) hnews (by omega) (by omega) (by rw [hz2]; exact growslice_fits (by omega) (by omega))
    have hge := grownCap_ge w (l.length + nl.length) cap 5
    refine Lib.wpList_append_run w hgd s x 33 33 ho _ _ hs hx _ _ hr (h _ _ ?_ ?_ ?_)
    · refine ⟨w.heap.size, _, _, (0, 0), by rw [List.length_append], hB, Go.heap_alloc_new w.drew _, .inl rfl, by rw [List.length_append]; exact hge, grownCap_le_maxLen w _ cap 5 (by unfold maxLen; omega), ?_, ?_⟩
      · have hz1' : (Value.int IntKind.u8 0).cells.size = 1 := rfl
        simp only [Array.size_append, List.size_toArray, size_zeroCells, hz1', bl_len]
        omega
      · simp only [Array.toList_append, List.append_assoc]
        rw [← List.append_assoc, ← bl_app, ← bl_len (l ++ nl)]
        exact List.take_left
    · exact (Below.refl _ _).drew.alloc hB _
    · exact fun k hk _ => Below.heap_alloc w.drew _ k hk
end Go.Proofs.Yteaanoaldnnflaa
