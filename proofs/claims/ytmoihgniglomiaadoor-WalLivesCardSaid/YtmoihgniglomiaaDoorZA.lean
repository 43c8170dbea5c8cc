/- Blocks of memory, rows of bytes, and the calls that change blocks of one owner alone. No condition but a row's length. -/
import Derived.Test.YtmoihgniglomiaaDoorProg
import Derived.WalkKit
import Derived.WalkSpells
import Derived.WalkLawsBesides
import Derived.BigCall
import Derived.BigRegion
import Derived.BigQuiet
import Derived.Outline
import Derived.KernelRfl
import Derived.Handy
import Derived.Lib.Hide
import Derived.Lib.Walk
import Derived.Lib.QuietBelow
import Derived.Lib.AppendStr
import Derived.Laws.Rows
import Derived.Laws.ResultCell
import Derived.Laws.CopyRow
import Derived.Laws.AppendOwn
import Derived.Laws.IdiomStrings
import Derived.Test.YtmoihgniglomiaaDoorZPa
set_option linter.unusedVariables false
set_option linter.unusedSimpArgs false
set_option maxRecDepth 100000
namespace Go.Proofs.YtmoihgniglomiaaDoor
open Go.RowKit Go.Sort

/-- block g holds these cells, and may be written -/
def Bk (t : TypeId) (w : World) (g : Nat) (cs : Array Value) : Prop := w.heap[g]? = some (.cells cs t (0, 0))
theorem blk_lt {w : World} {b : Nat} {o : Obj} (h : w.heap[b]? = some o) : b < w.heap.size := (Array.getElem?_eq_some_iff.1 h).1
theorem Bk.lt {t : TypeId} {w : World} {g : Nat} {cs : Array Value} (h : Bk t w g cs) : g < w.heap.size := blk_lt h
theorem Bk.new {t : TypeId} {w : World} {g : Nat} {cs : Array Value} (h : g = w.heap.size) : Bk t (w.alloc (.cells cs t)) g cs := by
  subst h; exact Go.heap_alloc_new w _
theorem Bk.alloc {t : TypeId} {w : World} {g : Nat} {cs : Array Value} {o : Obj} (h : Bk t w g cs) : Bk t (w.alloc o) g cs := (show (w.alloc o).heap[g]? = w.heap[g]? from by show (w.heap.push o)[g]? = _; rw [Array.getElem?_push, if_neg (Nat.ne_of_lt h.lt)]).trans h
theorem Bk.drew {t : TypeId} {w : World} {g : Nat} {cs : Array Value} (h : Bk t w g cs) : Bk t w.drew g cs := h
theorem Bk.same {t : TypeId} {w : World} {g i : Nat} {cs : Array Value} {v : Value} (h : Bk t w g cs) : Bk t (w.setCell ⟨g, i, none⟩ v) g (cs.setIfInBounds i v) := heap_setCell_same w g i cs t v h
theorem Bk.oth {t : TypeId} {w : World} {g : Nat} {a : Addr} {cs : Array Value} {v : Value} (hn : g ≠ a.block) (h : Bk t w g cs) : Bk t (w.setCell a v) g cs := (heap_setCell_other w a g v hn).trans h
theorem Bk.below {t : TypeId} {w w' : World} {g : Nat} {cs : Array Value} (h : Bk t w g cs) (hb : Below w.heap.size w w') : Bk t w' g cs := (hb.block _ h.lt).trans h
theorem Bk.cell {t : TypeId} {w : World} {g : Nat} {cs : Array Value} (h : Bk t w g cs) (i : Nat) : w.cell? ⟨g, i, none⟩ = cs[i]? := cell_of_row w g i cs t (0, 0) h
theorem Bk.fro {t : TypeId} {w : World} {g : Nat} {cs : Array Value} (h : Bk t w g cs) (i : Nat) : w.frozen? ⟨g, i, none⟩ = false := frozen_of_row w g i cs t h
theorem blk_cell {w : World} {b : Nat} {cs : Array Value} {T : TypeId} {z : Nat × Nat} (h : w.heap[b]? = some (.cells cs T z)) (o : Nat) : w.cell? ⟨b, o, none⟩ = cs[o]? := by
  rw [Lib.cell_of_heap h]
theorem at0 (b j : Nat) : (⟨b, 0, none⟩ : Addr).add j = ⟨b, j, none⟩ := by unfold Addr.add; split <;> simp_all

/-- all that was there is as it was, but for the blocks of L -/
structure Only (L : List Nat) (w w' : World) : Prop where
  os : w'.os = w.os
  tape : w'.tape = w.tape
  output : w'.output = w.output
  size : w.heap.size ≤ w'.heap.size
  block : ∀ k, k < w.heap.size → k ∉ L → w'.heap[k]? = w.heap[k]?
theorem Only.refl (L : List Nat) (w : World) : Only L w w := ⟨rfl, rfl, rfl, Nat.le_refl _, fun _ _ _ => rfl⟩
theorem Only.of {L : List Nat} {w w' : World} (h : Below w.heap.size w w') : Only L w w' := ⟨h.os, h.tape, h.output, h.size, fun k hk _ => h.block k hk⟩
theorem Only.trans {L M : List Nat} {a b c : World} (h : Only L a b) (k : Only M b c) (hM : ∀ x ∈ M, x ∈ L ∨ a.heap.size ≤ x) : Only L a c :=
  ⟨k.os.trans h.os, k.tape.trans h.tape, k.output.trans h.output, Nat.le_trans h.size k.size, fun i hi hL => (k.block i (Nat.lt_of_lt_of_le hi h.size) (fun hm => (hM i hm).elim hL (fun h => by omega))).trans (h.block i hi hL)⟩
theorem Only.below {L : List Nat} {w w' : World} (h : Only L w w') {B : Nat} (hB : B ≤ w.heap.size) (hL : ∀ x ∈ L, B ≤ x) : Below B w w' :=
  ⟨h.os, h.tape, h.output, h.size, fun k hk => h.block k (by omega) (fun hm => by have := hL k hm; omega)⟩
theorem Only.setCell {L : List Nat} {a w : World} (h : Only L a w) (p : Addr) (hp : p.block ∈ L ∨ a.heap.size ≤ p.block) (v : Value) : Only L a (w.setCell p v) :=
  ⟨h.os, h.tape, h.output, by rw [World.size_setCell]; exact h.size, fun k hk hL => (heap_setCell_other w p k v (fun e => hp.elim (fun h => hL (e ▸ h)) (fun h => by omega))).trans (h.block k hk hL)⟩
theorem Only.alloc {L : List Nat} {a w : World} (h : Only L a w) (o : Obj) : Only L a (w.alloc o) :=
  ⟨h.os, h.tape, h.output, by have := h.size; rw [World.size_alloc]; omega, fun k hk hL => (Below.heap_alloc w o k (by have := h.size; omega)).trans (h.block k hk hL)⟩
theorem Only.drew {L : List Nat} {a w : World} (h : Only L a w) : Only L a w.drew := ⟨h.os, h.tape, h.output, h.size, h.block⟩
theorem Only.mono {L M : List Nat} {w w' : World} (h : Only L w w') (hL : ∀ x ∈ L, x ∈ M ∨ w.heap.size ≤ x) : Only M w w' :=
  ⟨h.os, h.tape, h.output, h.size, fun k hk hM => h.block k hk (fun hl => (hL k hl).elim hM (fun h => by omega))⟩
theorem Bk.only {t : TypeId} {w w' : World} {g : Nat} {cs : Array Value} {L : List Nat} (h : Bk t w g cs) (ho : Only L w w') (hg : g ∉ L) : Bk t w' g cs := (ho.block _ h.lt hg).trans h

/-! rows of bytes -/
def bl (l : List UInt8) : List Value := l.map fun x => Value.int .u8 (x.toNat : Int)
theorem bl_len (l : List UInt8) : (bl l).length = l.length := by simp [bl]
theorem bl_app (a b : List UInt8) : bl (a ++ b) = bl a ++ bl b := by simp [bl]
theorem bl_str (s : ByteArray) : Lib.strCells s = bl s.data.toList := rfl
theorem size_ba (s : List UInt8) : (⟨s.toArray⟩ : ByteArray).size = s.length := by simp [ByteArray.size]
theorem ba_size (s : ByteArray) : s.data.toList.length = s.size := by rw [Array.length_toList]; rfl
theorem ba_eta (s : ByteArray) : (⟨s.data.toList.toArray⟩ : ByteArray) = s := by simp
def Off (fz : Nat × Nat) (n : Nat) : Prop := fz.2 = 0 ∨ n ≤ fz.1

theorem run_storeM (P : Program) (g o : Nat) (t : TypeId) (fz : Nat × Nat) : ∀ (vs : List Value) (i : Nat) (cur : Array Value) (w : World), w.heap[g]? = some (.cells cur t fz) → Off fz cur.size → o + i + vs.length ≤ cur.size → (∀ v ∈ vs, v.oneCell' = true) →
    (storeCells ⟨g, o, none⟩ vs i).run P w = .ok () (w.setRow g (cur.toList.take (o + i) ++ vs ++ cur.toList.drop (o + i + vs.length)).toArray)
  | [], i, cur, w, hg, _, _, _ => by
    simp only [storeCells, List.append_nil, List.length_nil, Nat.add_zero, List.take_append_drop, Array.toArray_toList]
    rw [setRow_self w g cur t fz hg]
    rfl
  | v :: rest, i, cur, w, hg, hfz, hl, h1 => by
    have hi : o + i < cur.size := by simp at hl; omega
    have hadd : (⟨g, o, none⟩ : Addr).add i = ⟨g, o + i, none⟩ := by unfold Addr.add; split <;> simp_all
    have hcell : w.cell? ⟨g, o + i, none⟩ = some cur[o + i] := by simp [World.cell?, hg, hi]
    have hfro : w.frozen? ⟨g, o + i, none⟩ = false := by
      obtain ⟨lo, hi'⟩ := fz
      simp only [World.frozen?, hg, Bool.and_eq_false_iff, decide_eq_false_iff_not]
      rcases hfz with h | h
      · right; simp only at h; omega
      · left; simp only at h; omega
    have hst : (store ((⟨g, o, none⟩ : Addr).add i) v).run P w = .ok () (w.setRow g (cur.setIfInBounds (o + i) v)) := by
      rw [hadd, run_store P w _ v _ (h1 v (by simp)), hcell]
      simp [hfro, setCell_eq_setRow w g (o + i) cur t fz v hg]
    have ih := run_storeM P g o t fz rest (i + 1) (cur.setIfInBounds (o + i) v) (w.setRow g (cur.setIfInBounds (o + i) v)) (setRow_heap w g cur _ t _ hg) (by simpa using hfz) (by simp at hl ⊢; omega) (fun x hx => h1 x (by simp [hx]))
    simp only [storeCells, Sem.run_bind, hst, Result.andThen_ok, ih, setRow_setRow]
    congr 3
    have e := list_seg_step cur.toList (o + i) v rest (by simp at hl ⊢; omega)
    simpa [Array.toList_setIfInBounds, Nat.add_assoc] using e

theorem infoByte : (Tryd.prog.info? 5).map (fun i => (i.zero, i.size, i.bytes)) = some (some (.int .u8 0), 1, 1) := by kernel_rfl

/-- block g has places for cap bytes, the first ones are those of l -/
def By (w : World) (g cap : Nat) (l : List UInt8) : Prop :=
  ∃ cur fz, w.heap[g]? = some (.cells cur 5 fz) ∧ Off fz cur.size ∧ l.length ≤ cap ∧ cap ≤ maxLen ∧ cur.size = cap ∧ cur.toList.take l.length = bl l
theorem By.lt {w : World} {g cap : Nat} {l : List UInt8} (h : By w g cap l) : g < w.heap.size := by
  obtain ⟨cur, fz, hh, _⟩ := h; exact blk_lt hh
theorem By.of {w w' : World} {g cap : Nat} {l : List UInt8} (h : By w g cap l) (e : w'.heap[g]? = w.heap[g]?) : By w' g cap l := by
  obtain ⟨cur, fz, hh, rest⟩ := h; exact ⟨cur, fz, e.trans hh, rest⟩
theorem By.below {w w' : World} {g cap : Nat} {l : List UInt8} (h : By w g cap l) (hb : Below w.heap.size w w') : By w' g cap l := h.of (hb.block _ h.lt)
theorem By.only {w w' : World} {g cap : Nat} {l : List UInt8} {L : List Nat} (h : By w g cap l) (ho : Only L w w') (hg : g ∉ L) : By w' g cap l := h.of (ho.block _ h.lt hg)
theorem By.cap {w : World} {g cap : Nat} {l : List UInt8} (h : By w g cap l) : l.length ≤ cap := by
  obtain ⟨cur, fz, _, _, h, _⟩ := h; exact h
theorem By.ne {w : World} {g cap b : Nat} {l : List UInt8} {t : TypeId} {cs : Array Value} (h : By w g cap l) (hb : Bk t w b cs) (ht : t ≠ 5) : b ≠ g := by
  rintro rfl
  obtain ⟨cur, fz, hh, _⟩ := h
  unfold Bk at hb
  rw [hb] at hh
  cases hh
  exact ht rfl
theorem By.take {w : World} {g cap : Nat} {l : List UInt8} (h : By w g cap l) (n : Nat) : By w g cap (l.take n) := by
  obtain ⟨cur, fz, hh, ho, hl, hm, hs, ht⟩ := h
  refine ⟨cur, fz, hh, ho, by rw [List.length_take]; omega, hm, hs, ?_⟩
  have : bl (l.take n) = (bl l).take n := by simp [bl, List.map_take]
  rw [this, ← ht, List.take_take, List.length_take]
theorem By.cell {w : World} {g cap : Nat} {l : List UInt8} (h : By w g cap l) (i : Nat) (hi : i < l.length) : w.cell? ⟨g, i, none⟩ = some (.int .u8 (l[i].toNat : Int)) := by
  obtain ⟨cur, fz, hh, ho, hl, hm, hs, htk⟩ := h
  rw [blk_cell hh i]
  have h1 : (bl l)[i]? = some (.int .u8 (l[i].toNat : Int)) := by simp [bl, hi]
  rw [← htk, List.getElem?_take, if_pos hi] at h1
  simpa using h1
theorem u56 : Tryd.prog.underlying 80 = some (.slice 5) := by kernel_rfl
theorem u5 : Tryd.prog.underlying 5 = some (.int .u8) := by kernel_rfl
theorem u9 : Tryd.prog.underlying 9 = some .string := by kernel_rfl
/-- the text of a row of bytes -/
theorem By.conv {w : World} {g cap : Nat} {l : List UInt8} (h : By w g cap l) (c n : Nat) (hn : n = l.length) : (convert 80 9 (.slice (some ⟨g, 0, none⟩) n c)).run Tryd.prog w = .ok (.string ⟨l.toArray⟩) w := by
  subst hn
  exact run_convert_bytes_back w 80 9 5 _ c l u56 u5 u9 (fun j hj => by rw [at0]; exact h.cell j hj)
theorem conv_new (s : ByteArray) (hs : s.size ≤ maxLen) (w : World) : ∃ cap w', (convert 9 80 (.string s)).run Tryd.prog w = .ok (.slice (some ⟨w.heap.size, 0, none⟩) s.size cap) w' ∧ By w' w.heap.size cap s.data.toList ∧ Below w.heap.size w w' := by
  refine ⟨_, _, run_bytes_of_string w 9 80 5 _ u9 u56 u5, ⟨_, _, Go.heap_alloc_new w.drew _, .inr (Nat.le_refl _), ?_, ?_, ?_, ?_⟩, (Below.refl _ _).drew.alloc (Nat.le_refl _) _⟩
  · have := grownCap_ge w s.size 0 5; rwa [ba_size]
  · exact grownCap_le_maxLen _ _ _ _ hs
  · have := grownCap_ge w s.size 0 5
    have e := ba_size s
    rw [Array.length_toList] at e
    simp [bytesRow, e]; omega
  · simp [bytesRow, bl]
/-- 'b = append(b, s...)', s a text -/
theorem app_str (w : World) (ty : TypeId) (g cap : Nat) (l : List UInt8) (s : ByteArray) (n : Nat) (hn : n = l.length) (hI : By w g cap l) (hlen : l.length + s.size ≤ 140737488355328) :
    ∃ g' cap' w', (Builtin.append_ #[80, 9] ty #[.slice (some ⟨g, 0, none⟩) n cap, .string s]).run Tryd.prog w = .ok (.slice (some ⟨g', 0, none⟩) (l.length + s.size) cap') w' ∧ By w' g' cap' (l ++ s.data.toList) ∧ Only [g] w w' ∧ (g' = g ∨ g' = w.heap.size) := by
  subst hn
  obtain ⟨i0, hi, hz0, hz1, hz2⟩ := info_parts infoByte
  have HI := hI
  obtain ⟨cur, fz, hg, hoff, hlc, hcm, hcs, htk⟩ := hI
  have hgw := blk_lt hg
  have hsl : (Lib.strCells s).length = s.size := Lib.strCells_length s
  by_cases hroom : l.length + s.size ≤ cap
  · have hf := Lib.run_firstCells_string (P := Tryd.prog) w 1 s
    have hst := run_storeM Tryd.prog g l.length 5 fz (Lib.strCells s) 0 cur w hg hoff (by rw [hsl]; omega) (Lib.strCells_oneCell s)
    simp only [Nat.add_zero] at hst
    have hr : (Builtin.append_ #[80, 9] ty #[.slice (some ⟨g, 0, none⟩) l.length cap, .string s]).run Tryd.prog w = .ok (.slice (some ⟨g, 0, none⟩) (l.length + s.size) cap) (w.setRow g (cur.toList.take l.length ++ Lib.strCells s ++ cur.toList.drop (l.length + (Lib.strCells s).length)).toArray) := by
      simp [Builtin.append_, run_underlying u56, run_underlying u9, sizeOf, typeInfo, hi, hz1, Builtin.lenOf, hroom, hf, Addr.add_lit, hst]
    refine ⟨g, cap, _, hr, ⟨_, fz, setRow_heap w g cur _ 5 _ hg, ?_, ?_, hcm, ?_, ?_⟩, ⟨rfl, rfl, rfl, by rw [setRow_size]; exact Nat.le_refl _, fun k _ hk => setRow_other w g k _ (by simpa using hk)⟩, .inl rfl⟩
    · have e : (cur.toList.take l.length ++ Lib.strCells s ++ cur.toList.drop (l.length + (Lib.strCells s).length)).toArray.size = cur.size := by simp [hsl]; omega
      rw [e]; exact hoff
    · rw [List.length_append, ba_size]; exact hroom
    · simp [hsl]; omega
    · rw [htk, bl_str, ← bl_app, ← bl_len (l ++ s.data.toList)]; simp only []; exact List.take_left
  · have holds : ∀ j u, (bl l)[j]? = some u → w.cell? ((⟨g, 0, none⟩ : Addr).add j) = some u := fun j u hu => by
      rw [at0, blk_cell hg j]
      rw [← htk, List.getElem?_take] at hu
      split at hu
      · simpa using hu
      · cases hu
    have hr := Lib.run_append_grow_string (P := Tryd.prog) w 80 9 ty 5 i0 (.int .u8 0) u56 u9 hi hz0 ⟨g, 0, none⟩ l.length cap (bl l) (by rw [bl_len, hz1, Nat.mul_one]) holds s (by omega) (by omega) (by rw [hz2]; exact growslice_fits (by omega) (by omega))
    have hge := grownCap_ge w (l.length + s.size) cap 5
    refine ⟨w.heap.size, _, _, hr, ⟨_, (0, 0), Go.heap_alloc_new w.drew _, .inl rfl, by rw [List.length_append, ba_size]; exact hge, grownCap_le_maxLen w _ cap 5 (by unfold maxLen; omega), ?_, ?_⟩, (Only.refl _ _).drew.alloc _, .inr rfl⟩
    · have hz1' : (Value.int IntKind.u8 0).cells.size = 1 := rfl
      simp only [Array.size_append, List.size_toArray, size_zeroCells, hz1', bl_len, hsl]
      omega
    · simp only [Array.toList_append, List.append_assoc]
      rw [bl_str, ← List.append_assoc, ← bl_app, ← bl_len (l ++ s.data.toList)]
      exact List.take_left

/-! rows of pieces -/
def pcells (l : List (Nat × Nat)) : List Value := l.flatMap fun p => [.int .i64 (p.1 : Int), .int .i64 (p.2 : Int)]
theorem pcells_len (l : List (Nat × Nat)) : (pcells l).length = l.length * 2 := by
  induction l with
  | nil => rfl
  | cons p r ih => simp only [pcells, List.flatMap_cons, List.length_append, List.length_cons, List.length_nil] at ih ⊢; omega
theorem pcells_app (a b : List (Nat × Nat)) : pcells (a ++ b) = pcells a ++ pcells b := by simp [pcells]
theorem pcells_get (l : List (Nat × Nat)) (i : Nat) (hi : i < l.length) : (pcells l)[i * 2]? = some (.int .i64 (l[i].1 : Int)) ∧ (pcells l)[i * 2 + 1]? = some (.int .i64 (l[i].2 : Int)) := by
  induction l generalizing i with
  | nil => cases hi
  | cons p r ih =>
    cases i with
    | zero => simp [pcells]
    | succ i =>
      have := ih i (by simpa using hi)
      simp only [pcells, List.flatMap_cons] at this ⊢
      rw [List.getElem?_append_right (by simp; omega), List.getElem?_append_right (by simp; omega)]
      simp only [List.length_cons, List.length_nil, List.getElem_cons_succ]
      rw [show (i + 1) * 2 - (0 + 1 + 1) = i * 2 from by omega, show (i + 1) * 2 + 1 - (0 + 1 + 1) = i * 2 + 1 from by omega]
      exact this
end Go.Proofs.YtmoihgniglomiaaDoor
