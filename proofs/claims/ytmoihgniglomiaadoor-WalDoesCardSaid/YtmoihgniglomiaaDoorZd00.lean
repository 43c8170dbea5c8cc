/- Plain: the state of a disk of two files, what is left of it, and what its calls make of it. No condition. Blocks of memory, rows of bytes, and the calls that change blocks of one owner alone. No condition but a row's length. A disk in memory; the calls that only look at it: there, waiting, Waiting, Size, Dead. No condition but the disk's own. What is left of a disk of two files. No condition but t -/
import Derived.Test.YtmoihgniglomiaaDoorProg
import Derived.WalkKit
import Derived.WalkSpells
import Derived.WalkLawsBesides
import Derived.BigCall
import Derived.BigRegion
import Derived.BigQuiet
import Derived.Outline
import Derived.KernelRfl
import Derived.Handy
import Derived.Lib.Hide
import Derived.Lib.Walk
import Derived.Lib.QuietBelow
import Derived.Lib.AppendStr
import Derived.Laws.Rows
import Derived.Laws.ResultCell
import Derived.Laws.CopyRow
import Derived.Laws.AppendOwn
import Derived.Laws.IdiomStrings
import Derived.LoopN
set_option linter.unusedVariables false
set_option linter.unusedSimpArgs false
set_option maxRecDepth 100000
namespace Go.Proofs.YtmoihgniglomiaaDoor
structure St where
  f0 : List UInt8
  f1 : List UInt8
  s0 : Nat
  s1 : Nat
  row : List (Nat × Nat)
  gone : Bool
  inn : Nat
  lft : Nat
def tot (f : Nat) : List (Nat × Nat) → Nat
  | [] => 0
  | p :: r => (if p.1 = f then p.2 else 0) + tot f r
def leftL : List (Nat × Nat) → Nat → Nat → Nat → Nat × Nat
  | [], _, a, b => (a, b)
  | p :: r, k, a, b => leftL r (k - min p.2 k) (if p.1 = 0 then a + min p.2 k else a) (if p.1 = 0 then b else b + min p.2 k)
def okRow (l : List (Nat × Nat)) : Prop := ∀ p ∈ l, p.1 < 2 ∧ 1 ≤ p.2
theorem okRow.tail {p : Nat × Nat} {l : List (Nat × Nat)} (h : okRow (p :: l)) : okRow l := fun q hq => h q (by simp [hq])
theorem tot_app (f : Nat) (a b : List (Nat × Nat)) : tot f (a ++ b) = tot f a + tot f b := by
  induction a with
  | nil => simp [tot]
  | cons p r ih => simp only [List.cons_append, tot, ih]; omega
theorem len_tot (l : List (Nat × Nat)) (h : okRow l) : l.length ≤ tot 0 l + tot 1 l := by
  induction l with
  | nil => simp [tot]
  | cons p r ih =>
    have := ih h.tail
    have h1 := h p (by simp)
    simp only [List.length_cons, tot]
    split <;> split <;> omega
theorem leftL_bd (l : List (Nat × Nat)) (h : okRow l) (k a b : Nat) :
    a ≤ (leftL l k a b).1 ∧ (leftL l k a b).1 ≤ a + tot 0 l ∧ b ≤ (leftL l k a b).2 ∧ (leftL l k a b).2 ≤ b + tot 1 l ∧ (leftL l k a b).1 + (leftL l k a b).2 = a + b + min k (tot 0 l + tot 1 l) := by
  induction l generalizing k a b with
  | nil => simp [leftL, tot]
  | cons p r ih =>
    obtain ⟨h1, h2⟩ := h p (by simp)
    simp only [leftL, tot]
    rcases (by omega : p.1 = 0 ∨ p.1 = 1) with h0 | h0
    · simp only [h0, if_true]
      have := ih h.tail (k - min p.2 k) (a + min p.2 k) b
      simp only [Nat.zero_ne_one, if_false]
      omega
    · have := ih h.tail (k - min p.2 k) a (b + min p.2 k)
      simp only [h0, Nat.one_ne_zero, if_false, if_true]
      omega
theorem leftL_none (l : List (Nat × Nat)) (h : okRow l) (a b : Nat) : leftL l 0 a b = (a, b) := by
  have := leftL_bd l h 0 a b
  apply Prod.ext <;> simp only <;> omega
def longer (l : List (Nat × Nat)) (f n : Nat) : List (Nat × Nat) :=
  if n = 0 then l else
    match l.getLast? with
    | some q => if q.1 = f then l.dropLast ++ [(q.1, q.2 + n)] else l ++ [(f, n)]
    | none => [(f, n)]
theorem longer_zero (l : List (Nat × Nat)) (f : Nat) : longer l f 0 = l := by simp [longer]
theorem longer_nil (f n : Nat) (h : n ≠ 0) : longer [] f n = [(f, n)] := by simp [longer, h]
theorem longer_same (l : List (Nat × Nat)) (f n m : Nat) (h : n ≠ 0) : longer (l ++ [(f, m)]) f n = l ++ [(f, m + n)] := by simp [longer, h]
theorem longer_other (l : List (Nat × Nat)) (f g n m : Nat) (h : n ≠ 0) (hg : g ≠ f) : longer (l ++ [(g, m)]) f n = l ++ [(g, m)] ++ [(f, n)] := by simp [longer, h, hg]
theorem split_last (l : List (Nat × Nat)) : l = [] ∨ ∃ r g m, l = r ++ [(g, m)] := by
  rcases List.eq_nil_or_concat l with h | ⟨r, x, h⟩
  · exact .inl h
  · exact .inr ⟨r, x.1, x.2, by rw [h, List.concat_eq_append]⟩
theorem longer_tot (l : List (Nat × Nat)) (f n e : Nat) : tot e (longer l f n) = tot e l + if f = e then n else 0 := by
  by_cases h : n = 0
  · subst h; simp [longer_zero]
  · rcases split_last l with rfl | ⟨r, g, m, rfl⟩
    · rw [longer_nil _ _ h]; simp [tot]
    · by_cases hg : g = f
      · subst hg
        rw [longer_same _ _ _ _ h]
        simp only [tot_app, tot]
        split <;> omega
      · rw [longer_other _ _ _ _ _ h hg]
        simp only [tot_app, tot]
        omega
theorem longer_ok (l : List (Nat × Nat)) (f n : Nat) (hf : f < 2) (h : okRow l) : okRow (longer l f n) := by
  by_cases h0 : n = 0
  · subst h0; rw [longer_zero]; exact h
  · rcases split_last l with rfl | ⟨r, g, m, rfl⟩
    · rw [longer_nil _ _ h0]
      intro p hp
      simp only [List.mem_singleton] at hp
      subst hp
      exact ⟨hf, by simp only; omega⟩
    · by_cases hg : g = f
      · subst hg
        rw [longer_same _ _ _ _ h0]
        intro p hp
        simp only [List.mem_append, List.mem_singleton] at hp
        rcases hp with hp | rfl
        · exact h p (by simp [hp])
        · exact ⟨hf, by simp only; omega⟩
      · rw [longer_other _ _ _ _ _ h0 hg]
        intro p hp
        simp only [List.mem_append, List.mem_singleton, or_assoc] at hp
        rcases hp with hp | rfl | rfl
        · exact h p (by simp [hp])
        · exact h _ (by simp)
        · exact ⟨hf, by simp only; omega⟩
namespace St
def left (S : St) (k : Nat) : Nat × Nat := leftL S.row k S.s0 S.s1
def waiting (S : St) : Nat := (S.f0.length - S.s0) + (S.f1.length - S.s1)
def cut0 (S : St) (n : Nat) : St := { S with f0 := S.f0.take n, s0 := n }
def cut1 (S : St) (n : Nat) : St := { S with f1 := S.f1.take n, s1 := n }
def cutF (S : St) (f n : Nat) : St := if f = 0 then S.cut0 n else S.cut1 n
def keep (S : St) (k : Nat) : St := { S with f0 := S.f0.take (S.left k).1, f1 := S.f1.take (S.left k).2, s0 := (S.left k).1, s1 := (S.left k).2, row := [] }
def power (S : St) (g : Bool) (n k : Nat) : St := { S with gone := g, inn := n, lft := k }
def lose (S : St) (k : Nat) : St := (S.keep k).power true 0 0
def file (S : St) (f : Nat) : List UInt8 := if f = 0 then S.f0 else S.f1
def safe (S : St) (f : Nat) : Nat := if f = 0 then S.s0 else S.s1
def lay (S : St) (f : Nat) (s : List UInt8) : St :=
  if f = 0 then { S with f0 := S.f0 ++ s, row := longer S.row 0 s.length } else { S with f1 := S.f1 ++ s, row := longer S.row 1 s.length }
def count (S : St) : Nat × St :=
  if S.inn = 0 then (0, S) else if S.inn - 1 > 0 then (0, { S with inn := S.inn - 1 }) else (2, S.lose S.lft)
def there (f : Int) : Bool := decide (0 ≤ f ∧ f < 2)
def size (S : St) (f : Int) : Int := if there f then ((S.file f.toNat).length : Int) else -1
def append (S : St) (f : Int) (s : List UInt8) : Nat × St :=
  if S.gone then (2, S) else if ¬ there f then (90, S) else if (S.file f.toNat).length + s.length > 1048576 then (91, S) else (S.lay f.toNat s).count
def sync (S : St) : Nat × St :=
  if S.gone then (2, S) else if (S.count).1 = 0 then (0, (S.count).2.keep (S.count).2.waiting) else S.count
def cut (S : St) (f n : Int) : Nat × St :=
  if S.gone then (2, S) else if ¬ there f then (90, S) else if n < 0 ∨ n > ((S.file f.toNat).length : Int) ∨ S.safe f.toNat < (S.file f.toNat).length then (92, S)
  else if (S.count).1 = 0 then (0, (S.count).2.cutF f.toNat n.toNat) else S.count
def arm (S : St) (n k : Int) : Nat × St :=
  if S.gone then (2, S) else if n < 0 ∨ k < 0 then (1, S) else (0, S.power false n.toNat k.toNat)
def crash (S : St) (k : Int) : Nat × St :=
  if S.gone then (2, S) else if k < 0 then (1, S) else (0, S.lose k.toNat)
def read (S : St) (f : Int) : List UInt8 × Nat :=
  if S.gone then ([], 2) else if ¬ there f then ([], 90) else (S.file f.toNat, 0)
def revive (S : St) : St := S.power false 0 0
def after (S : St) (k : Int) : List UInt8 × List UInt8 := (S.f0.take (S.left k.toNat).1, S.f1.take (S.left k.toNat).2)
def new (a b : List UInt8) : St := ⟨a, b, a.length, b.length, [], false, 0, 0⟩
structure Wf (S : St) : Prop where
  ok : okRow S.row
  t0 : S.s0 + tot 0 S.row = S.f0.length
  t1 : S.s1 + tot 1 S.row = S.f1.length
  l0 : S.f0.length ≤ 1048576
  l1 : S.f1.length ≤ 1048576
  li : S.inn ≤ 9223372036854775807
  ll : S.lft ≤ 9223372036854775807
theorem Wf.left {S : St} (h : S.Wf) (k : Nat) : S.s0 ≤ (S.left k).1 ∧ (S.left k).1 ≤ S.f0.length ∧ S.s1 ≤ (S.left k).2 ∧ (S.left k).2 ≤ S.f1.length ∧ (S.left k).1 + (S.left k).2 = S.s0 + S.s1 + min k S.waiting := by
  have := leftL_bd S.row h.ok k S.s0 S.s1
  have h0 := h.t0
  have h1 := h.t1
  unfold St.left waiting
  omega
theorem Wf.left_all {S : St} (h : S.Wf) (k : Nat) (hk : S.waiting ≤ k) : S.left k = (S.f0.length, S.f1.length) := by
  have := h.left k
  have h0 := h.t0
  have h1 := h.t1
  unfold waiting at *
  apply Prod.ext <;> simp only <;> omega
theorem Wf.rowlen {S : St} (h : S.Wf) : S.row.length ≤ 2097152 := by
  have := len_tot S.row h.ok
  have h0 := h.t0
  have h1 := h.t1
  have h2 := h.l0
  have h3 := h.l1
  omega
theorem Wf.keep {S : St} (h : S.Wf) (k : Nat) : (S.keep k).Wf := by
  have := h.left k
  have h2 := h.l0
  have h3 := h.l1
  refine ⟨fun p hp => by simp [St.keep] at hp, ?_, ?_, ?_, ?_, h.li, h.ll⟩ <;> simp only [St.keep, tot, List.length_take] <;> omega
theorem Wf.power {S : St} (h : S.Wf) (g : Bool) {n k : Nat} (hn : n ≤ 9223372036854775807) (hk : k ≤ 9223372036854775807) : (S.power g n k).Wf := ⟨h.ok, h.t0, h.t1, h.l0, h.l1, hn, hk⟩
theorem Wf.lose {S : St} (h : S.Wf) (k : Nat) : (S.lose k).Wf := (h.keep k).power true (by omega) (by omega)
theorem Wf.dec {S : St} (h : S.Wf) : ({ S with inn := S.inn - 1 } : St).Wf := ⟨h.ok, h.t0, h.t1, h.l0, h.l1, by have := h.li; simp only; omega, h.ll⟩
theorem Wf.count {S : St} (h : S.Wf) : (S.count).2.Wf := by
  unfold St.count
  split
  · exact h
  · split
    · exact h.dec
    · exact h.lose _
theorem Wf.lay {S : St} (h : S.Wf) (f : Nat) (s : List UInt8) (hf : f < 2) (hs : (S.file f).length + s.length ≤ 1048576) : (S.lay f s).Wf := by
  have h0 := h.t0
  have h1 := h.t1
  unfold St.lay
  unfold file at hs
  split
  · rename_i hf0
    rw [if_pos hf0] at hs
    refine ⟨longer_ok _ _ _ (by omega) h.ok, ?_, ?_, ?_, h.l1, h.li, h.ll⟩ <;> simp [longer_tot, List.length_append] <;> omega
  · rename_i hf0
    rw [if_neg hf0] at hs
    refine ⟨longer_ok _ _ _ (by omega) h.ok, ?_, ?_, h.l0, ?_, h.li, h.ll⟩ <;> simp [longer_tot, List.length_append] <;> omega
theorem Wf.cutF {S : St} (h : S.Wf) (f n : Nat) (hn : n ≤ (S.file f).length) (hs : ¬ S.safe f < (S.file f).length) : (S.cutF f n).Wf := by
  have h0 := h.t0
  have h1 := h.t1
  have h2 := h.l0
  have h3 := h.l1
  unfold St.cutF cut0 cut1
  unfold file at hn hs
  unfold safe at hs
  split
  · rename_i hf0
    simp only [hf0, if_true] at hn hs
    refine ⟨h.ok, ?_, h.t1, ?_, h.l1, h.li, h.ll⟩ <;> simp only [List.length_take] <;> omega
  · rename_i hf0
    simp only [hf0, if_false] at hn hs
    refine ⟨h.ok, h.t0, ?_, h.l0, ?_, h.li, h.ll⟩ <;> simp only [List.length_take] <;> omega
theorem Wf.new {a b : List UInt8} (ha : a.length ≤ 1048576) (hb : b.length ≤ 1048576) : (St.new a b).Wf := ⟨fun p hp => by simp [St.new] at hp, by simp [St.new, tot], by simp [St.new, tot], ha, hb, by simp [St.new], by simp [St.new]⟩
theorem count_file {S : St} (h : (S.count).1 = 0) : (S.count).2.f0 = S.f0 ∧ (S.count).2.f1 = S.f1 ∧ (S.count).2.s0 = S.s0 ∧ (S.count).2.s1 = S.s1 ∧ (S.count).2.row = S.row ∧ (S.count).2.gone = S.gone := by
  unfold St.count at *
  split
  · exact ⟨rfl, rfl, rfl, rfl, rfl, rfl⟩
  · split
    · exact ⟨rfl, rfl, rfl, rfl, rfl, rfl⟩
    · rename_i a b
      simp [a, b] at h
end St
end Go.Proofs.YtmoihgniglomiaaDoor
namespace Go.Proofs.YtmoihgniglomiaaDoor
open Go.RowKit Go.Sort
def Bk (t : TypeId) (w : World) (g : Nat) (cs : Array Value) : Prop := w.heap[g]? = some (.cells cs t (0, 0))
theorem blk_lt {w : World} {b : Nat} {o : Obj} (h : w.heap[b]? = some o) : b < w.heap.size := (Array.getElem?_eq_some_iff.1 h).1
theorem Bk.lt {t : TypeId} {w : World} {g : Nat} {cs : Array Value} (h : Bk t w g cs) : g < w.heap.size := blk_lt h
theorem Bk.new {t : TypeId} {w : World} {g : Nat} {cs : Array Value} (h : g = w.heap.size) : Bk t (w.alloc (.cells cs t)) g cs := by
  subst h; exact Go.heap_alloc_new w _
theorem Bk.alloc {t : TypeId} {w : World} {g : Nat} {cs : Array Value} {o : Obj} (h : Bk t w g cs) : Bk t (w.alloc o) g cs := (show (w.alloc o).heap[g]? = w.heap[g]? from by show (w.heap.push o)[g]? = _; rw [Array.getElem?_push, if_neg (Nat.ne_of_lt h.lt)]).trans h
theorem Bk.drew {t : TypeId} {w : World} {g : Nat} {cs : Array Value} (h : Bk t w g cs) : Bk t w.drew g cs := h
theorem Bk.same {t : TypeId} {w : World} {g i : Nat} {cs : Array Value} {v : Value} (h : Bk t w g cs) : Bk t (w.setCell ⟨g, i, none⟩ v) g (cs.setIfInBounds i v) := heap_setCell_same w g i cs t v h
theorem Bk.oth {t : TypeId} {w : World} {g : Nat} {a : Addr} {cs : Array Value} {v : Value} (hn : g ≠ a.block) (h : Bk t w g cs) : Bk t (w.setCell a v) g cs := (heap_setCell_other w a g v hn).trans h
theorem Bk.below {t : TypeId} {w w' : World} {g : Nat} {cs : Array Value} (h : Bk t w g cs) (hb : Below w.heap.size w w') : Bk t w' g cs := (hb.block _ h.lt).trans h
theorem Bk.cell {t : TypeId} {w : World} {g : Nat} {cs : Array Value} (h : Bk t w g cs) (i : Nat) : w.cell? ⟨g, i, none⟩ = cs[i]? := cell_of_row w g i cs t (0, 0) h
theorem Bk.fro {t : TypeId} {w : World} {g : Nat} {cs : Array Value} (h : Bk t w g cs) (i : Nat) : w.frozen? ⟨g, i, none⟩ = false := frozen_of_row w g i cs t h
theorem blk_cell {w : World} {b : Nat} {cs : Array Value} {T : TypeId} {z : Nat × Nat} (h : w.heap[b]? = some (.cells cs T z)) (o : Nat) : w.cell? ⟨b, o, none⟩ = cs[o]? := by
  rw [Lib.cell_of_heap h]
theorem at0 (b j : Nat) : (⟨b, 0, none⟩ : Addr).add j = ⟨b, j, none⟩ := by unfold Addr.add; split <;> simp_all
structure Only (L : List Nat) (w w' : World) : Prop where
  os : w'.os = w.os
  tape : w'.tape = w.tape
  output : w'.output = w.output
  size : w.heap.size ≤ w'.heap.size
  block : ∀ k, k < w.heap.size → k ∉ L → w'.heap[k]? = w.heap[k]?
theorem Only.refl (L : List Nat) (w : World) : Only L w w := ⟨rfl, rfl, rfl, Nat.le_refl _, fun _ _ _ => rfl⟩
theorem Only.of {L : List Nat} {w w' : World} (h : Below w.heap.size w w') : Only L w w' := ⟨h.os, h.tape, h.output, h.size, fun k hk _ => h.block k hk⟩
theorem Only.trans {L M : List Nat} {a b c : World} (h : Only L a b) (k : Only M b c) (hM : ∀ x ∈ M, x ∈ L ∨ a.heap.size ≤ x) : Only L a c :=
  ⟨k.os.trans h.os, k.tape.trans h.tape, k.output.trans h.output, Nat.le_trans h.size k.size, fun i hi hL => (k.block i (Nat.lt_of_lt_of_le hi h.size) (fun hm => (hM i hm).elim hL (fun h => by omega))).trans (h.block i hi hL)⟩
theorem Only.below {L : List Nat} {w w' : World} (h : Only L w w') {B : Nat} (hB : B ≤ w.heap.size) (hL : ∀ x ∈ L, B ≤ x) : Below B w w' :=
  ⟨h.os, h.tape, h.output, h.size, fun k hk => h.block k (by omega) (fun hm => by have := hL k hm; omega)⟩
theorem Only.setCell {L : List Nat} {a w : World} (h : Only L a w) (p : Addr) (hp : p.block ∈ L ∨ a.heap.size ≤ p.block) (v : Value) : Only L a (w.setCell p v) :=
  ⟨h.os, h.tape, h.output, by rw [World.size_setCell]; exact h.size, fun k hk hL => (heap_setCell_other w p k v (fun e => hp.elim (fun h => hL (e ▸ h)) (fun h => by omega))).trans (h.block k hk hL)⟩
theorem Only.alloc {L : List Nat} {a w : World} (h : Only L a w) (o : Obj) : Only L a (w.alloc o) :=
  ⟨h.os, h.tape, h.output, by have := h.size; rw [World.size_alloc]; omega, fun k hk hL => (Below.heap_alloc w o k (by have := h.size; omega)).trans (h.block k hk hL)⟩
theorem Only.drew {L : List Nat} {a w : World} (h : Only L a w) : Only L a w.drew := ⟨h.os, h.tape, h.output, h.size, h.block⟩
theorem Only.mono {L M : List Nat} {w w' : World} (h : Only L w w') (hL : ∀ x ∈ L, x ∈ M ∨ w.heap.size ≤ x) : Only M w w' :=
  ⟨h.os, h.tape, h.output, h.size, fun k hk hM => h.block k hk (fun hl => (hL k hl).elim hM (fun h => by omega))⟩
theorem Bk.only {t : TypeId} {w w' : World} {g : Nat} {cs : Array Value} {L : List Nat} (h : Bk t w g cs) (ho : Only L w w') (hg : g ∉ L) : Bk t w' g cs := (ho.block _ h.lt hg).trans h
def bl (l : List UInt8) : List Value := l.map fun x => Value.int .u8 (x.toNat : Int)
theorem bl_len (l : List UInt8) : (bl l).length = l.length := by simp [bl]
theorem bl_app (a b : List UInt8) : bl (a ++ b) = bl a ++ bl b := by simp [bl]
theorem bl_str (s : ByteArray) : Lib.strCells s = bl s.data.toList := rfl
theorem size_ba (s : List UInt8) : (⟨s.toArray⟩ : ByteArray).size = s.length := by simp [ByteArray.size]
theorem ba_size (s : ByteArray) : s.data.toList.length = s.size := by rw [Array.length_toList]; rfl
theorem ba_eta (s : ByteArray) : (⟨s.data.toList.toArray⟩ : ByteArray) = s := by simp
def Off (fz : Nat × Nat) (n : Nat) : Prop := fz.2 = 0 ∨ n ≤ fz.1
theorem run_storeM (P : Program) (g o : Nat) (t : TypeId) (fz : Nat × Nat) : ∀ (vs : List Value) (i : Nat) (cur : Array Value) (w : World), w.heap[g]? = some (.cells cur t fz) → Off fz cur.size → o + i + vs.length ≤ cur.size → (∀ v ∈ vs, v.oneCell' = true) →
    (storeCells ⟨g, o, none⟩ vs i).run P w = .ok () (w.setRow g (cur.toList.take (o + i) ++ vs ++ cur.toList.drop (o + i + vs.length)).toArray)
  | [], i, cur, w, hg, _, _, _ => by
    simp only [storeCells, List.append_nil, List.length_nil, Nat.add_zero, List.take_append_drop, Array.toArray_toList]
    rw [setRow_self w g cur t fz hg]
    rfl
  | v :: rest, i, cur, w, hg, hfz, hl, h1 => by
    have hi : o + i < cur.size := by simp at hl; omega
    have hadd : (⟨g, o, none⟩ : Addr).add i = ⟨g, o + i, none⟩ := by unfold Addr.add; split <;> simp_all
    have hcell : w.cell? ⟨g, o + i, none⟩ = some cur[o + i] := by simp [World.cell?, hg, hi]
    have hfro : w.frozen? ⟨g, o + i, none⟩ = false := by
      obtain ⟨lo, hi'⟩ := fz
      simp only [World.frozen?, hg, Bool.and_eq_false_iff, decide_eq_false_iff_not]
      rcases hfz with h | h
      · right; simp only at h; omega
      · left; simp only at h; omega
    have hst : (store ((⟨g, o, none⟩ : Addr).add i) v).run P w = .ok () (w.setRow g (cur.setIfInBounds (o + i) v)) := by
      rw [hadd, run_store P w _ v _ (h1 v (by simp)), hcell]
      simp [hfro, setCell_eq_setRow w g (o + i) cur t fz v hg]
    have ih := run_storeM P g o t fz rest (i + 1) (cur.setIfInBounds (o + i) v) (w.setRow g (cur.setIfInBounds (o + i) v)) (setRow_heap w g cur _ t _ hg) (by simpa using hfz) (by simp at hl ⊢; omega) (fun x hx => h1 x (by simp [hx]))
    simp only [storeCells, Sem.run_bind, hst, Result.andThen_ok, ih, setRow_setRow]
    congr 3
    have e := list_seg_step cur.toList (o + i) v rest (by simp at hl ⊢; omega)
    simpa [Array.toList_setIfInBounds, Nat.add_assoc] using e
theorem infoByte : (Tryd.prog.info? 5).map (fun i => (i.zero, i.size, i.bytes)) = some (some (.int .u8 0), 1, 1) := by kernel_rfl
def By (w : World) (g cap : Nat) (l : List UInt8) : Prop :=
  ∃ cur fz, w.heap[g]? = some (.cells cur 5 fz) ∧ Off fz cur.size ∧ l.length ≤ cap ∧ cap ≤ maxLen ∧ cur.size = cap ∧ cur.toList.take l.length = bl l
theorem By.lt {w : World} {g cap : Nat} {l : List UInt8} (h : By w g cap l) : g < w.heap.size := by
  obtain ⟨cur, fz, hh, _⟩ := h; exact blk_lt hh
theorem By.of {w w' : World} {g cap : Nat} {l : List UInt8} (h : By w g cap l) (e : w'.heap[g]? = w.heap[g]?) : By w' g cap l := by
  obtain ⟨cur, fz, hh, rest⟩ := h; exact ⟨cur, fz, e.trans hh, rest⟩
theorem By.below {w w' : World} {g cap : Nat} {l : List UInt8} (h : By w g cap l) (hb : Below w.heap.size w w') : By w' g cap l := h.of (hb.block _ h.lt)
theorem By.only {w w' : World} {g cap : Nat} {l : List UInt8} {L : List Nat} (h : By w g cap l) (ho : Only L w w') (hg : g ∉ L) : By w' g cap l := h.of (ho.block _ h.lt hg)
theorem By.cap {w : World} {g cap : Nat} {l : List UInt8} (h : By w g cap l) : l.length ≤ cap := by
  obtain ⟨cur, fz, _, _, h, _⟩ := h; exact h
theorem By.ne {w : World} {g cap b : Nat} {l : List UInt8} {t : TypeId} {cs : Array Value} (h : By w g cap l) (hb : Bk t w b cs) (ht : t ≠ 5) : b ≠ g := by
  rintro rfl
  obtain ⟨cur, fz, hh, _⟩ := h
  unfold Bk at hb
  rw [hb] at hh
  cases hh
  exact ht rfl
theorem By.take {w : World} {g cap : Nat} {l : List UInt8} (h : By w g cap l) (n : Nat) : By w g cap (l.take n) := by
  obtain ⟨cur, fz, hh, ho, hl, hm, hs, ht⟩ := h
  refine ⟨cur, fz, hh, ho, by rw [List.length_take]; omega, hm, hs, ?_⟩
  have : bl (l.take n) = (bl l).take n := by simp [bl, List.map_take]
  rw [this, ← ht, List.take_take, List.length_take]
theorem By.cell {w : World} {g cap : Nat} {l : List UInt8} (h : By w g cap l) (i : Nat) (hi : i < l.length) : w.cell? ⟨g, i, none⟩ = some (.int .u8 (l[i].toNat : Int)) := by
  obtain ⟨cur, fz, hh, ho, hl, hm, hs, htk⟩ := h
  rw [blk_cell hh i]
  have h1 : (bl l)[i]? = some (.int .u8 (l[i].toNat : Int)) := by simp [bl, hi]
  rw [← htk, List.getElem?_take, if_pos hi] at h1
  simpa using h1
theorem u56 : Tryd.prog.underlying 80 = some (.slice 5) := by kernel_rfl
theorem u5 : Tryd.prog.underlying 5 = some (.int .u8) := by kernel_rfl
theorem u9 : Tryd.prog.underlying 9 = some .string := by kernel_rfl
theorem By.conv {w : World} {g cap : Nat} {l : List UInt8} (h : By w g cap l) (c n : Nat) (hn : n = l.length) : (convert 80 9 (.slice (some ⟨g, 0, none⟩) n c)).run Tryd.prog w = .ok (.string ⟨l.toArray⟩) w := by
  subst hn
  exact run_convert_bytes_back w 80 9 5 _ c l u56 u5 u9 (fun j hj => by rw [at0]; exact h.cell j hj)
theorem conv_new (s : ByteArray) (hs : s.size ≤ maxLen) (w : World) : ∃ cap w', (convert 9 80 (.string s)).run Tryd.prog w = .ok (.slice (some ⟨w.heap.size, 0, none⟩) s.size cap) w' ∧ By w' w.heap.size cap s.data.toList ∧ Below w.heap.size w w' := by
  refine ⟨_, _, run_bytes_of_string w 9 80 5 _ u9 u56 u5, ⟨_, _, Go.heap_alloc_new w.drew _, .inr (Nat.le_refl _), ?_, ?_, ?_, ?_⟩, (Below.refl _ _).drew.alloc (Nat.le_refl _) _⟩
  · have := grownCap_ge w s.size 0 5; rwa [ba_size]
  · exact grownCap_le_maxLen _ _ _ _ hs
  · have := grownCap_ge w s.size 0 5
    have e := ba_size s
    rw [Array.length_toList] at e
    simp [bytesRow, e]; omega
  · simp [bytesRow, bl]
theorem app_str (w : World) (ty : TypeId) (g cap : Nat) (l : List UInt8) (s : ByteArray) (n : Nat) (hn : n = l.length) (hI : By w g cap l) (hlen : l.length + s.size ≤ 140737488355328) :
    ∃ g' cap' w', (Builtin.append_ #[80, 9] ty #[.slice (some ⟨g, 0, none⟩) n cap, .string s]).run Tryd.prog w = .ok (.slice (some ⟨g', 0, none⟩) (l.length + s.size) cap') w' ∧ By w' g' cap' (l ++ s.data.toList) ∧ Only [g] w w' ∧ (g' = g ∨ g' = w.heap.size) := by
  subst hn
  obtain ⟨i0, hi, hz0, hz1, hz2⟩ := info_parts infoByte
  have HI := hI
  obtain ⟨cur, fz, hg, hoff, hlc, hcm, hcs, htk⟩ := hI
  have hgw := blk_lt hg
  have hsl : (Lib.strCells s).length = s.size := Lib.strCells_length s
  by_cases hroom : l.length + s.size ≤ cap
  · have hf := Lib.run_firstCells_string (P := Tryd.prog) w 1 s
    have hst := run_storeM Tryd.prog g l.length 5 fz (Lib.strCells s) 0 cur w hg hoff (by rw [hsl]; omega) (Lib.strCells_oneCell s)
    simp only [Nat.add_zero] at hst
    have hr : (Builtin.append_ #[80, 9] ty #[.slice (some ⟨g, 0, none⟩) l.length cap, .string s]).run Tryd.prog w = .ok (.slice (some ⟨g, 0, none⟩) (l.length + s.size) cap) (w.setRow g (cur.toList.take l.length ++ Lib.strCells s ++ cur.toList.drop (l.length + (Lib.strCells s).length)).toArray) := by
      simp [Builtin.append_, run_underlying u56, run_underlying u9, sizeOf, typeInfo, hi, hz1, Builtin.lenOf, hroom, hf, Addr.add_lit, hst]
    refine ⟨g, cap, _, hr, ⟨_, fz, setRow_heap w g cur _ 5 _ hg, ?_, ?_, hcm, ?_, ?_⟩, ⟨rfl, rfl, rfl, by rw [setRow_size]; exact Nat.le_refl _, fun k _ hk => setRow_other w g k _ (by simpa using hk)⟩, .inl rfl⟩
    · have e : (cur.toList.take l.length ++ Lib.strCells s ++ cur.toList.drop (l.length + (Lib.strCells s).length)).toArray.size = cur.size := by simp [hsl]; omega
      rw [e]; exact hoff
    · rw [List.length_append, ba_size]; exact hroom
    · simp [hsl]; omega
    · rw [htk, bl_str, ← bl_app, ← bl_len (l ++ s.data.toList)]; simp only []; exact List.take_left
  · have holds : ∀ j u, (bl l)[j]? = some u → w.cell? ((⟨g, 0, none⟩ : Addr).add j) = some u := fun j u hu => by
      rw [at0, blk_cell hg j]
      rw [← htk, List.getElem?_take] at hu
      split at hu
      · simpa using hu
      · cases hu
    have hr := Lib.run_append_grow_string (P := Tryd.prog) w 80 9 ty 5 i0 (.int .u8 0) u56 u9 hi hz0 ⟨g, 0, none⟩ l.length cap (bl l) (by rw [bl_len, hz1, Nat.mul_one]) holds s (by omega) (by omega) (by rw [hz2]; exact growslice_fits (by omega) (by omega))
    have hge := grownCap_ge w (l.length + s.size) cap 5
    refine ⟨w.heap.size, _, _, hr, ⟨_, (0, 0), Go.heap_alloc_new w.drew _, .inl rfl, by rw [List.length_append, ba_size]; exact hge, grownCap_le_maxLen w _ cap 5 (by unfold maxLen; omega), ?_, ?_⟩, (Only.refl _ _).drew.alloc _, .inr rfl⟩
    · have hz1' : (Value.int IntKind.u8 0).cells.size = 1 := rfl
      simp only [Array.size_append, List.size_toArray, size_zeroCells, hz1', bl_len, hsl]
      omega
    · simp only [Array.toList_append, List.append_assoc]
      rw [bl_str, ← List.append_assoc, ← bl_app, ← bl_len (l ++ s.data.toList)]
      exact List.take_left
def pcells (l : List (Nat × Nat)) : List Value := l.flatMap fun p => [.int .i64 (p.1 : Int), .int .i64 (p.2 : Int)]
theorem pcells_len (l : List (Nat × Nat)) : (pcells l).length = l.length * 2 := by
  induction l with
  | nil => rfl
  | cons p r ih => simp only [pcells, List.flatMap_cons, List.length_append, List.length_cons, List.length_nil] at ih ⊢; omega
theorem pcells_app (a b : List (Nat × Nat)) : pcells (a ++ b) = pcells a ++ pcells b := by simp [pcells]
theorem pcells_get (l : List (Nat × Nat)) (i : Nat) (hi : i < l.length) : (pcells l)[i * 2]? = some (.int .i64 (l[i].1 : Int)) ∧ (pcells l)[i * 2 + 1]? = some (.int .i64 (l[i].2 : Int)) := by
  induction l generalizing i with
  | nil => cases hi
  | cons p r ih =>
    cases i with
    | zero => simp [pcells]
    | succ i =>
      have := ih i (by simpa using hi)
      simp only [pcells, List.flatMap_cons] at this ⊢
      rw [List.getElem?_append_right (by simp; omega), List.getElem?_append_right (by simp; omega)]
      simp only [List.length_cons, List.length_nil, List.getElem_cons_succ]
      rw [show (i + 1) * 2 - (0 + 1 + 1) = i * 2 from by omega, show (i + 1) * 2 + 1 - (0 + 1 + 1) = i * 2 + 1 from by omega]
      exact this
end Go.Proofs.YtmoihgniglomiaaDoor
namespace Go.Proofs.YtmoihgniglomiaaDoor
open Go.RowKit Go.Sort
structure Fp where
  b : Nat
  g0 : Nat
  g1 : Nat
  c0 : Nat
  c1 : Nat
  rv : Value
def Fp.own (p : Fp) : List Nat := p.b :: p.g0 :: p.g1 :: p.rv.ownBlock.toList
def Fp.v (p : Fp) : Value := .pointer (some ⟨p.b, 0, none⟩)
structure Dk (w : World) (p : Fp) (S : St) : Prop where
  blk : Bk 93 w p.b #[.slice (some ⟨p.g0, 0, none⟩) S.f0.length p.c0, .int .i64 (S.s0 : Int), .slice (some ⟨p.g1, 0, none⟩) S.f1.length p.c1, .int .i64 (S.s1 : Int), p.rv, .bool S.gone, .int .i64 (S.inn : Int), .int .i64 (S.lft : Int)]
  r0 : By w p.g0 p.c0 S.f0
  r1 : By w p.g1 p.c1 S.f1
  rr : w.ownsRow 0 105 2 p.rv S.row.length (pcells S.row)
  ne : p.g0 ≠ p.g1
  wf : S.Wf
theorem owns_of {w w' : World} {v : Value} {n : Nat} {xs : List Value} (h : w.ownsRow 0 105 2 v n xs) (e : ∀ g, v.ownBlock = some g → g < w.heap.size → w'.heap[g]? = w.heap[g]?) : w'.ownsRow 0 105 2 v n xs := by
  obtain ⟨hl, h | ⟨g, cap, cur, hv, hb, hg, rest⟩⟩ := h
  · exact ⟨hl, .inl h⟩
  · exact ⟨hl, .inr ⟨g, cap, cur, hv, hb, (e g (by rw [hv]; rfl) (blk_lt hg)).trans hg, rest⟩⟩
theorem Dk.only {w w' : World} {p : Fp} {S : St} (h : Dk w p S) {L : List Nat} (ho : Only L w w') (hL : ∀ k ∈ p.own, k ∉ L) : Dk w' p S :=
  ⟨h.blk.only ho (hL _ (by simp [Fp.own])), h.r0.only ho (hL _ (by simp [Fp.own])), h.r1.only ho (hL _ (by simp [Fp.own])), owns_of h.rr (fun g hg hlt => ho.block g hlt (hL g (by simp [Fp.own, hg]))), h.ne, h.wf⟩
theorem Dk.below {w w' : World} {p : Fp} {S : St} (h : Dk w p S) (hb : Below w.heap.size w w') : Dk w' p S :=
  h.only (L := []) (.of hb) (fun _ _ => by simp)
theorem owns_lt {w : World} {v : Value} {n : Nat} {xs : List Value} (h : w.ownsRow 0 105 2 v n xs) {g : Nat} (e : v.ownBlock = some g) : g < w.heap.size := by
  obtain ⟨hl, h | ⟨g', cap, cur, hv, hb, hg, rest⟩⟩ := h
  · rw [h.1] at e; cases e
  · rw [hv] at e; cases e; exact blk_lt hg
theorem Dk.lt {w : World} {p : Fp} {S : St} (h : Dk w p S) : ∀ k ∈ p.own, k < w.heap.size := by
  intro k hk
  simp only [Fp.own, List.mem_cons, Option.mem_toList] at hk
  rcases hk with rfl | rfl | rfl | hk
  · exact h.blk.lt
  · exact h.r0.lt
  · exact h.r1.lt
  · exact owns_lt h.rr hk
theorem there_any (f : Int) (w : World) : Calls Tryd.prog 81 #[.int .i64 f] w fun e w' => e = .returned (.bool (St.there f)) ∧ w = w' := by
  by_cases h0 : 0 ≤ f
  · by_cases h1 : f < 2
    · have ht : St.there f = true := by simp [St.there, h0, h1]
      rw [ht]
      clear ht
      have h0' : decide (0 ≤ f) = true := by simpa using h0
      have h1' : decide (f < 2) = true := by simpa using h1
      go_enter Tryd.func81, Tryd.ntmps81
      go_wp2
      go_ret
      exact ⟨rfl, rfl⟩
    · have ht : St.there f = false := by simp [St.there, h0, h1]
      rw [ht]
      clear ht
      have h0' : decide (0 ≤ f) = true := by simpa using h0
      have h1' : decide (f < 2) = false := by simpa using h1
      go_enter Tryd.func81, Tryd.ntmps81
      go_wp2
      go_ret
      exact ⟨rfl, rfl⟩
  · have ht : St.there f = false := by simp [St.there, h0]
    rw [ht]
    clear ht
    have h0' : decide (0 ≤ f) = false := by simpa using h0
    go_enter Tryd.func81, Tryd.ntmps81
    go_wp2
    go_ret
    exact ⟨rfl, rfl⟩
theorem waiting45 (a : Option Addr) (n c s : Nat) (h : s ≤ n) (hn : n ≤ 1048576) (w : World) :
    Calls Tryd.prog 88 #[.agg #[.slice a n c, .int .i64 (s : Int)]] w fun e w' => e = .returned (.int .i64 ((n - s : Nat) : Int)) ∧ Below w.heap.size w w' := by
  have e : ((n - s : Nat) : Int) = (n : Int) - s := by omega
  rw [e]
  clear e
  go_enter Tryd.func88, Tryd.ntmps88
  go_wp2
  go_ret
  exact ⟨rfl, by go_grown⟩
theorem keep {f : FuncId} {args : Array Value} {W : World} {R : Ending → Prop} (B : Nat) (w : World) (h : Calls Tryd.prog f args W fun e w' => R e ∧ Below W.heap.size W w') (hb : Below B w W) (hB : B ≤ w.heap.size) :
    Calls Tryd.prog f args W fun e w' => R e ∧ Below B w w' ∧ Below W.heap.size W w' :=
  h.mono fun _ _ h => ⟨h.1, hb.trans (h.2.mono (Nat.le_trans hB hb.size)), h.2⟩
set_option maxHeartbeats 4000000 in
theorem waiting20 (b : Nat) (a0 a1 : Option Addr) (n0 n1 c0 c1 s0 s1 : Nat) (h0 : s0 ≤ n0) (h1 : s1 ≤ n1) (hn0 : n0 ≤ 1048576) (hn1 : n1 ≤ 1048576) (v4 v5 v6 v7 : Value) (w : World)
    (K : Hid (Bk 93 w b #[.slice a0 n0 c0, .int .i64 (s0 : Int), .slice a1 n1 c1, .int .i64 (s1 : Int), v4, v5, v6, v7])) :
    Calls Tryd.prog 57 #[.pointer (some ⟨b, 0, none⟩)] w fun e w' => e = .returned (.int .i64 (((n0 - s0) + (n1 - s1) : Nat) : Int)) ∧ Below w.heap.size w w' := by
  have i0 := K.out.cell 0
  have i1 := K.out.cell 1
  have i2 := K.out.cell 2
  have i3 := K.out.cell 3
  have hi0 : ∀ w, (Instr.index 88 (.agg #[.slice a0 n0 c0, .int .i64 (s0 : Int), .slice a1 n1 c1, .int .i64 (s1 : Int)]) (.int .i64 0)).run Tryd.prog w = .ok (.agg #[.slice a0 n0 c0, .int .i64 (s0 : Int)]) w := fun _ => by kernel_rfl
  have hi1 : ∀ w, (Instr.index 88 (.agg #[.slice a0 n0 c0, .int .i64 (s0 : Int), .slice a1 n1 c1, .int .i64 (s1 : Int)]) (.int .i64 1)).run Tryd.prog w = .ok (.agg #[.slice a1 n1 c1, .int .i64 (s1 : Int)]) w := fun _ => by kernel_rfl
  go_enter Tryd.func57, Tryd.ntmps57
  go_wp2_with fail
  refine wp_loop_rounds 3 ?_
  rw [rounds_succ]
  go_wp2_with fail
  refine (keep w.heap.size w (waiting45 _ _ _ _ h0 hn0 _) (by go_grown) (Nat.le_refl _)).mono ?_
  rintro e w1 ⟨rfl, hb1, -⟩
  have HB1 := Lib.hid hb1
  clear hb1
  go_wp2_with fail
  rw [rounds_succ]
  go_wp2_with fail
  refine (keep w.heap.size w (waiting45 _ _ _ _ h1 hn1 _) (by have := HB1.out; have := this.size; have := HB1.out; go_grown) (Nat.le_refl _)).mono ?_
  rintro e w2 ⟨rfl, hb2, -⟩
  have HB2 := Lib.hid hb2
  clear hb2
  go_wp2_with fail
  rw [rounds_succ]
  go_wp2_with fail
  go_ret
  refine ⟨?_, HB2.out⟩
  congr 2
theorem waiting_any (p : Fp) (S : St) (w : World) (h : Dk w p S) :
    Calls Tryd.prog 57 #[p.v] w fun e w' => e = .returned (.int .i64 (S.waiting : Int)) ∧ Below w.heap.size w w' := by
  have h0 := h.wf.t0
  have h1 := h.wf.t1
  exact waiting20 p.b _ _ _ _ _ _ _ _ (by omega) (by omega) h.wf.l0 h.wf.l1 _ _ _ _ w (Lib.hid h.blk)
set_option maxHeartbeats 4000000 in
theorem size23 (b : Nat) (a0 a1 : Option Addr) (n0 n1 c0 c1 : Nat) (v1 v3 v4 v5 v6 v7 : Value) (f : Int) (w : World)
    (K : Hid (Bk 93 w b #[.slice a0 n0 c0, v1, .slice a1 n1 c1, v3, v4, v5, v6, v7])) :
    Calls Tryd.prog 41 #[.pointer (some ⟨b, 0, none⟩), .int .i64 f] w fun e w' => e = .returned (.int .i64 (if St.there f then ((if f.toNat = 0 then n0 else n1 : Nat) : Int) else -1)) ∧ w = w' := by
  have i0 := K.out.cell 0
  have i2 := K.out.cell 2
  rcases (by omega : f = 0 ∨ f = 1 ∨ ¬ (0 ≤ f ∧ f < 2)) with rfl | rfl | hf
  · go_enter Tryd.func41, Tryd.ntmps41
    go_wp2_with fail
    refine (there_any _ _).mono ?_
    rintro e w' ⟨rfl, rfl⟩
    rw [show St.there 0 = true from rfl]
    go_wp2_with fail
    go_ret
    exact ⟨rfl, rfl⟩
  · go_enter Tryd.func41, Tryd.ntmps41
    go_wp2_with fail
    refine (there_any _ _).mono ?_
    rintro e w' ⟨rfl, rfl⟩
    rw [show St.there 1 = true from rfl]
    go_wp2_with fail
    go_ret
    exact ⟨rfl, rfl⟩
  · have ht : St.there f = false := by simpa [St.there] using hf
    rw [ht]
    have HT := Lib.hid ht
    clear ht hf
    go_enter Tryd.func41, Tryd.ntmps41
    go_wp2_with fail
    refine (there_any _ _).mono ?_
    rintro e w' ⟨rfl, rfl⟩
    rw [HT.out]
    go_wp2_with fail
    go_ret
    exact ⟨rfl, rfl⟩
theorem size_any (p : Fp) (S : St) (f : Int) (w : World) (h : Dk w p S) :
    Calls Tryd.prog 41 #[p.v, .int .i64 f] w fun e w' => e = .returned (.int .i64 (S.size f)) ∧ w = w' := by
  have e : S.size f = (if St.there f then ((if f.toNat = 0 then S.f0.length else S.f1.length : Nat) : Int) else -1) := by
    unfold St.size St.file
    split
    · split <;> rfl
    · rfl
  rw [e]
  exact size23 p.b _ _ _ _ _ _ _ _ _ _ _ _ f w (Lib.hid h.blk)
theorem dead27 (b : Nat) (v0 v1 v2 v3 v4 v6 v7 : Value) (x : Bool) (w : World) (K : Hid (Bk 93 w b #[v0, v1, v2, v3, v4, .bool x, v6, v7])) :
    Calls Tryd.prog 28 #[.pointer (some ⟨b, 0, none⟩)] w fun e w' => e = .returned (.bool x) ∧ w = w' := by
  have i5 := K.out.cell 5
  go_enter Tryd.func28, Tryd.ntmps28
  go_wp2_with fail
  go_ret
  exact ⟨rfl, rfl⟩
theorem dead_any (p : Fp) (S : St) (w : World) (h : Dk w p S) :
    Calls Tryd.prog 28 #[p.v] w fun e w' => e = .returned (.bool S.gone) ∧ w = w' := dead27 p.b _ _ _ _ _ _ _ _ w (Lib.hid h.blk)
def Mut (w : World) (p : Fp) (w' : World) (p' : Fp) (S' : St) : Prop := Dk w' p' S' ∧ p'.b = p.b ∧ Only p.own w w' ∧ ∀ k ∈ p'.own, k ∈ p.own ∨ w.heap.size ≤ k
set_option maxHeartbeats 4000000 in
theorem revive28 (b : Nat) (v0 v1 v2 v3 v4 v5 v6 v7 : Value) (w : World) (K : Hid (Bk 93 w b #[v0, v1, v2, v3, v4, v5, v6, v7])) :
    Calls Tryd.prog 29 #[.pointer (some ⟨b, 0, none⟩)] w fun e w' => e = .returned (.tuple #[]) ∧ Bk 93 w' b #[v0, v1, v2, v3, v4, .bool false, .int .i64 0, .int .i64 0] ∧ Only [b] w w' := by
  have i5 := K.out.cell 5
  have i6 := K.out.cell 6
  have i7 := K.out.cell 7
  have f5 := K.out.fro 5
  have f6 := K.out.fro 6
  have f7 := K.out.fro 7
  go_enter Tryd.func29, Tryd.ntmps29
  go_wp2_with fail
  go_returns
  have p := Bk.same (i := 7) (v := .int .i64 0) (Bk.same (i := 6) (v := .int .i64 0) (Bk.same (i := 5) (v := .bool false) K.out))
  exact ⟨rfl, by simpa using p, (((Only.refl _ _).setCell _ (by simp) _).setCell _ (by simp) _).setCell _ (by simp) _⟩
end Go.Proofs.YtmoihgniglomiaaDoor
namespace Go.Proofs.YtmoihgniglomiaaDoor
open Go.RowKit Go.Sort
theorem piece_cell {w : World} {g : Nat} {cur : Array Value} {row : List (Nat × Nat)} (hg : w.heap[g]? = some (.cells cur 105 (0, 0))) {m : Nat} (hc : cur.toList.take m = pcells row) (i : Nat) (hi : i < row.length) :
    w.cell? ⟨g, i * 2, none⟩ = some (.int .i64 (row[i].1 : Int)) ∧ w.cell? ⟨g, i * 2 + 1, none⟩ = some (.int .i64 (row[i].2 : Int)) := by
  obtain ⟨h0, h1⟩ := pcells_get row i hi
  rw [← hc] at h0 h1
  rw [List.getElem?_take] at h0 h1
  constructor
  · rw [blk_cell hg]
    split at h0
    · simpa using h0
    · cases h0
  · rw [blk_cell hg]
    split at h1
    · simpa using h1
    · cases h1
theorem u74 : Tryd.prog.underlying 132 = some (.array 2 3) := by kernel_rfl
theorem i74 : (Tryd.prog.info? 132).map (·.size) = some 2 := by kernel_rfl
theorem ret_cell74 {fn : Func} {R : Ending → World → Prop} {a : Act} {w : World} {p : Tmp} (h : fn.results = #[.cell p 132]) (g x y : Nat) (hp : a.tmps.getD p undef = .pointer (some ⟨g, 0, none⟩)) (hk : Bk 132 w g #[.int .i64 (x : Int), .int .i64 (y : Int)]) (hd : a.defers = []) (hR : R (.returned (.agg #[.int .i64 (x : Int), .int .i64 (y : Int)])) w) : bodyPost Tryd.prog fn R .ret a w :=
  bodyPost_ret (v := .agg #[.int .i64 (x : Int), .int .i64 (y : Int)]) (results_cell_row h a.tmps w g 132 #[.int .i64 (x : Int), .int .i64 (y : Int)] (0, 0) _ hp hk u74 rfl i74) hd hR
set_option maxHeartbeats 8000000 in
theorem left44 (b g n cap : Nat) (a0 a1 : Option Addr) (n0 n1 c0 c1 : Nat) (v5 v6 v7 : Value) (s0 s1 : Nat) (row : List (Nat × Nat)) (cur : Array Value) (hok : Hid (okRow row)) (hn : n = row.length) (hn2 : n ≤ 2097152) (hs0 : s0 + tot 0 row ≤ 1048576) (hs1 : s1 + tot 1 row ≤ 1048576) (k : Int) (hk : k ≤ 9223372036854775807) (w : World)
    (K : Hid (Bk 93 w b #[.slice a0 n0 c0, .int .i64 (s0 : Int), .slice a1 n1 c1, .int .i64 (s1 : Int), .slice (some ⟨g, 0, none⟩) n cap, v5, v6, v7])) (KR : Hid (w.heap[g]? = some (.cells cur 105 (0, 0)))) (HC : Hid (cur.toList.take (n * 2) = pcells row)) :
    Calls Tryd.prog 91 #[.pointer (some ⟨b, 0, none⟩), .int .i64 k] w fun e w' => e = .returned (.agg #[.int .i64 ((leftL row k.toNat s0 s1).1 : Int), .int .i64 ((leftL row k.toNat s0 s1).2 : Int)]) ∧ Below w.heap.size w w' := by
  have i0 := (((K.out.alloc (o := (.cells #[.int .i64 0, .int .i64 0] 132))).alloc (o := (.cells #[.int .i64 0, .int .i64 0] 132)))).cell 0
  have i1 := (((K.out.alloc (o := (.cells #[.int .i64 0, .int .i64 0] 132))).alloc (o := (.cells #[.int .i64 0, .int .i64 0] 132)))).cell 1
  have i2 := (((K.out.alloc (o := (.cells #[.int .i64 0, .int .i64 0] 132))).alloc (o := (.cells #[.int .i64 0, .int .i64 0] 132)))).cell 2
  have i3 := (((K.out.alloc (o := (.cells #[.int .i64 0, .int .i64 0] 132))).alloc (o := (.cells #[.int .i64 0, .int .i64 0] 132)))).cell 3
  have i4 : ((((w.alloc (.cells #[.int .i64 0, .int .i64 0] 132)).alloc (.cells #[.int .i64 (s0 : Int), .int .i64 (s1 : Int)] 132)).alloc (.cells #[.slice a0 n0 c0, .int .i64 (s0 : Int)] 87)).alloc (.cells #[.slice a1 n1 c1, .int .i64 (s1 : Int)] 87)).cell? ⟨b, 4, none⟩ = some (.slice (some ⟨g, 0, none⟩) n cap) := K.out.alloc.alloc.alloc.alloc.cell 4
  have hi0 : ∀ w, (Instr.index 88 (.agg #[.slice a0 n0 c0, .int .i64 (s0 : Int), .slice a1 n1 c1, .int .i64 (s1 : Int)]) (.int .i64 0)).run Tryd.prog w = .ok (.agg #[.slice a0 n0 c0, .int .i64 (s0 : Int)]) w := fun _ => by kernel_rfl
  have hi1 : ∀ w, (Instr.index 88 (.agg #[.slice a0 n0 c0, .int .i64 (s0 : Int), .slice a1 n1 c1, .int .i64 (s1 : Int)]) (.int .i64 1)).run Tryd.prog w = .ok (.agg #[.slice a1 n1 c1, .int .i64 (s1 : Int)]) w := fun _ => by kernel_rfl
  go_enter Tryd.func91, Tryd.ntmps91
  go_wp2_with fail
  refine wp_loop_rounds 3 ?_
  rw [rounds_succ]
  go_wp2_with fail
  rw [rounds_succ]
  go_wp2_with fail
  rw [rounds_succ]
  go_wp2_with fail
  have KO : Hid (Bk 132 ((((w.alloc (.cells #[.int .i64 0, .int .i64 0] 132)).alloc (.cells #[.int .i64 (s0 : Int), .int .i64 (s1 : Int)] 132)).alloc (.cells #[.slice a0 n0 c0, .int .i64 (s0 : Int)] 87)).alloc (.cells #[.slice a1 n1 c1, .int .i64 (s1 : Int)] 87)) (w.heap.size + 1) #[.int .i64 (s0 : Int), .int .i64 (s1 : Int)]) := Lib.hid (Bk.alloc (Bk.alloc (Bk.new (by simp))))
  have KZ : Hid (Bk 132 ((((w.alloc (.cells #[.int .i64 0, .int .i64 0] 132)).alloc (.cells #[.int .i64 (s0 : Int), .int .i64 (s1 : Int)] 132)).alloc (.cells #[.slice a0 n0 c0, .int .i64 (s0 : Int)] 87)).alloc (.cells #[.slice a1 n1 c1, .int .i64 (s1 : Int)] 87)) w.heap.size #[.int .i64 0, .int .i64 0]) := Lib.hid (Bk.alloc (Bk.alloc (Bk.alloc (Bk.new rfl))))
  have HB : Hid (Below w.heap.size w ((((w.alloc (.cells #[.int .i64 0, .int .i64 0] 132)).alloc (.cells #[.int .i64 (s0 : Int), .int .i64 (s1 : Int)] 132)).alloc (.cells #[.slice a0 n0 c0, .int .i64 (s0 : Int)] 87)).alloc (.cells #[.slice a1 n1 c1, .int .i64 (s1 : Int)] 87))) := Lib.hid (by go_grown)
  have KR1 : Hid (((((w.alloc (.cells #[.int .i64 0, .int .i64 0] 132)).alloc (.cells #[.int .i64 (s0 : Int), .int .i64 (s1 : Int)] 132)).alloc (.cells #[.slice a0 n0 c0, .int .i64 (s0 : Int)] 87)).alloc (.cells #[.slice a1 n1 c1, .int .i64 (s1 : Int)] 87)).heap[g]? = some (.cells cur 105 (0, 0))) := Lib.hid ((HB.out.block g (blk_lt KR.out)).trans KR.out)
  have HT := Lib.hid hs0
  have HU := Lib.hid hs1
  have KR0 := KR
  clear i0 i1 i2 i3 i4 hi0 hi1 hs0 hs1 K KR
  generalize ((((w.alloc (.cells #[.int .i64 0, .int .i64 0] 132)).alloc (.cells #[.int .i64 (s0 : Int), .int .i64 (s1 : Int)] 132)).alloc (.cells #[.slice a0 n0 c0, .int .i64 (s0 : Int)] 87)).alloc (.cells #[.slice a1 n1 c1, .int .i64 (s1 : Int)] 87)) = w1 at KO KZ HB KR1 ⊢
  have hm0 : max k 0 = ((k.toNat : Nat) : Int) := by omega
  rw [hm0]
  have hkn : k.toNat ≤ 9223372036854775807 := by omega
  clear hm0
  have HL : Hid (∀ kk, kk = k.toNat → leftL row kk s0 s1 = leftL row k.toNat s0 s1) := Lib.hid (fun kk e => by rw [e])
  generalize hK : leftL row k.toNat s0 s1 = T at HL ⊢
  have HK := Lib.hid hK
  clear hK
  generalize k.toNat = K0 at hkn HL ⊢
  go_loopw [1, 31] (fun kv iv wr => ∃ i kk a b' : Nat, i ≤ n ∧ iv = .int .i64 (i : Int) ∧ kv = .int .i64 (kk : Int) ∧ kk ≤ 9223372036854775807 ∧ Hid (leftL (row.drop i) kk a b' = T) ∧ Hid (a + tot 0 (row.drop i) ≤ 1048576) ∧ Hid (b' + tot 1 (row.drop i) ≤ 1048576) ∧ Hid (Bk 132 wr (w.heap.size + 1) #[.int .i64 (a : Int), .int .i64 (b' : Int)]) ∧ Hid (Bk 132 wr w.heap.size #[.int .i64 0, .int .i64 0]) ∧ Hid (wr.heap[g]? = some (.cells cur 105 (0, 0))) ∧ Hid (Below w.heap.size w wr)) (fun _ i _ => n - (intOf i).toNat)
  case atStart => exact ⟨0, K0, s0, s1, Nat.zero_le _, rfl, rfl, hkn, Lib.hid (HL.out _ rfl), HT, HU, KO, KZ, KR1, HB⟩
  case round =>
    obtain ⟨i, kk, a, b', hi, rfl, rfl, hkk, HE, HA, HB', JO, JZ, JR, JB⟩ := hrel
    by_cases hlt : i < n
    · obtain ⟨pf, ps, hp⟩ : ∃ pf ps, row[i]'(by omega) = (pf, ps) := ⟨_, _, rfl⟩
      have hdrop : row.drop i = (pf, ps) :: row.drop (i + 1) := by rw [List.drop_eq_getElem_cons (by omega), hp]
      have hcell := piece_cell JR.out HC.out i (by omega)
      rw [hp] at hcell
      obtain ⟨hc0, hc1⟩ := hcell
      simp only at hc0 hc1
      have hpf : pf < 2 := (hok.out (pf, ps) (hp ▸ List.getElem_mem (by omega))).1
      have HE' := HE.out
      have HA' := HA.out
      have HB'' := HB'.out
      rw [hdrop] at HE' HA' HB''
      simp only [leftL, tot] at HE' HA' HB''
      clear hp hdrop
      rcases (by omega : pf = 0 ∨ pf = 1) with rfl | rfl
      · simp only [if_true, Nat.zero_ne_one, if_false, Nat.zero_add] at HE' HA' HB''
        have HE1 := Lib.hid HE'
        have HA1 : Hid (a + min ps kk + tot 0 (row.drop (i + 1)) ≤ 1048576) := Lib.hid (by omega)
        have HB1 : Hid (b' + tot 1 (row.drop (i + 1)) ≤ 1048576) := Lib.hid (by omega)
        have hab : a + ps ≤ 1048576 := by omega
        clear HE' HA' HB'' HE HA HB' hpf
        have KA := Lib.hid (JO.out.alloc (o := .cells #[.int .i64 0, .int .i64 (ps : Int)] 105))
        have j0 := KA.out.cell 0
        have fj0 := KA.out.fro 0
        have hmn : ((min ps kk : Nat) : Int) = min (ps : Int) (kk : Int) := by omega
        have e1 : IntKind.i64.wrap ((a : Int) + min (ps : Int) (kk : Int)) = ((a + min ps kk : Nat) : Int) := by rw [IntWalk.i64_in _ (by omega)]; omega
        have e2 : IntKind.i64.wrap ((kk : Int) - min (ps : Int) (kk : Int)) = ((kk - min ps kk : Nat) : Int) := by rw [IntWalk.i64_in _ (by omega)]; omega
        have E3 : Hid ((a : Int) + min (ps : Int) (kk : Int) = ((a + min ps kk : Nat) : Int)) := Lib.hid (by omega)
        have E4 : Hid ((kk : Int) - min (ps : Int) (kk : Int) = ((kk - min ps kk : Nat) : Int)) := Lib.hid (by omega)
        clear hmn
        go_wp2_with fail
        have hbk : Bk 132 ((wr.alloc (.cells #[.int .i64 0, .int .i64 (ps : Int)] 105)).setCell ⟨w.heap.size + 1, 0, none⟩ (.int .i64 (((a + min ps kk : Nat)) : Int))) (w.heap.size + 1) #[.int .i64 ((a + min ps kk : Nat) : Int), .int .i64 (b' : Int)] := by
          have := Bk.same (i := 0) (v := .int .i64 ((a + min ps kk : Nat) : Int)) KA.out
          simpa using this
        have hbz := (Bk.oth (a := ⟨w.heap.size + 1, 0, none⟩) (v := .int .i64 (((a + min ps kk : Nat)) : Int)) (show w.heap.size ≠ w.heap.size + 1 by omega) (JZ.out.alloc (o := .cells #[.int .i64 0, .int .i64 (ps : Int)] 105)))
        have hbb : Below w.heap.size w ((wr.alloc (.cells #[.int .i64 0, .int .i64 (ps : Int)] 105)).setCell ⟨w.heap.size + 1, 0, none⟩ (.int .i64 (((a + min ps kk : Nat)) : Int))) := by
          have hb := JB.out
          have := hb.size
          go_grown
        have hgr := (hbb.block g (blk_lt KR0.out)).trans KR0.out
        go_roundw
        case rel => exact ⟨i + 1, kk - min ps kk, a + min ps kk, b', by omega, by go_num, by first | rfl | (rw [E4.out]), by omega, HE1, HA1, HB1, Lib.hid hbk, Lib.hid hbz, Lib.hid hgr, Lib.hid hbb⟩
        case measure => simp [intOf]; omega
      · simp only [if_true, Nat.one_ne_zero, if_false, Nat.zero_add] at HE' HA' HB''
        have HE1 := Lib.hid HE'
        have HA1 : Hid (a + tot 0 (row.drop (i + 1)) ≤ 1048576) := Lib.hid (by omega)
        have HB1 : Hid (b' + min ps kk + tot 1 (row.drop (i + 1)) ≤ 1048576) := Lib.hid (by omega)
        have hab : b' + ps ≤ 1048576 := by omega
        clear HE' HA' HB'' HE HA HB' hpf
        have KA := Lib.hid (JO.out.alloc (o := .cells #[.int .i64 1, .int .i64 (ps : Int)] 105))
        have j0 := KA.out.cell 1
        have fj0 := KA.out.fro 1
        have hmn : ((min ps kk : Nat) : Int) = min (ps : Int) (kk : Int) := by omega
        have e1 : IntKind.i64.wrap ((b' : Int) + min (ps : Int) (kk : Int)) = ((b' + min ps kk : Nat) : Int) := by rw [IntWalk.i64_in _ (by omega)]; omega
        have e2 : IntKind.i64.wrap ((kk : Int) - min (ps : Int) (kk : Int)) = ((kk - min ps kk : Nat) : Int) := by rw [IntWalk.i64_in _ (by omega)]; omega
        have E3 : Hid ((b' : Int) + min (ps : Int) (kk : Int) = ((b' + min ps kk : Nat) : Int)) := Lib.hid (by omega)
        have E4 : Hid ((kk : Int) - min (ps : Int) (kk : Int) = ((kk - min ps kk : Nat) : Int)) := Lib.hid (by omega)
        clear hmn
        go_wp2_with fail
        have hbk : Bk 132 ((wr.alloc (.cells #[.int .i64 1, .int .i64 (ps : Int)] 105)).setCell ⟨w.heap.size + 1, 1, none⟩ (.int .i64 (((b' + min ps kk : Nat)) : Int))) (w.heap.size + 1) #[.int .i64 (a : Int), .int .i64 ((b' + min ps kk : Nat) : Int)] := by
          have := Bk.same (i := 1) (v := .int .i64 ((b' + min ps kk : Nat) : Int)) KA.out
          simpa using this
        have hbz := (Bk.oth (a := ⟨w.heap.size + 1, 1, none⟩) (v := .int .i64 (((b' + min ps kk : Nat)) : Int)) (show w.heap.size ≠ w.heap.size + 1 by omega) (JZ.out.alloc (o := .cells #[.int .i64 1, .int .i64 (ps : Int)] 105)))
        have hbb : Below w.heap.size w ((wr.alloc (.cells #[.int .i64 1, .int .i64 (ps : Int)] 105)).setCell ⟨w.heap.size + 1, 1, none⟩ (.int .i64 (((b' + min ps kk : Nat)) : Int))) := by
          have hb := JB.out
          have := hb.size
          go_grown
        have hgr := (hbb.block g (blk_lt KR0.out)).trans KR0.out
        go_roundw
        case rel => exact ⟨i + 1, kk - min ps kk, a, b' + min ps kk, by omega, by go_num, by first | rfl | (rw [E4.out]), by omega, HE1, HA1, HB1, Lib.hid hbk, Lib.hid hbz, Lib.hid hgr, Lib.hid hbb⟩
        case measure => simp [intOf]; omega
    · have hin : i = n := by omega
      have j0 := JO.out.cell 0
      have j1 := JO.out.cell 1
      have z0 := JZ.out.cell 0
      have z1 := JZ.out.cell 1
      have fz0 := JZ.out.fro 0
      have fz1 := JZ.out.fro 1
      go_wp2_with fail
      have hd : row.drop i = [] := List.drop_eq_nil_of_le (by omega)
      have HE' := HE.out
      rw [hd] at HE'
      simp only [leftL] at HE'
      subst HE'
      refine ret_cell74 rfl w.heap.size a b' rfl (by have := Bk.same (i := 1) (v := .int .i64 (b' : Int)) (Bk.same (i := 0) (v := .int .i64 (a : Int)) JZ.out); simpa using this) rfl ⟨by simp [HK.out], ?_⟩
      have hb := JB.out
      have := hb.size
      go_grown
set_option maxHeartbeats 8000000 in
theorem left44n (b : Nat) (a0 a1 : Option Addr) (n0 n1 c0 c1 : Nat) (v5 v6 v7 : Value) (s0 s1 : Nat) (k : Int) (hk : k ≤ 9223372036854775807) (w : World)
    (K : Hid (Bk 93 w b #[.slice a0 n0 c0, .int .i64 (s0 : Int), .slice a1 n1 c1, .int .i64 (s1 : Int), .slice none 0 0, v5, v6, v7])) :
    Calls Tryd.prog 91 #[.pointer (some ⟨b, 0, none⟩), .int .i64 k] w fun e w' => e = .returned (.agg #[.int .i64 (s0 : Int), .int .i64 (s1 : Int)]) ∧ Below w.heap.size w w' := by
  have i0 := (((K.out.alloc (o := (.cells #[.int .i64 0, .int .i64 0] 132))).alloc (o := (.cells #[.int .i64 0, .int .i64 0] 132)))).cell 0
  have i1 := (((K.out.alloc (o := (.cells #[.int .i64 0, .int .i64 0] 132))).alloc (o := (.cells #[.int .i64 0, .int .i64 0] 132)))).cell 1
  have i2 := (((K.out.alloc (o := (.cells #[.int .i64 0, .int .i64 0] 132))).alloc (o := (.cells #[.int .i64 0, .int .i64 0] 132)))).cell 2
  have i3 := (((K.out.alloc (o := (.cells #[.int .i64 0, .int .i64 0] 132))).alloc (o := (.cells #[.int .i64 0, .int .i64 0] 132)))).cell 3
  have i4 : ((((w.alloc (.cells #[.int .i64 0, .int .i64 0] 132)).alloc (.cells #[.int .i64 (s0 : Int), .int .i64 (s1 : Int)] 132)).alloc (.cells #[.slice a0 n0 c0, .int .i64 (s0 : Int)] 87)).alloc (.cells #[.slice a1 n1 c1, .int .i64 (s1 : Int)] 87)).cell? ⟨b, 4, none⟩ = some (.slice none 0 0) := K.out.alloc.alloc.alloc.alloc.cell 4
  have hi0 : ∀ w, (Instr.index 88 (.agg #[.slice a0 n0 c0, .int .i64 (s0 : Int), .slice a1 n1 c1, .int .i64 (s1 : Int)]) (.int .i64 0)).run Tryd.prog w = .ok (.agg #[.slice a0 n0 c0, .int .i64 (s0 : Int)]) w := fun _ => by kernel_rfl
  have hi1 : ∀ w, (Instr.index 88 (.agg #[.slice a0 n0 c0, .int .i64 (s0 : Int), .slice a1 n1 c1, .int .i64 (s1 : Int)]) (.int .i64 1)).run Tryd.prog w = .ok (.agg #[.slice a1 n1 c1, .int .i64 (s1 : Int)]) w := fun _ => by kernel_rfl
  go_enter Tryd.func91, Tryd.ntmps91
  go_wp2_with fail
  refine wp_loop_rounds 3 ?_
  rw [rounds_succ]
  go_wp2_with fail
  rw [rounds_succ]
  go_wp2_with fail
  rw [rounds_succ]
  go_wp2_with fail
  have KO : Hid (Bk 132 ((((w.alloc (.cells #[.int .i64 0, .int .i64 0] 132)).alloc (.cells #[.int .i64 (s0 : Int), .int .i64 (s1 : Int)] 132)).alloc (.cells #[.slice a0 n0 c0, .int .i64 (s0 : Int)] 87)).alloc (.cells #[.slice a1 n1 c1, .int .i64 (s1 : Int)] 87)) (w.heap.size + 1) #[.int .i64 (s0 : Int), .int .i64 (s1 : Int)]) := Lib.hid (Bk.alloc (Bk.alloc (Bk.new (by simp))))
  have KZ : Hid (Bk 132 ((((w.alloc (.cells #[.int .i64 0, .int .i64 0] 132)).alloc (.cells #[.int .i64 (s0 : Int), .int .i64 (s1 : Int)] 132)).alloc (.cells #[.slice a0 n0 c0, .int .i64 (s0 : Int)] 87)).alloc (.cells #[.slice a1 n1 c1, .int .i64 (s1 : Int)] 87)) w.heap.size #[.int .i64 0, .int .i64 0]) := Lib.hid (Bk.alloc (Bk.alloc (Bk.alloc (Bk.new rfl))))
  have HB : Hid (Below w.heap.size w ((((w.alloc (.cells #[.int .i64 0, .int .i64 0] 132)).alloc (.cells #[.int .i64 (s0 : Int), .int .i64 (s1 : Int)] 132)).alloc (.cells #[.slice a0 n0 c0, .int .i64 (s0 : Int)] 87)).alloc (.cells #[.slice a1 n1 c1, .int .i64 (s1 : Int)] 87))) := Lib.hid (by go_grown)
  clear i0 i1 i2 i3 i4 hi0 hi1 K
  generalize ((((w.alloc (.cells #[.int .i64 0, .int .i64 0] 132)).alloc (.cells #[.int .i64 (s0 : Int), .int .i64 (s1 : Int)] 132)).alloc (.cells #[.slice a0 n0 c0, .int .i64 (s0 : Int)] 87)).alloc (.cells #[.slice a1 n1 c1, .int .i64 (s1 : Int)] 87)) = w1 at KO KZ HB ⊢
  have j0 := KO.out.cell 0
  have j1 := KO.out.cell 1
  have z0 := KZ.out.cell 0
  have z1 := KZ.out.cell 1
  have fz0 := KZ.out.fro 0
  have fz1 := KZ.out.fro 1
  refine wp_loop_rounds 1 ?_
  rw [rounds_succ]
  go_wp2_with fail
  refine ret_cell74 rfl w.heap.size s0 s1 rfl (by have := Bk.same (i := 1) (v := .int .i64 (s1 : Int)) (Bk.same (i := 0) (v := .int .i64 (s0 : Int)) KZ.out); simpa using this) rfl ⟨rfl, ?_⟩
  have hb := HB.out
  have := hb.size
  go_grown
theorem left_any (p : Fp) (S : St) (k : Int) (hk : k ≤ 9223372036854775807) (w : World) (h : Dk w p S) :
    Calls Tryd.prog 91 #[p.v, .int .i64 k] w fun e w' => e = .returned (.agg #[.int .i64 ((S.left k.toNat).1 : Int), .int .i64 ((S.left k.toNat).2 : Int)]) ∧ Below w.heap.size w w' := by
  have hb := h.blk
  have h0 := h.wf.t0
  have h1 := h.wf.t1
  have h2 := h.wf.l0
  have h3 := h.wf.l1
  have hr := h.wf.rowlen
  obtain ⟨hl, ⟨hv, hn⟩ | ⟨g, cap, cur, hv, _, hg, hnc, hcm, hcs, htake⟩⟩ := h.rr
  · have hrow : S.row = [] := List.eq_nil_of_length_eq_zero hn
    rw [hv] at hb
    have e : S.left k.toNat = (S.s0, S.s1) := by unfold St.left; rw [hrow]; rfl
    rw [e]
    exact left44n p.b _ _ _ _ _ _ _ _ _ _ _ k hk w (Lib.hid hb)
  · rw [hv] at hb
    exact left44 p.b g _ cap _ _ _ _ _ _ _ _ _ _ _ S.row cur (Lib.hid h.wf.ok) rfl hr (by omega) (by omega) k hk w (Lib.hid hb) (Lib.hid hg) (Lib.hid htake)
end Go.Proofs.YtmoihgniglomiaaDoor
namespace Go.Proofs.YtmoihgniglomiaaDoor
open Go.RowKit Go.Sort
def Two (B : Nat) (w : World) (v : Value) (a b : List UInt8) : Prop := ∃ g, v = .slice (some ⟨g, 0, none⟩) 2 2 ∧ B ≤ g ∧ Bk 9 w g #[.string ⟨a.toArray⟩, .string ⟨b.toArray⟩]
theorem Two.below {B : Nat} {w w' : World} {v : Value} {a b : List UInt8} (h : Two B w v a b) (hb : Below w.heap.size w w') : Two B w' v a b := by
  obtain ⟨g, hv, hB, k⟩ := h; exact ⟨g, hv, hB, k.below hb⟩
theorem index74 (x y : Nat) : (∀ w, (Instr.index 132 (.agg #[.int .i64 (x : Int), .int .i64 (y : Int)]) (.int .i64 0)).run Tryd.prog w = .ok (.int .i64 (x : Int)) w) ∧ (∀ w, (Instr.index 132 (.agg #[.int .i64 (x : Int), .int .i64 (y : Int)]) (.int .i64 1)).run Tryd.prog w = .ok (.int .i64 (y : Int)) w) :=
  ⟨fun _ => by kernel_rfl, fun _ => by kernel_rfl⟩
set_option maxHeartbeats 8000000 in
theorem after_any (p : Fp) (S : St) (k : Int) (hk : k ≤ 9223372036854775807) (w : World) (h : Dk w p S) :
    Calls Tryd.prog 61 #[p.v, .int .i64 k] w fun e w' => (∃ v, e = .returned v ∧ Two w.heap.size w' v (S.after k).1 (S.after k).2) ∧ Below w.heap.size w w' := by
  have H := Lib.hid h
  have HL := Lib.hid (h.wf.left k.toNat)
  have HK := Lib.hid hk
  have hl0 := h.wf.l0
  have hl1 := h.wf.l1
  have hc0 := h.r0.cap
  have hc1 := h.r1.cap
  have HLT := Lib.hid h.lt
  clear h hk
  unfold Fp.v
  have hmk : ∀ w, (Instr.makeSlice 31 (.int .i64 2) (.int .i64 2)).run Tryd.prog w = .ok (.slice (some ⟨w.heap.size, 0, none⟩) 2 2) (w.alloc (.cells #[.string ⟨#[]⟩, .string ⟨#[]⟩] 9)) := fun _ => by kernel_rfl
  go_enter Tryd.func61, Tryd.ntmps61
  go_wp2_with fail
  refine (keep w.heap.size w (left_any p S k HK.out _ (H.out.below (by go_grown))) (by go_grown) (Nat.le_refl _)).mono ?_
  rintro e w1 ⟨rfl, hb, hkk⟩
  have D1 := Lib.hid ((H.out.below (w' := w.alloc (.cells #[.string ⟨#[]⟩, .string ⟨#[]⟩] 9)) (by go_grown)).below hkk)
  have KM := Lib.hid (Bk.below (Bk.new (t := 9) (cs := #[.string ⟨#[]⟩, .string ⟨#[]⟩]) (rfl : w.heap.size = w.heap.size)) hkk)
  have HB := Lib.hid hb
  have hne : p.b ≠ w.heap.size := by have := H.out.blk.lt; omega
  have hn0 : p.g0 ≠ w.heap.size := by have := H.out.r0.lt; omega
  have hn1 : p.g1 ≠ w.heap.size := by have := H.out.r1.lt; omega
  clear hb hkk hmk
  have hlv := HL.out
  have HV : Hid (S.after k = (S.f0.take (S.left k.toNat).1, S.f1.take (S.left k.toNat).2)) := Lib.hid rfl
  have HC0 : ∀ w, By w p.g0 p.c0 S.f0 → (convert 80 9 (.slice (some ⟨p.g0, 0, none⟩) (S.left k.toNat).1 p.c0)).run Tryd.prog w = .ok (.string ⟨(S.f0.take (S.left k.toNat).1).toArray⟩) w := fun w h => (h.take _).conv _ _ (by rw [List.length_take]; omega)
  have HC1 : ∀ w, By w p.g1 p.c1 S.f1 → (convert 80 9 (.slice (some ⟨p.g1, 0, none⟩) (S.left k.toNat).2 p.c1)).run Tryd.prog w = .ok (.string ⟨(S.f1.take (S.left k.toNat).2).toArray⟩) w := fun w h => (h.take _).conv _ _ (by rw [List.length_take]; omega)
  generalize hx : (S.left k.toNat).1 = x at hlv HV HC0 ⊢
  generalize hy : (S.left k.toNat).2 = y at hlv HV HC1 ⊢
  clear hx hy HL HLT
  obtain ⟨ix, iy⟩ := index74 x y
  obtain ⟨_, hx1, _, hy1, _⟩ := hlv
  have hxc : x ≤ p.c0 := by omega
  have hyc : y ≤ p.c1 := by omega
  have i0 := D1.out.blk.cell 0
  have m0 := KM.out.cell 0
  have fm0 := KM.out.fro 0
  have cv0 := HC0 w1 D1.out.r0
  have D2b := Lib.hid (Bk.oth (a := ⟨w.heap.size, 0, none⟩) (v := .string ⟨(S.f0.take x).toArray⟩) hne D1.out.blk)
  have KM2 := Lib.hid (Bk.same (i := 0) (v := .string ⟨(S.f0.take x).toArray⟩) KM.out)
  have i2 := D2b.out.cell 2
  have m1 := KM2.out.cell 1
  have fm1 := KM2.out.fro 1
  have cv1 := HC1 (w1.setCell ⟨w.heap.size, 0, none⟩ (.string ⟨(S.f0.take x).toArray⟩)) (D1.out.r1.of (heap_setCell_other _ _ _ _ hn1))
  clear HC0 HC1
  have hxn : (x : Int) ≤ p.c0 := by omega
  have hyn : (y : Int) ≤ p.c1 := by omega
  have KE : Hid (Bk 9 ((w1.setCell ⟨w.heap.size, 0, none⟩ (.string ⟨(S.f0.take x).toArray⟩)).setCell ⟨w.heap.size, 1, none⟩ (.string ⟨(S.f1.take y).toArray⟩)) w.heap.size #[.string ⟨(S.f0.take x).toArray⟩, .string ⟨(S.f1.take y).toArray⟩]) := Lib.hid (by
    have := Bk.same (i := 1) (v := .string ⟨(S.f1.take y).toArray⟩) KM2.out
    simpa using this)
  go_wp2_with fail
  refine wp_loop_rounds 3 ?_
  rw [rounds_succ]
  go_wp2_with fail
  rw [rounds_succ]
  go_wp2_with fail
  rw [rounds_succ]
  go_wp2_with fail
  go_ret
  rw [HV.out]
  exact ⟨⟨_, rfl, w.heap.size, rfl, Nat.le_refl _, KE.out⟩, by have hb := HB.out; have := hb.size; go_grown⟩
end Go.Proofs.YtmoihgniglomiaaDoor
