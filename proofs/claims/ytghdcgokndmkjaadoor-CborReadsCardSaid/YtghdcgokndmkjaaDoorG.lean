/- Small functions: what must, isKey, enter, above, below answer, and how the first one gives up. No condition but the reader's cells. -/
import Derived.Test.YtghdcgokndmkjaaDoorB
import Derived.StillTailTactics
import Derived.BigQuiet
import Derived.Deep.QuietTactic
set_option linter.unusedVariables false
set_option linter.unusedSimpArgs false
namespace Go.Proofs.YtghdcgokndmkjaaDoor
open Go.RowKit

set_option maxRecDepth 100000 in
theorem must_yes (w : World) : Calls Tryd.prog 38 #[.bool true] w fun e w' => e = .returned (.tuple #[]) ∧ w = w' := by
  go_enter Tryd.func38, Tryd.ntmps38
  go_wp2
  go_end0
  exact ⟨rfl, rfl⟩
set_option maxRecDepth 100000 in
theorem must_no (w : World) : Calls Tryd.prog 38 #[.bool false] w fun e w' => e = .panicked [{ v := .iface 25 (.int .i64 30), recovered := false }] ∧ w = w' := by
  go_enter Tryd.func38, Tryd.ntmps38
  go_wp2
  exact ⟨rfl, rfl, rfl⟩
set_option maxHeartbeats 1000000 in
set_option maxRecDepth 100000 in
theorem isKey_any (t : It) (A : Option Addr) (c : Nat) (w : World) :
    Calls Tryd.prog 53 #[itV t A c] w fun e w' => e = .returned (.bool (isKey t)) ∧ Below w.heap.size w w' := by
  unfold itV isKey
  by_cases h0 : t.kind = 0
  · have b0 : (t.kind == 0) = true := by simp [h0]
    have H0 := Lib.hid h0
    clear h0
    go_enter Tryd.func53, Tryd.ntmps53
    go_wp2_with fail
    go_ret
    exact ⟨by simp [H0.out], (Below.refl _ _).alloc (Nat.le_refl _) _⟩
  · have b0 : (t.kind == 0) = false := by simp [h0]
    have H0 := Lib.hid h0
    clear h0
    by_cases h1 : t.kind = 2
    · have b1 : (t.kind == 2) = true := by simp [h1]
      have H1 := Lib.hid h1
      clear h1
      go_enter Tryd.func53, Tryd.ntmps53
      go_wp2_with fail
      go_ret
      exact ⟨by simp [H1.out], (Below.refl _ _).alloc (Nat.le_refl _) _⟩
    · have b1 : (t.kind == 2) = false := by simp [h1]
      have H1 := Lib.hid h1
      clear h1
      go_enter Tryd.func53, Tryd.ntmps53
      go_wp2_with fail
      go_ret
      exact ⟨by simp [H0.out, H1.out], (Below.refl _ _).alloc (Nat.le_refl _) _⟩

/-- the reader in block br stands at 'at' of s, within 'outer' others -/
def Rdr (br : Nat) (s : List UInt8) (n outer : Nat) (w : World) : Prop := w.heap[br]? = some (.cells #[.string ⟨s.toArray⟩, .int .i64 n, .int .i64 outer] 42 (0, 0))
/-- nothing that was there has turned but block br -/
def Keeps (br : Nat) (w w' : World) : Prop := w.grownBy w' (some br)
theorem Keeps.refl (br : Nat) (w : World) : Keeps br w w := ⟨rfl, rfl, rfl, Nat.le_refl _, fun _ _ _ => rfl⟩
theorem Keeps.trans {br : Nat} {a b c : World} (h : Keeps br a b) (k : Keeps br b c) : Keeps br a c :=
  ⟨k.os.trans h.os, k.tape.trans h.tape, k.output.trans h.output, Nat.le_trans h.size k.size, fun i hi hn => (k.block i (Nat.lt_of_lt_of_le hi h.size) hn).trans (h.block i hi hn)⟩
theorem Keeps.of {br : Nat} {a b : World} (h : Below a.heap.size a b) : Keeps br a b := ⟨h.os, h.tape, h.output, h.size, fun i hi _ => h.block i hi⟩
theorem Keeps.alloc {br : Nat} {a b : World} (h : Keeps br a b) (o : Obj) : Keeps br a (b.alloc o) := h.trans (World.grownBy_alloc _ _ _)
theorem Keeps.drew {br : Nat} {a b : World} (h : Keeps br a b) : Keeps br a b.drew := ⟨h.os, h.tape, h.output, h.size, h.block⟩
theorem Keeps.drewN {br : Nat} {a b : World} (h : Keeps br a b) (n : Nat) : Keeps br a (b.drewN n) := ⟨h.os, h.tape, h.output, h.size, h.block⟩
theorem Keeps.below {br : Nat} {a b c : World} (h : Keeps br a b) (k : Below b.heap.size b c) : Keeps br a c := h.trans (.of k)
theorem Keeps.setCell {br : Nat} {a b : World} (h : Keeps br a b) (o : Nat) (v : Value) : Keeps br a (b.setCell ⟨br, o, none⟩ v) :=
  h.trans ⟨rfl, rfl, rfl, by simp [World.setCell], fun k _ hn => Below.heap_setCell _ _ _ _ (by intro e; exact hn (by rw [e]))⟩
/-- what is older than the reader has not turned -/
theorem Keeps.older {br : Nat} {a b : World} (h : Keeps br a b) (hb : br ≤ a.heap.size) : Below br a b := ⟨h.os, h.tape, h.output, h.size, fun k hk => h.block k (by omega) (by intro e; simp at e; omega)⟩
theorem Keeps.heap {br : Nat} {a b : World} (h : Keeps br a b) {k : Nat} {o : Obj} (hk : a.heap[k]? = some o) (hn : k ≠ br) : b.heap[k]? = some o :=
  (h.block k (Array.getElem?_eq_some_iff.1 hk).1 (by simpa using hn)).trans hk
theorem Rdr.lt {br : Nat} {s : List UInt8} {n outer : Nat} {w : World} (h : Rdr br s n outer w) : br < w.heap.size := (Array.getElem?_eq_some_iff.1 h).1
theorem Rdr.below {br : Nat} {s : List UInt8} {n outer : Nat} {w w' : World} (h : Rdr br s n outer w) (hb : Below w.heap.size w w') : Rdr br s n outer w' := (hb.block _ h.lt).trans h
theorem Rdr.drewN {br : Nat} {s : List UInt8} {n outer : Nat} {w : World} (h : Rdr br s n outer w) (k : Nat) : Rdr br s n outer (w.drewN k) := h
theorem Rdr.set1 {br : Nat} {s : List UInt8} {n outer : Nat} {w : World} (h : Rdr br s n outer w) (m : Nat) : Rdr br s m outer (w.setCell ⟨br, 1, none⟩ (.int .i64 m)) := by
  unfold Rdr at h ⊢
  simp [World.setCell, Array.getElem?_modify, h]
theorem Rdr.set2 {br : Nat} {s : List UInt8} {n outer : Nat} {w : World} (h : Rdr br s n outer w) (m : Nat) : Rdr br s n m (w.setCell ⟨br, 2, none⟩ (.int .i64 m)) := by
  unfold Rdr at h ⊢
  simp [World.setCell, Array.getElem?_modify, h]
theorem Rdr.facts {br : Nat} {s : List UInt8} {n outer : Nat} {w : World} (h : Rdr br s n outer w) :
    w.cell? ⟨br, 0, none⟩ = some (.string ⟨s.toArray⟩) ∧ w.cell? ⟨br, 1, none⟩ = some (.int .i64 n) ∧ w.cell? ⟨br, 2, none⟩ = some (.int .i64 outer) ∧ w.frozen? ⟨br, 1, none⟩ = false ∧ w.frozen? ⟨br, 2, none⟩ = false :=
  ⟨by rw [Lib.cell_of_heap h]; rfl, by rw [Lib.cell_of_heap h]; rfl, by rw [Lib.cell_of_heap h]; rfl, Lib.frozen_of_heap h 1, Lib.frozen_of_heap h 2⟩

theorem ext_ba (l : List UInt8) (a n : Nat) : (⟨l.toArray⟩ : ByteArray).extract a (a + n) = ⟨((l.drop a).take n).toArray⟩ := by
  apply ByteArray.ext
  simp [ByteArray.data_extract, List.extract_eq_take_drop]
set_option maxHeartbeats 1000000 in
set_option maxRecDepth 100000 in
theorem take_yes (br : Nat) (s : List UInt8) (a outer n : Nat) (w : World) (hR : Rdr br s a outer w) (hs : s.length ≤ 4096) (ha : a + n ≤ s.length) :
    Calls Tryd.prog 37 #[.pointer (some ⟨br, 0, none⟩), .int .i64 n] w fun e w' => e = .returned (.string ⟨((s.drop a).take n).toArray⟩) ∧ Rdr br s (a + n) outer w' ∧ Keeps br w w' := by
  obtain ⟨c0, c1, c2, f1, f2⟩ := hR.facts
  have HR := Lib.hid hR
  clear hR
  have hw1 : IntKind.i64.wrap ((s.length : Int) - a) = (s.length : Int) - a := IntWalk.i64_in _ (by omega)
  have hd1 : decide ((n : Int) ≤ (s.length : Int) - a) = true := by simp; omega
  go_enter Tryd.func37, Tryd.ntmps37
  go_wp2_with fail
  go_quiet ((go_at_call 38; exact Calls.quiet_of_same ((must_yes _).mono fun _ _ h => ⟨h.1, h.2.symm⟩)))
  go_wp2_with fail
  have hR1 : Rdr br s (a + n) outer ((w.drewN nq).setCell ⟨br, 1, none⟩ (.int .i64 ((a : Int) + n))) := by
    have := (HR.out.drewN nq).set1 (a + n)
    simpa using this
  have hK1 : Keeps br w ((w.drewN nq).setCell ⟨br, 1, none⟩ (.int .i64 ((a : Int) + n))) := ((Keeps.refl br w).drewN nq).setCell 1 _
  clear c0 c1 c2 f1 f2
  generalize (w.drewN nq).setCell ⟨br, 1, none⟩ (.int .i64 ((a : Int) + n)) = w1 at hR1 hK1
  obtain ⟨c0, c1, c2, _, _⟩ := hR1.facts
  have HR1 := Lib.hid hR1
  have HK1 := Lib.hid hK1
  rw [show ((a + n : Nat) : Int) = (a : Int) + n from by simp] at c1
  clear hR1 hK1 HR hw1 hd1
  have hw2 : IntKind.i64.wrap ((a : Int) + n - n) = (a : Int) := by rw [IntWalk.i64_in _ (by omega)]; omega
  have hw3 : IntKind.i64.wrap (a : Int) = (a : Int) := IntWalk.i64_in _ (by omega)
  have q1 : (a : Int) + n ≤ s.length := by omega
  have q2 : (a : Int) ≤ (a : Int) + n := by omega
  go_quiet (fail)
  go_wp2_with fail
  go_ret
  refine ⟨?_, HR1.out.drewN _, HK1.out.drewN _⟩
  show Ending.returned (Value.string ((⟨s.toArray⟩ : ByteArray).extract a (a + n))) = _
  rw [ext_ba]

set_option maxHeartbeats 1000000 in
set_option maxRecDepth 100000 in
theorem take_no (br : Nat) (s : List UInt8) (a outer n : Nat) (w : World) (hR : Rdr br s a outer w) (hs : s.length ≤ 4096) (ha : a ≤ s.length) (hn : s.length < a + n) (hn2 : n ≤ 9223372036854775807) :
    Calls Tryd.prog 37 #[.pointer (some ⟨br, 0, none⟩), .int .i64 n] w fun e w' => e = .panicked [{ v := .iface 25 (.int .i64 30), recovered := false }] ∧ Keeps br w w' := by
  obtain ⟨c0, c1, c2, f1, f2⟩ := hR.facts
  have HR := Lib.hid hR
  clear hR
  have hw1 : IntKind.i64.wrap ((s.length : Int) - a) = (s.length : Int) - a := IntWalk.i64_in _ (by omega)
  have hd1 : decide ((n : Int) ≤ (s.length : Int) - a) = false := by simp; omega
  go_enter Tryd.func37, Tryd.ntmps37
  go_wp2_with fail
  go_still_tail 12, (by kernel_rfl)
  change wpList _ _ _ _ _ w.drew
  go_wp2_with fail
  refine (must_no _).mono ?_
  rintro e w' ⟨rfl, rfl⟩
  exact ⟨rfl, rfl, (Keeps.refl br w).drew⟩

set_option maxHeartbeats 1000000 in
set_option maxRecDepth 100000 in
theorem enter_yes (br : Nat) (s : List UInt8) (a outer : Nat) (w : World) (hR : Rdr br s a outer w) (ho : outer < 16) :
    Calls Tryd.prog 52 #[.pointer (some ⟨br, 0, none⟩)] w fun e w' => e = .returned (.tuple #[]) ∧ Rdr br s a (outer + 1) w' ∧ Keeps br w w' := by
  obtain ⟨c0, c1, c2, f1, f2⟩ := hR.facts
  have HR := Lib.hid hR
  clear hR
  go_enter Tryd.func52, Tryd.ntmps52
  go_wp2_with fail
  go_end0
  refine ⟨rfl, ?_, (Keeps.refl br w).setCell 2 _⟩
  have := HR.out.set2 (outer + 1)
  simpa using this
set_option maxHeartbeats 1000000 in
set_option maxRecDepth 100000 in
theorem enter_no (br : Nat) (s : List UInt8) (a outer : Nat) (w : World) (hR : Rdr br s a outer w) (ho : 16 ≤ outer) :
    Calls Tryd.prog 52 #[.pointer (some ⟨br, 0, none⟩)] w fun e w' => e = .panicked [{ v := .iface 25 (.int .i64 31), recovered := false }] ∧ w = w' := by
  obtain ⟨c0, c1, c2, f1, f2⟩ := hR.facts
  clear hR
  go_enter Tryd.func52, Tryd.ntmps52
  go_wp2_with fail
  exact ⟨rfl, rfl, rfl⟩
set_option maxHeartbeats 1000000 in
set_option maxRecDepth 100000 in
theorem above_any (p : Value) (n : Int) (w : World) :
    Calls Tryd.prog 40 #[p, .int .i64 n] w fun e w' => e = .returned (itV (.mk 0 n [] []) none 0) ∧ Below w.heap.size w w' := by
  go_enter Tryd.func40, Tryd.ntmps40
  go_wp2_with fail
  exact bodyPost_ret (v := .agg #[.int .i64 0, .int .i64 n, .string ⟨#[]⟩, .slice none 0 0]) (by simp [results, Tryd.results40, go_sem]) rfl ⟨rfl, ((((((Below.refl _ _).alloc (Nat.le_refl _) _)))))⟩
set_option maxHeartbeats 1000000 in
set_option maxRecDepth 100000 in
theorem below_any (p : Value) (n : Nat) (w : World) (hn : n ≤ 9223372036854775807) :
    Calls Tryd.prog 41 #[p, .int .i64 n] w fun e w' => e = .returned (itV (.mk 0 (-1 - n) [] []) none 0) ∧ Below w.heap.size w w' := by
  go_enter Tryd.func41, Tryd.ntmps41
  go_wp2_with fail
  exact bodyPost_ret (v := .agg #[.int .i64 0, .int .i64 (-1 - n), .string ⟨#[]⟩, .slice none 0 0]) (by simp [results, Tryd.results41, go_sem]) rfl ⟨rfl, ((((((Below.refl _ _).alloc (Nat.le_refl _) _)))))⟩
end Go.Proofs.YtghdcgokndmkjaaDoor
