/- What codec.fromPart answers: the name and the value of a part, or the error 13 or 12. Conditions: at most 67108864 bytes; the library's variable holds a number. -/
import Derived.Test.YtlifnfchemiipaaDoorN
namespace Go.Proofs.YtlifnfchemiipaaDoor
open Go.RowKit

/-- a part of a form: the error's number, the name, the value -/
def partR (l : List UInt8) : Int × List UInt8 × List UInt8 :=
  if l = [] then (13, [], []) else
  match unwordL (Lib.cut l [61]).1, unwordL (Lib.cut l [61]).2.1 with
  | some a, some b => (0, a, b)
  | _, _ => (12, [], [])
def strV (l : List UInt8) : Value := .string ⟨l.toArray⟩
def PartEnd (r : Int × List UInt8 × List UInt8) : Ending := .returned (.tuple #[.agg #[strV r.2.1, strV r.2.2], .int .i64 r.1])
theorem cut_len (l : List UInt8) : (Lib.cut l [61]).1.length ≤ l.length ∧ (Lib.cut l [61]).2.1.length ≤ l.length := by
  unfold Lib.cut; split <;> simp <;> omega

theorem fromField_none (l : List UInt8) (w : World) (hm : Hm w) (hs : l.length ≤ 67108864) (h : unwordL l = none) :
    Calls Tryd.prog 50 #[.string ⟨l.toArray⟩] w fun e w' => e = .returned (.tuple #[.string ⟨#[]⟩, .int .i64 12]) ∧ Below w.heap.size w w' :=
  (fromField_any ⟨l.toArray⟩ w hm (by rw [size_of]; exact hs)).mono fun e w' ⟨he, hb⟩ => ⟨by
    have he' : e = Two (unwordL l) 12 := he
    rw [he', h]; rfl, hb⟩
theorem fromField_some (l a : List UInt8) (w : World) (hm : Hm w) (hs : l.length ≤ 67108864) (h : unwordL l = some a) :
    Calls Tryd.prog 50 #[.string ⟨l.toArray⟩] w fun e w' => e = .returned (.tuple #[.string ⟨a.toArray⟩, .int .i64 0]) ∧ Below w.heap.size w w' :=
  (fromField_any ⟨l.toArray⟩ w hm (by rw [size_of]; exact hs)).mono fun e w' ⟨he, hb⟩ => ⟨by
    have he' : e = Two (unwordL l) 12 := he
    rw [he', h]; rfl, hb⟩

set_option maxHeartbeats 1000000 in
set_option maxRecDepth 100000 in
theorem fromPart_any (s : ByteArray) (w : World) (hm : Hm w) (hs : s.size ≤ 67108864) :
    Calls Tryd.prog 43 #[.string s] w fun e w' => e = PartEnd (partR s.data.toList) ∧ Below w.heap.size w w' := by
  have e0 : s.data.toList.length = s.size := by simp
  by_cases h0 : s.data.toList = []
  · have HP : Hid (partR s.data.toList = (13, [], [])) := by rw [partR, if_pos h0]; rfl
    have hsz : s.size = 0 := by rw [← e0, h0]; rfl
    have hL : s.toList = [] := by rw [Lib.toList_data, h0]
    clear h0 e0
    go_enter Tryd.func43, Tryd.ntmps43
    go_wp2
    exact bodyPost_ret (v := .tuple #[.agg #[.string ⟨#[]⟩, .string ⟨#[]⟩], .int .i64 13]) (by simp [results, Tryd.results43, go_sem]) rfl ⟨by rw [HP.out]; rfl, by repeat (first | exact Below.refl _ _ | refine Below.setCell ?_ (Nat.le_refl _) _ | refine Below.alloc ?_ (Nat.le_refl _) _)⟩
  · obtain ⟨m, hm1⟩ := hm
    have hcl := cut_len s.data.toList
    rw [e0] at hcl
    have hL : s.toList.isEmpty = false := by rw [Lib.toList_data]; simpa using h0
    rcases h1 : unwordL (Lib.cut s.data.toList [61]).1 with _ | a
    · have HP : Hid (partR s.data.toList = (12, [], [])) := by rw [partR, if_neg h0, h1]; rfl
      have H1 := Lib.hid h1
      clear h1 h0
      go_enter Tryd.func43, Tryd.ntmps43
      go_wp2_with (fail)
      refine (Tryd.strings_Cut _ _ m _ (by omega) (by rw [World.cell?_alloc_lt _ _ _ (World.block_lt_of_cell? w _ hm1)]; exact hm1)).mono ?_
      rintro e w1 ⟨rfl, n1, hw1⟩
      have hb1 : Below w.heap.size w w1 := by rw [hw1]; exact below_drewN ((Below.refl _ _).alloc (Nat.le_refl _) _) n1
      have hk1 : w1.heap[w.heap.size]? = some (.cells #[.string ⟨#[]⟩, .string ⟨#[]⟩] 34 (0, 0)) := by rw [hw1]; exact heap_alloc_new w _
      clear hw1
      have hsz1 : w.heap.size < w1.heap.size := blk_lt hk1
      have hmm : Hm w1 := Hm.below ⟨m, hm1⟩ (Hm.lt ⟨m, hm1⟩) hb1
      go_wp2_with (fail)
      refine (fromField_none _ _ hmm (by omega) H1.out).mono ?_
      rintro e w2 ⟨rfl, b2⟩
      have hb2 := hb1.trans (b2.mono hb1.size)
      have hk2 := (b2.block _ hsz1).trans hk1
      have hsz2 : w.heap.size < w2.heap.size := blk_lt hk2
      have c0 : w2.cell? ⟨w.heap.size, 0, none⟩ = some (.string ⟨#[]⟩) := by rw [Lib.cell_of_heap hk2]; rfl
      have c1 : w2.cell? ⟨w.heap.size, 1, none⟩ = some (.string ⟨#[]⟩) := by rw [Lib.cell_of_heap hk2]; rfl
      have f0 : w2.frozen? ⟨w.heap.size, 0, none⟩ = false := Lib.frozen_of_heap hk2 0
      have f1 : w2.frozen? ⟨w.heap.size, 1, none⟩ = false := Lib.frozen_of_heap hk2 1
      go_wp2_with (fail)
      exact bodyPost_ret (v := .tuple #[.agg #[.string ⟨#[]⟩, .string ⟨#[]⟩], .int .i64 12]) (by simp [results, Tryd.results43, go_sem, c0, c1]) rfl ⟨by rw [HP.out]; rfl, (hb2.setCell (p := ⟨w.heap.size, 0, none⟩) (Nat.le_refl _) _).setCell (p := ⟨w.heap.size, 1, none⟩) (Nat.le_refl _) _⟩
    rcases h2 : unwordL (Lib.cut s.data.toList [61]).2.1 with _ | b
    · have HP : Hid (partR s.data.toList = (12, [], [])) := by rw [partR, if_neg h0, h1, h2]; rfl
      have H1 := Lib.hid h1
      have H2 := Lib.hid h2
      clear h1 h2 h0
      go_enter Tryd.func43, Tryd.ntmps43
      go_wp2_with (fail)
      refine (Tryd.strings_Cut _ _ m _ (by omega) (by rw [World.cell?_alloc_lt _ _ _ (World.block_lt_of_cell? w _ hm1)]; exact hm1)).mono ?_
      rintro e w1 ⟨rfl, n1, hw1⟩
      have hb1 : Below w.heap.size w w1 := by rw [hw1]; exact below_drewN ((Below.refl _ _).alloc (Nat.le_refl _) _) n1
      have hk1 : w1.heap[w.heap.size]? = some (.cells #[.string ⟨#[]⟩, .string ⟨#[]⟩] 34 (0, 0)) := by rw [hw1]; exact heap_alloc_new w _
      clear hw1
      have hsz1 : w.heap.size < w1.heap.size := blk_lt hk1
      have hmm : Hm w1 := Hm.below ⟨m, hm1⟩ (Hm.lt ⟨m, hm1⟩) hb1
      go_wp2_with (fail)
      refine (fromField_some _ _ _ hmm (by omega) H1.out).mono ?_
      rintro e w2 ⟨rfl, b2⟩
      have hm2 := hmm.below hmm.lt b2
      have hb2 := hb1.trans (b2.mono hb1.size)
      have hk2 := (b2.block _ hsz1).trans hk1
      have hsz2 : w.heap.size < w2.heap.size := blk_lt hk2
      have c0 : w2.cell? ⟨w.heap.size, 0, none⟩ = some (.string ⟨#[]⟩) := by rw [Lib.cell_of_heap hk2]; rfl
      have c1 : w2.cell? ⟨w.heap.size, 1, none⟩ = some (.string ⟨#[]⟩) := by rw [Lib.cell_of_heap hk2]; rfl
      have f0 : w2.frozen? ⟨w.heap.size, 0, none⟩ = false := Lib.frozen_of_heap hk2 0
      have f1 : w2.frozen? ⟨w.heap.size, 1, none⟩ = false := Lib.frozen_of_heap hk2 1
      go_wp2_with (fail)
      refine (fromField_none _ _ hm2 (by omega) H2.out).mono ?_
      rintro e w3 ⟨rfl, b3⟩
      clear c0 c1 f0 f1
      have hb3 := hb2.trans (b3.mono hb2.size)
      have hk3 := (b3.block _ hsz2).trans hk2
      have hsz3 : w.heap.size < w3.heap.size := blk_lt hk3
      have c0 : w3.cell? ⟨w.heap.size, 0, none⟩ = some (.string ⟨#[]⟩) := by rw [Lib.cell_of_heap hk3]; rfl
      have c1 : w3.cell? ⟨w.heap.size, 1, none⟩ = some (.string ⟨#[]⟩) := by rw [Lib.cell_of_heap hk3]; rfl
      have f0 : w3.frozen? ⟨w.heap.size, 0, none⟩ = false := Lib.frozen_of_heap hk3 0
      have f1 : w3.frozen? ⟨w.heap.size, 1, none⟩ = false := Lib.frozen_of_heap hk3 1
      go_wp2_with (fail)
      exact bodyPost_ret (v := .tuple #[.agg #[.string ⟨#[]⟩, .string ⟨#[]⟩], .int .i64 12]) (by simp [results, Tryd.results43, go_sem, c0, c1]) rfl ⟨by rw [HP.out]; rfl, (hb3.setCell (p := ⟨w.heap.size, 0, none⟩) (Nat.le_refl _) _).setCell (p := ⟨w.heap.size, 1, none⟩) (Nat.le_refl _) _⟩
    · have HP : Hid (partR s.data.toList = (0, a, b)) := by rw [partR, if_neg h0, h1, h2]; rfl
      have H1 := Lib.hid h1
      have H2 := Lib.hid h2
      clear h1 h2 h0
      go_enter Tryd.func43, Tryd.ntmps43
      go_wp2_with (fail)
      refine (Tryd.strings_Cut _ _ m _ (by omega) (by rw [World.cell?_alloc_lt _ _ _ (World.block_lt_of_cell? w _ hm1)]; exact hm1)).mono ?_
      rintro e w1 ⟨rfl, n1, hw1⟩
      have hb1 : Below w.heap.size w w1 := by rw [hw1]; exact below_drewN ((Below.refl _ _).alloc (Nat.le_refl _) _) n1
      have hk1 : w1.heap[w.heap.size]? = some (.cells #[.string ⟨#[]⟩, .string ⟨#[]⟩] 34 (0, 0)) := by rw [hw1]; exact heap_alloc_new w _
      clear hw1
      have hsz1 : w.heap.size < w1.heap.size := blk_lt hk1
      have hmm : Hm w1 := Hm.below ⟨m, hm1⟩ (Hm.lt ⟨m, hm1⟩) hb1
      go_wp2_with (fail)
      refine (fromField_some _ _ _ hmm (by omega) H1.out).mono ?_
      rintro e w2 ⟨rfl, b2⟩
      have hm2 := hmm.below hmm.lt b2
      have hb2 := hb1.trans (b2.mono hb1.size)
      have hk2 := (b2.block _ hsz1).trans hk1
      have hsz2 : w.heap.size < w2.heap.size := blk_lt hk2
      have c0 : w2.cell? ⟨w.heap.size, 0, none⟩ = some (.string ⟨#[]⟩) := by rw [Lib.cell_of_heap hk2]; rfl
      have c1 : w2.cell? ⟨w.heap.size, 1, none⟩ = some (.string ⟨#[]⟩) := by rw [Lib.cell_of_heap hk2]; rfl
      have f0 : w2.frozen? ⟨w.heap.size, 0, none⟩ = false := Lib.frozen_of_heap hk2 0
      have f1 : w2.frozen? ⟨w.heap.size, 1, none⟩ = false := Lib.frozen_of_heap hk2 1
      go_wp2_with (fail)
      refine (fromField_some _ _ _ hm2 (by omega) H2.out).mono ?_
      rintro e w3 ⟨rfl, b3⟩
      clear c0 c1 f0 f1
      have hb3 := hb2.trans (b3.mono hb2.size)
      have hk3 := (b3.block _ hsz2).trans hk2
      have hsz3 : w.heap.size < w3.heap.size := blk_lt hk3
      have c0 : w3.cell? ⟨w.heap.size, 0, none⟩ = some (.string ⟨#[]⟩) := by rw [Lib.cell_of_heap hk3]; rfl
      have c1 : w3.cell? ⟨w.heap.size, 1, none⟩ = some (.string ⟨#[]⟩) := by rw [Lib.cell_of_heap hk3]; rfl
      have f0 : w3.frozen? ⟨w.heap.size, 0, none⟩ = false := Lib.frozen_of_heap hk3 0
      have f1 : w3.frozen? ⟨w.heap.size, 1, none⟩ = false := Lib.frozen_of_heap hk3 1
      go_wp2_with (fail)
      exact bodyPost_ret (v := .tuple #[.agg #[.string ⟨a.toArray⟩, .string ⟨b.toArray⟩], .int .i64 0]) (by simp [results, Tryd.results43, go_sem, c0, c1]) rfl ⟨by rw [HP.out]; rfl, (hb3.setCell (p := ⟨w.heap.size, 0, none⟩) (Nat.le_refl _) _).setCell (p := ⟨w.heap.size, 1, none⟩) (Nat.le_refl _) _⟩
end Go.Proofs.YtlifnfchemiipaaDoor
