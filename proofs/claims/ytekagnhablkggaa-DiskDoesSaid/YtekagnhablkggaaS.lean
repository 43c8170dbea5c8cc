/- New disks; an argument that is a slice of texts. Conditions: the texts' lengths. -/
import Derived.Test.YtekagnhablkggaaR
set_option linter.unusedVariables false
set_option linter.unusedSimpArgs false
set_option maxRecDepth 100000
namespace Go.Proofs.Ytekagnhablkggaa
open Go.RowKit Go.Sort

/-- v reads as these texts -/
def StrIn (w : World) (v : Value) (l : List ByteArray) : Prop :=
  ∃ a c, v = .slice a l.length c ∧ (l ≠ [] → ∃ b o, a = some ⟨b, o, none⟩ ∧ b < w.heap.size ∧ ∀ i (hi : i < l.length), w.cell? ⟨b, o + i, none⟩ = some (.string l[i]))
theorem StrIn.below {w w' : World} {v : Value} {l : List ByteArray} (h : StrIn w v l) (hb : Below w.heap.size w w') : StrIn w' v l := by
  obtain ⟨a, c, hv, hl⟩ := h
  refine ⟨a, c, hv, fun hne => ?_⟩
  obtain ⟨b, o, ha, hlt, hc⟩ := hl hne
  exact ⟨b, o, ha, Nat.lt_of_lt_of_le hlt hb.size, fun i hi => (hb.cell (p := ⟨b, o + i, none⟩) hlt).trans (hc i hi)⟩
def fits (l : List ByteArray) : Bool := decide (∀ s ∈ l, s.size ≤ 1048576)
def newE (l : List ByteArray) : Nat := if l.length ≠ 2 then 90 else if fits l then 0 else 91
theorem new_bad (a : Option Addr) (n c : Nat) (hn : n ≠ 2) (w : World) :
    Calls Try.prog 7 #[.slice a n c] w fun e w' => e = .returned (.tuple #[.pointer none, .int .i64 90]) ∧ w = w' := by
  have ht : (((n : Nat) : Int) != 2) = true := by simp; omega
  clear hn
  go_enter Try.func7, Try.ntmps7
  go_wp2_with fail
  go_returns
  exact ⟨rfl, rfl⟩
set_option maxHeartbeats 8000000 in
theorem new_long0 (b o c : Nat) (x y : ByteArray) (w : World) (h0 : w.cell? ⟨b, o, none⟩ = some (.string x)) (hx : 1048576 < x.size) :
    Calls Try.prog 7 #[.slice (some ⟨b, o, none⟩) 2 c] w fun e w' => e = .returned (.tuple #[.pointer none, .int .i64 91]) ∧ w = w' := by
  have ht : decide ((1048576 : Int) < (x.size : Int)) = true := by simp; omega
  go_enter Try.func7, Try.ntmps7
  go_wp2_with fail
  refine wp_loop_rounds 1 ?_
  rw [rounds_succ]
  go_wp2_with fail
  go_returns
  exact ⟨rfl, rfl⟩
set_option maxHeartbeats 8000000 in
theorem new_long1 (b o c : Nat) (x y : ByteArray) (w : World) (h0 : w.cell? ⟨b, o, none⟩ = some (.string x)) (h1 : w.cell? ⟨b, o + 1, none⟩ = some (.string y)) (hx : ¬ 1048576 < x.size) (hy : 1048576 < y.size) :
    Calls Try.prog 7 #[.slice (some ⟨b, o, none⟩) 2 c] w fun e w' => e = .returned (.tuple #[.pointer none, .int .i64 91]) ∧ w = w' := by
  have ht : decide ((1048576 : Int) < (x.size : Int)) = false := by simp; omega
  have ht : decide ((1048576 : Int) < (y.size : Int)) = true := by simp; omega
  go_enter Try.func7, Try.ntmps7
  go_wp2_with fail
  refine wp_loop_rounds 2 ?_
  rw [rounds_succ]
  go_wp2_with fail
  rw [rounds_succ]
  go_wp2_with fail
  go_returns
  exact ⟨rfl, rfl⟩
set_option maxHeartbeats 8000000 in
theorem new_ok (b o c : Nat) (x y : ByteArray) (w : World) (hb : b < w.heap.size) (h0 : w.cell? ⟨b, o, none⟩ = some (.string x)) (h1 : w.cell? ⟨b, o + 1, none⟩ = some (.string y)) (hx : ¬ 1048576 < x.size) (hy : ¬ 1048576 < y.size) :
    Calls Try.prog 7 #[.slice (some ⟨b, o, none⟩) 2 c] w fun e w' => ∃ p : Fp, e = .returned (.tuple #[p.v, .int .i64 0]) ∧ Dk w' p (St.new x.data.toList y.data.toList) ∧ Below w.heap.size w w' ∧ ∀ k ∈ p.own, w.heap.size ≤ k := by
  have ht : decide ((1048576 : Int) < (x.size : Int)) = false := by simp; omega
  have ht2 : decide ((1048576 : Int) < (y.size : Int)) = false := by simp; omega
  have HX : Hid (x.size ≤ 1048576 ∧ y.size ≤ 1048576) := Lib.hid (by omega)
  have HBL := Lib.hid hb
  have H0 := Lib.hid h0
  have H1 := Lib.hid h1
  clear hx hy hb
  go_enter Try.func7, Try.ntmps7
  go_wp2_with fail
  refine wp_loop_rounds 3 ?_
  rw [rounds_succ]
  go_wp2_with fail
  rw [rounds_succ]
  go_wp2_with fail
  rw [rounds_succ]
  have g0 := fun (O : Obj) => ((show Below w.heap.size w (w.alloc O) by go_grown).cell (p := ⟨b, o, none⟩) HBL.out).trans H0.out
  go_wp2_with fail
  refine wp_loop_rounds 3 ?_
  rw [rounds_succ]
  go_wp2_with fail
  obtain ⟨ca, w2, hrun, hby, hb2⟩ := conv_new x (by have := HX.out; unfold maxLen; omega) (w.alloc (.cells #[.slice none 0 0, .int .i64 0, .slice none 0 0, .int .i64 0, .slice none 0 0, .bool false, .int .i64 0, .int .i64 0] 64))
  rw [hrun]
  simp only [Result.andThen]
  rw [Oper.upon_value]
  have hs1 : (w.alloc (.cells #[.slice none 0 0, .int .i64 0, .slice none 0 0, .int .i64 0, .slice none 0 0, .bool false, .int .i64 0, .int .i64 0] 64)).heap.size = w.heap.size + 1 := World.size_alloc _ _
  rw [hs1] at hby ⊢
  have BA := Lib.hid hby
  have KC2 := Lib.hid (Bk.below (Bk.new (t := 64) (cs := #[.slice none 0 0, .int .i64 0, .slice none 0 0, .int .i64 0, .slice none 0 0, .bool false, .int .i64 0, .int .i64 0]) (rfl : w.heap.size = w.heap.size)) hb2)
  have HB2 : Hid (Below w.heap.size w w2) := Lib.hid ((show Below w.heap.size w (w.alloc (.cells #[.slice none 0 0, .int .i64 0, .slice none 0 0, .int .i64 0, .slice none 0 0, .bool false, .int .i64 0, .int .i64 0] 64)) by go_grown).trans (hb2.mono (by rw [hs1]; omega)))
  clear hrun hby hb2 hs1 g0
  have c0 := KC2.out.cell 0
  have c1 := KC2.out.cell 1
  have f0 := KC2.out.fro 0
  have f1 := KC2.out.fro 1
  go_wp2_with fail
  clear c0 c1 f0 f1
  have KC3 : Hid (Bk 64 ((w2.setCell ⟨w.heap.size, 0, none⟩ (.slice (some ⟨w.heap.size + 1, 0, none⟩) x.size ca)).setCell ⟨w.heap.size, 1, none⟩ (.int .i64 (x.size : Int))) w.heap.size #[.slice (some ⟨w.heap.size + 1, 0, none⟩) x.size ca, .int .i64 (x.size : Int), .slice none 0 0, .int .i64 0, .slice none 0 0, .bool false, .int .i64 0, .int .i64 0]) := Lib.hid (by
    have := Bk.same (i := 1) (v := .int .i64 (x.size : Int)) (Bk.same (i := 0) (v := .slice (some ⟨w.heap.size + 1, 0, none⟩) x.size ca) KC2.out)
    simpa using this)
  have HB3 : Hid (Below w.heap.size w ((w2.setCell ⟨w.heap.size, 0, none⟩ (.slice (some ⟨w.heap.size + 1, 0, none⟩) x.size ca)).setCell ⟨w.heap.size, 1, none⟩ (.int .i64 (x.size : Int)))) := Lib.hid ((HB2.out.setCell (Nat.le_refl _) _).setCell (Nat.le_refl _) _)
  have BA3 : Hid (By ((w2.setCell ⟨w.heap.size, 0, none⟩ (.slice (some ⟨w.heap.size + 1, 0, none⟩) x.size ca)).setCell ⟨w.heap.size, 1, none⟩ (.int .i64 (x.size : Int))) (w.heap.size + 1) ca x.data.toList) := Lib.hid (BA.out.of ((heap_setCell_other _ _ _ _ (by show w.heap.size + 1 ≠ w.heap.size; omega)).trans (heap_setCell_other _ _ _ _ (by show w.heap.size + 1 ≠ w.heap.size; omega))))
  have g1 : ((w2.setCell ⟨w.heap.size, 0, none⟩ (.slice (some ⟨w.heap.size + 1, 0, none⟩) x.size ca)).setCell ⟨w.heap.size, 1, none⟩ (.int .i64 (x.size : Int))).cell? ⟨b, o + 1, none⟩ = some (.string y) := (HB3.out.cell (p := ⟨b, o + 1, none⟩) HBL.out).trans H1.out
  clear h0 h1
  rw [rounds_succ]
  go_wp2_with fail
  obtain ⟨cb, w4, hrun, hby, hb4⟩ := conv_new y (by have := HX.out; unfold maxLen; omega) ((w2.setCell ⟨w.heap.size, 0, none⟩ (.slice (some ⟨w.heap.size + 1, 0, none⟩) x.size ca)).setCell ⟨w.heap.size, 1, none⟩ (.int .i64 (x.size : Int)))
  rw [hrun]
  simp only [Result.andThen]
  rw [Oper.upon_value]
  have hs3 : ((w2.setCell ⟨w.heap.size, 0, none⟩ (.slice (some ⟨w.heap.size + 1, 0, none⟩) x.size ca)).setCell ⟨w.heap.size, 1, none⟩ (.int .i64 (x.size : Int))).heap.size = w2.heap.size := by simp
  rw [hs3] at hby ⊢
  have BB := Lib.hid hby
  have KC4 := Lib.hid (KC3.out.below hb4)
  have BA4 := Lib.hid (BA3.out.below hb4)
  have HB4 : Hid (Below w.heap.size w w4) := Lib.hid (HB3.out.trans (hb4.mono HB3.out.size))
  have HLT : Hid (w.heap.size + 1 < w2.heap.size) := Lib.hid BA.out.lt
  clear hrun hby hb4 hs3 g1
  have c2 := KC4.out.cell 2
  have c3 := KC4.out.cell 3
  have f2 := KC4.out.fro 2
  have f3 := KC4.out.fro 3
  go_wp2_with fail
  clear c2 c3 f2 f3
  rw [rounds_succ]
  go_wp2_with fail
  go_returns
  have KC5 : Bk 64 ((w4.setCell ⟨w.heap.size, 2, none⟩ (.slice (some ⟨w2.heap.size, 0, none⟩) y.size cb)).setCell ⟨w.heap.size, 3, none⟩ (.int .i64 (y.size : Int))) w.heap.size #[.slice (some ⟨w.heap.size + 1, 0, none⟩) x.size ca, .int .i64 (x.size : Int), .slice (some ⟨w2.heap.size, 0, none⟩) y.size cb, .int .i64 (y.size : Int), .slice none 0 0, .bool false, .int .i64 0, .int .i64 0] := by
    have := Bk.same (i := 3) (v := .int .i64 (y.size : Int)) (Bk.same (i := 2) (v := .slice (some ⟨w2.heap.size, 0, none⟩) y.size cb) KC4.out)
    simpa using this
  have hlt := HLT.out
  have hx := ba_size x
  have hy := ba_size y
  refine ⟨⟨w.heap.size, w.heap.size + 1, w2.heap.size, ca, cb, .slice none 0 0⟩, rfl, ⟨?_, BA4.out.of ((heap_setCell_other _ _ _ _ (by show w.heap.size + 1 ≠ w.heap.size; omega)).trans (heap_setCell_other _ _ _ _ (by show w.heap.size + 1 ≠ w.heap.size; omega))), BB.out.of ((heap_setCell_other _ _ _ _ (by show w2.heap.size ≠ w.heap.size; omega)).trans (heap_setCell_other _ _ _ _ (by show w2.heap.size ≠ w.heap.size; omega))), ⟨rfl, .inl ⟨rfl, rfl⟩⟩, (by show w.heap.size + 1 ≠ w2.heap.size; omega), St.Wf.new (by rw [hx]; exact HX.out.1) (by rw [hy]; exact HX.out.2)⟩, ?_, ?_⟩
  · simp only [St.new, hx, hy]
    exact KC5
  · exact (HB4.out.setCell (Nat.le_refl _) _).setCell (Nat.le_refl _) _
  · intro k hk
    simp only [Fp.own, Value.ownBlock, Option.toList, List.mem_cons, List.not_mem_nil, or_false] at hk
    omega
end Go.Proofs.Ytekagnhablkggaa
